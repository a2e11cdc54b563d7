/-
  Tick: routes expire, and are taken away.
-/
import Derived.Test.YthofoocknmkdjaaM07
namespace Go.Proofs.Ythofoocknmkdjaa
open Go.RowKit Go.Maps Go.Shelf
set_option linter.unusedSimpArgs false
set_option linter.unusedVariables false
set_option maxRecDepth 20000
section
variable {ops : Array Oper} {rest : List Oper} {op : Oper} {a : Act} {w w' : World} {Q : Exit → Act → World → Prop} {K : Act → World → Prop} {E : Prop} {S : World → Prop}
theorem sDel {T U : TypeId} (m k : Operand) {mv kv : Value} (hw : Region.wanted op (yielded ops a.tmps) = true) (ho : op.op = .call { callee := .builtin .delete, args := #[m, k], argTypes := #[T, U] }) (hm : a.eval m = mv) (hk : a.eval k = kv)
    (hr : (Builtin.delete_ #[T, U] op.type #[mv, kv]).run Try.prog w = .ok (.tuple #[]) w') (h : K (a.put op.dst (.tuple #[])) w') : if Region.wanted op (yielded ops a.tmps) = true then Oper.wp Try.prog op a w K Q else E := by
  rw [if_pos hw]
  unfold Oper.wp
  simp [execOp, ho, resolve, invoke, builtin, hm, hk, hr, Result.andThen]
  exact h
end
/-- append of one to a row of the call's own, and where it lies then. -/
theorem app_at {w : World} {ops : Array Oper} {rest : List Oper} {o : Oper} {a : Act} {Q : Exit → Act → World → Prop} (s x : Operand) (hw : o.guard = none) (ho : o.op = .call { callee := .builtin .append, args := #[s, x], argTypes := #[28, 28] })
    (B : Nat) (v : Value) (l : List Ro) (hs : a.eval s = v) (hown : kN.Own w B v l) (g c : Nat) (p : Ro) (hx : a.eval x = .slice (some ⟨g, 0, none⟩) 1 c) (hr : Row w g 41 (ocs p)) (hl : l.length ≤ 10000000) (hB : B ≤ w.heap.size)
    (h : ∀ v' w', kN.Own w' B v' (l ++ [p]) → w.grownBy w' v.ownBlock → (v'.ownBlock = v.ownBlock ∨ v'.ownBlock = some w.heap.size) → wpList Try.prog ops Q rest (a.put o.dst v') w') : wpList Try.prog ops Q (o :: rest) a w := by
  obtain ⟨i0, hi, hz0, hz1, hz2⟩ := info_parts kN.info
  refine wpList_append_own_at w hw s x 28 ho B 41 i0 (.agg (ocs zeroR).toArray) 81 128 Try.underlying28 hi hz0 hz1 hz2 (by simp [Value.cells, ocs_len]) (by decide) v l.length (kN.cs l) hs hown ⟨g, 0, none⟩ 1 c (ocs p) hx (by rw [ocs_len]) (fun j u hu => ?_) (ocs_one p) (by unfold maxLen; omega) (by omega) hB (fun v' w' h1 h2 _ h4 => h v' w' ?_ h2 h4)
  · rw [Addr.add_mid, Nat.zero_add]
    rw [hr.cell]; exact hu
  · unfold Kd.Own
    rw [kN.cs_append, List.length_append, show kN.cs [p] = ocs p by simp [Kd.cs, kN]]
    exact h1
theorem own_lt {w : World} {B : Nat} {v : Value} {L : List Ro} (h : kN.Own w B v L) {b : Nat} (e : v.ownBlock = some b) : B ≤ b ∧ b < w.heap.size := by
  rcases h.2 with ⟨e2, _⟩ | ⟨g', cap, cur, e2, hB, hh, _⟩
  · rw [e2] at e; cases e
  · rw [e2] at e
    have e3 : g' = b := by simpa [Value.ownBlock] using e
    have := (Array.getElem?_eq_some_iff.1 hh).1
    omega
/-- Two rows of the call's own that lie apart. -/
structure TwoT (B : Nat) (w : World) (v u : Value) (L G : List Ro) : Prop where
  l : kN.Own w B v L
  g : kN.Own w B u G
  ne : v.ownBlock = none ∨ v.ownBlock ≠ u.ownBlock
theorem TwoT.below {B : Nat} {w w' : World} {v u : Value} {L G : List Ro} (h : TwoT B w v u L G) (hb : Below w.heap.size w w') : TwoT B w' v u L G :=
  ⟨own_below h.l hb, own_below h.g hb, h.ne⟩
theorem TwoT.turn {B : Nat} {w w' : World} {v u : Value} {L G : List Ro} {t mb : Nat} {most : Int} {L1 : List Ro} (h : TwoT B w v u L G) (hm : Tb w t mb most L1) (hg : w.grownBy w' (some mb)) : TwoT B w' v u L G :=
  ⟨own_map hm.map hg h.l, own_map hm.map hg h.g, h.ne⟩
theorem TwoT.left {B : Nat} {w w' : World} {v u v' : Value} {L G L' : List Ro} (h : TwoT B w v u L G) (ho : kN.Own w' B v' L') (hg : w.grownBy w' v.ownBlock) (hv : v'.ownBlock = v.ownBlock ∨ v'.ownBlock = some w.heap.size) : TwoT B w' v' u L' G := by
  refine ⟨ho, World.ownsRow.kept h.g hg ?_, ?_⟩
  · cases hu : u.ownBlock with
    | none => exact .inl rfl
    | some b =>
      right
      intro e
      rcases h.ne with h1 | h1
      · rw [h1] at e; cases e
      · exact h1 (by rw [hu]; exact e.symm)
  · rcases hv with hv | hv
    · rw [hv]; exact h.ne
    · right
      rw [hv]
      intro e
      have := (own_lt h.g e.symm).2
      omega
theorem TwoT.right {B : Nat} {w w' : World} {v u u' : Value} {L G G' : List Ro} (h : TwoT B w v u L G) (ho : kN.Own w' B u' G') (hg : w.grownBy w' u.ownBlock) (hv : u'.ownBlock = u.ownBlock ∨ u'.ownBlock = some w.heap.size) : TwoT B w' v u' L G' := by
  have hne : v.ownBlock = none ∨ u.ownBlock ≠ v.ownBlock := h.ne.imp id Ne.symm
  refine ⟨World.ownsRow.kept h.l hg ?_, ho, ?_⟩
  · cases hu : v.ownBlock with
    | none => exact .inl rfl
    | some b =>
      right
      intro e
      rcases hne with h1 | h1
      · rw [hu] at h1; cases h1
      · exact h1 (by rw [hu]; exact e.symm)
  · rcases hv with hv | hv
    · rw [hv]; exact h.ne
    · cases hb : v.ownBlock with
      | none => exact .inl rfl
      | some b =>
        right
        rw [hv]
        intro e
        have := (own_lt h.l hb).2
        injection e with e
        omega
/-! ### Tick in plain words -/
def expN (n : Ro) : Ro := if n.r = 65535 then n else retr n n.u
def liveB (n : Ro) : Bool := !decide (n.r = 65535)
def lateB (now : Int) (n : Ro) : Bool := decide (n.u ≤ now)
def tickS (now : Int) (L : List Ro) (n : Ro) : List Ro := (if lateB now (expN n) = true then delN (if n.r = 65535 then L else putN L (expN n)) n.k else if n.r = 65535 then L else putN L (expN n))
def tickR (now : Int) (L K : List Ro) : List Ro := K.foldl (tickS now) L
def expR (K : List Ro) : List Ro := (K.filter liveB).map expN
def goneR (now : Int) (K : List Ro) : List Ro := (K.map expN).filter (lateB now)
theorem tickR_take {now : Int} {L K : List Ro} {j : Nat} (hj : j < K.length) : tickR now L (K.take (j + 1)) = tickS now (tickR now L (K.take j)) K[j] := by
  unfold tickR
  rw [List.take_succ_eq_append_getElem hj, List.foldl_append]
  rfl
theorem expR_take {K : List Ro} {j : Nat} (hj : j < K.length) : expR (K.take (j + 1)) = if liveB K[j] = true then expR (K.take j) ++ [expN K[j]] else expR (K.take j) := by
  unfold expR
  rw [List.take_succ_eq_append_getElem hj, List.filter_append, List.map_append]
  by_cases h : liveB K[j] = true
  · rw [if_pos h]; simp [List.filter_cons, h]
  · rw [if_neg h]; simp [List.filter_cons, h]
theorem goneR_take {now : Int} {K : List Ro} {j : Nat} (hj : j < K.length) : goneR now (K.take (j + 1)) = if lateB now (expN K[j]) = true then goneR now (K.take j) ++ [expN K[j]] else goneR now (K.take j) := by
  unfold goneR
  rw [List.take_succ_eq_append_getElem hj, List.map_append, List.filter_append]
  by_cases h : lateB now (expN K[j]) = true
  · rw [if_pos h]; simp [List.filter_cons, h]
  · rw [if_neg h]; simp [List.filter_cons, h]
theorem expR_len (K : List Ro) : (expR K).length ≤ K.length := by
  unfold expR
  rw [List.length_map]
  exact List.length_filter_le _ _
theorem goneR_len (now : Int) (K : List Ro) : (goneR now K).length ≤ K.length := by
  unfold goneR
  have := List.length_filter_le (lateB now) (K.map expN)
  rwa [List.length_map] at this
theorem expN_k (n : Ro) : (expN n).k = n.k := by unfold expN; split <;> rfl
theorem Turn.del {w w1 : World} {t mb : Nat} {most : Int} {L : List Ro} (h : Turn w w1 t mb most L) {k : Ky} (hk : wfK k) (ty : TypeId) : ∃ w', (Builtin.delete_ #[74, 84] ty #[.map (some mb), .agg (kcs k).toArray]).run Try.prog w1 = .ok (.tuple #[]) w' ∧ Turn w w' t mb most (delN L k) ∧ w1.grownBy w' (some mb) := by
  obtain ⟨w', h1, h2, h3⟩ := h.tb.map.del hk ty
  have hll := h.tb.ll
  have hs : (delN L k).length ≤ L.length := List.length_filter_le _ _
  exact ⟨w', h1, ⟨h.tb.turn h2 h3 (fun n hn => h.tb.nok n (List.mem_filter.1 hn).1) (by omega), grownBy_trans h.gr h3⟩, h3⟩
/-- What the loop of Tick holds. -/
structure TkI (w w1 : World) (t mb : Nat) (most now : Int) (B : Nat) (vK v u : Value) (K C E G : List Ro) (wr : World) : Prop where
  nw : Row wr w.heap.size 3 [.int .i64 now]
  tn : Turn w wr t mb most C
  ow : kN.Own wr B vK K
  tw : TwoT w1.heap.size wr v u E G
  sz : w1.heap.size ≤ wr.heap.size
theorem TkI.below {w w1 : World} {t mb : Nat} {most now : Int} {B : Nat} {vK v u : Value} {K C E G : List Ro} {wr W : World} (h : TkI w w1 t mb most now B vK v u K C E G wr) (hb : Below wr.heap.size wr W) : TkI w w1 t mb most now B vK v u K C E G W :=
  ⟨h.nw.below hb h.nw.lt, h.tn.post hb, own_below h.ow hb, h.tw.below hb, Nat.le_trans h.sz hb.size⟩
theorem TkI.turn {w w1 : World} {t mb : Nat} {most now : Int} {B : Nat} {vK v u : Value} {K C C' E G : List Ro} {wr W : World} (h : TkI w w1 t mb most now B vK v u K C E G wr) (ht : Turn wr W t mb most C') (hm : mb < w.heap.size) : TkI w w1 t mb most now B vK v u K C' E G W :=
  ⟨h.nw.keep ht.gr (by omega), h.tn.trans ht, own_map h.tn.tb.map ht.gr h.ow, h.tw.turn h.tn.tb ht.gr, Nat.le_trans h.sz ht.gr.size⟩
theorem TkI.left {w w1 : World} {t mb : Nat} {most now : Int} {B g n c : Nat} {v u v' : Value} {K C E E' G : List Ro} {wr W : World} (h : TkI w w1 t mb most now B (.slice (some ⟨g, 0, none⟩) n c) v u K C E G wr) (hg : g < w1.heap.size) (hb : w.heap.size < w1.heap.size) (ht : t < w.heap.size) (hm : mb < w.heap.size) (ho : kN.Own W w1.heap.size v' E') (hgr : wr.grownBy W v.ownBlock) (hv : v'.ownBlock = v.ownBlock ∨ v'.ownBlock = some wr.heap.size) : TkI w w1 t mb most now B (.slice (some ⟨g, 0, none⟩) n c) v' u K C E' G W :=
  ⟨h.nw.keepO hgr (own_ne_lt h.tw.l hb), h.tn.grow hgr (fun b e => Nat.le_of_not_lt fun hh => own_ne_lt h.tw.l (Nat.lt_trans hh hb) e) ht hm, own_two h.ow hgr (own_ne_lt h.tw.l hg), h.tw.left ho hgr hv, Nat.le_trans h.sz hgr.size⟩
theorem TkI.right {w w1 : World} {t mb : Nat} {most now : Int} {B g n c : Nat} {v u u' : Value} {K C E G G' : List Ro} {wr W : World} (h : TkI w w1 t mb most now B (.slice (some ⟨g, 0, none⟩) n c) v u K C E G wr) (hg : g < w1.heap.size) (hb : w.heap.size < w1.heap.size) (ht : t < w.heap.size) (hm : mb < w.heap.size) (ho : kN.Own W w1.heap.size u' G') (hgr : wr.grownBy W u.ownBlock) (hv : u'.ownBlock = u.ownBlock ∨ u'.ownBlock = some wr.heap.size) : TkI w w1 t mb most now B (.slice (some ⟨g, 0, none⟩) n c) v u' K C E G' W :=
  ⟨h.nw.keepO hgr (own_ne_lt h.tw.g hb), h.tn.grow hgr (fun b e => Nat.le_of_not_lt fun hh => own_ne_lt h.tw.g (Nat.lt_trans hh hb) e) ht hm, own_two h.ow hgr (own_ne_lt h.tw.g hg), h.tw.right ho hgr hv, Nat.le_trans h.sz hgr.size⟩
theorem tick_has {now : Int} {L K : List Ro} (hnd : (L.map keyN).Nodup) (hK : ∀ n ∈ K, n ∈ L) (hk : (K.map keyN).Nodup) {j : Nat} (hj : j < K.length) : (tickR now L (K.take j)).any (keyB K[j].k) = true := by
  have key : ∀ (D C : List Ro) (x : Ro), (∀ d ∈ D, d.k ≠ x.k) → C.any (keyB x.k) = true → (tickR now C D).any (keyB x.k) = true := by
    intro D
    induction D with
    | nil => intro C x _ h; exact h
    | cons d D ih =>
      intro C x hd h
      have hdx := hd d (by simp)
      refine ih (tickS now C d) x (fun e he => hd e (by simp [he])) ?_
      have h1 : (if d.r = 65535 then C else putN C (expN d)).any (keyB x.k) = true := by
        split
        · exact h
        · obtain ⟨y, hy, hyk⟩ := List.any_eq_true.1 h
          refine List.any_eq_true.2 ⟨y, mem_putN.2 (.inr ⟨hy, ?_⟩), hyk⟩
          rw [Bool.eq_false_iff, Ne, keyB_iff, expN_k]
          rw [keyB_iff] at hyk
          exact fun e => hdx (by rw [← e, hyk])
      unfold tickS
      split
      · obtain ⟨y, hy, hyk⟩ := List.any_eq_true.1 h1
        refine List.any_eq_true.2 ⟨y, List.mem_filter.2 ⟨hy, ?_⟩, hyk⟩
        rw [keyB_iff] at hyk
        have : keyB d.k y = false := by
          rw [Bool.eq_false_iff, Ne, keyB_iff]
          exact fun e => hdx (by rw [← e, hyk])
        rw [this]; rfl
      · exact h1
  refine key _ L K[j] (fun d hd e => ?_) (mem_any (hK _ (List.getElem_mem hj)))
  obtain ⟨i, hi, he⟩ := List.getElem_of_mem hd
  rw [List.length_take] at hi
  rw [List.getElem_take] at he
  have h2 := (List.pairwise_iff_getElem.1 hk) i j (by rw [List.length_map]; omega) (by rw [List.length_map]; exact hj) (by omega)
  rw [List.getElem_map, List.getElem_map] at h2
  exact h2 (show keyN K[i] = keyN K[j] by rw [he]; exact e)
theorem expN_ok {n : Ro} {now : Int} (h : n.ok) (hu : n.u ≤ now) (hb : now ≤ 17592186044416) : (expN n).ok := by
  unfold expN
  split
  · exact h
  · exact retr_ok h h.u0 (by omega)
/-- What Tick answers. -/
structure Ticked (w : World) (t mb : Nat) (most now : Int) (L : List Ro) (e : Ending) (w' : World) : Prop where
  ex : ∃ a1 c1 a2 c2 K, K.Perm (L.filter (lateB now)) ∧ Asc K ∧ e = .returned (.tuple #[.slice a1 (expR K).length c1, .slice a2 (goneR now K).length c2]) ∧ Turn w w' t mb most (tickR now L K) ∧ TwoT w.heap.size w' (.slice a1 (expR K).length c1) (.slice a2 (goneR now K).length c2) (expR K) (goneR now K)
set_option maxHeartbeats 16000000 in
theorem tick_any {w : World} {t mb : Nat} {most : Int} {L : List Ro} (h : Tb w t mb most L) (now : Int) (ha : 0 ≤ now) (hb : now ≤ 17592186044416) :
    Calls Try.prog 28 #[.pointer (some ⟨t, 0, none⟩), .int .i64 now] w (Ticked w t mb most now L) := by
  have hmf : ∀ (fn : Fn) (first cap : Array Value) (w : World), (Instr.makeFunc fn first cap).run Try.prog w = .ok (.func fn first cap) w := fun _ _ _ _ => rfl
  have hok := h.nok
  have hwf := h.map.wf
  have hll := h.ll
  have HT : Hid (Tb w t mb most L) := h
  have HTM : Hid (t < w.heap.size ∧ mb < w.heap.size) := ⟨h.lt, h.map.lt⟩
  clear h
  go_enter Try.func28, Try.ntmps28
  go_upto_region 1 with fail
  refine name_world (R := fun W => Code.wp _ _ _ _ W) (P := fun W => Below w.heap.size w W ∧ Row W w.heap.size 3 [.int .i64 now]) _ ⟨ba _ _, Row.new _ _ _⟩ ?_
  rintro X ⟨hB, r0⟩
  have hX0 := r0.lt
  have hW := where_any (HT.out.below hB) (lateB now) 51 #[.pointer (some ⟨w.heap.size, 0, none⟩)] (enters_of Try.func51 (by kernel_rfl) rfl) (fun n _ W hW => tickC_any n now w.heap.size W (r0.below hW r0.lt))
  go_wp2_with (go_at_call 42; refine hW.mono ?_; clear hW; rintro e w1 ⟨va, vc, K, rfl, hp, hasc, hO, b1⟩)
  have hKL : ∀ n ∈ K, n ∈ L ∧ n.u ≤ now := fun n hn => by
    have := List.mem_filter.1 (hp.mem_iff.1 hn)
    exact ⟨this.1, of_decide_eq_true this.2⟩
  have hKn : K.length ≤ 1000000 := by
    rw [hp.length_eq]
    exact Nat.le_trans (List.length_filter_le _ _) hll
  have hsz1 : w.heap.size < w1.heap.size := Nat.lt_of_lt_of_le hX0 b1.size
  have HPa : Hid (K.Perm (L.filter (lateB now)) ∧ Asc K ∧ w.heap.size ≤ w1.heap.size) := ⟨hp, hasc, Nat.le_of_lt hsz1⟩
  have HgK : Hid (K ≠ [] → ∃ g, va = some ⟨g, 0, none⟩ ∧ g < w1.heap.size) := fun hne => by
    obtain ⟨g, e, _, h2, _⟩ := own_elem hO hne
    exact ⟨g, e, h2⟩
  have HU : TkI w w1 t mb most now X.heap.size (.slice va K.length vc) (.slice none 0 0) (.slice none 0 0) K (tickR now L (K.take 0)) (expR (K.take 0)) (goneR now (K.take 0)) w1 := ⟨r0.below b1 r0.lt, Turn.of HT.out (bt hB b1), hO, ⟨World.ownsRow_nil _ _ _ _, World.ownsRow_nil _ _ _ _, .inl rfl⟩, Nat.le_refl _⟩
  have HOk : Hid (∀ (j : Nat) (hj : j < K.length), K[j].ok ∧ (expN K[j]).ok ∧ wfK K[j].k ∧ K[j].u ≤ now) := fun j hj => by
    obtain ⟨m1, m2⟩ := hKL _ (List.getElem_mem hj)
    exact ⟨hok _ m1, expN_ok (hok _ m1) m2 hb, hwf _ m1, m2⟩
  have HPu : Hid (∀ (C : List Ro) (x : Ro) (V : World), Tb V t mb most C → x.ok → wfK x.k → C.any (keyB x.k) = true → Calls Try.prog 47 #[.pointer (some ⟨t, 0, none⟩), rV x] V fun e w' => e = .returned (.tuple #[]) ∧ Turn V w' t mb most (putN C x)) := fun C x V hV hx hk hc =>
    put_any hV x hk hx (by rw [putN_len, if_pos hc]; exact hV.ll)
  have HAny : Hid (∀ (j : Nat) (hj : j < K.length), (tickR now L (K.take j)).any (keyB K[j].k) = true) := fun j hj => tick_has HT.out.map.nd (fun n hn => (hKL n hn).1) ((hp.map keyN).nodup_iff.2 (List.Nodup.sublist (List.Sublist.map _ List.filter_sublist) HT.out.map.nd)) hj
  clear hok hwf hll hp hasc hKL hO b1 hB HT r0 ha hX0
  go_loopw [4, 5, 12] (fun v u z wr => ∃ (j : Nat) (a1 : Option Addr) (n1 c1 : Nat) (a2 : Option Addr) (n2 c2 : Nat), z = .int .i64 j ∧ v = .slice a1 n1 c1 ∧ u = .slice a2 n2 c2 ∧ j ≤ K.length ∧ TkI w w1 t mb most now X.heap.size (.slice va K.length vc) (.slice a1 n1 c1) (.slice a2 n2 c2) K (tickR now L (K.take j)) (expR (K.take j)) (goneR now (K.take j)) wr) (fun _ _ z _ => K.length - (intOf z).toNat)
  case atStart => exact ⟨0, none, 0, 0, none, 0, 0, rfl, rfl, rfl, Nat.zero_le _, HU⟩
  case round =>
    clear HU
    obtain ⟨j, a1, n1, c1, a2, n2, c2, rfl, rfl, rfl, hj, hI⟩ := hrel
    by_cases hlt : j < K.length
    · have hKne : K ≠ [] := fun e => by rw [e] at hlt; simp at hlt
      obtain ⟨g, rfl, hg1, hg2, hel⟩ := own_elem hI.ow hKne
      have HgL : Hid (g < w1.heap.size) := by
        obtain ⟨g', e, h2⟩ := HgK.out hKne
        cases e
        exact h2
      have hq := hel j hlt
      have hji : (j : Int) < (K.length : Int) := by omega
      have hw64 : wrap64 ((j : Int) + 1) = (j : Int) + 1 := by unfold wrap64; omega
      have HM : Hid (K.length - ((j : Int) + 1).toNat < K.length - ((j : Int)).toNat) := meas hlt
      have HJ : Hid (j + 1 ≤ K.length) := hlt
      have hT1 := tickR_take (now := now) (L := L) hlt
      have hE1 := expR_take hlt
      have hG1 := goneR_take (now := now) hlt
      have hOk := HOk.out j hlt
      have hAn := HAny.out j hlt
      obtain ⟨n, hn⟩ : ∃ n, n = K[j]'hlt := ⟨_, rfl⟩
      rw [← hn] at hq hT1 hE1 hG1 hOk hAn
      have HEl : Hid ((expR (K.take j)).length ≤ 10000000 ∧ (goneR now (K.take j)).length ≤ 10000000) := by
        have h1 := expR_len (K.take j)
        have h2 := goneR_len now (K.take j)
        rw [List.length_take] at h1 h2
        exact ⟨by omega, by omega⟩
      have HGl : Hid ((goneR now (K.take j)).length ≤ 10000000) := HEl.out.2
      have hszr := hI.sz
      clear HOk HAny HPa HgK hel hg1 hj hn hlt hKn hKne
      have HIS : Hid (∀ W, Below wr.heap.size wr W → TkI w w1 t mb most now X.heap.size (.slice (some ⟨g, 0, none⟩) K.length vc) (.slice a1 n1 c1) (.slice a2 n2 c2) K (tickR now L (K.take j)) (expR (K.take j)) (goneR now (K.take j)) W) := fun W hW => hI.below hW
      have HNe : Hid (∀ b, wr.heap.size ≤ b → (Value.slice a1 n1 c1).ownBlock ≠ some b) := fun b hb e => by
        have := (own_lt hI.tw.l e).2
        omega
      clear hI
      generalize hC : tickR now L (K.take j) = C at *
      clear hC
      by_cases hr : n.r = 65535
      · have hx : expN n = n := if_pos hr
        have hr' : (n.r != 65535) = false := by simp [hr]
        rw [if_neg (by unfold liveB; simp [hr])] at hE1
        have HE : Hid (expR (K.take (j + 1)) = expR (K.take j)) := hE1
        obtain ⟨x, hxe⟩ : ∃ x, n = x := ⟨_, rfl⟩
        obtain ⟨C1, hC1⟩ : ∃ C1, C = C1 := ⟨_, rfl⟩
        have HT1 : Hid (lateB now x = true → tickR now L (K.take (j + 1)) = delN C1 x.k ∧ goneR now (K.take (j + 1)) = goneR now (K.take j) ++ [x]) := fun hl => by
          rw [hT1, hG1]; unfold tickS; rw [hx, hxe, if_pos hl, if_pos hl, if_pos (by rw [← hxe]; exact hr), hC1]; exact ⟨rfl, rfl⟩
        have HT2 : Hid (lateB now x = false → tickR now L (K.take (j + 1)) = C1 ∧ goneR now (K.take (j + 1)) = goneR now (K.take j)) := fun hl => by
          have hl' : ¬ lateB now x = true := (by rw [hl]; decide)
          rw [hT1, hG1]; unfold tickS; rw [hx, hxe, if_neg hl', if_neg hl', if_pos (by rw [← hxe]; exact hr), hC1]; exact ⟨rfl, rfl⟩
        have HWf : Hid (wfK x.k) := by rw [← hxe]; exact hOk.2.2.1
        have hTM := HTM.out.2
        have HIS1 : Hid (∀ W, Below wr.heap.size wr W → TkI w w1 t mb most now X.heap.size (.slice (some ⟨g, 0, none⟩) K.length vc) (.slice a1 n1 c1) (.slice a2 n2 c2) K C1 (expR (K.take j)) (goneR now (K.take j)) W) := by rw [← hC1]; exact HIS
        have c60 := hq.ref
        clear hT1 hE1 hG1 hOk hAn HIS hx hC1 HPu
        subst hxe
        go_upto_region 8 with (first
          | (have kk := r2; refine stS (.tmp 7) (.tmp 15) rfl rfl g2 n _ rfl rfl r2 ?_; intro W3 g3 r3; have c60' := (r3.cell 60).trans (oc60 n); have b3 := grown_below g3 hB2 hge2 hB2.size; clear r2)
          | (refine alG infoRz rfl rfl ?_; intro g2 W2 hge2 hgl2 hB2 r2)
          | (refine ldS (.tmp 14) rfl rfl _ _ n rfl hq ?_))
        obtain ⟨x, hxe⟩ : ∃ x, x = n := ⟨_, rfl⟩
        rw [← hxe] at r3 HT1 HT2 HWf
        have hgm : g2 ≠ mb := by omega
        have hI := HIS1.out _ b3
        have r7 := r3
        clear hq c60 c60' HIS1 r3 b3 g3 hxe
        obtain ⟨W7, hW7⟩ : ∃ W7, W3 = W7 := ⟨_, rfl⟩
        subst hW7
        generalize W3 = W7 at *
        have c78 := (r7.cell 78).trans (oc78 x)
        have cn := hI.nw.cell 0
        have hXs := r7.lt
        by_cases hlate : x.u ≤ now
        · have hlb : lateB now x = true := decide_eq_true hlate
          have HG : Hid (tickR now L (K.take (j + 1)) = delN C1 x.k ∧ goneR now (K.take (j + 1)) = goneR now (K.take j) ++ [x]) := HT1.out hlb
          clear HT1 HT2
          go_upto_region 9 with fail
          clear c78 cn
          refine wp_region_noPanic ?_
          refine wp_region_N (S := fun W => Below W7.heap.size W7 W) 6 (by kernel_rfl) ((Below.refl _ _).drew) (fun hHeld => ?_)
          refine takeN_lit (i := 0) (v := ?_) (F := #[false, false, false, false, true, true, false]) rfl (by kernel_rfl) (by kernel_rfl) (by kernel_rfl) (by kernel_rfl) (fun _ _ _ h => h) (Or.inl ⟨by rfl, ?_⟩) (by assumption) ?_
          rotate_left
          · (intro w hSw; (try dsimp only at hSw); go_simp <;> with_reducible rfl)
          try simp only [Act.put, List.setIfInBounds_toArray, List.set_cons_zero, List.set_cons_succ]
          refine takeN_lit (i := 1) (v := ?_) (F := #[true, false, false, false, true, true, false]) rfl (by kernel_rfl) (by kernel_rfl) (by kernel_rfl) (by kernel_rfl) (fun _ _ _ h => h) (Or.inl ⟨by rfl, ?_⟩) (by assumption) ?_
          rotate_left
          · (intro w hSw; (try dsimp only at hSw); go_simp <;> with_reducible rfl)
          try simp only [Act.put, List.setIfInBounds_toArray, List.set_cons_zero, List.set_cons_succ]
          refine takeN_lit (i := 2) (v := ?_) (F := #[true, true, false, false, true, true, false]) rfl (by kernel_rfl) (by kernel_rfl) (by kernel_rfl) (by kernel_rfl) (fun _ _ _ h => h) (Or.inl ⟨by rfl, ?_⟩) (by assumption) ?_
          rotate_left
          · (intro w hSw; (try dsimp only at hSw); go_simp <;> with_reducible rfl)
          try simp only [Act.put, List.setIfInBounds_toArray, List.set_cons_zero, List.set_cons_succ]
          refine takeN_lit (i := 3) (v := ?_) (F := #[true, true, true, false, true, true, false]) rfl (by kernel_rfl) (by kernel_rfl) (by kernel_rfl) (by kernel_rfl) (fun _ _ _ h => h) (Or.inl ⟨by rfl, ?_⟩) (by assumption) ?_
          rotate_left
          · (intro w hSw; (try dsimp only at hSw); have z := ((hI.below hSw).tn.tb.row.cell 1); go_simp <;> with_reducible rfl)
          try simp only [Act.put, List.setIfInBounds_toArray, List.set_cons_zero, List.set_cons_succ]
          refine takeN_lit (i := 4) (F := #[true, true, true, true, false, false, false]) rfl (by kernel_rfl) (by kernel_rfl) (by kernel_rfl) (by kernel_rfl) (fun _ _ _ h => h) (yS x (fun w h => (r7.below h hXs).ro) (by rfl) rfl rfl) (by assumption) ?_
          try simp only [Act.put, List.setIfInBounds_toArray, List.set_cons_zero, List.set_cons_succ]
          refine wpAnyN_ready (rs := [5]) (by kernel_rfl) (by simp) ?_
          refine consN_lit rfl (fun K hK => ?_) ?_
          · go_simp
            refine (keyOf_any x _).mono ?_
            rintro e w8 ⟨rfl, b8⟩
            refine hK.out _ _ (Or.inr ?_) (fun hHeld => ?_)
            · exact bt hHeld b8
            replace hHeld := hHeld.resolve_left (by decide)
            clear hK K
            try simp only [Act.put, List.setIfInBounds_toArray, List.set_cons_zero, List.set_cons_succ]
            refine wpAnyN_ready (rs := [6]) (by kernel_rfl) (by simp) ?_
            refine consN_lit rfl (fun K hK => ?_) ?_
            · skip
              obtain ⟨W9, hrun, hT9, hg9⟩ := (Turn.of (hI.below hHeld).tn.tb (Below.refl _ _)).del (k := x.k) HWf.out _
              refine sDel (.tmp 37) (.tmp 39) (by rfl) rfl rfl rfl hrun ?_
              refine hK.out _ _ (Or.inl rfl) (fun _ => ?_)
              clear hK K
              try simp only [Act.put, List.setIfInBounds_toArray, List.set_cons_zero, List.set_cons_succ]
              refine wpAnyN_done (by kernel_rfl) ?_ _
              refine NoPanic.normal ?_
              have hI9 := (hI.below hHeld).turn hT9 HTM.out.2
              have r9 := (r7.below hHeld hXs).keep hg9 hgm
              clear hI r7 hHeld hT9 hg9 hrun
              go_wp2_with (first
                | (have kk := r10; at_builtin; refine app_at (.tmp 40) (.tmp 42) rfl rfl w1.heap.size (.slice a2 n2 c2) _ rfl hI10.tw.g _ 1 x rfl r10 HGl.out hI10.sz ?_; intro v11 W11 o11 g11 e11; obtain ⟨a11, c11, rfl, _⟩ := Kd.own_at o11; have hI11 := hI10.right HgL.out hsz1 HTM.out.1 HTM.out.2 o11 g11 e11)
                | (have kk := r9; (with_reducible refine bsG (T := 28) (U := 41) (n := 1) [(0, .tmp 41)] (ocs x) ?_ ?_ ?_ ?_); (focus rfl); (focus rfl); (focus exact (fun w => bsN1 x w)); intro W10 r10 b10; have hI10 := hI9.below b10; clear r9)
                | (have kk := r9; refine ldS (.tmp 7) rfl rfl _ _ x rfl r9.ro ?_))
              go_roundw
              case rel => exact ⟨j + 1, a1, n1, c1, a11, _, c11, by first | rfl | go_num, rfl, rfl, HJ.out, by rw [HG.out.1, HE.out, HG.out.2]; have i12 := hI11; rw [List.length_append] at i12; exact i12⟩
              case measure => (try rw [hw64]); simp only [intOf]; exact HM.out
            exact AllReadyN.nil
          exact AllReadyN.nil
        · have hlb : lateB now x = false := decide_eq_false hlate
          have HG : Hid (tickR now L (K.take (j + 1)) = C1 ∧ goneR now (K.take (j + 1)) = goneR now (K.take j)) := HT2.out hlb
          clear HT1 HT2
          go_wp2_with fail
          go_roundw
          case rel => exact ⟨j + 1, a1, n1, c1, a2, n2, c2, by first | rfl | go_num, rfl, rfl, HJ.out, by rw [HG.out.1, HE.out, HG.out.2]; exact hI⟩
          case measure => (try rw [hw64]); simp only [intOf]; exact HM.out
      · have hx : expN n = retr n n.u := if_neg hr
        have hr' : (n.r != 65535) = true := by simpa using hr
        rw [if_pos (by unfold liveB; simp [hr])] at hE1
        obtain ⟨x, hxe⟩ : ∃ x, expN n = x := ⟨_, rfl⟩
        rw [hxe] at hE1 hOk
        have HE : Hid (expR (K.take (j + 1)) = expR (K.take j) ++ [x]) := hE1
        have hxk : x.k = n.k := by rw [← hxe]; exact expN_k n
        obtain ⟨C1, hC1⟩ : ∃ C1, putN C x = C1 := ⟨_, rfl⟩
        have HT1 : Hid (lateB now x = true → tickR now L (K.take (j + 1)) = delN C1 x.k ∧ goneR now (K.take (j + 1)) = goneR now (K.take j) ++ [x]) := fun hl => by
          rw [hT1, hG1]; unfold tickS; rw [hxe, if_pos hl, if_pos hl, if_neg hr, hC1, hxk]; exact ⟨rfl, rfl⟩
        have HT2 : Hid (lateB now x = false → tickR now L (K.take (j + 1)) = C1 ∧ goneR now (K.take (j + 1)) = goneR now (K.take j)) := fun hl => by
          have hl' : ¬ lateB now x = true := (by rw [hl]; decide)
          rw [hT1, hG1]; unfold tickS; rw [hxe, if_neg hl', if_neg hl', if_neg hr, hC1]; exact ⟨rfl, rfl⟩
        have HWf : Hid (wfK x.k) := by rw [hxk]; exact hOk.2.2.1
        have hRt : ∀ W, Calls Try.prog 50 #[rV n, .int .i64 n.u] W (Gives W (rV x)) := fun W => by
          have h2 := hOk.2.2.2
          have := retr_any n n.u W hOk.1.u0 (by omega) hOk.1.d0 hOk.1.d1
          rwa [← hx, hxe] at this
        have HP : Hid (∀ W, Below wr.heap.size wr W → Calls Try.prog 47 #[.pointer (some ⟨t, 0, none⟩), rV x] W fun e w' => e = .returned (.tuple #[]) ∧ Turn W w' t mb most C1 ∧ TkI w w1 t mb most now X.heap.size (.slice (some ⟨g, 0, none⟩) K.length vc) (.slice a1 n1 c1) (.slice a2 n2 c2) K C1 (expR (K.take j)) (goneR now (K.take j)) w') := fun W hW => by
          have hI := HIS.out W hW
          refine (HPu.out C x W hI.tn.tb hOk.2.1 HWf.out (by rw [hxk]; exact hAn)).mono ?_
          rintro e w' ⟨rfl, hT⟩
          rw [hC1] at hT
          exact ⟨rfl, hT, hI.turn hT HTM.out.2⟩
        have hTM := HTM.out.2
        have c60 := hq.ref
        clear hT1 hE1 hG1 hOk hAn HIS hx hC1 HPu hxk hxe
        go_upto_region 8 with (first
          | (have kk := r6; at_builtin; refine app_at (.tmp 26) (.tmp 28) rfl rfl w1.heap.size (.slice a1 n1 c1) _ rfl hI6.tw.l _ 1 x rfl r6 HEl.out.1 hI6.sz ?_; intro v7 W7 o7 g7 e7; have r7 := q6.keepO g7 (HNe.out g2 hge2); obtain ⟨a7, c7, rfl, _⟩ := Kd.own_at o7; have hI7 := hI6.left HgL.out hsz1 HTM.out.1 HTM.out.2 o7 g7 e7)
          | (have kk := q5; (with_reducible refine bsG (T := 28) (U := 41) (n := 1) [(0, .tmp 27)] (ocs x) ?_ ?_ ?_ ?_); (focus rfl); (focus rfl); (focus exact (fun w => bsN1 x w)); intro W6 r6 b6; have hI6 := hI5.below b6; have q6 := q5.below b6 q5.lt; clear q5)
          | (have kk := q5; refine ldS (.tmp 7) rfl rfl _ _ x rfl q5.ro ?_)
          | (have kk := q4; go_at_call 47; refine (HP.out _ b4).mono ?_; rintro e w5 ⟨rfl, hT5, hI5⟩; have q5 := q4.keep hT5.gr hgm; clear q4)
          | (have kk := q4; refine ldS (.tmp 7) rfl rfl _ _ x rfl q4.ro ?_)
          | (have kk := r4; refine stS (.tmp 7) (.tmp 22) rfl rfl g2 x n rfl rfl r4 ?_; intro W4 g4 q4; have b4 := grown_below g4 b3 hge2 b3.size; clear r4)
          | (have kk := r3; go_at_call 50; refine (hRt _).mono ?_; rintro e w4 ⟨rfl, k4⟩; replace b3 := bt b3 k4; have r4 := r3.below k4 r3.lt; clear r3 c78')
          | (have kk := r3; refine ldS (.tmp 7) rfl rfl _ _ n rfl r3.ro ?_)
          | (have kk := r2; refine stS (.tmp 7) (.tmp 15) rfl rfl g2 n _ rfl rfl r2 ?_; intro W3 g3 r3; have c60' := (r3.cell 60).trans (oc60 n); have c78' := (r3.cell 78).trans (oc78 n); have b3 := grown_below g3 hB2 hge2 hB2.size; clear r2)
          | (refine alG infoRz rfl rfl ?_; intro g2 W2 hge2 hgl2 hB2 r2; have hgm : g2 ≠ mb := (by omega))
          | (refine ldS (.tmp 14) rfl rfl _ _ n rfl hq ?_))
        rw [List.length_append] at hI7
        have hI := hI7
        clear hq c60 HP hI7 hRt
        have c78 := (r7.cell 78).trans (oc78 x)
        have cn := hI.nw.cell 0
        have hXs := r7.lt
        by_cases hlate : x.u ≤ now
        · have hlb : lateB now x = true := decide_eq_true hlate
          have HG : Hid (tickR now L (K.take (j + 1)) = delN C1 x.k ∧ goneR now (K.take (j + 1)) = goneR now (K.take j) ++ [x]) := HT1.out hlb
          clear HT1 HT2
          go_upto_region 9 with fail
          clear c78 cn
          refine wp_region_noPanic ?_
          refine wp_region_N (S := fun W => Below W7.heap.size W7 W) 6 (by kernel_rfl) ((Below.refl _ _).drew) (fun hHeld => ?_)
          refine takeN_lit (i := 0) (v := ?_) (F := #[false, false, false, false, true, true, false]) rfl (by kernel_rfl) (by kernel_rfl) (by kernel_rfl) (by kernel_rfl) (fun _ _ _ h => h) (Or.inl ⟨by rfl, ?_⟩) (by assumption) ?_
          rotate_left
          · (intro w hSw; (try dsimp only at hSw); go_simp <;> with_reducible rfl)
          try simp only [Act.put, List.setIfInBounds_toArray, List.set_cons_zero, List.set_cons_succ]
          refine takeN_lit (i := 1) (v := ?_) (F := #[true, false, false, false, true, true, false]) rfl (by kernel_rfl) (by kernel_rfl) (by kernel_rfl) (by kernel_rfl) (fun _ _ _ h => h) (Or.inl ⟨by rfl, ?_⟩) (by assumption) ?_
          rotate_left
          · (intro w hSw; (try dsimp only at hSw); go_simp <;> with_reducible rfl)
          try simp only [Act.put, List.setIfInBounds_toArray, List.set_cons_zero, List.set_cons_succ]
          refine takeN_lit (i := 2) (v := ?_) (F := #[true, true, false, false, true, true, false]) rfl (by kernel_rfl) (by kernel_rfl) (by kernel_rfl) (by kernel_rfl) (fun _ _ _ h => h) (Or.inl ⟨by rfl, ?_⟩) (by assumption) ?_
          rotate_left
          · (intro w hSw; (try dsimp only at hSw); go_simp <;> with_reducible rfl)
          try simp only [Act.put, List.setIfInBounds_toArray, List.set_cons_zero, List.set_cons_succ]
          refine takeN_lit (i := 3) (v := ?_) (F := #[true, true, true, false, true, true, false]) rfl (by kernel_rfl) (by kernel_rfl) (by kernel_rfl) (by kernel_rfl) (fun _ _ _ h => h) (Or.inl ⟨by rfl, ?_⟩) (by assumption) ?_
          rotate_left
          · (intro w hSw; (try dsimp only at hSw); have z := ((hI.below hSw).tn.tb.row.cell 1); go_simp <;> with_reducible rfl)
          try simp only [Act.put, List.setIfInBounds_toArray, List.set_cons_zero, List.set_cons_succ]
          refine takeN_lit (i := 4) (F := #[true, true, true, true, false, false, false]) rfl (by kernel_rfl) (by kernel_rfl) (by kernel_rfl) (by kernel_rfl) (fun _ _ _ h => h) (yS x (fun w h => (r7.below h hXs).ro) (by rfl) rfl rfl) (by assumption) ?_
          try simp only [Act.put, List.setIfInBounds_toArray, List.set_cons_zero, List.set_cons_succ]
          refine wpAnyN_ready (rs := [5]) (by kernel_rfl) (by simp) ?_
          refine consN_lit rfl (fun K hK => ?_) ?_
          · go_simp
            refine (keyOf_any x _).mono ?_
            rintro e w8 ⟨rfl, b8⟩
            refine hK.out _ _ (Or.inr ?_) (fun hHeld => ?_)
            · exact bt hHeld b8
            replace hHeld := hHeld.resolve_left (by decide)
            clear hK K
            try simp only [Act.put, List.setIfInBounds_toArray, List.set_cons_zero, List.set_cons_succ]
            refine wpAnyN_ready (rs := [6]) (by kernel_rfl) (by simp) ?_
            refine consN_lit rfl (fun K hK => ?_) ?_
            · skip
              obtain ⟨W9, hrun, hT9, hg9⟩ := (Turn.of (hI.below hHeld).tn.tb (Below.refl _ _)).del (k := x.k) HWf.out _
              refine sDel (.tmp 37) (.tmp 39) (by rfl) rfl rfl rfl hrun ?_
              refine hK.out _ _ (Or.inl rfl) (fun _ => ?_)
              clear hK K
              try simp only [Act.put, List.setIfInBounds_toArray, List.set_cons_zero, List.set_cons_succ]
              refine wpAnyN_done (by kernel_rfl) ?_ _
              refine NoPanic.normal ?_
              have hI9 := (hI.below hHeld).turn hT9 HTM.out.2
              have r9 := (r7.below hHeld hXs).keep hg9 hgm
              clear hI r7 hHeld hT9 hg9 hrun
              go_wp2_with (first
                | (have kk := r10; at_builtin; refine app_at (.tmp 40) (.tmp 42) rfl rfl w1.heap.size (.slice a2 n2 c2) _ rfl hI10.tw.g _ 1 x rfl r10 HGl.out hI10.sz ?_; intro v11 W11 o11 g11 e11; obtain ⟨a11, c11, rfl, _⟩ := Kd.own_at o11; have hI11 := hI10.right HgL.out hsz1 HTM.out.1 HTM.out.2 o11 g11 e11)
                | (have kk := r9; (with_reducible refine bsG (T := 28) (U := 41) (n := 1) [(0, .tmp 41)] (ocs x) ?_ ?_ ?_ ?_); (focus rfl); (focus rfl); (focus exact (fun w => bsN1 x w)); intro W10 r10 b10; have hI10 := hI9.below b10; clear r9)
                | (have kk := r9; refine ldS (.tmp 7) rfl rfl _ _ x rfl r9.ro ?_))
              go_roundw
              case rel => exact ⟨j + 1, a7, _, c7, a11, _, c11, by first | rfl | go_num, rfl, rfl, HJ.out, by rw [HG.out.1, HE.out, HG.out.2]; have i12 := hI11; rw [List.length_append] at i12; exact i12⟩
              case measure => (try rw [hw64]); simp only [intOf]; exact HM.out
            exact AllReadyN.nil
          exact AllReadyN.nil
        · have hlb : lateB now x = false := decide_eq_false hlate
          have HG : Hid (tickR now L (K.take (j + 1)) = C1 ∧ goneR now (K.take (j + 1)) = goneR now (K.take j)) := HT2.out hlb
          clear HT1 HT2
          go_wp2_with fail
          go_roundw
          case rel => exact ⟨j + 1, a7, _, c7, a2, n2, c2, by first | rfl | go_num, rfl, rfl, HJ.out, by rw [HG.out.1, HE.out, HG.out.2]; exact hI⟩
          case measure => (try rw [hw64]); simp only [intOf]; exact HM.out
    · have hje : j = K.length := by omega
      subst hje
      rw [List.take_length] at hI
      obtain rfl := own_get hI.tw.l
      obtain rfl := own_get hI.tw.g
      clear HOk HAny HPu HgK hlt hj
      go_wp2_with fail
      go_ret2
      exact ⟨a1, c1, a2, c2, K, HPa.out.1, HPa.out.2.1, rfl, hI.tn, Kd.own_up hI.tw.l HPa.out.2.2, Kd.own_up hI.tw.g HPa.out.2.2, hI.tw.ne⟩
end Go.Proofs.Ythofoocknmkdjaa
