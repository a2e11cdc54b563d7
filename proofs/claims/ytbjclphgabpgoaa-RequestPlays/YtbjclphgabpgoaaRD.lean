/-
  Rows that lie apart; what the loop of Tick holds.
-/
import Derived.Test.YtbjclphgabpgoaaRC
import Derived.Maps.AppendAt
namespace Go.Proofs.Ytbjclphgabpgoaa
open Go.RowKit Go.Maps
set_option linter.unusedSimpArgs false
set_option linter.unusedVariables false
set_option maxRecDepth 20000
theorem own_map {w w' : World} {mb B : Nat} {L : List Sr} {v : Value} {G : List Sr} (hm : Mp w mb L) (hg : w.grownBy w' (some mb)) (ho : kN.Own w B v G) : kN.Own w' B v G := by
  refine World.ownsRow.kept ho hg ?_
  rcases ho.2 with ⟨rfl, _⟩ | ⟨g, cap, cur, rfl, _, hh, _⟩
  · exact .inl rfl
  · refine .inr fun e => ?_
    obtain ⟨es, cl, h2⟩ := hm.obj
    have e' : g = mb := by simpa [Value.ownBlock] using e
    rw [e', h2] at hh
    cases hh
theorem meas {n j : Nat} (h : j < n) : n - ((j : Int) + 1).toNat < n - ((j : Int)).toNat := by omega
theorem Turn.trans {w w1 w2 : World} {t mb : Nat} {most : Int} {L L' : List Sr} (h : Turn w w1 t mb most L) (k : Turn w1 w2 t mb most L') : Turn w w2 t mb most L' := ⟨k.tb, grownBy_trans h.gr k.gr⟩
theorem own_get {w : World} {B : Nat} {a : Option Addr} {n c : Nat} {G : List Sr} (ho : kN.Own w B (.slice a n c) G) : n = G.length := by
  obtain ⟨a', c', e, _⟩ := Kd.own_at ho
  cases e
  rfl
/-- A row's element, where it lies. -/
theorem own_elem {w : World} {B : Nat} {a : Option Addr} {n c : Nat} {G : List Sr} (ho : kN.Own w B (.slice a n c) G) (hne : G ≠ []) : ∃ g, a = some ⟨g, 0, none⟩ ∧ B ≤ g ∧ g < w.heap.size ∧ ∀ (j : Nat) (hj : j < G.length), LS w g (j * 45) G[j] := by
  obtain ⟨a', c', e, h⟩ := Kd.own_at ho
  cases e
  obtain ⟨g, e, h1, h2, _, h3⟩ := h hne
  exact ⟨g, e, h1, h2, fun j hj => h3 j G[j] (List.getElem?_eq_getElem hj)⟩
theorem own_two {w w' : World} {B g n c : Nat} {o : Option Nat} {K : List Sr} (h : kN.Own w B (.slice (some ⟨g, 0, none⟩) n c) K) (hg : w.grownBy w' o) (hne : o ≠ some g) : kN.Own w' B (.slice (some ⟨g, 0, none⟩) n c) K := by
  rcases h.2 with ⟨e, _⟩ | ⟨g', cap, cur, e, hB, hh, hr⟩
  · cases e
  · have e1 : g' = g := by cases e; rfl
    subst e1
    exact ⟨h.1, .inr ⟨g', cap, cur, e, hB, (hg.block g' (Array.getElem?_eq_some_iff.1 hh).1 (fun e => hne e.symm)).trans hh, hr⟩⟩
theorem Turn.grow {w w1 w2 : World} {t mb : Nat} {most : Int} {L : List Sr} {o : Option Nat} (h : Turn w w1 t mb most L) (hg : w1.grownBy w2 o) (ho : ∀ b, o = some b → w.heap.size ≤ b) (ht : t < w.heap.size) (hm : mb < w.heap.size) : Turn w w2 t mb most L :=
  ⟨⟨h.tb.row.keepO hg (fun e => by have := ho t e; omega), h.tb.map.same (hg.block mb h.tb.map.lt (fun e => by have := ho mb e.symm; omega)), h.tb.nok, h.tb.ll⟩, hg.os.trans h.gr.os, hg.tape.trans h.gr.tape, hg.output.trans h.gr.output, Nat.le_trans h.gr.size hg.size, fun i hi hne => (hg.block i (Nat.lt_of_lt_of_le hi h.gr.size) (fun e => by have := ho i e.symm; omega)).trans (h.gr.block i hi hne)⟩
/-- append of one to a row of the call's own, and where it lies then. -/
theorem app_at {w : World} {ops : Array Oper} {rest : List Oper} {o : Oper} {a : Act} {Q : Exit → Act → World → Prop} (s x : Operand) (hw : o.guard = none) (ho : o.op = .call { callee := .builtin .append, args := #[s, x], argTypes := #[29, 29] })
    (B : Nat) (v : Value) (l : List Sr) (hs : a.eval s = v) (hown : kN.Own w B v l) (g c : Nat) (p : Sr) (hx : a.eval x = .slice (some ⟨g, 0, none⟩) 1 c) (hr : Row w g 67 (scs p)) (hl : l.length ≤ 10000000) (hB : B ≤ w.heap.size)
    (h : ∀ v' w', kN.Own w' B v' (l ++ [p]) → w.grownBy w' v.ownBlock → (v'.ownBlock = v.ownBlock ∨ v'.ownBlock = some w.heap.size) → wpList Try.prog ops Q rest (a.put o.dst v') w') : wpList Try.prog ops Q (o :: rest) a w := by
  obtain ⟨i0, hi, hz0, hz1, hz2⟩ := info_parts kN.info
  refine wpList_append_own_at w hw s x 29 ho B 67 i0 (.agg (scs zeroS).toArray) 45 80 Try.underlying29 hi hz0 hz1 hz2 (by simp [Value.cells, scs_len]) (by decide) v l.length (kN.cs l) hs hown ⟨g, 0, none⟩ 1 c (scs p) hx (by rw [scs_len]) (fun j u hu => ?_) (scs_one p) (by unfold maxLen; omega) (by omega) hB (fun v' w' h1 h2 _ h4 => h v' w' ?_ h2 h4)
  · rw [Addr.add_mid, Nat.zero_add]
    rw [hr.cell]; exact hu
  · unfold Kd.Own
    rw [kN.cs_append, List.length_append, show kN.cs [p] = scs p by simp [Kd.cs, kN]]
    exact h1
theorem own_lt {w : World} {B : Nat} {v : Value} {L : List Sr} (h : kN.Own w B v L) {b : Nat} (e : v.ownBlock = some b) : B ≤ b ∧ b < w.heap.size := by
  rcases h.2 with ⟨e2, _⟩ | ⟨g', cap, cur, e2, hB, hh, _⟩
  · rw [e2] at e; cases e
  · rw [e2] at e
    have e3 : g' = b := by simpa [Value.ownBlock] using e
    have := (Array.getElem?_eq_some_iff.1 hh).1
    omega
/-- Two rows of the call's own that lie apart. -/
structure TwoT (B : Nat) (w : World) (v u : Value) (L G : List Sr) : Prop where
  l : kN.Own w B v L
  g : kN.Own w B u G
  ne : v.ownBlock = none ∨ v.ownBlock ≠ u.ownBlock
theorem TwoT.below {B : Nat} {w w' : World} {v u : Value} {L G : List Sr} (h : TwoT B w v u L G) (hb : Below w.heap.size w w') : TwoT B w' v u L G :=
  ⟨own_below h.l hb, own_below h.g hb, h.ne⟩
theorem TwoT.turn {B : Nat} {w w' : World} {v u : Value} {L G : List Sr} {t mb : Nat} {most : Int} {L1 : List Sr} (h : TwoT B w v u L G) (hm : Tb w t mb most L1) (hg : w.grownBy w' (some mb)) : TwoT B w' v u L G :=
  ⟨own_map hm.map hg h.l, own_map hm.map hg h.g, h.ne⟩
theorem TwoT.left {B : Nat} {w w' : World} {v u v' : Value} {L G L' : List Sr} (h : TwoT B w v u L G) (ho : kN.Own w' B v' L') (hg : w.grownBy w' v.ownBlock) (hv : v'.ownBlock = v.ownBlock ∨ v'.ownBlock = some w.heap.size) : TwoT B w' v' u L' G := by
  refine ⟨ho, World.ownsRow.kept h.g hg ?_, ?_⟩
  · cases hu : u.ownBlock with
    | none => exact .inl rfl
    | some b =>
      right
      intro e
      rcases h.ne with h1 | h1
      · rw [h1] at e; cases e
      · exact h1 (by rw [hu]; exact e.symm)
  · rcases hv with hv | hv
    · rw [hv]; exact h.ne
    · right
      rw [hv]
      intro e
      have := (own_lt h.g e.symm).2
      omega
theorem TwoT.right {B : Nat} {w w' : World} {v u u' : Value} {L G G' : List Sr} (h : TwoT B w v u L G) (ho : kN.Own w' B u' G') (hg : w.grownBy w' u.ownBlock) (hv : u'.ownBlock = u.ownBlock ∨ u'.ownBlock = some w.heap.size) : TwoT B w' v u' L G' := by
  have hne : v.ownBlock = none ∨ u.ownBlock ≠ v.ownBlock := h.ne.imp id Ne.symm
  refine ⟨World.ownsRow.kept h.l hg ?_, ho, ?_⟩
  · cases hu : v.ownBlock with
    | none => exact .inl rfl
    | some b =>
      right
      intro e
      rcases hne with h1 | h1
      · rw [hu] at h1; cases h1
      · exact h1 (by rw [hu]; exact e.symm)
  · rcases hv with hv | hv
    · rw [hv]; exact h.ne
    · cases hb : v.ownBlock with
      | none => exact .inl rfl
      | some b =>
        right
        rw [hv]
        intro e
        have := (own_lt h.l hb).2
        injection e with e
        omega
/-! ### Tick in plain words -/
def lateB (now : Int) (n : Sr) : Bool := decide (n.t ≤ now)
def moreB (n : Sr) : Bool := !decide (n.m = 4)
def tickS (now : Int) (L : List Sr) (n : Sr) : List Sr := if n.m = 4 then delN L n.p n.id else putN L (sentR n now)
def tickR (now : Int) (L K : List Sr) : List Sr := K.foldl (tickS now) L
def againR (now : Int) (K : List Sr) : List Sr := (K.filter moreB).map fun n => sentR n now
def goneR (K : List Sr) : List Sr := K.filter fun n => decide (n.m = 4)
theorem tickR_take {now : Int} {L K : List Sr} {j : Nat} (hj : j < K.length) : tickR now L (K.take (j + 1)) = tickS now (tickR now L (K.take j)) K[j] := by
  unfold tickR
  rw [List.take_succ_eq_append_getElem hj, List.foldl_append]
  rfl
theorem againR_take {now : Int} {K : List Sr} {j : Nat} (hj : j < K.length) : againR now (K.take (j + 1)) = if K[j].m = 4 then againR now (K.take j) else againR now (K.take j) ++ [sentR K[j] now] := by
  unfold againR
  rw [List.take_succ_eq_append_getElem hj, List.filter_append, List.map_append]
  by_cases h : K[j].m = 4
  · rw [if_pos h]; simp [List.filter_cons, moreB, h]
  · rw [if_neg h]; simp [List.filter_cons, moreB, h]
theorem goneR_take {K : List Sr} {j : Nat} (hj : j < K.length) : goneR (K.take (j + 1)) = if K[j].m = 4 then goneR (K.take j) ++ [K[j]] else goneR (K.take j) := by
  unfold goneR
  rw [List.take_succ_eq_append_getElem hj, List.filter_append]
  by_cases h : K[j].m = 4
  · rw [if_pos h]; simp [List.filter_cons, h]
  · rw [if_neg h]; simp [List.filter_cons, h]
theorem againR_len (now : Int) (K : List Sr) : (againR now K).length ≤ K.length := by
  unfold againR
  rw [List.length_map]
  exact List.length_filter_le _ _
theorem goneR_len (K : List Sr) : (goneR K).length ≤ K.length := List.length_filter_le _ _
theorem tickS_le (now : Int) (L : List Sr) (n : Sr) : (tickS now L n).length ≤ L.length + 1 := by
  unfold tickS
  split
  · exact Nat.le_trans delN_le (Nat.le_succ _)
  · exact putN_le
theorem tickR_le (now : Int) : ∀ (K L : List Sr), (tickR now L K).length ≤ L.length + K.length
  | [], L => Nat.le_refl _
  | n :: K, L => by
    have h1 := tickR_le now K (tickS now L n)
    have h2 := tickS_le now L n
    show (tickR now (tickS now L n) K).length ≤ _
    simp only [List.length_cons]
    omega
theorem sentR_ok {n : Sr} {now : Int} (h : n.ok) (hm : n.m ≠ 4) (t0 : 0 ≤ now) (t1 : now ≤ 562949953421312) : (sentR n now).ok := by
  have h0 := h.m0
  have h1 := h.m1
  have e : n.m = 0 ∨ n.m = 1 ∨ n.m = 2 ∨ n.m = 3 := by omega
  refine ⟨h.s0, h.s1, by show 0 ≤ n.m + 1; omega, by show n.m + 1 ≤ 4; omega, ?_, ?_⟩
  · show 0 ≤ now + 2000 * 2 ^ n.m.toNat
    rcases e with e | e | e | e <;> rw [e] <;> simp <;> omega
  · show now + 2000 * 2 ^ n.m.toNat ≤ 1125899906842624
    rcases e with e | e | e | e <;> rw [e] <;> simp <;> omega
/-- What the loop of Tick holds. -/
structure TkI (w w1 : World) (t mb : Nat) (most now : Int) (B : Nat) (vK v u : Value) (K C E G : List Sr) (wr : World) : Prop where
  nw : Row wr w.heap.size 3 [.int .i64 now]
  tn : Turn w wr t mb most C
  ow : kN.Own wr B vK K
  tw : TwoT w1.heap.size wr v u E G
  sz : w1.heap.size ≤ wr.heap.size
theorem TkI.below {w w1 : World} {t mb : Nat} {most now : Int} {B : Nat} {vK v u : Value} {K C E G : List Sr} {wr W : World} (h : TkI w w1 t mb most now B vK v u K C E G wr) (hb : Below wr.heap.size wr W) : TkI w w1 t mb most now B vK v u K C E G W :=
  ⟨h.nw.below hb h.nw.lt, h.tn.post hb, own_below h.ow hb, h.tw.below hb, Nat.le_trans h.sz hb.size⟩
theorem TkI.turn {w w1 : World} {t mb : Nat} {most now : Int} {B : Nat} {vK v u : Value} {K C C' E G : List Sr} {wr W : World} (h : TkI w w1 t mb most now B vK v u K C E G wr) (ht : Turn wr W t mb most C') (hm : mb < w.heap.size) : TkI w w1 t mb most now B vK v u K C' E G W :=
  ⟨h.nw.keep ht.gr (by omega), h.tn.trans ht, own_map h.tn.tb.map ht.gr h.ow, h.tw.turn h.tn.tb ht.gr, Nat.le_trans h.sz ht.gr.size⟩
theorem TkI.left {w w1 : World} {t mb : Nat} {most now : Int} {B g n c : Nat} {v u v' : Value} {K C E E' G : List Sr} {wr W : World} (h : TkI w w1 t mb most now B (.slice (some ⟨g, 0, none⟩) n c) v u K C E G wr) (hg : g < w1.heap.size) (hb : w.heap.size < w1.heap.size) (ht : t < w.heap.size) (hm : mb < w.heap.size) (ho : kN.Own W w1.heap.size v' E') (hgr : wr.grownBy W v.ownBlock) (hv : v'.ownBlock = v.ownBlock ∨ v'.ownBlock = some wr.heap.size) : TkI w w1 t mb most now B (.slice (some ⟨g, 0, none⟩) n c) v' u K C E' G W :=
  ⟨h.nw.keepO hgr (own_ne_lt h.tw.l hb), h.tn.grow hgr (fun b e => Nat.le_of_not_lt fun hh => own_ne_lt h.tw.l (Nat.lt_trans hh hb) e) ht hm, own_two h.ow hgr (own_ne_lt h.tw.l hg), h.tw.left ho hgr hv, Nat.le_trans h.sz hgr.size⟩
theorem TkI.right {w w1 : World} {t mb : Nat} {most now : Int} {B g n c : Nat} {v u u' : Value} {K C E G G' : List Sr} {wr W : World} (h : TkI w w1 t mb most now B (.slice (some ⟨g, 0, none⟩) n c) v u K C E G wr) (hg : g < w1.heap.size) (hb : w.heap.size < w1.heap.size) (ht : t < w.heap.size) (hm : mb < w.heap.size) (ho : kN.Own W w1.heap.size u' G') (hgr : wr.grownBy W u.ownBlock) (hv : u'.ownBlock = u.ownBlock ∨ u'.ownBlock = some wr.heap.size) : TkI w w1 t mb most now B (.slice (some ⟨g, 0, none⟩) n c) v u' K C E G' W :=
  ⟨h.nw.keepO hgr (own_ne_lt h.tw.g hb), h.tn.grow hgr (fun b e => Nat.le_of_not_lt fun hh => own_ne_lt h.tw.g (Nat.lt_trans hh hb) e) ht hm, own_two h.ow hgr (own_ne_lt h.tw.g hg), h.tw.right ho hgr hv, Nat.le_trans h.sz hgr.size⟩
theorem tickC_any (n : Sr) (now : Int) (g : Nat) (w : World) (hr : Row w g 3 [.int .i64 now]) : Calls Try.prog 39 #[sV n, .pointer (some ⟨g, 0, none⟩)] w (Gives w (.bool (lateB now n))) := by
  have c0 := ((Row.new w 67 (scs n)).cell 44).trans (sc44 n)
  have c1 := (hr.alloc (.cells (scs n).toArray 67)).cell 0
  clear hr
  unfold lateB
  go_enter Try.func39, Try.ntmps39
  go_wp2_with fail
  go_ret
  exact ⟨rfl, ba _ _⟩
theorem where_nil (fv : Value) (w : World) : Calls Try.prog 37 #[.pointer none, fv] w fun e w' => e = .returned (.slice none 0 0) ∧ w = w' := by
  go_enter Try.func37, Try.ntmps37
  go_wp2
  go_ret
  exact ⟨rfl, rfl⟩
theorem listC_any (n : Sr) (w : World) : Calls Try.prog 40 #[sV n] w (Gives w (.bool true)) := by
  go_enter Try.func40, Try.ntmps40
  go_wp2
  go_ret
  exact ⟨rfl, ba _ _⟩
theorem list_nil (w : World) : Calls Try.prog 25 #[.pointer none] w fun e w' => e = .returned (.slice none 0 0) ∧ w = w' := by
  go_enter Try.func25, Try.ntmps25
  go_wp2_with (go_at_call 37; refine (where_nil _ _).mono ?_; rintro e w1 ⟨rfl, rfl⟩)
  go_ret
  exact ⟨rfl, rfl⟩
theorem tick_nil (now : Int) (w : World) : Calls Try.prog 20 #[.pointer none, .int .i64 now] w (Gives w (.tuple #[.slice none 0 0, .slice none 0 0])) := by
  have hmf : ∀ (fn : Fn) (first cap : Array Value) (w : World), (Instr.makeFunc fn first cap).run Try.prog w = .ok (.func fn first cap) w := fun _ _ _ _ => rfl
  have hlen : ∀ (ty : TypeId) (w : World), (Builtin.len_ #[29] ty #[.slice none 0 0]).run Try.prog w = .ok (.int .i64 0) w := fun _ _ => by kernel_rfl
  have b0 := ba w (.cells #[.int .i64 now] 3)
  go_enter Try.func20, Try.ntmps20
  go_wp2_with (go_at_call 37; refine (where_nil _ _).mono ?_; rintro e w1 ⟨rfl, rfl⟩)
  go_loopw [4, 5, 12] (fun v u z wr => v = .slice none 0 0 ∧ u = .slice none 0 0 ∧ z = .int .i64 0 ∧ Below w.heap.size w wr) (fun _ _ _ _ => 0)
  case atStart => exact ⟨rfl, rfl, rfl, b0⟩
  case round =>
    obtain ⟨rfl, rfl, rfl, hb⟩ := hrel
    go_wp2_with fail
    go_ret2
    exact ⟨rfl, hb⟩
end Go.Proofs.Ytbjclphgabpgoaa
