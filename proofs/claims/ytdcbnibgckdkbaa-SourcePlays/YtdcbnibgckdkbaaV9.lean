/-
  Tick: the sources whose hold is over are taken away.
-/
import Derived.Test.YtdcbnibgckdkbaaV8
namespace Go.Proofs.Ytdcbnibgckdkbaa
open Go.RowKit Go.Maps Go.Shelf
set_option linter.unusedSimpArgs false
set_option linter.unusedVariables false
set_option maxRecDepth 20000
section
variable {ops : Array Oper} {rest : List Oper} {op : Oper} {a : Act} {w w' : World} {Q : Exit → Act → World → Prop} {K : Act → World → Prop} {E : Prop} {S : World → Prop}
theorem sDel {T U : TypeId} (m k : Operand) {mv kv : Value} (hw : Region.wanted op (yielded ops a.tmps) = true) (ho : op.op = .call { callee := .builtin .delete, args := #[m, k], argTypes := #[T, U] }) (hm : a.eval m = mv) (hk : a.eval k = kv)
    (hr : (Builtin.delete_ #[T, U] op.type #[mv, kv]).run Try.prog w = .ok (.tuple #[]) w') (h : K (a.put op.dst (.tuple #[])) w') : if Region.wanted op (yielded ops a.tmps) = true then Oper.wp Try.prog op a w K Q else E := by
  rw [if_pos hw]
  unfold Oper.wp
  simp [execOp, ho, resolve, invoke, builtin, hm, hk, hr, Result.andThen]
  exact h
end
theorem delN_mid {A D : List Sr} {n n' : Sr} (hn : keyB n'.p n'.id n = true) (hA : ∀ x ∈ A, keyB n'.p n'.id x = false) (hD : ∀ x ∈ D, keyB n'.p n'.id x = false) : delN (A ++ n :: D) n'.p n'.id = A ++ D := by
  unfold delN
  rw [List.filter_append, List.filter_cons_of_neg (by simp [hn])]
  rw [List.filter_eq_self.2 (fun x hx => by simp [hA x hx]), List.filter_eq_self.2 (fun x hx => by simp [hD x hx])]
theorem own_map {w w' : World} {mb B : Nat} {L : List Sr} {v : Value} {G : List Sr} (hm : Mp w mb L) (hg : w.grownBy w' (some mb)) (ho : kN.Own w B v G) : kN.Own w' B v G := by
  refine World.ownsRow.kept ho hg ?_
  rcases ho.2 with ⟨rfl, _⟩ | ⟨g, cap, cur, rfl, _, hh, _⟩
  · exact .inl rfl
  · refine .inr fun e => ?_
    obtain ⟨es, cl, h2⟩ := hm.obj
    have e' : g = mb := by simpa [Value.ownBlock] using e
    rw [e', h2] at hh
    cases hh
/-- What a map's reading leads to. -/
structure MpD (D : DataW Value) (L : List Sr) : Prop where
  sz : size D = L.length
  hs : ∀ l : Lit, has D l = true ↔ ∃ n ∈ L, kl n.p n.id = l
  at_ : ∀ n ∈ L, ∀ z, D.atKey (kl n.p n.id) z = .held (.agg (scs n).toArray)
theorem Mp.of {w : World} {mb n : Nat} {D : DataW Value} {L : List Sr} (h : w.ownsMap Try.prog 74 elV mb n D) (d : MpD D L) (nd : (L.map keyN).Nodup) (wf : ∀ n ∈ L, wfQ n.p) : Mp w mb L :=
  ⟨nd, wf, D, by rw [← d.sz]; exact tight h, d.sz, d.hs, d.at_⟩
theorem MpD.del {w : World} {mb n : Nat} {D : DataW Value} {L : List Sr} (h1 : w.ownsMap Try.prog 74 elV mb n D) (d : MpD D L) (nd : (L.map keyN).Nodup) (wf : ∀ n ∈ L, wfQ n.p) {p : Pr} (i : Id8) (hi : wfQ p) : MpD (D.del (kl p i)) (delN L p i) := by
  obtain ⟨h2, h3, h4⟩ := d
  have ti := h1.tidy keyLaw
  have hh : has D (kl p i) = L.any (keyB p i) := by
    rw [Bool.eq_iff_iff, h3, List.any_eq_true]
    constructor
    · rintro ⟨m, hm, e⟩
      exact ⟨m, hm, keyB_iff.2 (kl_inj (wf m hm) hi e)⟩
    · rintro ⟨m, hm, e⟩
      obtain ⟨e1, e2⟩ := keyB_iff.1 e
      exact ⟨m, hm, by rw [e1, e2]⟩
  have hsz : size (D.del (kl p i)) = (delN L p i).length := by
    have a1 := size_del (k := kl p i) ti
    have a2 := delN_len p i nd
    rw [hh, h2] at a1
    omega
  have hm' : ∀ {x : Sr}, x ∈ delN L p i ↔ x ∈ L ∧ keyB p i x = false := by
    intro x
    unfold delN
    rw [List.mem_filter]
    simp
  refine ⟨hsz, ?_, ?_⟩
  · intro l
    by_cases e : l = kl p i
    · subst e
      rw [has_del_same]
      refine ⟨fun h => (by cases h), ?_⟩
      rintro ⟨m, hm, e⟩
      have := (hm'.1 hm).2
      rw [keyB_iff.2 (kl_inj (wf m (hm'.1 hm).1) hi e)] at this
      cases this
    · rw [has_del_other e, h3]
      constructor
      · rintro ⟨m, hm, rfl⟩
        refine ⟨m, hm'.2 ⟨hm, ?_⟩, rfl⟩
        cases hb : keyB p i m
        · rfl
        · obtain ⟨e1, e2⟩ := keyB_iff.1 hb
          exact absurd (by rw [e1, e2]) e
      · rintro ⟨m, hm, rfl⟩
        exact ⟨m, (hm'.1 hm).1, rfl⟩
  · intro m hm z
    obtain ⟨hm1, hb⟩ := hm'.1 hm
    rw [atKey_del_other]
    · exact h4 m hm1 z
    · intro e
      rw [keyB_iff.2 (kl_inj (wf m hm1) hi e)] at hb
      cases hb
theorem Mp.d {w : World} {mb : Nat} {L : List Sr} (h : Mp w mb L) : ∃ D : DataW Value, w.ownsMap Try.prog 74 elV mb L.length D ∧ MpD D L := by
  obtain ⟨D, h1, h2, h3, h4⟩ := h.ex
  exact ⟨D, h1, h2, h3, h4⟩
theorem MpD.perm {D : DataW Value} {L L' : List Sr} (h : MpD D L) (hp : L'.Perm L) : MpD D L' :=
  ⟨by rw [hp.length_eq]; exact h.sz, fun l => by rw [h.hs]; exact ⟨fun ⟨n, hn, e⟩ => ⟨n, hp.mem_iff.2 hn, e⟩, fun ⟨n, hn, e⟩ => ⟨n, hp.mem_iff.1 hn, e⟩⟩, fun n hn => h.at_ n (hp.mem_iff.1 hn)⟩
/-- Who has come up, who is left to come, and who is still there. -/
structure DfI (L : List Sr) (q : Sr → Bool) (D : DataW Value) (left : Lit → Bool) (ss rs : List Sr) : Prop where
  pm : (ss ++ rs).Perm L
  lf : ∀ l, left l = true ↔ ∃ n ∈ rs, kl n.p n.id = l
  md : MpD D (ss.filter q ++ rs)
theorem DfI.step {L : List Sr} {q : Sr → Bool} {D : DataW Value} {left : Lit → Bool} {ss rs : List Sr} (h : DfI L q D left ss rs) (hw : ∀ n ∈ L, wfQ n.p) (hd : (L.map keyN).Nodup) {l : Lit} (hl : left l = true) :
    ∃ n rs', n ∈ L ∧ kl n.p n.id = l ∧ (∀ z, D.atKey l z = .held (sV n)) ∧ (q n = true → DfI L q D (fun z => left z && !z.sameKey l) (ss ++ [n]) rs') ∧
      (q n = false → ∀ (w : World) (mb k : Nat), w.ownsMap Try.prog 74 elV mb k D → DfI L q (D.del l) (fun z => (left z && !z.sameKey l) && !z.sameKey l) (ss ++ [n]) rs') := by
  obtain ⟨n, hn, rfl⟩ := (h.lf l).1 hl
  obtain ⟨r1, r2, rfl⟩ := List.append_of_mem hn
  have hL : ∀ m, m ∈ ss ++ (r1 ++ n :: r2) ↔ m ∈ L := fun m => h.pm.mem_iff
  have hnL : n ∈ L := (hL n).1 (by simp)
  have hnd : ((ss ++ (r1 ++ n :: r2)).map keyN).Nodup := (h.pm.map _).nodup_iff.2 hd
  have hp : ((ss ++ [n]) ++ (r1 ++ r2)).Perm L := by
    refine List.Perm.trans ?_ h.pm
    rw [List.append_assoc]
    exact List.Perm.append_left ss (by simpa using (List.perm_middle (a := n) (l₁ := r1) (l₂ := r2)).symm)
  have hsplit : ∀ m ∈ ss ++ (r1 ++ r2), keyN m ≠ keyN n := by
    have h1 : ((n :: (ss ++ (r1 ++ r2))).map keyN).Nodup := by
      refine (List.Perm.nodup_iff (List.Perm.map keyN ?_)).1 hnd
      have : (ss ++ r1 ++ n :: r2).Perm (n :: (ss ++ r1 ++ r2)) := List.perm_middle
      simpa [List.append_assoc] using this
    rw [List.map_cons, List.nodup_cons] at h1
    intro m hm e
    exact h1.1 (e ▸ List.mem_map_of_mem hm)
  have hne : ∀ m ∈ r1 ++ r2, kl m.p m.id ≠ kl n.p n.id := fun m hm e => by
    have hmL : m ∈ L := (hL m).1 (by simp at hm ⊢; rcases hm with h | h <;> simp [h])
    obtain ⟨e1, e2⟩ := kl_inj (hw m hmL) (hw n hnL) e
    exact hsplit m (List.mem_append_right _ hm) (by unfold keyN; rw [e1, e2])
  have hleft : ∀ z, (left z && !z.sameKey (kl n.p n.id)) = true ↔ ∃ m ∈ r1 ++ r2, kl m.p m.id = z := by
    intro z
    rw [Bool.and_eq_true, h.lf]
    constructor
    · rintro ⟨⟨m, hm, rfl⟩, hs⟩
      refine ⟨m, ?_, rfl⟩
      rcases List.mem_append.1 hm with h | h
      · exact List.mem_append_left _ h
      · rcases List.mem_cons.1 h with rfl | h
        · rw [WideAt.sameKey_self (kl_key _ (hw m hnL))] at hs
          cases hs
        · exact List.mem_append_right _ h
    · rintro ⟨m, hm, rfl⟩
      refine ⟨⟨m, ?_, rfl⟩, ?_⟩
      · rcases List.mem_append.1 hm with h | h
        · exact List.mem_append_left _ h
        · exact List.mem_append_right _ (List.mem_cons_of_mem _ h)
      · rw [sameKey_ne (hne m hm)]; rfl
  refine ⟨n, r1 ++ r2, hnL, rfl, h.md.at_ n (by simp), fun hq => ⟨hp, hleft, h.md.perm ?_⟩, fun hq w mb k ho => ⟨hp, fun z => ?_, ?_⟩⟩
  · rw [List.filter_append]
    simp only [List.filter_cons, hq, if_true, List.filter_nil]
    rw [List.append_assoc]
    exact List.Perm.append_left _ (by simpa using (List.perm_middle (a := n) (l₁ := r1) (l₂ := r2)).symm)
  · rw [Bool.and_eq_true, hleft]
    constructor
    · exact fun h => h.1
    · rintro ⟨m, hm, rfl⟩
      exact ⟨⟨m, hm, rfl⟩, by rw [sameKey_ne (hne m hm)]; rfl⟩
  · have hsub : ((ss.filter q ++ (r1 ++ n :: r2)).map keyN).Nodup := List.Nodup.sublist (List.Sublist.map _ (List.Sublist.append_right List.filter_sublist _)) hnd
    have hwf : ∀ m ∈ ss.filter q ++ (r1 ++ n :: r2), wfQ m.p := fun m hm => hw m ((hL m).1 (by
      rcases List.mem_append.1 hm with h | h
      · exact List.mem_append_left _ (List.mem_filter.1 h).1
      · exact List.mem_append_right _ h))
    have hdel := MpD.del ho h.md hsub hwf n.id (hw n hnL)
    have e1 : delN (ss.filter q ++ (r1 ++ n :: r2)) n.p n.id = (ss.filter q ++ r1) ++ r2 := by
      rw [← List.append_assoc]
      refine delN_mid (n := n) (n' := n) (keyB_iff.2 ⟨rfl, rfl⟩) (fun x hx => ?_) (fun x hx => ?_)
      · cases hb : keyB n.p n.id x
        · rfl
        · exact absurd (keyN_iff.2 hb) (hsplit x (by
            rcases List.mem_append.1 hx with h | h
            · exact List.mem_append_left _ (List.mem_filter.1 h).1
            · exact List.mem_append_right _ (List.mem_append_left _ h)))
      · cases hb : keyB n.p n.id x
        · rfl
        · exact absurd (keyN_iff.2 hb) (hsplit x (List.mem_append_right _ (List.mem_append_right _ hx)))
    rw [e1] at hdel
    have e2 : (ss ++ [n]).filter q ++ (r1 ++ r2) = (ss.filter q ++ r1) ++ r2 := by
      rw [List.filter_append]
      simp [List.filter_cons, hq]
    rw [e2]
    exact hdel
theorem DfI.done {L : List Sr} {q : Sr → Bool} {D : DataW Value} {left : Lit → Bool} {ss rs : List Sr} (h : DfI L q D left ss rs) (hl : ∀ l, left l = false) : rs = [] := by
  cases rs with
  | nil => rfl
  | cons n r =>
    have := (h.lf (kl n.p n.id)).2 ⟨n, by simp, rfl⟩
    rw [hl] at this
    cases this
theorem own_map' {w w' : World} {mb r n B cnt : Nat} {D : DataW Value} {left : Lit → Bool} {v : Value} {G : List Sr} (hm : w.ranges Try.prog 74 elV mb r n D left cnt) (hg : w.grownBy w' (some mb)) (ho : kN.Own w B v G) : kN.Own w' B v G := by
  refine World.ownsRow.kept ho hg ?_
  rcases ho.2 with ⟨rfl, _⟩ | ⟨g, cap, cur, rfl, _, hh, _⟩
  · exact .inl rfl
  · refine .inr fun e => ?_
    obtain ⟨es, cl, h2, _⟩ := hm.owns
    have e' : g = mb := by simpa [Value.ownBlock] using e
    rw [e', h2] at hh
    cases hh
/-- Its hold is over. -/
def overB (now : Int) (n : Sr) : Bool := decide (n.t + 180000 ≤ now)
theorem tick_nil (now : Int) (w : World) : Calls Try.prog 15 #[.pointer none, .int .i64 now] w fun e w' => e = .returned (.slice none 0 0) ∧ w = w' := by
  go_enter Try.func15, Try.ntmps15
  go_wp2
  go_ret
  exact ⟨rfl, rfl⟩
set_option maxHeartbeats 16000000 in
theorem tick_any {w : World} {t mb : Nat} {most : Int} {L : List Sr} (h : Tb w t mb most L) (now : Int) :
    Calls Try.prog 15 #[.pointer (some ⟨t, 0, none⟩), .int .i64 now] w fun e w' => ∃ r K, e = .returned r ∧ K.Perm (L.filter (overB now)) ∧ Asc K ∧ Turn w w' t mb most (L.filter (fun n => !overB now n)) ∧ kN.Own w' w.heap.size r K := by
  obtain ⟨D, hown, hmd⟩ := h.map.d
  have hwf := h.map.wf
  have hnd := h.map.nd
  have hmb := h.map.lt
  have hok := h.nok
  have hll := h.ll
  have HTL : t < w.heap.size := h.row.lt
  have c2 : w.cell? ⟨t, 1, none⟩ = some (.map (some mb)) := h.row.cell 1
  have HT : Hid (Tb w t mb most L) := h
  have HC : Hid (∀ W, w.grownBy W (some mb) → W.cell? ⟨t, 1, none⟩ = some (.map (some mb))) := fun W hW => (h.row.keep hW (h.map.ne_row h.row)).cell 1
  clear h
  go_enter Try.func15, Try.ntmps15
  go_wp2_with (first
    | (at_range; refine wpList_range_own _ rfl _ 64 rfl 74 53 keyLaw Try.underlying64 elV mb L.length D rfl hown ?_; intro w0 hrg0 hg0 hs0))
  go_frame
  go_loopw [5] (fun v wr => ∃ (D' : DataW Value) (left : Lit → Bool) (cnt : Nat) (ss rs : List Sr) (ga : Option Addr) (gl gc : Nat), v = .slice ga gl gc ∧ wr.ranges Try.prog 74 elV mb w.heap.size L.length D' left cnt ∧ DfI L (fun n => !overB now n) D' left ss rs ∧ w.grownBy wr (some mb) ∧ kN.Own wr (w.heap.size + 1) (.slice ga gl gc) (ss.filter (overB now)))
    (fun _ wr => wr.rangeLeft mb w.heap.size)
  case atStart => exact ⟨D, _, _, [], L, none, 0, 0, rfl, hrg0, ⟨by simp, hmd.hs, by simpa using hmd⟩, hg0.but _, World.ownsRow_nil _ _ _ _⟩
  case round =>
    clear hrg0 hg0 hown hmd c2
    obtain ⟨D', left, cnt, ss, rs, ga, gl, gc, rfl, hrg, hI, hgw, hO⟩ := hrel
    have hsz1 : w.heap.size + 1 ≤ wr.heap.size := hrg.lt
    go_wp2_with (first
      | (at_next; refine wpList_next_ranges _ rfl _ rfl 74 keyLaw elV id id (fun key _ _ => ⟨key, rfl⟩) (fun v _ _ => ⟨v, rfl⟩) mb w.heap.size L.length _ _ _ rfl hrg ?_ ?_))
    · intro _ hl0
      obtain rfl := hI.done hl0
      have hp : ss.Perm L := by have := hI.pm; rwa [List.append_nil] at this
      have hM : Mp wr mb (ss.filter (fun n => !overB now n)) := by
        refine Mp.of hrg.owns (by have := hI.md; rwa [List.append_nil] at this) ?_ ?_
        · exact List.Nodup.sublist (List.Sublist.map _ List.filter_sublist) ((hp.map _).nodup_iff.2 hnd)
        · intro n hn
          exact hwf n (hp.mem_iff.1 (List.mem_filter.1 hn).1)
      have hTb : Turn w wr t mb most (L.filter (fun n => !overB now n)) := by
        refine ⟨HT.out.turn (hM.perm (hp.filter _).symm) hgw (fun n hn => hok n (List.mem_filter.1 hn).1) ?_, hgw⟩
        have := List.length_filter_le (fun n => !overB now n) L
        omega
      have HP : Hid ((ss.filter (overB now)).Perm (L.filter (overB now))) := hp.filter _
      have hnd2 : ((ss.filter (overB now)).map keyN).Nodup := List.Nodup.sublist (List.Sublist.map _ List.filter_sublist) ((hp.map _).nodup_iff.2 hnd)
      have hlen : (ss.filter (overB now)).length ≤ 1000000 := by
        have := List.length_filter_le (overB now) ss
        have := hp.length_eq
        omega
      clear hI hM hrg hwf hnd hok hp HT HC
      generalize ss.filter (overB now) = G at *
      obtain ⟨ga', gc', e, _⟩ := Kd.own_at hO
      obtain ⟨rfl, rfl, rfl⟩ : ga = ga' ∧ gl = G.length ∧ gc = gc' := by cases e; exact ⟨rfl, rfl, rfl⟩
      clear e
      have hB0 : Below (w.heap.size + 1) wr wr := Below.refl _ _
      by_cases hx : G = []
      · subst hx
        have hS0 := fun (W : World) => sort_one ga 0 gc (.func (.func 34) #[] #[]) W (by omega)
        go_wp2_with (go_at_call 33; refine (hS0 _).mono ?_; rintro e w2 ⟨rfl, b2⟩)
        go_ret
        exact ⟨_, [], rfl, HP.out, List.Pairwise.nil, hTb.post b2, Kd.own_up (own_below hO b2) (by omega)⟩
      · have hS := sort_any G hO hx hlen hnd2
        go_wp2_with (go_at_call 33; refine hS.mono ?_; rintro e w2 ⟨rfl, K, hp2, ha, hO2, b2⟩)
        go_ret
        have hlk : K.length = G.length := hp2.length_eq
        have hmb1 : mb < w.heap.size + 1 := by omega
        have ht1 : t < w.heap.size + 1 := by omega
        refine ⟨_, K, rfl, hp2.trans HP.out, ha, ⟨⟨hTb.tb.row.below b2 ht1, hTb.tb.map.below b2 hmb1, hTb.tb.nok, hTb.tb.ll⟩, ?_⟩, Kd.own_up hO2 (by omega)⟩
        exact ⟨b2.os.trans hTb.gr.os, b2.tape.trans hTb.gr.tape, b2.output.trans hTb.gr.output, Nat.le_trans hTb.gr.size b2.size, fun i hi hne => (b2.block i (by omega)).trans (hTb.gr.block i hi hne)⟩
    · intro x c lk yd yp w1 cnt1 hkey hlk hv hat hrg1 hlt hg1 hs1 hen
      obtain ⟨n, rs', hnL, rfl, hatn, hk1, hk2⟩ := hI.step hwf hnd hlk
      have hx : x = kV n.p n.id := keyLaw.inj hkey (kl_of n.id (hwf n hnL))
      have hc : c = sV n := by
        have e := hat (.held (sV n))
        rw [hatn] at e
        have hv' : some (DataW.held c, ([] : List MemPlace)) = some (yd, yp) := hv
        cases hv'
        injection e with e
        exact e.symm
      subst hx hc
      have hgw1 : w.grownBy w1 (some mb) := hgw.andThen hg1 (fun j hj => by cases hj; exact Or.inl (Nat.le_refl _))
      have hO1 : kN.Own w1 (w.heap.size + 1) (.slice ga gl gc) (ss.filter (overB now)) := World.ownsRow.kept hO hg1 (.inr (own_ne_lt hO (by omega)))
      have hkn := kl_of n.id (hwf n hnL)
      have hE := fun W => end_any n W (hok n hnL)
      have hlen : Hid ((ss.filter (overB now)).length ≤ 10000000) := by
        have h1 := List.length_filter_le (overB now) ss
        have h2 := hI.pm.length_eq
        rw [List.length_append] at h2
        show _ ≤ _
        omega
      have hsz2 : w.heap.size + 1 ≤ w1.heap.size := hrg1.lt
      have HI1 : Hid ((!overB now n) = true → DfI L (fun n => !overB now n) D' (fun z => left z && !z.sameKey (kl n.p n.id)) (ss ++ [n]) rs') := hk1
      have HI2 : Hid ((!overB now n) = false → DfI L (fun n => !overB now n) (D'.del (kl n.p n.id)) (fun z => (left z && !z.sameKey (kl n.p n.id)) && !z.sameKey (kl n.p n.id)) (ss ++ [n]) rs') := fun hq => hk2 hq _ _ _ hrg1.owns
      have HCN : Hid (wr.rangeLeft mb w.heap.size = cnt) := hrg.left_eq
      have HLT : Hid (cnt1 < cnt) := hlt
      have HGo : Hid (∀ W, Below w1.heap.size w1 W → W.ranges Try.prog 74 elV mb w.heap.size L.length D' (fun z => left z && !z.sameKey (kl n.p n.id)) cnt1 ∧ w.grownBy W (some mb) ∧ kN.Own W (w.heap.size + 1) (.slice ga gl gc) (ss.filter (overB now))) := fun W hW => by
        have hg : w1.grownBy W none := ⟨hW.os, hW.tape, hW.output, hW.size, fun i hi _ => hW.block i hi⟩
        exact ⟨hrg1.kept hg (by simp) (by simp), grown_below2 hgw1 hW, own_below hO1 hW⟩
      have HW : Hid (∀ b, w1.heap.size ≤ b → (Value.slice ga gl gc).ownBlock ≠ some b) := fun b hb e => by
        rcases hO1.2 with ⟨e2, _⟩ | ⟨g', cap, cur, e2, _, hh, _⟩
        · rw [e2] at e; cases e
        · rw [e2] at e
          have e3 : g' = b := by simpa [Value.ownBlock] using e
          have := (Array.getElem?_eq_some_iff.1 hh).1
          omega
      clear hk1 hk2 hat hatn hv hkey hlk hI hg1 hs1 hwf hnd hok hrg hlt hrg1 hgw hgw1 hO hO1 HT
      by_cases hov : n.t + 180000 ≤ now
      · have hob : overB now n = true := decide_eq_true hov
        have hfl : Hid ((ss ++ [n]).filter (overB now) = ss.filter (overB now) ++ [n]) := by
          show _ = _
          rw [List.filter_append]
          simp [hob]
        replace HI2 : Hid (DfI L (fun n => !overB now n) (D'.del (kl n.p n.id)) (fun z => (left z && !z.sameKey (kl n.p n.id)) && !z.sameKey (kl n.p n.id)) (ss ++ [n]) rs') := HI2.out (by rw [hob]; rfl)
        clear HI1
        generalize ss.filter (overB now) = G at *
        go_upto_region 9 with (first
          | (have kk := r6; at_builtin; refine kN.append (.tmp 24) (.tmp 26) rfl rfl (w.heap.size + 1) (.slice ga gl gc) G rfl hO6 _ 1 n rfl r6 hlen.out hz6 ?_; intro v7 W7 o7 g7)
          | (have kk := b4; (with_reducible refine bsG (T := 28) (U := 53) (n := 1) [(0, .tmp 25)] (scs n) ?_ ?_ ?_ ?_); (focus rfl); (focus rfl); (focus exact (fun w => bsN1 n w)); intro W6 r6 b6; have q6 := q4.below b6 q4.lt; replace b5 := bt b5 b6; obtain ⟨hrg6, hgw6, hO6⟩ := HGo.out _ b5; have hz6 : w.heap.size + 1 ≤ W6.heap.size := (Nat.le_trans hsz2 b5.size); clear q5)
          | (have kk := b4; refine ldS (.tmp 7) rfl rfl _ _ n rfl q5.sr ?_)
          | (have kk := q5; go_at_call 32; refine (hE _).mono ?_; rintro e w4 ⟨rfl, b4⟩; replace b5 := bt b5 b4; replace q4 := q4.below b4 q4.lt; replace q5 := q5.below b4 q5.lt)
          | (have kk := q5; refine ldS (.tmp 7) rfl rfl _ _ n rfl q5.sr ?_)
          | (have kk := q4; refine stS (.tmp 7) (.tmp 19) rfl rfl g3 n _ rfl rfl r3 ?_; intro W5 g5 q5; replace b5 := grown_below g5 b5 hge3' b5.size; replace q4 := q4.keep g5 hne43; clear r3)
          | (have kk := r3; refine stK (.tmp 6) (.tmp 18) rfl rfl g2 n.p n.id _ _ rfl rfl r2 ?_; intro W4 g4 q4; have b5 := grown_below g4 b3 hge2 b3.size; replace r3 := r3.keep g4 (Ne.symm hne43); clear r2)
          | (have kk := r2; refine alG infoSz rfl rfl ?_; intro g3 W3 hge3 hgl3 hB3 r3; replace r2 := r2.below hB3 hgl2; have b3 := bt hB2 hB3; have hge3' : w1.heap.size ≤ g3 := (Nat.le_trans hB2.size hge3); have hne43 : g2 ≠ g3 := (by omega))
          | (refine alG infoKz rfl rfl ?_; intro g2 W2 hge2 hgl2 hB2 r2))
        obtain ⟨a7, c7, rfl, _⟩ := Kd.own_at o7
        have hrg7 := hrg6.kept g7 (Ne.symm (own_ne_lt (g := mb) hO6 (by omega))) (Ne.symm (own_ne_lt (g := w.heap.size) hO6 (by omega)))
        have hgw7 : w.grownBy W7 (some mb) := ⟨g7.os.trans hgw6.os, g7.tape.trans hgw6.tape, g7.output.trans hgw6.output, Nat.le_trans hgw6.size g7.size, fun i hi hne => (g7.block i (Nat.lt_of_lt_of_le hi hgw6.size) (fun e => own_ne_lt hO6 (by omega) e.symm)).trans (hgw6.block i hi hne)⟩
        have q7 := q6.keepO g7 (HW.out g2 hge2)
        rw [← hfl.out] at o7 ⊢
        clear g7 hO6 hrg6 hgw6 q6 r6 kk HGo HW hE hfl
        obtain ⟨G7, hG7⟩ : ∃ G7, (ss ++ [n]).filter (overB now) = G7 := ⟨_, rfl⟩
        rw [hG7] at o7 ⊢
        have HG7 : Hid ((ss ++ [n]).filter (overB now) = G7) := hG7
        clear hG7
        generalize G7.length = gl7 at *
        refine wp_region_noPanic ?_
        refine wp_region_N (S := fun W => W.ranges Try.prog 74 elV mb w.heap.size L.length D' (fun z => left z && !z.sameKey (kl n.p n.id)) cnt1 ∧ w.grownBy W (some mb) ∧ kN.Own W (w.heap.size + 1) (.slice a7 gl7 c7) G7 ∧ Row W g2 74 (kcs n.p n.id)) 5 (by kernel_rfl) (⟨hrg7, grown_below2 hgw7 (Below.refl _ _).drew, own_below o7 (Below.refl _ _).drew, q7.drew⟩) (fun hHeld => ?_)
        refine takeN_lit (i := 0) (v := ?_) (F := #[false, false, false, false, true, false]) rfl (by kernel_rfl) (by kernel_rfl) (by kernel_rfl) (by kernel_rfl) (fun _ _ _ h => h) (Or.inl ⟨by rfl, ?_⟩) (by assumption) ?_
        rotate_left
        · (intro w hSw; (try dsimp only at hSw); go_simp <;> with_reducible rfl)
        try simp only [Act.put, List.setIfInBounds_toArray, List.set_cons_zero, List.set_cons_succ]
        refine takeN_lit (i := 1) (v := ?_) (F := #[true, false, false, false, true, false]) rfl (by kernel_rfl) (by kernel_rfl) (by kernel_rfl) (by kernel_rfl) (fun _ _ _ h => h) (Or.inl ⟨by rfl, ?_⟩) (by assumption) ?_
        rotate_left
        · (intro w hSw; (try dsimp only at hSw); go_simp <;> with_reducible rfl)
        try simp only [Act.put, List.setIfInBounds_toArray, List.set_cons_zero, List.set_cons_succ]
        refine takeN_lit (i := 2) (v := ?_) (F := #[true, true, false, false, true, false]) rfl (by kernel_rfl) (by kernel_rfl) (by kernel_rfl) (by kernel_rfl) (fun _ _ _ h => h) (Or.inl ⟨by rfl, ?_⟩) (by assumption) ?_
        rotate_left
        · (intro w hSw; (try dsimp only at hSw); go_simp <;> with_reducible rfl)
        try simp only [Act.put, List.setIfInBounds_toArray, List.set_cons_zero, List.set_cons_succ]
        refine takeN_lit (i := 3) (v := ?_) (F := #[true, true, true, false, true, false]) rfl (by kernel_rfl) (by kernel_rfl) (by kernel_rfl) (by kernel_rfl) (fun _ _ _ h => h) (Or.inl ⟨by rfl, ?_⟩) (by assumption) ?_
        rotate_left
        · (intro w hSw; (try dsimp only at hSw); have z := HC.out _ hSw.2.1; go_simp <;> with_reducible rfl)
        try simp only [Act.put, List.setIfInBounds_toArray, List.set_cons_zero, List.set_cons_succ]
        refine takeN_lit (i := 4) (F := #[true, true, true, true, false, false]) rfl (by kernel_rfl) (by kernel_rfl) (by kernel_rfl) (by kernel_rfl) (fun _ _ _ h => h) (yK n.p n.id (fun w h => h.2.2.2) (by rfl) rfl rfl) (by assumption) ?_
        try simp only [Act.put, List.setIfInBounds_toArray, List.set_cons_zero, List.set_cons_succ]
        refine wpAnyN_ready (rs := [5]) (by kernel_rfl) (by simp) ?_
        refine consN_lit rfl (fun K hK => ?_) ?_
        · skip
          obtain ⟨W9, cnt9, hrun, hrg9, hle, hturn⟩ := hHeld.1.drop keyLaw Try.underlying64 hkn _
          refine sDel (.tmp 31) (.tmp 32) (by rfl) rfl rfl rfl hrun ?_
          refine hK.out _ _ (Or.inl rfl) (fun _ => ?_)
          clear hK K
          try simp only [Act.put, List.setIfInBounds_toArray, List.set_cons_zero, List.set_cons_succ]
          refine wpAnyN_done (by kernel_rfl) ?_ _
          refine NoPanic.normal ?_
          have hgw9 := grownBy_trans hHeld.2.1 hturn.grown
          have o9 := own_map' hHeld.1 hturn.grown hHeld.2.2.1
          go_wp2_with fail
          go_roundw
          case rel => exact ⟨_, _, cnt9, ss ++ [n], rs', a7, gl7, c7, rfl, hrg9, HI2.out, hgw9, by rw [HG7.out]; exact o9⟩
          case measure => rw [hrg9.left_eq, HCN.out]; have := HLT.out; omega
        exact AllReadyN.nil
      · have hob : overB now n = false := decide_eq_false hov
        have hfl : Hid ((ss ++ [n]).filter (overB now) = ss.filter (overB now)) := by
          show _ = _
          rw [List.filter_append]
          simp [hob]
        replace HI1 : Hid (DfI L (fun n => !overB now n) D' (fun z => left z && !z.sameKey (kl n.p n.id)) (ss ++ [n]) rs') := HI1.out (by rw [hob]; rfl)
        clear HI2
        go_wp2_with (first
          | (have kk := q5; go_at_call 32; refine (hE _).mono ?_; rintro e w4 ⟨rfl, b4⟩; replace b5 := bt b5 b4; clear q5)
          | (have kk := q5; refine ldS (.tmp 7) rfl rfl _ _ n rfl q5.sr ?_)
          | (have kk := q4; refine stS (.tmp 7) (.tmp 19) rfl rfl g3 n _ rfl rfl r3 ?_; intro W5 g5 q5; replace b5 := grown_below g5 b5 hge3' b5.size; replace q4 := q4.keep g5 hne43; clear r3)
          | (have kk := r3; refine stK (.tmp 6) (.tmp 18) rfl rfl g2 n.p n.id _ _ rfl rfl r2 ?_; intro W4 g4 q4; have b5 := grown_below g4 b3 hge2 b3.size; replace r3 := r3.keep g4 (Ne.symm hne43); clear r2)
          | (have kk := r2; refine alG infoSz rfl rfl ?_; intro g3 W3 hge3 hgl3 hB3 r3; replace r2 := r2.below hB3 hgl2; have b3 := bt hB2 hB3; have hge3' : w1.heap.size ≤ g3 := (Nat.le_trans hB2.size hge3); have hne43 : g2 ≠ g3 := (by omega))
          | (refine alG infoKz rfl rfl ?_; intro g2 W2 hge2 hgl2 hB2 r2))
        obtain ⟨hrg6, hgw6, hO6⟩ := HGo.out _ b5
        go_roundw
        case rel => exact ⟨_, _, cnt1, ss ++ [n], rs', ga, gl, gc, rfl, hrg6, HI1.out, hgw6, by rw [hfl.out]; exact hO6⟩
        case measure => rw [hrg6.left_eq, HCN.out]; exact HLT.out
end Go.Proofs.Ytdcbnibgckdkbaa
