/-
  A set of pairs: a map of pairs to nothing; pairs in memory; what Forget looks for.
-/
import Derived.Test.YtbjclphgabpgoaaRC
import Derived.Maps.Views
namespace Go.Proofs.Ytbjclphgabpgoaa
open Go.RowKit Go.Maps
set_option linter.unusedSimpArgs false
set_option linter.unusedVariables false
set_option maxRecDepth 20000
theorem keyLawQ : Keyed Try.prog 38 := Keyed.of_law (deep_law_laid (m := 5) (by kernel_rfl) (by omega) (of_decide_eq_true (by kernel_rfl)) (by kernel_rfl) (by kernel_rfl))
def kq (p : Pr) : Lit := .string (keyBytes (qls p))
theorem kq_some (p : Pr) (hp : wfQ p) : keyOf Try.prog 38 (Value.agg (qcells p).toArray) = some (kq p) := by
  have kI : ∀ (d : Nat) (n : Int), wfI n → Try.prog.keyLits (d + 1) 3 [.int .i64 n] = some [.int .i64 n] := fun d n hn => by simp [Program.keyLits, Try.underlying3, show (Lit.int .i64 n).wf = true from hn]
  have k8 : ∀ d (b : UInt8), Try.prog.keyLits (d + 1) 5 [.int .u8 (b.toNat : Int)] = some [.int .u8 b.toNat] := fun d b => by simp [Program.keyLits, Try.underlying5, wf_u8]
  have c8 : Try.prog.cellsOf 5 = 1 := by kernel_rfl
  have cA : Try.prog.cellsOf 34 = 16 := by kernel_rfl
  have cP : Try.prog.cellsOf 36 = 17 := by kernel_rfl
  have cQ : Try.prog.cellsOf 38 = 34 := by kernel_rfl
  have cI : Try.prog.cellsOf 3 = 1 := by kernel_rfl
  have kt : Try.prog.keyType 38 = true := by kernel_rfl
  have sz : 5 ≤ Try.prog.types.size := of_decide_eq_true (by kernel_rfl)
  obtain ⟨d, hd⟩ : ∃ d, Try.prog.types.size + 1 = d + 4 := ⟨Try.prog.types.size - 3, by omega⟩
  have hA : ∀ (d : Nat) (c : Ad), Try.prog.keyLits (d + 2) 34 (acells c) = some (bls c.l) := fun d c => by
    obtain ⟨l, hl⟩ := c
    match l, hl with
    | [b0, b1, b2, b3, b4, b5, b6, b7, b8, b9, b10, b11, b12, b13, b14, b15], _ =>
      unfold Program.keyLits
      simp [Try.underlying34, acells, bcells, cA, c8, k8, List.range, List.range.loop, bls]
  have hP : ∀ (d : Nat) (c : Pf), wfI c.n → Try.prog.keyLits (d + 3) 36 (pcells c) = some (pls c) := fun d c hc => by
    unfold Program.keyLits
    simp [Try.underlying36, cP, cA, cI, pcells_len, pcells, acells_len, hA, kI _ _ hc, List.take_of_length_le, pls]
  unfold keyOf kq
  rw [Try.underlying38, hd]
  simp only [kt, Value.formed, Try.underlying38, cQ, Bool.true_and, Value.cells]
  unfold Program.keyLits
  simp [Try.underlying38, cP, cQ, qcells_len, qcells, pcells_len, hP _ _ hp.1, hP _ _ hp.2, List.take_of_length_le, qls]
theorem kq_inj {p q : Pr} (hp : wfQ p) (hq : wfQ q) (h : kq p = kq q) : p = q := by
  have e := keyLawQ.inj (kq_some p hp) (h ▸ kq_some q hq)
  exact qcells_inj (congrArg Array.toList (Value.agg.inj e))
theorem kq_key {p : Pr} (hp : wfQ p) : WideAt.IsKeyLit (kq p) := keyLawQ.key (kq_some p hp)
def eV : Value := .agg #[]
theorem infoEs : (Try.prog.info? 84).map (·.size) = some 0 := by kernel_rfl
theorem infoEz : (Try.prog.info? 84).map (·.zero) = some (some (.agg ([] : List Value).toArray)) := by kernel_rfl
theorem zeroEv (w : World) : (zeroValue 84).run Try.prog w = .ok eV w := by kernel_rfl
/-- The map leads from just these pairs to nothing. -/
structure Mq (w : World) (mb : Nat) (P : List Pr) : Prop where
  wf : ∀ p ∈ P, wfQ p
  ex : ∃ D : DataW Value, w.ownsMap Try.prog 38 elV mb (size D) D ∧ size D ≤ P.length ∧ (∀ l : Lit, has D l = true ↔ ∃ p ∈ P, kq p = l) ∧ ∀ p ∈ P, ∀ z, D.atKey (kq p) z = .held eV
theorem tightQ {w : World} {b n : Nat} {D : DataW Value} (h : w.ownsMap Try.prog 38 elV b n D) : w.ownsMap Try.prog 38 elV b (size D) D := by
  obtain ⟨es, clock, hb, F, hs, rfl⟩ := h
  exact ⟨es, clock, hb, F, by simp [size, length_sorted], rfl⟩
theorem Mq.obj {w : World} {mb : Nat} {P : List Pr} (h : Mq w mb P) : ∃ es cl, w.heap[mb]? = some (.map es cl) := by
  obtain ⟨D, ⟨es, clock, hb, _⟩, _⟩ := h.ex
  exact ⟨es, clock, hb⟩
theorem Mq.lt {w : World} {mb : Nat} {P : List Pr} (h : Mq w mb P) : mb < w.heap.size := by
  obtain ⟨es, cl, h⟩ := h.obj
  exact (Array.getElem?_eq_some_iff.1 h).1
theorem Mq.same {w w' : World} {mb : Nat} {P : List Pr} (h : Mq w mb P) (hb : w'.heap[mb]? = w.heap[mb]?) : Mq w' mb P := by
  obtain ⟨D, ⟨es, clock, h1, h5⟩, h2, h3, h4⟩ := h.ex
  exact ⟨h.wf, D, ⟨es, clock, hb.trans h1, h5⟩, h2, h3, h4⟩
theorem Mq.below {w w' : World} {mb B : Nat} {P : List Pr} (h : Mq w mb P) (hb : Below B w w') (hlt : mb < B) : Mq w' mb P := h.same (hb.block mb hlt)
theorem Mq.keep {w w' : World} {mb : Nat} {o : Option Nat} {P : List Pr} (h : Mq w mb P) (hg : w.grownBy w' o) (hne : o ≠ some mb) : Mq w' mb P := h.same (hg.block mb h.lt (fun e => hne e.symm))
theorem Mq.new (w : World) : Mq (w.alloc (.map #[] 0)) w.heap.size [] :=
  ⟨by simp, .map [], World.ownsMap_made w _ _ _, Nat.le_refl _, fun l => by simp [has_eq], by simp⟩
def inQ (P : List Pr) (p : Pr) : Bool := P.any fun q => qB q p
theorem inQ_iff {P : List Pr} {p : Pr} : inQ P p = true ↔ p ∈ P := by
  unfold inQ
  rw [List.any_eq_true]
  exact ⟨fun ⟨q, h1, h2⟩ => by rw [qB_iff] at h2; rwa [← h2], fun h => ⟨p, h, qB_iff.2 rfl⟩⟩
theorem Mq.look {w : World} {mb : Nat} {P : List Pr} (h : Mq w mb P) {p : Pr} (hi : wfQ p) : (Instr.lookup 83 (.map (some mb)) (Value.agg (qcells p).toArray) true).run Try.prog w = .ok (.tuple #[eV, .bool (inQ P p)]) w := by
  obtain ⟨D, h1, _, h3, h4⟩ := h.ex
  obtain ⟨v, ps, hr, hv⟩ := h1.look_ok keyLawQ Try.underlying83 (zeroEv w) rfl (kq_some p hi)
  cases hg : inQ P p with
  | true =>
    have hn := inQ_iff.1 hg
    have hh := (h3 (kq p)).2 ⟨p, hn, rfl⟩
    have ha := h4 p hn
    rw [ha] at hv
    rw [hh, elV_inv hv] at hr
    exact hr
  | false =>
    have hf : has D (kq p) = false := by
      cases hc : has D (kq p) with
      | false => rfl
      | true =>
        obtain ⟨q, hq, e⟩ := (h3 _).1 hc
        have := kq_inj (h.wf q hq) hi e
        rw [← this, inQ_iff.2 hq] at hg
        cases hg
    rw [atKey_of_not_has hf] at hv
    rw [hf, elV_inv hv] at hr
    exact hr
theorem Mq.put {w : World} {mb : Nat} {P : List Pr} (h : Mq w mb P) (p : Pr) (hi : wfQ p) (hl : P.length < maxLen) : ∃ w', (Instr.mapUpdate 83 (.map (some mb)) (Value.agg (qcells p).toArray) eV).run Try.prog w = .ok () w' ∧ Mq w' mb (P ++ [p]) ∧ w.grownBy w' (some mb) := by
  obtain ⟨D, h1, h2, h3, h4⟩ := h.ex
  obtain ⟨w', hr, hw, ht⟩ := h1.store keyLawQ Try.underlying83 (Nat.lt_of_le_of_lt h2 hl) (val := eV) (kq_some p hi) rfl
  refine ⟨w', hr, ?_, ht.grown⟩
  have ti := h1.tidy keyLawQ
  have hsz : size (D.put (kq p) (.held eV)) ≤ (P ++ [p]).length := by
    rw [size_put ti, List.length_append]
    simp only [List.length_cons, List.length_nil]
    split <;> omega
  refine ⟨?_, _, tightQ hw, hsz, ?_, ?_⟩
  · intro x hx
    rcases List.mem_append.1 hx with hx | hx
    · exact h.wf x hx
    · simp at hx; subst hx; exact hi
  · intro l
    by_cases e : l = kq p
    · subst e
      rw [has_put_same ti.isMap (kq_key hi)]
      exact ⟨fun _ => ⟨p, by simp, rfl⟩, fun _ => rfl⟩
    · rw [has_put_other e, h3]
      constructor
      · rintro ⟨m, hm, rfl⟩
        exact ⟨m, by simp [hm], rfl⟩
      · rintro ⟨m, hm, rfl⟩
        rcases List.mem_append.1 hm with hm | hm
        · exact ⟨m, hm, rfl⟩
        · simp at hm; subst hm; exact absurd rfl e
  · intro m hm z
    by_cases e : kq m = kq p
    · rw [e]
      exact atKey_put_same ti.isMap (kq_key hi) _ _
    · rw [atKey_put_other e]
      rcases List.mem_append.1 hm with hm | hm
      · exact h4 m hm z
      · simp at hm; subst hm; exact absurd rfl e
/-- Pairs in memory. -/
structure QsW (w : World) (ad : Option Addr) (l : List Pr) : Prop where
  lies : l = [] ∨ ∃ g o, ad = some ⟨g, o, none⟩ ∧ (∃ cs T f, w.heap[g]? = some (.cells cs T f)) ∧ ∀ (j : Nat) (p : Pr), l[j]? = some p → w.rangeAt g (o + j * 34) (qcells p)
theorem QsW.below {w w' : World} {ad : Option Addr} {l : List Pr} (h : QsW w ad l) (hb : Below w.heap.size w w') : QsW w' ad l :=
  ⟨h.lies.imp id fun ⟨g, o, e, ⟨cs, T, f, hg⟩, hl⟩ => ⟨g, o, e, ⟨cs, T, f, (hb.block g (Array.getElem?_eq_some_iff.1 hg).1).trans hg⟩, fun j p hp => rangeAt_below (hl j p hp) hb (Array.getElem?_eq_some_iff.1 hg).1⟩⟩
theorem QsW.mapq {w w' : World} {ad : Option Addr} {l : List Pr} {mb : Nat} {P : List Pr} (h : QsW w ad l) (hm : Mq w mb P) (hgr : w.grownBy w' (some mb)) : QsW w' ad l :=
  ⟨h.lies.imp id fun ⟨g, o, e, ⟨cs, T, f, hg⟩, hl⟩ => by
    have hne : g ≠ mb := fun e => by
      obtain ⟨es, cl, h2⟩ := hm.obj
      rw [e, h2] at hg
      cases hg
    have hlt := (Array.getElem?_eq_some_iff.1 hg).1
    exact ⟨g, o, e, ⟨cs, T, f, (hgr.block g hlt (fun e => hne (by cases e; rfl))).trans hg⟩, fun j p hp => rangeAt_keep (hl j p hp) hgr hne hlt⟩⟩
section
variable {ops : Array Oper} {rest : List Oper} {op : Oper} {a : Act} {w : World} {Q : Exit → Act → World → Prop}
theorem stE (x y : Operand) (hw : Region.wanted op (yielded ops a.tmps) = true) (ho : op.op = .store 84 x y) (b : Nat) (hx : a.eval x = .pointer (some ⟨b, 0, none⟩)) (hy : a.eval y = eV) (hr : Row w b 84 [])
    (h : ∀ W, w.grownBy W (some b) → wpList Try.prog ops Q rest (a.put op.dst undef) W) : wpList Try.prog ops Q (op :: rest) a w :=
  wpList_step fun K hK => by
    rw [if_pos hw]
    refine wp_store_mid _ x y ho b 0 _ hx hy (by simpa using hr.there (n := 0) (by simp)) (by rw [infoEs]; simp) (by simp) (hK _ _ (h _ (grownBy_setCells b _ _ _)))
theorem stQp (x y : Operand) (hw : Region.wanted op (yielded ops a.tmps) = true) (ho : op.op = .store 38 x y) (b : Nat) (n u : Pr) (hx : a.eval x = .pointer (some ⟨b, 0, none⟩)) (hy : a.eval y = (Value.agg (qcells n).toArray)) (hr : Row w b 38 (qcells u))
    (h : ∀ W, w.grownBy W (some b) → Row W b 38 (qcells n) → wpList Try.prog ops Q rest (a.put op.dst undef) W) : wpList Try.prog ops Q (op :: rest) a w :=
  wpList_step fun K hK => by
    rw [if_pos hw]
    refine wp_store_mid _ x y ho b 0 _ hx hy (by simpa [qcells_len] using hr.there (n := 34) (by rw [qcells_len]; omega)) (by rw [infoQ]; simp [qcells_len]) (all_oneCell_toArray (qcells_one n)) (hK _ _ (h _ (grownBy_setCells b _ _ _) ?_))
    have := Row.setCells (qcells n) [] w (qcells u) hr (by rw [qcells_len, qcells_len])
    simpa using this
end
theorem forgetC_any (n : Sr) (P : List Pr) (g mb : Nat) (w : World) (hi : wfQ n.p) (hr : Row w g 83 [.map (some mb)]) (hm : Mq w mb P) : Calls Try.prog 38 #[sV n, .pointer (some ⟨g, 0, none⟩)] w (Gives w (.bool (inQ P n.p))) := by
  have r0 := Row.new w 67 (scs n)
  have hr1 := hr.alloc (.cells (scs n).toArray 67)
  have c1 := hr1.cell 0
  have hlk := (hm.below (ba w (.cells (scs n).toArray 67)) hm.lt).look hi
  unfold eV at hlk
  generalize inQ P n.p = b at *
  clear hr hm hr1
  go_enter Try.func38, Try.ntmps38
  go_wp2_with (first
    | (have kk := r2; refine stE (.tmp 4) (.tmp 11) rfl rfl g2 rfl rfl r2 ?_; intro W3 g3; have b3 := grown_below g3 (bt (ba w _) hB2) (Nat.le_trans (by simp) hge2) (Nat.le_trans (by simp) hB2.size); clear r2)
    | (refine alG infoEz rfl rfl ?_; intro g2 W2 hge2 hgl2 hB2 r2)
    | (refine ldQ (.tmp 8) rfl rfl _ _ n.p rfl r0.sr.q ?_))
  go_ret
  exact ⟨rfl, b3⟩
end Go.Proofs.Ytbjclphgabpgoaa
