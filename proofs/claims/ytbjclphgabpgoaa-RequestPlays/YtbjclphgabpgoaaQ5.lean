/-
  The document's Keep: pieces.
-/
import Derived.Test.YtbjclphgabpgoaaQ3
namespace Go.Proofs.Ytbjclphgabpgoaa
open Go.RowKit Go.Maps Go.Shelf
set_option linter.unusedSimpArgs false
set_option linter.unusedVariables false
set_option maxRecDepth 20000
theorem run_slH (g N c k : Nat) (hk : k ≤ N) (hN : N ≤ c) (hc : c ≤ 9223372036854775807) (w : World) : (Instr.slice 29 (.slice (some ⟨g, 0, none⟩) N c) none (some (.int .i64 (k : Int))) none).run Try.prog w = .ok (.slice (some ⟨g, 0, none⟩) k c) w := by
  have h1 : (k : Int) ≤ (c : Int) := by omega
  have h2 : (0 : Int) ≤ (k : Int) := by omega
  have hs : ∀ w, (Go.sizeOf 67).run Try.prog w = .ok 45 w := fun w => by kernel_rfl
  unfold Instr.slice
  simp [Sem.run_bind, run_underlying Try.underlying29, Instr.sliceBounds, Instr.sliceBound, hs, asIntOf, h1, h2, Addr.add]
  intro h; omega
theorem run_slL (g N c k : Nat) (hk : k ≤ N) (hN : N ≤ c) (hc : c ≤ 9223372036854775807) (w : World) : (Instr.slice 29 (.slice (some ⟨g, 0, none⟩) N c) (some (.int .i64 (k : Int))) none none).run Try.prog w = .ok (.slice (if c = k then some ⟨g, 0, none⟩ else some ⟨g, k * 45, none⟩) (N - k) (c - k)) w := by
  have h1 : (k : Int) ≤ (N : Int) := by omega
  have h2 : (0 : Int) ≤ (k : Int) := by omega
  have hs : ∀ w, (Go.sizeOf 67).run Try.prog w = .ok 45 w := fun w => by kernel_rfl
  unfold Instr.slice
  simp [Sem.run_bind, run_underlying Try.underlying29, Instr.sliceBounds, Instr.sliceBound, hs, asIntOf, h1, h2, Addr.add]
  rw [if_pos hk]
  by_cases hk0 : k = 0
  · subst hk0; simp
  · have hk5 : ¬ k * 45 = 0 := by omega
    simp only [if_neg hk5]
theorem run_slH0 (w : World) : (Instr.slice 29 (.slice none 0 0) none (some (.int .i64 0)) none).run Try.prog w = .ok (.slice none 0 0) w := by kernel_rfl
theorem run_slL0 (w : World) : (Instr.slice 29 (.slice none 0 0) (some (.int .i64 0)) none none).run Try.prog w = .ok (.slice none 0 0) w := by kernel_rfl
theorem bsN0 (w : World) : (Instr.buildSlice 29 0 #[]).run Try.prog w = .ok (.slice (some ⟨w.heap.size, 0, none⟩) 0 0) (w.alloc (.cells ([] : List Value).toArray 67)) := by kernel_rfl
/-- append of some to a row of the call's own, and where it lies then. -/
theorem run_app {w : World} (ty : TypeId) (B : Nat) (v : Value) (l us : List Sr) (hown : kN.Own w B v l) (al : Option Addr) (m c : Nat) (hm : m = us.length) (hal : al = none → c = 0) (hc : us ≠ [] → ∃ g o, al = some ⟨g, o, none⟩ ∧ ∀ (j : Nat) (n : Sr), us[j]? = some n → LS w g (o + j * 45) n) (hx : ∀ a, al = some a → a.spot = none) (hl : l.length + us.length ≤ 10000000) (hB : B ≤ w.heap.size) :
    ∃ v' w', (Builtin.append_ #[29, 29] ty #[v, .slice al m c]).run Try.prog w = .ok v' w' ∧ kN.Own w' B v' (l ++ us) ∧ w.grownBy w' v.ownBlock ∧ (v'.ownBlock = v.ownBlock ∨ v'.ownBlock = some w.heap.size) := by
  obtain ⟨i0, hi, hz0, hz1, hz2⟩ := info_parts kN.info
  cases al with
  | some ad =>
    have hcell : ∀ j u, (kN.cs us)[j]? = some u → w.cell? (ad.add j) = some u := fun j u hu => by
      have hjl : j < us.length * 45 := by
        have := (List.getElem?_eq_some_iff.1 hu).1
        rw [kN.cs_len] at this
        exact this
      have hne : us ≠ [] := by intro e; rw [e] at hjl; simp at hjl
      obtain ⟨g, o, e, hg⟩ := hc hne
      cases e
      have hq : j / 45 < us.length := by omega
      have h2 := hg (j / 45) us[j / 45] (List.getElem?_eq_getElem hq)
      have h3 := kN.cs_get us (j / 45) us[j / 45] (List.getElem?_eq_getElem hq) (j % 45) (Nat.mod_lt _ (by decide))
      rw [show (j / 45) * kN.s + j % 45 = j by show (j / 45) * 45 + j % 45 = j; omega, hu] at h3
      have h4 := h2 (j % 45) u h3.symm
      rw [Addr.add_mid]
      rw [show o + j = o + j / 45 * 45 + j % 45 by omega]
      exact h4
    obtain ⟨v', w', hr, h1, h2, _, h4⟩ := run_append_own_at (P := Try.prog) w B 29 ty 67 i0 (.agg (scs zeroS).toArray) 45 80 Try.underlying29 hi hz0 hz1 hz2 (by simp [Value.cells, scs_len]) (by decide) v l.length (kN.cs l) hown ad m c (kN.cs us) (by rw [kN.cs_len, hm]; rfl) hcell (kN.cs_one us) (by unfold maxLen; omega) (by omega) hB
    refine ⟨v', w', hr, ?_, h2, h4⟩
    unfold Kd.Own
    rw [kN.cs_append, List.length_append, ← hm]
    exact h1
  | none =>
    have hus : us = [] := by
      cases us with
      | nil => rfl
      | cons a r =>
        obtain ⟨g, o, e, _⟩ := hc (by simp)
        cases e
    subst hus
    obtain rfl := hal rfl
    obtain rfl : m = 0 := hm
    have hrun := run_append_owned_none (P := Try.prog) (w := w) B 29 ty 67 i0 45 Try.underlying29 hi v l.length (kN.cs l) hown
    exact ⟨v, w, hrun, by rw [List.append_nil]; exact hown, World.grownBy.refl _ _, .inl rfl⟩
section
variable {ops : Array Oper} {rest : List Oper} {op : Oper} {a : Act} {w w' : World} {Q : Exit → Act → World → Prop} {K : Act → World → Prop} {E : Prop} {S : World → Prop}
theorem sApp (m k : Operand) {mv kv r : Value} {T : TypeId} (hw : Region.wanted op (yielded ops a.tmps) = true) (ho : op.op = .call { callee := .builtin .append, args := #[m, k], argTypes := #[T, T] }) (hm : a.eval m = mv) (hk : a.eval k = kv)
    (hr : (Builtin.append_ #[T, T] op.type #[mv, kv]).run Try.prog w = .ok r w') (h : K (a.put op.dst r) w') : if Region.wanted op (yielded ops a.tmps) = true then Oper.wp Try.prog op a w K Q else E := by
  rw [if_pos hw]
  unfold Oper.wp
  simp [execOp, ho, resolve, invoke, builtin, hm, hk, hr, Result.andThen]
  exact h
theorem sStSl (x y : Operand) (hw : Region.wanted op (yielded ops a.tmps) = true) (ho : op.op = .store 29 x y) (b c : Nat) {U : TypeId} (cs : List Value) (ad : Option Addr) (n m : Nat) (hx : a.eval x = .pointer (some ⟨b, c, none⟩)) (hy : a.eval y = .slice ad n m) (hr : Row w b U cs) (hc : c < cs.length)
    (h : ∀ W, w.grownBy W (some b) → Row W b U (cs.set c (.slice ad n m)) → K (a.put op.dst undef) W) : if Region.wanted op (yielded ops a.tmps) = true then Oper.wp Try.prog op a w K Q else E := by
  rw [if_pos hw]
  have c1 : w.cell? ⟨b, c, none⟩ = some cs[c] := by rw [hr.cell]; exact List.getElem?_eq_getElem hc
  have c2 := hr.frozen c
  have h1 := h _ (grownBy_setCell w b c (.slice ad n m)) (hr.set c (.slice ad n m))
  unfold Oper.wp execOp
  simp only [ho, hx, hy]
  go_simp
  exact h1
theorem sStSm (x y : Operand) (hw : Region.wanted op (yielded ops a.tmps) = true) (ho : op.op = .store 67 x y) (b o : Nat) (n : Sr) (hx : a.eval x = .pointer (some ⟨b, o, none⟩)) (hy : a.eval y = sV n) (ht : w.there b o 45)
    (h : K (a.put op.dst undef) (w.setCells b o (scs n))) : if Region.wanted op (yielded ops a.tmps) = true then Oper.wp Try.prog op a w K Q else E := by
  rw [if_pos hw]
  exact wp_store_mid _ x y ho b o _ hx hy (by simpa [scs_len] using ht) (by rw [infoSs]; simp [scs_len]) (all_oneCell_toArray (scs_one n)) h
end
theorem own_zero {w : World} {B g : Nat} (h : Row w g 67 []) (hB : B ≤ g) : kN.Own w B (.slice (some ⟨g, 0, none⟩) 0 0) [] :=
  ⟨by simp [Kd.cs], .inr ⟨g, 0, #[], rfl, hB, h, Nat.le_refl _, by unfold maxLen; omega, by simp, by simp [Kd.cs]⟩⟩
theorem row_apart {w : World} {g g' : Nat} {T : TypeId} {n : Sr} (h : Row w g T []) (h' : Row w g' T (scs n)) : g ≠ g' := fun e => by
  unfold Row at h h'
  rw [e, h'] at h
  injection h with h
  injection h with h
  have := congrArg Array.size h
  simp [scs_len] at this
/-- Where one is put in. -/
structure InsP (K : List Sr) (n : Sr) (k : Nat) : Prop where
  le : k ≤ K.length
  hi : ∀ x ∈ K.drop k, 0 < cmpN x n
  lo : ∀ x, 0 < k → K[k - 1]? = some x → ¬ 0 < cmpN x n
/-- What the document's Ask answers. -/
def AskP (most : Int) (K : List Sr) (p : Pr) (i : Id8) (s : Int) (n' : Sr) (b : Bool) (z : Int) (K' : List Sr) : Prop :=
  (∃ (k : Nat) (n : Sr), K[k]? = some n ∧ getN K p i = some n ∧ Sn.lessB n.s s = false ∧ b = false ∧ z = 0 ∧ K' = K) ∨ (∃ (k : Nat) (n : Sr), K[k]? = some n ∧ getN K p i = some n ∧ Sn.lessB n.s s = true ∧ b = true ∧ z = 0 ∧ K' = K.set k n') ∨
  (getN K p i = none ∧ most ≤ K.length ∧ b = false ∧ z = 6 ∧ K' = K) ∨ (getN K p i = none ∧ (K.length : Int) < most ∧ b = true ∧ z = 0 ∧ ∃ k, InsP K n' k ∧ K' = K.take k ++ n' :: K.drop k)
theorem Rb.set {w w' : World} {B r : Nat} {most : Int} {K : List Sr} {n n' : Sr} {k : Nat} (h : Rb w B r most K) (hk : K[k]? = some n) (hn : n'.ok) : ∃ g A Z c, w.cell? ⟨r, 1, none⟩ = some (.slice (some ⟨g, 0, none⟩) K.length c) ∧ Row w g 67 (A ++ (scs n ++ Z)) ∧ A.length = k * 45 ∧ B ≤ g ∧ g ≠ r ∧ ∀ w', w.grownBy w' (some g) → Row w' g 67 (A ++ (scs n' ++ Z)) → Rb w' B r most (K.set k n') := by
  obtain ⟨ad, c, h1, h2⟩ := h.ex
  obtain ⟨g, A, Z, rfl, hB, hr, hA, hset⟩ := own_mid h2 hk
  have hne : g ≠ r := fun e => by
    unfold Row at h1 hr
    rw [e, h1] at hr
    injection hr with hr
    injection hr with _ h4 _
    exact absurd h4 (by decide)
  refine ⟨g, A, Z, c, h1.cell 1, hr, hA, hB, hne, fun w' hg hr' => ⟨⟨some ⟨g, 0, none⟩, c, ?_, ?_⟩, ?_, ?_⟩⟩
  · rw [List.length_set]
    exact h1.keep hg (Ne.symm hne)
  · rw [List.length_set]
    exact hset w' n' hr'
  · intro x hx
    rcases List.mem_or_eq_of_mem_set hx with h3 | rfl
    · exact h.ok x h3
    · exact hn
  · rw [List.length_set]; exact h.ll
theorem Rb.set2 {w : World} {B r : Nat} {most : Int} {K : List Sr} {n n' : Sr} {k : Nat} (h : Rb w B r most K) (hk : K[k]? = some n) (hn : n'.ok) : ∃ g A Z c, Row w r 31 [.int .i64 most, .slice (some ⟨g, 0, none⟩) K.length c] ∧ Row w g 67 (A ++ (scs n ++ Z)) ∧ A.length = k * 45 ∧ B ≤ g ∧ g ≠ r ∧ ∀ w', w.grownBy w' (some g) → Row w' g 67 (A ++ (scs n' ++ Z)) → Rb w' B r most (K.set k n') := by
  obtain ⟨g, A, Z, c, h1, h2, h3, h4, h5, h6⟩ := Rb.set (w' := w) h hk hn
  obtain ⟨ad, c', hr, _⟩ := h.ex
  have e := hr.cell 1
  rw [h1] at e
  simp at e
  obtain ⟨rfl, rfl⟩ := e
  exact ⟨g, A, Z, c, hr, h2, h3, h4, h5, h6⟩
end Go.Proofs.Ytbjclphgabpgoaa
