/-
  The best of a list of pairs: it matches, and none that matches is more specific, or as specific and ahead.
-/
import Derived.Test.YtimpopolkofdgabDoorBest
namespace Go.Proofs.YtimpopolkofdgabDoor
/-- Does r come no later than q, and is it no longer? -/
def NoMore (r q : Pr) (i k : Nat) : Prop := r.d.n ≤ q.d.n ∧ (r.d.n = q.d.n → r.s.n ≤ q.s.n ∧ (r.s.n = q.s.n → k ≤ i))
theorem lon_iff (p q : Pr) : lon p q = true ↔ q.d.n < p.d.n ∨ p.d.n = q.d.n ∧ q.s.n < p.s.n := by
  unfold lon orI Lib.compareInt
  simp only [decide_eq_true_eq]
  repeat' split
  all_goals omega
/-- The best of the first j: it matches, and none of them that matches is more specific, or as specific and ahead. -/
theorem bst_ok (qs : List Pr) (src dst : Ad) : ∀ j, j ≤ qs.length →
    ((bst qs src dst j).2 = false ∧ ∀ i r, i < j → qs[i]? = some r → mat r src dst = false) ∨
    ((bst qs src dst j).2 = true ∧ (bst qs src dst j).1 < j ∧ ∃ q, qs[(bst qs src dst j).1]? = some q ∧ mat q src dst = true ∧ ∀ i r, i < j → qs[i]? = some r → mat r src dst = true → NoMore r q i (bst qs src dst j).1)
  | 0, _ => .inl ⟨rfl, fun i r h => by omega⟩
  | j + 1, h => by
    have ih := bst_ok qs src dst j (by omega)
    obtain ⟨q, hq⟩ : ∃ q, qs[j]? = some q := ⟨_, List.getElem?_eq_getElem (by omega)⟩
    rw [bst_succ hq]
    cases hm : mat q src dst with
    | false =>
      rw [Bool.false_and, if_neg (by simp)]
      rcases ih with ⟨h1, h2⟩ | ⟨h1, h2, p, h3, h4, h5⟩
      · refine .inl ⟨h1, fun i r hi hr => ?_⟩
        by_cases e : i = j
        · subst e; rw [hq] at hr; cases hr; exact hm
        · exact h2 i r (by omega) hr
      · refine .inr ⟨h1, by omega, p, h3, h4, fun i r hi hr hmr => ?_⟩
        by_cases e : i = j
        · subst e; rw [hq] at hr; cases hr; rw [hm] at hmr; cases hmr
        · exact h5 i r (by omega) hr hmr
    | true =>
      rw [Bool.true_and]
      rcases ih with ⟨h1, h2⟩ | ⟨h1, h2, p, h3, h4, h5⟩
      · have hb : better qs q (bst qs src dst j) = true := by simp [better, h1]
        rw [if_pos hb]
        refine .inr ⟨rfl, by simp, q, hq, hm, fun i r hi hr hmr => ?_⟩
        by_cases e : i = j
        · subst e; rw [hq] at hr; cases hr
          exact ⟨Int.le_refl _, fun _ => ⟨Int.le_refl _, fun _ => Nat.le_refl _⟩⟩
        · rw [h2 i r (by omega) hr] at hmr; cases hmr
      · have hb : better qs q (bst qs src dst j) = lon q p := by simp [better, h1, h3]
        rw [hb]
        cases hl : lon q p with
        | true =>
          rw [if_pos rfl]
          have hlt := (lon_iff q p).1 hl
          refine .inr ⟨rfl, by simp, q, hq, hm, fun i r hi hr hmr => ?_⟩
          by_cases e : i = j
          · subst e; rw [hq] at hr; cases hr
            exact ⟨Int.le_refl _, fun _ => ⟨Int.le_refl _, fun _ => Nat.le_refl _⟩⟩
          · obtain ⟨n1, n2⟩ := h5 i r (by omega) hr hmr
            refine ⟨by rcases hlt with x | ⟨x, _⟩ <;> omega, fun e1 => ?_⟩
            rcases hlt with x | ⟨x, y⟩
            · omega
            · have := (n2 (by omega)).1
              exact ⟨by omega, fun e2 => by omega⟩
        | false =>
          rw [if_neg (by simp)]
          have hlt : ¬ (p.d.n < q.d.n ∨ q.d.n = p.d.n ∧ p.s.n < q.s.n) := fun x => by rw [(lon_iff q p).2 x] at hl; cases hl
          refine .inr ⟨h1, by omega, p, h3, h4, fun i r hi hr hmr => ?_⟩
          by_cases e : i = j
          · subst e; rw [hq] at hr; cases hr
            refine ⟨by omega, fun e1 => ⟨by omega, fun e2 => by omega⟩⟩
          · exact h5 i r (by omega) hr hmr
end Go.Proofs.YtimpopolkofdgabDoor
