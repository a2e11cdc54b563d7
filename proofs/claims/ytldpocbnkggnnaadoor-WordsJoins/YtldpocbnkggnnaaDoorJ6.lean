/-
  What ParseId reads is what the pieces between the colons say: plain facts.
-/
import Derived.Test.YtldpocbnkggnnaaDoorJ5
namespace Go.Proofs.YtldpocbnkggnnaaDoor
open Go.RowKit
set_option linter.unusedSimpArgs false
set_option maxRecDepth 20000
theorem dg_58 {c : UInt8} (h : 0 ≤ dgI c) : c ≠ 58 := by rintro rfl; revert h; decide
/-- Texts of two bytes with a mark between. -/
def glue : List (List UInt8) → List UInt8
  | [] => []
  | [x] => x
  | x :: y :: r => x ++ 58 :: glue (y :: r)
theorem glue_pieces : ∀ (l : List UInt8), glue (pieces 58 l) = l
  | [] => rfl
  | x :: l => by
    have ih := glue_pieces l
    by_cases h : x = 58
    · subst h
      simp only [pieces, if_true]
      cases hp : pieces 58 l with
      | nil => exact absurd hp (by
          cases l with
          | nil => simp [pieces]
          | cons y l => simp only [pieces]; split <;> (try simp) <;> split <;> simp)
      | cons p ps => rw [hp] at ih; simp [glue, ih]
    · simp only [pieces, if_neg h]
      cases hp : pieces 58 l with
      | nil => exact absurd hp (by
          cases l with
          | nil => simp [pieces]
          | cons y l => simp only [pieces]; split <;> (try simp) <;> split <;> simp)
      | cons p ps =>
        rw [hp] at ih
        cases ps with
        | nil => simp [glue] at ih ⊢; exact ih
        | cons q ps => simp [glue] at ih ⊢; exact ih
theorem two_pc (a b : UInt8) (r : List UInt8) (ha : a ≠ 58) (hb : b ≠ 58) : pieces 58 (a :: b :: 58 :: r) = [a, b] :: pieces 58 r := by simp [pieces, ha, hb]
theorem two_end (a b : UInt8) (ha : a ≠ 58) (hb : b ≠ 58) : pieces 58 [a, b] = [[a, b]] := by simp [pieces, ha, hb]
theorem ps_same (l : List UInt8) : rps (pieces 58 l) = psI l := by
  by_cases h : l.length = 23 ∧ (List.range 8).all (fun j => decide (okAt l j)) = true
  · have hok : ∀ j, j < 8 → okAt l j := fun j hj => of_decide_eq_true (List.all_eq_true.1 h.2 j (List.mem_range.2 hj))
    obtain ⟨a0, b0, c0, a1, b1, c1, a2, b2, c2, a3, b3, c3, a4, b4, c4, a5, b5, c5, a6, b6, c6, a7, b7, rfl⟩ : ∃ a0 b0 c0 a1 b1 c1 a2 b2 c2 a3 b3 c3 a4 b4 c4 a5 b5 c5 a6 b6 c6 a7 b7, l = [a0, b0, c0, a1, b1, c1, a2, b2, c2, a3, b3, c3, a4, b4, c4, a5, b5, c5, a6, b6, c6, a7, b7] := by
      match l, h.1 with
      | [a0, b0, c0, a1, b1, c1, a2, b2, c2, a3, b3, c3, a4, b4, c4, a5, b5, c5, a6, b6, c6, a7, b7], _ => exact ⟨_, _, _, _, _, _, _, _, _, _, _, _, _, _, _, _, _, _, _, _, _, _, _, rfl⟩
    have k0 := hok 0 (by decide)
    have k1 := hok 1 (by decide)
    have k2 := hok 2 (by decide)
    have k3 := hok 3 (by decide)
    have k4 := hok 4 (by decide)
    have k5 := hok 5 (by decide)
    have k6 := hok 6 (by decide)
    have k7 := hok 7 (by decide)
    simp [okAt] at k0 k1 k2 k3 k4 k5 k6 k7
    obtain ⟨x1, y1, rfl⟩ := k1
    obtain ⟨x2, y2, rfl⟩ := k2
    obtain ⟨x3, y3, rfl⟩ := k3
    obtain ⟨x4, y4, rfl⟩ := k4
    obtain ⟨x5, y5, rfl⟩ := k5
    obtain ⟨x6, y6, rfl⟩ := k6
    obtain ⟨x7, y7, rfl⟩ := k7
    have e : pieces 58 [a0, b0, 58, a1, b1, 58, a2, b2, 58, a3, b3, 58, a4, b4, 58, a5, b5, 58, a6, b6, 58, a7, b7] = [[a0, b0], [a1, b1], [a2, b2], [a3, b3], [a4, b4], [a5, b5], [a6, b6], [a7, b7]] := by
      rw [two_pc a0 b0 _ (dg_58 k0.1) (dg_58 k0.2), two_pc a1 b1 _ (dg_58 x1) (dg_58 y1), two_pc a2 b2 _ (dg_58 x2) (dg_58 y2), two_pc a3 b3 _ (dg_58 x3) (dg_58 y3), two_pc a4 b4 _ (dg_58 x4) (dg_58 y4), two_pc a5 b5 _ (dg_58 x5) (dg_58 y5), two_pc a6 b6 _ (dg_58 x6) (dg_58 y6), two_end a7 b7 (dg_58 x7) (dg_58 y7)]
    rw [e]
    unfold psI rps
    rw [if_pos h, if_pos]
    · rfl
    · refine ⟨rfl, ?_⟩
      simp [okP, k0, x1, y1, x2, y2, x3, y3, x4, y4, x5, y5, x6, y6, x7, y7]
  · unfold psI
    rw [if_neg h]
    unfold rps
    rw [if_neg]
    rintro ⟨h8, hall⟩
    apply h
    have hg := glue_pieces l
    have hok : ∀ p ∈ pieces 58 l, okP p := fun p hp => of_decide_eq_true (List.all_eq_true.1 hall p hp)
    generalize pieces 58 l = ps at *
    match ps, h8 with
    | [p0, p1, p2, p3, p4, p5, p6, p7], _ =>
      have two : ∀ p : List UInt8, okP p → ∃ a b, p = [a, b] ∧ 0 ≤ dgI a ∧ 0 ≤ dgI b := fun p hp => by
        match p, hp.1 with
        | [a, b], _ => exact ⟨a, b, rfl, by simpa using hp.2.1, by simpa using hp.2.2⟩
      obtain ⟨a0, b0, rfl, x0, y0⟩ := two p0 (hok _ (by simp))
      obtain ⟨a1, b1, rfl, x1, y1⟩ := two p1 (hok _ (by simp))
      obtain ⟨a2, b2, rfl, x2, y2⟩ := two p2 (hok _ (by simp))
      obtain ⟨a3, b3, rfl, x3, y3⟩ := two p3 (hok _ (by simp))
      obtain ⟨a4, b4, rfl, x4, y4⟩ := two p4 (hok _ (by simp))
      obtain ⟨a5, b5, rfl, x5, y5⟩ := two p5 (hok _ (by simp))
      obtain ⟨a6, b6, rfl, x6, y6⟩ := two p6 (hok _ (by simp))
      obtain ⟨a7, b7, rfl, x7, y7⟩ := two p7 (hok _ (by simp))
      have hl : l = [a0, b0, 58, a1, b1, 58, a2, b2, 58, a3, b3, 58, a4, b4, 58, a5, b5, 58, a6, b6, 58, a7, b7] := by rw [← hg]; rfl
      subst hl
      refine ⟨rfl, ?_⟩
      rw [List.all_eq_true]
      intro j hj
      apply decide_eq_true
      have hj8 := List.mem_range.1 hj
      rcases j with _ | _ | _ | _ | _ | _ | _ | _ | j
      all_goals first
        | (exfalso; omega)
        | (simp [okAt]; exact ⟨by assumption, by assumption⟩)
        | (simp [okAt]; done)
end Go.Proofs.YtldpocbnkggnnaaDoor
