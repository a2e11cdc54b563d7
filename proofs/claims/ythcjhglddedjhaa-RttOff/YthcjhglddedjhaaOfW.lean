/-
  The law RttOff returns true for every input.
-/
import Derived.Test.YthcjhglddedjhaaR2
namespace Go.Proofs.Ythcjhglddedjhaa
open Go.RowKit
set_option linter.unusedSimpArgs false
theorem blZ_all (o s : Int) (h : 0 ≤ o) : blZ 256 o s = s := by
  unfold blZ; rw [if_neg (by omega)]; omega
theorem blZ_same (d s : Int) (h : 0 ≤ s) : blZ d s s = s := by
  unfold blZ; rw [if_neg (by omega), ← Int.mul_add]; omega
theorem smZ_same (d s : Int) (h : 0 ≤ s) : smZ d (-1) [s, s, s] = s := by
  show blZ d (blZ d (blZ d (-1) s) s) s = s
  rw [show blZ d (-1) s = s from rfl, blZ_same d s h, blZ_same d s h]
theorem off_walk (c : Rt) (t o s : Int) (w : World) :
    Calls Try.prog 6 #[rtV c, .int .i64 t, .int .i64 o, .int .i64 s] w (Gives w (.bool true)) := by
  have A0 := fun W => may_any c W
  have A3 := fun W => live_any W
  have K := @mayB_ok c
  generalize mayB c = M at *
  obtain ⟨on, mi, ma, co, de⟩ := c
  have HB := alloc_b w (.cells #[.bool on, .int .i64 mi, .int .i64 ma, .int .i64 co, .int .i64 de] 23)

  cases M with
  | false =>
    clear K
    go_enter Try.func6, Try.ntmps6
    go_wp2_with (first
    | (have kk := A0; go_at_call 7; refine (A0 _).mono ?_; rintro e w1 ⟨rfl, hw⟩; clear A0 kk; replace HB := HB.trans (hw.mono HB.size); clear hw)
    | (have kk := A3; go_at_call 8; refine (A3 _).mono ?_; rintro e w' ⟨rfl, hw⟩; clear A3 kk))
    go_ret
    exact ⟨rfl, HB.trans (hw.mono HB.size)⟩
  | true =>
    by_cases h1 : t ≤ 2147483648
    case neg =>
      clear K
      go_enter Try.func6, Try.ntmps6
      go_wp2_with (first
      | (have kk := A0; go_at_call 7; refine (A0 _).mono ?_; rintro e w1 ⟨rfl, hw⟩; clear A0 kk; replace HB := HB.trans (hw.mono HB.size); clear hw)
      | (have kk := A3; go_at_call 8; refine (A3 _).mono ?_; rintro e w' ⟨rfl, hw⟩; clear A3 kk))
      go_ret
      exact ⟨rfl, HB.trans (hw.mono HB.size)⟩
    by_cases h2 : 0 ≤ t
    case neg =>
      clear K
      go_enter Try.func6, Try.ntmps6
      go_wp2_with (first
      | (have kk := A0; go_at_call 7; refine (A0 _).mono ?_; rintro e w1 ⟨rfl, hw⟩; clear A0 kk; replace HB := HB.trans (hw.mono HB.size); clear hw)
      | (have kk := A3; go_at_call 8; refine (A3 _).mono ?_; rintro e w' ⟨rfl, hw⟩; clear A3 kk))
      go_ret
      exact ⟨rfl, HB.trans (hw.mono HB.size)⟩
    by_cases h3 : 0 ≤ o
    case neg =>
      clear K
      go_enter Try.func6, Try.ntmps6
      go_wp2_with (first
      | (have kk := A0; go_at_call 7; refine (A0 _).mono ?_; rintro e w1 ⟨rfl, hw⟩; clear A0 kk; replace HB := HB.trans (hw.mono HB.size); clear hw)
      | (have kk := A3; go_at_call 8; refine (A3 _).mono ?_; rintro e w' ⟨rfl, hw⟩; clear A3 kk))
      go_ret
      exact ⟨rfl, HB.trans (hw.mono HB.size)⟩
    by_cases h4 : o ≤ 2147483648
    case neg =>
      clear K
      go_enter Try.func6, Try.ntmps6
      go_wp2_with (first
      | (have kk := A0; go_at_call 7; refine (A0 _).mono ?_; rintro e w1 ⟨rfl, hw⟩; clear A0 kk; replace HB := HB.trans (hw.mono HB.size); clear hw)
      | (have kk := A3; go_at_call 8; refine (A3 _).mono ?_; rintro e w' ⟨rfl, hw⟩; clear A3 kk))
      go_ret
      exact ⟨rfl, HB.trans (hw.mono HB.size)⟩
    by_cases h5 : 0 ≤ s
    case neg =>
      clear K
      go_enter Try.func6, Try.ntmps6
      go_wp2_with (first
      | (have kk := A0; go_at_call 7; refine (A0 _).mono ?_; rintro e w1 ⟨rfl, hw⟩; clear A0 kk; replace HB := HB.trans (hw.mono HB.size); clear hw)
      | (have kk := A3; go_at_call 8; refine (A3 _).mono ?_; rintro e w' ⟨rfl, hw⟩; clear A3 kk))
      go_ret
      exact ⟨rfl, HB.trans (hw.mono HB.size)⟩
    by_cases h6 : s ≤ 2147483648
    case neg =>
      clear K
      go_enter Try.func6, Try.ntmps6
      go_wp2_with (first
      | (have kk := A0; go_at_call 7; refine (A0 _).mono ?_; rintro e w1 ⟨rfl, hw⟩; clear A0 kk; replace HB := HB.trans (hw.mono HB.size); clear hw)
      | (have kk := A3; go_at_call 8; refine (A3 _).mono ?_; rintro e w' ⟨rfl, hw⟩; clear A3 kk))
      go_ret
      exact ⟨rfl, HB.trans (hw.mono HB.size)⟩
    have ok := K rfl
    obtain ⟨m0, m1, m2, c0, c1, d0, d1⟩ := ok
    dsimp only at m0 m1 m2 c0 c1 d0 d1
    clear K
    have C1 : ∀ W, Calls Try.prog 13 #[.agg #[.bool false, .int .i64 0, .int .i64 0, .int .i64 0, .int .i64 0], .int .i64 t] W (Gives W (.int .u16 0)) := fun W => cost_any ⟨false, 0, 0, 0, 0⟩ t W (by decide) (by decide) (by decide) (by decide)
    have C2 : ∀ (w : World) (k g : Nat) (tt : TypeId), g = w.heap.size → Calls Try.prog 11 #[.agg #[.bool on, .int .i64 mi, .int .i64 ma, .int .i64 co, .int .i64 256], .int .i64 o, .slice (some ⟨g, 0, none⟩) 1 k] (w.alloc (.cells #[.int .i64 s] tt)) fun e w' => e = .returned (.int .i64 s) ∧ Below w.heap.size w w' := fun w k g tt hg => by
      have q := smooth_new ⟨on, mi, ma, co, 256⟩ o [s] _ 1 k g w (by simp) (by simp) h4 (by simpa using ⟨h5, h6⟩) (by decide) rfl tt rfl hg
      rw [show smZ 256 o [s] = s from blZ_all o s h3] at q
      exact q
    have C3 : ∀ W, Calls Try.prog 11 #[.agg #[.bool on, .int .i64 mi, .int .i64 ma, .int .i64 co, .int .i64 de], .int .i64 o, .slice none 0 0] W (Gives W (.int .i64 o)) := fun W => smooth_any ⟨on, mi, ma, co, de⟩ o none 0 0 [] W d0 d1 h4 (fun _ h => by cases h) (by decide) (is_none W)
    have C4 : ∀ (w : World) (k g : Nat) (tt : TypeId), g = w.heap.size → Calls Try.prog 11 #[.agg #[.bool on, .int .i64 mi, .int .i64 ma, .int .i64 co, .int .i64 de], .int .i64 (-1), .slice (some ⟨g, 0, none⟩) 3 k] (w.alloc (.cells #[.int .i64 s, .int .i64 s, .int .i64 s] tt)) fun e w' => e = .returned (.int .i64 s) ∧ Below w.heap.size w w' := fun w k g tt hg => by
      have q := smooth_new ⟨on, mi, ma, co, de⟩ (-1) [s, s, s] _ 3 k g w d0 d1 (by decide) (by simpa using ⟨h5, h6⟩) (by decide) rfl tt rfl hg
      rw [smZ_same de s h5] at q
      exact q
    clear m0 m1 m2 c0 c1 d0 d1
    go_enter Try.func6, Try.ntmps6
    go_wp2_with (first
    | (have kk := A0; go_at_call 7; refine (A0 _).mono ?_; rintro e w1 ⟨rfl, hw⟩; clear A0 kk; have r1 := (Row.new w 23 [.bool on, .int .i64 mi, .int .i64 ma, .int .i64 co, .int .i64 de]).below hw (by simp); have hlt := r1.lt; obtain ⟨z0, z1, z2, z3, z4⟩ := row5 r1; replace HB := HB.trans (hw.mono HB.size); clear hw)
    | (have kk := C1; go_at_call 13; refine (C1 _).mono ?_; rintro e w2 ⟨rfl, hv⟩; clear C1 kk; have q1 := (Row.new w1 23 [.bool on, .int .i64 mi, .int .i64 ma, .int .i64 co, .int .i64 256]).below hv (by simp); replace r1 := (r1.alloc (.cells #[.bool on, .int .i64 mi, .int .i64 ma, .int .i64 co, .int .i64 256] 23)).below hv (by simp; omega); clear z0 z1 z2 z3 z4; obtain ⟨z0, z1, z2, z3, z4⟩ := row5 q1; replace HB := (HB.trans ((alloc_b w1 (.cells #[.bool on, .int .i64 mi, .int .i64 ma, .int .i64 co, .int .i64 256] 23)).mono HB.size)).trans (hv.mono (Nat.le_trans HB.size (by simp))); replace hlt := r1.lt; clear hv)
    | (have kk := C2; go_at_call 11; refine (C2 _ _ _ _ (by simp)).mono ?_; rintro e w3 ⟨rfl, hv⟩; clear C2 kk; replace r1 := r1.below hv hlt; clear z0 z1 z2 z3 z4; obtain ⟨z0, z1, z2, z3, z4⟩ := row5 r1; replace hlt := r1.lt; replace HB := HB.trans (hv.mono HB.size); clear hv)
    | (have kk := C3; go_at_call 11; refine (C3 _).mono ?_; rintro e w4 ⟨rfl, hv⟩; clear C3 kk; replace r1 := r1.below hv hlt; clear z0 z1 z2 z3 z4; obtain ⟨z0, z1, z2, z3, z4⟩ := row5 r1; replace hlt := r1.lt; replace HB := HB.trans (hv.mono HB.size); clear hv)
    | (have kk := C4; go_at_call 11; refine (C4 _ _ _ _ (by simp)).mono ?_; rintro e w5 ⟨rfl, hv⟩; clear C4 kk; replace HB := HB.trans (hv.mono HB.size); clear hv)
    | (have kk := A3; go_at_call 8; refine (A3 _).mono ?_; rintro e w' ⟨rfl, hw⟩; clear A3 kk))
    go_ret
    exact ⟨rfl, HB.trans (hw.mono HB.size)⟩
end Go.Proofs.Ythcjhglddedjhaa
