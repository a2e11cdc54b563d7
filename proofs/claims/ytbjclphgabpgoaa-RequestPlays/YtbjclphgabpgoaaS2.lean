/-
  What Feasible, Keep and Meets answer, and the document's own, for every distance.
-/
import Derived.Test.YtbjclphgabpgoaaS1
namespace Go.Proofs.Ytbjclphgabpgoaa.Sn
open Go.RowKit
set_option linter.unusedSimpArgs false
def feaB (a1 a2 b1 b2 : Int) : Bool := a2 == 65535 || betB a1 a2 b1 b2
def Met (d1 d2 s : Int) : Bool := decide (d2 < 65535) && (d1 == s || lessB s d1)
theorem meets_any (d1 d2 s : Int) (w : World) : Calls Try.prog 34 #[.agg #[.int .u16 d1, .int .u16 d2], .int .u16 s] w (Gives w (.bool (Met d1 d2 s))) := by
  cases h1 : decide (d2 < 65535) with
  | false =>
    rw [show Met d1 d2 s = false by unfold Met; rw [h1, Bool.false_and]]
    go_enter Try.func34, Try.ntmps34
    go_wp2_with fail
    go_ret
    exact ⟨rfl, (Below.refl _ _).alloc (Nat.le_refl _) _⟩
  | true =>
    cases h2 : (d1 == s) with
    | true =>
      rw [show Met d1 d2 s = true by unfold Met; rw [h1, h2, Bool.true_or, Bool.true_and]]
      go_enter Try.func34, Try.ntmps34
      go_wp2_with fail
      go_ret
      exact ⟨rfl, (Below.refl _ _).alloc (Nat.le_refl _) _⟩
    | false =>
      rw [show Met d1 d2 s = lessB s d1 by unfold Met; rw [h1, h2, Bool.false_or, Bool.true_and]]
      go_enter Try.func34, Try.ntmps34
      go_wp2_with (go_at_call 26; refine (less_any _ _ _).mono ?_; rintro e w' ⟨rfl, rfl⟩)
      go_ret
      exact ⟨rfl, (Below.refl _ _).alloc (Nat.le_refl _) _⟩
theorem rmeets_any (d1 d2 s : Int) (w : World) (ha : 0 ≤ s) (ha' : s < 65536) (hb : 0 ≤ d1) (hb' : d1 < 65536) : Calls Try.prog 36 #[.agg #[.int .u16 d1, .int .u16 d2], .int .u16 s] w (Gives w (.bool (Met d1 d2 s))) := by
  have R := fun w => rless_any s d1 w ha ha' hb hb'
  clear ha ha' hb hb'
  cases h1 : decide (d2 < 65535) with
  | false =>
    rw [show Met d1 d2 s = false by unfold Met; rw [h1, Bool.false_and]]
    go_enter Try.func36, Try.ntmps36
    go_wp2_with fail
    go_ret
    exact ⟨rfl, (Below.refl _ _).alloc (Nat.le_refl _) _⟩
  | true =>
    cases h2 : (d1 == s) with
    | true =>
      rw [show Met d1 d2 s = true by unfold Met; rw [h1, h2, Bool.true_or, Bool.true_and]]
      go_enter Try.func36, Try.ntmps36
      go_wp2_with fail
      go_ret
      exact ⟨rfl, (Below.refl _ _).alloc (Nat.le_refl _) _⟩
    | false =>
      rw [show Met d1 d2 s = lessB s d1 by unfold Met; rw [h1, h2, Bool.false_or, Bool.true_and]]
      go_enter Try.func36, Try.ntmps36
      go_wp2_with (go_at_call 28; refine (R _).mono ?_; rintro e w' ⟨rfl, rfl⟩)
      go_ret
      exact ⟨rfl, (Below.refl _ _).alloc (Nat.le_refl _) _⟩
end Go.Proofs.Ytbjclphgabpgoaa.Sn
