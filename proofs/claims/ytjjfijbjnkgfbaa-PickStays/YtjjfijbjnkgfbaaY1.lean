/-
  Whether a way is usable; the best of many: the program's.
-/
import Derived.Test.YtjjfijbjnkgfbaaYP
namespace Go.Proofs.Ytjjfijbjnkgfbaa
open Go.RowKit
set_option linter.unusedSimpArgs false
def rc (c : Cd) : Bool := decide (c.m < 65535)
theorem reaches_any (c : Cd) (w : World) : Calls Try.prog 19 #[cdV c] w (Gives w (.bool (rc c))) := by
  obtain ⟨m, f, s⟩ := c
  unfold rc
  have hb := ba w (.cells #[.int .u16 m, .bool f, .bool s] 34)
  dsimp only
  go_enter Try.func19, Try.ntmps19
  go_wp2
  go_ret
  exact ⟨rfl, hb⟩
theorem usable_any (c : Cd) (w : World) : Calls Try.prog 14 #[cdV c] w (Gives w (.bool (us c))) := by
  have HC := fun W => reaches_any c W
  have HU : us c = (c.f && rc c) := rfl
  rw [HU]
  generalize rc c = r at *
  obtain ⟨m, f, s⟩ := c
  have hb := ba w (.cells #[.int .u16 m, .bool f, .bool s] 34)
  clear HU
  dsimp only
  cases f with
  | false =>
    go_enter Try.func14, Try.ntmps14
    go_wp2_with (go_at_call 19; refine (HC _).mono ?_; rintro e w' ⟨rfl, hw⟩)
    go_ret
    exact ⟨rfl, hb⟩
  | true =>
    go_enter Try.func14, Try.ntmps14
    go_wp2_with (go_at_call 19; refine (HC _).mono ?_; rintro e w' ⟨rfl, hw⟩)
    go_ret
    exact ⟨rfl, bt hb hw⟩
theorem stands_any (c : Cd) (w : World) : Calls Try.prog 16 #[cdV c] w (Gives w (.bool (st c))) := by
  have HC := fun W => usable_any c W
  have HU : st c = (c.s && us c) := rfl
  rw [HU]
  generalize us c = r at *
  obtain ⟨m, f, s⟩ := c
  have hb := ba w (.cells #[.int .u16 m, .bool f, .bool s] 34)
  clear HU
  dsimp only
  cases s with
  | false =>
    go_enter Try.func16, Try.ntmps16
    go_wp2_with (go_at_call 14; refine (HC _).mono ?_; rintro e w' ⟨rfl, hw⟩)
    go_ret
    exact ⟨rfl, hb⟩
  | true =>
    go_enter Try.func16, Try.ntmps16
    go_wp2_with (go_at_call 14; refine (HC _).mono ?_; rintro e w' ⟨rfl, hw⟩)
    go_ret
    exact ⟨rfl, bt hb hw⟩
theorem us_ref {c : Cd} (h : c.ok) : us c = (c.f && !(c.m == 65535)) := by
  unfold us
  have h0 := h.m0
  have h1 := h.m1
  by_cases e : c.m < 65535
  · have : ¬ c.m = 65535 := by omega
    simp [e, this]
  · have : c.m = 65535 := by omega
    simp [this]
theorem rusable_any (c : Cd) (w : World) (hk : c.ok) : Calls Try.prog 17 #[cdV c] w (Gives w (.bool (us c))) := by
  rw [us_ref hk]
  obtain ⟨m, f, s⟩ := c
  have hb := ba w (.cells #[.int .u16 m, .bool f, .bool s] 34)
  dsimp only
  by_cases e : m = 65535
  · subst e
    cases f with
    | false =>
      go_enter Try.func17, Try.ntmps17
      go_wp2
      go_ret
      exact ⟨rfl, hb⟩
    | true =>
      go_enter Try.func17, Try.ntmps17
      go_wp2
      go_ret
      exact ⟨rfl, hb⟩
  · cases f with
    | false =>
      go_enter Try.func17, Try.ntmps17
      go_wp2
      go_ret
      exact ⟨rfl, hb⟩
    | true =>
      go_enter Try.func17, Try.ntmps17
      go_wp2
      go_ret
      exact ⟨rfl, hb⟩
end Go.Proofs.Ytjjfijbjnkgfbaa
