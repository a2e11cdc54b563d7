/-
  The law RttShifts returns true for every input.
-/
import Derived.Test.YthcjhglddedjhaaR1
namespace Go.Proofs.Ythcjhglddedjhaa
open Go.RowKit
set_option linter.unusedSimpArgs false
theorem away_shift (a n x : Int) : awayZ ((a + x) % 4294967296) ((n + x) % 4294967296) = awayZ a n := by unfold awayZ; omega
theorem smpZ_shift (a b d n x y : Int) : smpZ ((a + x) % 4294967296) ((b + y) % 4294967296) ((d + y) % 4294967296) ((n + x) % 4294967296) = smpZ a b d n := by
  unfold smpZ; rw [away_shift, away_shift]
theorem smpB_shift (a b d n x y : Int) : smpB ((a + x) % 4294967296) ((b + y) % 4294967296) ((d + y) % 4294967296) ((n + x) % 4294967296) = smpB a b d n := by
  unfold smpB; rw [away_shift, away_shift]
theorem smpZ_0 (a b d n : Int) : 0 ≤ smpZ a b d n := by
  unfold smpZ
  split
  · exact Int.le_refl _
  · omega
theorem shifts_walk (a b d n x y : Int) (w : World) :
    Calls Try.prog 5 #[.int .u32 a, .int .u32 b, .int .u32 d, .int .u32 n, .int .u32 x, .int .u32 y] w (Gives w (.bool true)) := by
  have A1 := fun W => sample_any a b d n W
  have A2 := fun W => sample_any ((a + x) % 4294967296) ((b + y) % 4294967296) ((d + y) % 4294967296) ((n + x) % 4294967296) W
  rw [smpZ_shift, smpB_shift] at A2
  have h0 := smpZ_0 a b d n
  have A3 := fun W => live_any W
  generalize smpZ a b d n = X at *
  generalize smpB a b d n = B at *
  go_enter Try.func5, Try.ntmps5
  go_wp2_with (first
    | (have kk := A1; go_at_call 9; refine (A1 _).mono ?_; rintro e w1 ⟨rfl, rfl⟩; clear A1 kk)
    | (have kk := A2; go_at_call 9; refine (A2 _).mono ?_; rintro e w1 ⟨rfl, rfl⟩; clear A2 kk)
    | (have kk := A3; go_at_call 8; refine (A3 _).mono ?_; rintro e w' ⟨rfl, hw⟩; clear A3 kk))
  go_ret
  exact ⟨rfl, hw⟩
end Go.Proofs.Ythcjhglddedjhaa
