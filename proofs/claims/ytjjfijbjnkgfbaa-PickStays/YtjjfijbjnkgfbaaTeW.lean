/-
  The law PickTells returns true for every input.
-/
import Derived.Test.YtjjfijbjnkgfbaaGrW
namespace Go.Proofs.Ytjjfijbjnkgfbaa
open Go.RowKit
set_option linter.unusedSimpArgs false
set_option linter.unusedVariables false
set_option maxRecDepth 20000
theorem tells_long (mg : Int) (ad : Option Addr) (n k : Nat) (w : World) (h : 300 < n) :
    Calls Try.prog 3 #[.int .u16 mg, .slice ad n k] w (Gives w (.bool true)) := by
  have hi : (300 : Int) < (n : Int) := by omega
  go_enter Try.func3, Try.ntmps3
  go_wp2_with (go_at_call 7; refine (live_any _).mono ?_; rintro e w' ⟨rfl, hw⟩)
  go_ret
  exact ⟨rfl, hw⟩
theorem tells_walk (mg : Int) (ad : Option Addr) (n k : Nat) (l : List Cd) (w : World) (hn : n ≤ 300) (h0 : 0 ≤ mg) (h1 : mg < 65536) (hs : Cs w ad n l) :
    Calls Try.prog 3 #[.int .u16 mg, .slice ad n k] w (Gives w (.bool true)) := by
  have hi : ¬ (300 : Int) < (n : Int) := by omega
  have C1 := fun W (h : Below w.heap.size w W) => best_prog ad n k l W (by omega) (hs.below (Nat.le_refl _) h)
  have C2 := fun W (h : Below w.heap.size w W) => pick_prog mg ad n k l W (by omega) h0 h1 (hs.below (Nat.le_refl _) h)
  have C3 := fun W (h : Below w.heap.size w W) => rbest_any ad n k l W (by omega) (hs.below (Nat.le_refl _) h)
  have C4 := fun W (h : Below w.heap.size w W) => rpick_any mg ad n k l W (by omega) h0 h1 (hs.below (Nat.le_refl _) h)
  have C5 := fun W (h : Below w.heap.size w W) => starved_prog ad n k l W (by omega) (hs.below (Nat.le_refl _) h)
  have C6 := fun W (h : Below w.heap.size w W) => rstarved_any ad n k l W (by omega) (hs.below (Nat.le_refl _) h)
  have hb := Below.refl w.heap.size w
  have hu := pkd_some mg l
  have cases' : (∃ b p : Nat, best l = (b, true) ∧ pkd mg l = (p, true)) ∨ (best l = (0, false) ∧ pkd mg l = (0, false)) := by
    cases e : (best l).2 with
    | true =>
      rw [e] at hu
      exact .inl ⟨_, _, Prod.ext rfl e, Prod.ext rfl hu⟩
    | false => exact .inr ⟨(best_no e).1, by rw [pkd_none (no_st e), (best_no e).1]⟩
  generalize best l = B at *
  generalize pkd mg l = P at *
  generalize stv l = Z at *
  clear hu hs
  rcases cases' with ⟨b, p, rfl, rfl⟩ | ⟨rfl, rfl⟩
  · simp only [neg1, if_true] at C3 C4
    have b0 : (0 : Int) ≤ (b : Int) := by omega
    have p0 : (0 : Int) ≤ (p : Int) := by omega
    have b1 : max (b : Int) 0 = b := by omega
    have p1 : max (p : Int) 0 = p := by omega
    have b2 : ¬ (b : Int) < 0 := by omega
    have p2 : ¬ (p : Int) < 0 := by omega
    go_enter Try.func3, Try.ntmps3
    go_wp2_with (first
      | (have kk := C1; go_at_call 8; refine (C1 _ hb).mono ?_; rintro e w1 ⟨rfl, k1⟩; clear C1 kk; replace hb := bt hb k1; clear k1)
      | (have kk := C2; go_at_call 9; refine (C2 _ hb).mono ?_; rintro e w2 ⟨rfl, k1⟩; clear C2 kk; replace hb := bt hb k1; clear k1)
      | (have kk := C3; go_at_call 10; refine (C3 _ hb).mono ?_; rintro e w3 ⟨rfl, k1⟩; clear C3 kk; replace hb := bt hb k1; clear k1)
      | (have kk := C4; go_at_call 11; refine (C4 _ hb).mono ?_; rintro e w4 ⟨rfl, k1⟩; clear C4 kk; replace hb := bt hb k1; clear k1)
      | (have kk := C5; go_at_call 12; refine (C5 _ hb).mono ?_; rintro e w5 ⟨rfl, k1⟩; clear C5 kk; replace hb := bt hb k1; clear k1)
      | (have kk := C6; go_at_call 13; refine (C6 _ hb).mono ?_; rintro e w6 ⟨rfl, k1⟩; clear C6 kk; replace hb := bt hb k1; clear k1)
      | (go_at_call 7; refine (live_any _).mono ?_; rintro e w7 ⟨rfl, k1⟩; replace hb := bt hb k1; clear k1))
    go_ret
    exact ⟨rfl, hb⟩
  · simp only [neg1, Bool.false_eq_true, if_false] at C3 C4
    go_enter Try.func3, Try.ntmps3
    go_wp2_with (first
      | (have kk := C1; go_at_call 8; refine (C1 _ hb).mono ?_; rintro e w1 ⟨rfl, k1⟩; clear C1 kk; replace hb := bt hb k1; clear k1)
      | (have kk := C2; go_at_call 9; refine (C2 _ hb).mono ?_; rintro e w2 ⟨rfl, k1⟩; clear C2 kk; replace hb := bt hb k1; clear k1)
      | (have kk := C3; go_at_call 10; refine (C3 _ hb).mono ?_; rintro e w3 ⟨rfl, k1⟩; clear C3 kk; replace hb := bt hb k1; clear k1)
      | (have kk := C4; go_at_call 11; refine (C4 _ hb).mono ?_; rintro e w4 ⟨rfl, k1⟩; clear C4 kk; replace hb := bt hb k1; clear k1)
      | (have kk := C5; go_at_call 12; refine (C5 _ hb).mono ?_; rintro e w5 ⟨rfl, k1⟩; clear C5 kk; replace hb := bt hb k1; clear k1)
      | (have kk := C6; go_at_call 13; refine (C6 _ hb).mono ?_; rintro e w6 ⟨rfl, k1⟩; clear C6 kk; replace hb := bt hb k1; clear k1)
      | (go_at_call 7; refine (live_any _).mono ?_; rintro e w7 ⟨rfl, k1⟩; replace hb := bt hb k1; clear k1))
    go_ret
    exact ⟨rfl, hb⟩
theorem tells_any (mg : Int) (ad : Option Addr) (n k : Nat) (l : List Cd) (w : World) (h0 : 0 ≤ mg) (h1 : mg < 65536) (hs : Cs w ad n l) :
    Calls Try.prog 3 #[.int .u16 mg, .slice ad n k] w (Gives w (.bool true)) := by
  by_cases h : 300 < n
  · exact tells_long mg ad n k w h
  · exact tells_walk mg ad n k l w (by omega) h0 h1 hs
end Go.Proofs.Ytjjfijbjnkgfbaa
