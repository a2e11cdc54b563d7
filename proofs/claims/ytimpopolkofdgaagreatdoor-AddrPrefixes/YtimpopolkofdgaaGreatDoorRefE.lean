/-
  The document's Digits and hexes.
-/
import Derived.Test.YtimpopolkofdgaaGreatDoorRefD
import Derived.Test.YtimpopolkofdgaaGreatDoorFmt
import Derived.Lib.ItoaLen
namespace Go.Proofs.YtimpopolkofdgaaGreatDoor
open Go.RowKit
set_option linter.unusedSimpArgs false
set_option maxRecDepth 20000
/-! ### The document's Digits and hexes -/
theorem dig_at (n : Nat) (h : n < 10) : (⟨#[48, 49, 50, 51, 52, 53, 54, 55, 56, 57]⟩ : ByteArray).extract n (n + 1) = str [UInt8.ofNat (48 + n)] := by
  match n, h with
  | 0, _ | 1, _ | 2, _ | 3, _ | 4, _ | 5, _ | 6, _ | 7, _ | 8, _ | 9, _ => rfl
theorem hex_at (n : Nat) (h : n < 16) : (⟨#[48, 49, 50, 51, 52, 53, 54, 55, 56, 57, 97, 98, 99, 100, 101, 102]⟩ : ByteArray).extract n (n + 1) = str [hexd n] := by
  have k : ∀ m, m < 16 → (⟨#[48, 49, 50, 51, 52, 53, 54, 55, 56, 57, 97, 98, 99, 100, 101, 102]⟩ : ByteArray).extract m (m + 1) = str [hexd m] := by
    intro m hm
    have : m = 0 ∨ m = 1 ∨ m = 2 ∨ m = 3 ∨ m = 4 ∨ m = 5 ∨ m = 6 ∨ m = 7 ∨ m = 8 ∨ m = 9 ∨ m = 10 ∨ m = 11 ∨ m = 12 ∨ m = 13 ∨ m = 14 ∨ m = 15 := by omega
    rcases this with rfl | rfl | rfl | rfl | rfl | rfl | rfl | rfl | rfl | rfl | rfl | rfl | rfl | rfl | rfl | rfl <;> rfl
  exact k n h
theorem str_append (a b : List UInt8) : str a ++ str b = str (a ++ b) := by
  apply ByteArray.ext
  rw [ByteArray.data_append]
  simp [str]
theorem rdigits (n : Nat) : n < 1000000 → ∀ w : World, Calls Tryz.prog 65 #[.int .i64 (n : Int)] w fun e w' => e = .returned (.string (str (Lib.itoa (n : Int)))) ∧ w = w' := by
  induction n using Nat.strongRecOn with
  | ind n ih =>
    intro hn w
    rw [Lib.itoa_nonneg]
    by_cases h10 : n < 10
    · have h10' : (n : Int) < 10 := by omega
      have HE : Hid (∀ _ : True, (⟨#[48, 49, 50, 51, 52, 53, 54, 55, 56, 57]⟩ : ByteArray).extract n (n + 1) = str (Lib.decDigits n)) := fun _ => by rw [dig_at n h10, Lib.decDigits_one h10]
      generalize Lib.decDigits n = D at *
      clear ih
      go_enter Tryz.func65, Tryz.ntmps65
      go_wp2
      go_ret
      exact ⟨by rw [← HE.out trivial]; rfl, rfl⟩
    · have h10' : ¬ (n : Int) < 10 := by omega
      have q1 : Int.tdiv (n : Int) 10 = ((n / 10 : Nat) : Int) := by rw [Int.tdiv_eq_ediv_of_nonneg (by omega)]; omega
      have q2 : Int.tmod (n : Int) 10 = ((n % 10 : Nat) : Int) := by rw [Int.tmod_eq_emod_of_nonneg (by omega)]; omega
      have i1 := ih (n / 10) (by omega) (by omega)
      have i2 := ih (n % 10) (by omega) (by omega)
      rw [Lib.itoa_nonneg] at i1 i2
      have HE : Hid (Lib.decDigits n = Lib.decDigits (n / 10) ++ Lib.decDigits (n % 10)) := by
        show _ = _
        rw [Lib.decDigits, dif_neg h10, Lib.decDigits_one (show n % 10 < 10 by omega)]
      have l1 : (Lib.decDigits (n / 10)).length ≤ 21 := by
        have := Lib.itoa_length_le ((n / 10 : Nat) : Int) (by omega) (by omega)
        rwa [Lib.itoa_nonneg] at this
      have l2 : (Lib.decDigits (n % 10)).length ≤ 21 := by
        have := Lib.itoa_length_le ((n % 10 : Nat) : Int) (by omega) (by omega)
        rwa [Lib.itoa_nonneg] at this
      generalize Lib.decDigits n = D at *
      generalize Lib.decDigits (n / 10) = A at *
      generalize Lib.decDigits (n % 10) = B at *
      have hs : ¬ 9223372036854775807 < A.length + B.length := by omega
      clear ih l1 l2
      have wx : wrap64 ((n / 10 : Nat) : Int) = ((n / 10 : Nat) : Int) := by unfold wrap64; omega
      generalize n / 10 = x at *
      generalize n % 10 = y at *
      go_enter Tryz.func65, Tryz.ntmps65
      go_wp2_with (go_at_call 65; (first | (with_reducible refine (i1 _).mono ?_) | (with_reducible refine (i2 _).mono ?_)); rintro e w' ⟨rfl, rfl⟩)
      go_ret
      exact ⟨by rw [HE.out, ← str_append]; rfl, rfl⟩
theorem hexs_le (n : Nat) (h : n < 65536) : (hexs n).length ≤ 4 := by
  rw [hexs_eq]
  split
  · simp
  · rw [hexs_eq]
    split
    · simp
    · rw [hexs_eq]
      split
      · simp
      · rw [hexs_eq, if_pos (by omega)]
        simp
theorem rhexes (n : Nat) : n < 65536 → ∀ w : World, Calls Tryz.prog 80 #[.int .i64 (n : Int)] w fun e w' => e = .returned (.string (str (hexs n))) ∧ w = w' := by
  induction n using Nat.strongRecOn with
  | ind n ih =>
    intro hn w
    by_cases h10 : n < 16
    · have h10' : (n : Int) < 16 := by omega
      have HE : Hid (∀ _ : True, (⟨#[48, 49, 50, 51, 52, 53, 54, 55, 56, 57, 97, 98, 99, 100, 101, 102]⟩ : ByteArray).extract n (n + 1) = str (hexs n)) := fun _ => by rw [hex_at n h10, hexs_eq, if_pos h10]
      generalize hexs n = D at *
      clear ih
      go_enter Tryz.func80, Tryz.ntmps80
      go_wp2
      go_ret
      exact ⟨by rw [← HE.out trivial]; rfl, rfl⟩
    · have h10' : ¬ (n : Int) < 16 := by omega
      have q1 : Int.tdiv (n : Int) 16 = ((n / 16 : Nat) : Int) := by rw [Int.tdiv_eq_ediv_of_nonneg (by omega)]; omega
      have q2 : Int.tmod (n : Int) 16 = ((n % 16 : Nat) : Int) := by rw [Int.tmod_eq_emod_of_nonneg (by omega)]; omega
      have i1 := ih (n / 16) (by omega) (by omega)
      have i2 := ih (n % 16) (by omega) (by omega)
      have HE : Hid (hexs n = hexs (n / 16) ++ hexs (n % 16)) := by
        show _ = _
        rw [hexs_eq n, if_neg h10, hexs_eq (n % 16), if_pos (by omega)]
      have l1 := hexs_le (n / 16) (by omega)
      have l2 := hexs_le (n % 16) (by omega)
      generalize hexs n = D at *
      generalize hexs (n / 16) = A at *
      generalize hexs (n % 16) = B at *
      have hs : ¬ 9223372036854775807 < A.length + B.length := by omega
      clear ih l1 l2
      have wx : wrap64 ((n / 16 : Nat) : Int) = ((n / 16 : Nat) : Int) := by unfold wrap64; omega
      generalize n / 16 = x at *
      generalize n % 16 = y at *
      go_enter Tryz.func80, Tryz.ntmps80
      go_wp2_with (go_at_call 80; (first | (with_reducible refine (i1 _).mono ?_) | (with_reducible refine (i2 _).mono ?_)); rintro e w' ⟨rfl, rfl⟩)
      go_ret
      exact ⟨by rw [HE.out, ← str_append]; rfl, rfl⟩
end Go.Proofs.YtimpopolkofdgaaGreatDoor
