/-
  The document's digit.
-/
import Derived.Test.YtldpocbnkggnnaaDoorJ2
namespace Go.Proofs.YtldpocbnkggnnaaDoor
open Go.RowKit
set_option linter.unusedSimpArgs false
set_option maxRecDepth 20000
theorem dgI_val (c : UInt8) : dgI c = if 48 ≤ c.toNat ∧ c.toNat ≤ 57 then (c.toNat : Int) - 48 else if 97 ≤ c.toNat ∧ c.toNat ≤ 102 then (c.toNat : Int) - 87 else -1 := by
  have h : ((List.range 256).all fun b => dgI (UInt8.ofNat b) == (if 48 ≤ b ∧ b ≤ 57 then (b : Int) - 48 else if 97 ≤ b ∧ b ≤ 102 then (b : Int) - 87 else -1)) = true := by kernel_rfl
  have h1 := List.all_eq_true.1 h c.toNat (List.mem_range.2 c.toNat_lt)
  have e : UInt8.ofNat c.toNat = c := by apply UInt8.toNat.inj; simp
  rw [e] at h1
  exact eq_of_beq h1
theorem digit_any (c : UInt8) (w : World) : Calls Tryd.prog 37 #[.int .u8 (c.toNat : Int)] w fun e w' => e = .returned (.int .i64 (dgI c)) ∧ w' = w := by
  have HV : Hid (dgI c = if 48 ≤ c.toNat ∧ c.toNat ≤ 57 then (c.toNat : Int) - 48 else if 97 ≤ c.toNat ∧ c.toNat ≤ 102 then (c.toNat : Int) - 87 else -1) := dgI_val c
  have hlt := c.toNat_lt
  generalize dgI c = D at *
  generalize c.toNat = n at *
  by_cases h1 : 48 ≤ n
  · have h1' : (48 : Int) ≤ (n : Int) := by omega
    by_cases h2 : n ≤ 57
    · have h2' : (n : Int) ≤ 57 := by omega
      have hw : IntKind.u8.wrap ((n : Int) - 48) = (n : Int) - 48 := by simp [IntKind.wrap, IntKind.signed, IntKind.bits]; omega
      have HD : Hid (D = (n : Int) - 48) := by show _ = _; rw [HV.out, if_pos ⟨h1, h2⟩]
      clear HV
      go_enter Tryd.func37, Tryd.ntmps37
      go_wp2
      go_ret
      exact ⟨by rw [HD.out]; rfl, rfl⟩
    · have h2' : ¬ (n : Int) ≤ 57 := by omega
      by_cases h3 : 97 ≤ n
      · have h3' : (97 : Int) ≤ (n : Int) := by omega
        by_cases h4 : n ≤ 102
        · have h4' : (n : Int) ≤ 102 := by omega
          have hw : IntKind.u8.wrap ((n : Int) - 97) = (n : Int) - 97 := by simp [IntKind.wrap, IntKind.signed, IntKind.bits]; omega
          have hw2 : wrap64 ((n : Int) - 97 + 10) = (n : Int) - 97 + 10 := by unfold wrap64; omega
          have HD : Hid (D = (n : Int) - 97 + 10) := by show _ = _; rw [HV.out, if_neg (by omega), if_pos ⟨h3, h4⟩]; omega
          clear HV
          go_enter Tryd.func37, Tryd.ntmps37
          go_wp2
          go_ret
          exact ⟨by rw [HD.out]; rfl, rfl⟩
        · have h4' : ¬ (n : Int) ≤ 102 := by omega
          have HD : Hid (D = -1) := by show _ = _; rw [HV.out, if_neg (by omega), if_neg (by omega)]
          clear HV
          go_enter Tryd.func37, Tryd.ntmps37
          go_wp2
          go_ret
          exact ⟨by rw [HD.out]; rfl, rfl⟩
      · have h3' : ¬ (97 : Int) ≤ (n : Int) := by omega
        have HD : Hid (D = -1) := by show _ = _; rw [HV.out, if_neg (by omega), if_neg (by omega)]
        clear HV
        go_enter Tryd.func37, Tryd.ntmps37
        go_wp2
        go_ret
        exact ⟨by rw [HD.out]; rfl, rfl⟩
  · have h1' : ¬ (48 : Int) ≤ (n : Int) := by omega
    have h3' : ¬ (97 : Int) ≤ (n : Int) := by omega
    have HD : Hid (D = -1) := by show _ = _; rw [HV.out, if_neg (by omega), if_neg (by omega)]
    clear HV
    go_enter Tryd.func37, Tryd.ntmps37
    go_wp2
    go_ret
    exact ⟨by rw [HD.out]; rfl, rfl⟩
end Go.Proofs.YtldpocbnkggnnaaDoor
