/-
  What it costs to hear a neighbour, and what a link costs: the program's functions, for every input.
-/
import Derived.Test.YtacadlbhgelncaaG2
namespace Go.Proofs.Ytacadlbhgelncaa.Lk
open Go.RowKit
set_option linter.unusedSimpArgs false
theorem wrap32 (z : Int) : IntKind.u32.wrap z = z % 4294967296 := by simp [IntKind.wrap, IntKind.signed, IntKind.bits]
theorem finite_any (z : Int) (w : World) (h0 : 0 ≤ z) : Calls Try.prog 60 #[.int .u32 z] w fun e w' => e = .returned (.int .u16 (min z 65534)) ∧ w = w' := by
  by_cases h : 65534 < z
  · rw [show min z 65534 = 65534 by omega]
    go_enter Try.func60, Try.ntmps60
    go_wp2
    go_ret
    exact ⟨rfl, rfl⟩
  · rw [show min z 65534 = z by omega]
    have h' : z ≤ 65534 := by omega
    clear h
    go_enter Try.func60, Try.ntmps60
    go_wp2
    go_ret
    exact ⟨rfl, rfl⟩
def rxZ (kind cost : Int) (b : Nat) : Int :=
  if kind = 0 then (if 2 ≤ lowc (b / 8192) 16 then cost else 65535) else if kind = 1 then (if 0 < lowc b 16 then min (cost * 16 / (lowc b 16 : Nat)) 65534 else 65535) else 65535
theorem rxOf_any (kind cost : Int) (b : Nat) (w : World) (hc : 0 ≤ cost) (hc' : cost < 65536) (hb : b < 65536) : Calls Try.prog 74 #[.int .i64 kind, .int .u16 cost, .int .u16 (b : Int)] w fun e w' => e = .returned (.int .u16 (rxZ kind cost b)) ∧ ∃ n, w.drewN n = w' := by
  by_cases k0 : kind = 0
  · have k : (kind == 0) = true := by simpa using k0
    have eb : (b : Int) / 8192 = ((b / 8192 : Nat) : Int) := by omega
    have C : ∀ w, Calls Try.prog 86 #[.int .u16 ((b : Int) / 8192)] w fun e w' => e = .returned (.int .i64 (lowc (b / 8192) 16 : Nat)) ∧ ∃ n, w.drewN n = w' := fun w => by
      rw [eb]
      exact ones_any (b / 8192) w (by omega)
    clear eb
    have HX : Hid (rxZ kind cost b = if 2 ≤ lowc (b / 8192) 16 then cost else 65535) := by unfold rxZ; rw [if_pos k0]; exact rfl
    clear k0
    generalize rxZ kind cost b = x at *
    generalize lowc (b / 8192) 16 = n at *
    by_cases h2 : 2 ≤ n
    · obtain rfl : x = cost := by rw [HX.out, if_pos h2]
      go_enter Try.func74, Try.ntmps74
      go_wp2_with (go_at_call 86; refine (C _).mono ?_; rintro e w' ⟨rfl, nq, rfl⟩)
      go_ret
      exact ⟨rfl, nq, rfl⟩
    · obtain rfl : x = 65535 := by rw [HX.out, if_neg h2]
      go_enter Try.func74, Try.ntmps74
      go_wp2_with (go_at_call 86; refine (C _).mono ?_; rintro e w' ⟨rfl, nq, rfl⟩)
      go_ret
      exact ⟨rfl, nq, rfl⟩
  · by_cases k1 : kind = 1
    · have k : (kind == 0) = false := by simpa using k0
      have k' : (kind == 1) = true := by simpa using k1
      have C := fun w => ones_any b w hb
      have HX : Hid (rxZ kind cost b = if 0 < lowc b 16 then min (cost * 16 / (lowc b 16 : Nat)) 65534 else 65535) := by unfold rxZ; rw [if_neg k0, if_pos k1]; exact rfl
      have hle := lowc_le b 16
      clear k0 k1
      generalize rxZ kind cost b = x at *
      generalize lowc b 16 = n at *
      by_cases h2 : 0 < n
      · obtain rfl : x = min (cost * 16 / n) 65534 := by rw [HX.out, if_pos h2]
        have e1 : IntKind.u32.wrap cost = cost := by rw [wrap32]; omega
        have e2 : IntKind.u32.wrap (cost * 16) = cost * 16 := by rw [wrap32]; omega
        have e3 : IntKind.u32.wrap (n : Int) = n := by rw [wrap32]; omega
        have p1 : 0 ≤ cost * 16 / (n : Int) := Int.ediv_nonneg (by omega) (by omega)
        have p2 : cost * 16 / (n : Int) ≤ cost * 16 := Int.ediv_le_self _ (by omega)
        have e4 : IntKind.u32.wrap ((cost * 16).tdiv (n : Int)) = cost * 16 / (n : Int) := by rw [wrap32, Int.tdiv_eq_ediv_of_nonneg (by omega)]; omega
        have D := fun w => finite_any (cost * 16 / (n : Int)) w p1
        clear p1 p2
        go_enter Try.func74, Try.ntmps74
        go_wp2_with (first
          | (go_at_call 86; refine (C _).mono ?_; rintro e w' ⟨rfl, nq, rfl⟩)
          | (go_at_call 60; refine (D _).mono ?_; rintro e w' ⟨rfl, rfl⟩))
        go_ret
        exact ⟨rfl, nq, rfl⟩
      · obtain rfl : x = 65535 := by rw [HX.out, if_neg h2]
        go_enter Try.func74, Try.ntmps74
        go_wp2_with (go_at_call 86; refine (C _).mono ?_; rintro e w' ⟨rfl, nq, rfl⟩)
        go_ret
        exact ⟨rfl, nq, rfl⟩
    · have k : (kind == 0) = false := by simpa using k0
      have k' : (kind == 1) = false := by simpa using k1
      have HX : rxZ kind cost b = 65535 := by unfold rxZ; rw [if_neg k0, if_neg k1]
      rw [HX]
      go_enter Try.func74, Try.ntmps74
      go_wp2_with (fail)
      go_ret
      exact ⟨rfl, 0, rfl⟩
def costZ (kind rx tx : Int) : Int := if rx = 65535 ∨ tx = 65535 then 65535 else if kind = 0 then tx else if kind = 1 then min (max tx 256 * rx / 256) 65534 else 65535
theorem cost_any (kind rx tx : Int) (w : World) (hr : 0 ≤ rx) (hr' : rx < 65536) (ht : 0 ≤ tx) (ht' : tx < 65536) : Calls Try.prog 38 #[.int .i64 kind, .int .u16 rx, .int .u16 tx] w fun e w' => e = .returned (.int .u16 (costZ kind rx tx)) ∧ w = w' := by
  have HX : Hid (costZ kind rx tx = if rx = 65535 ∨ tx = 65535 then 65535 else if kind = 0 then tx else if kind = 1 then min (max tx 256 * rx / 256) 65534 else 65535) := rfl
  generalize costZ kind rx tx = x at *
  by_cases r1 : rx = 65535
  · obtain rfl : x = 65535 := by rw [HX.out, if_pos (.inl r1)]
    subst r1
    go_enter Try.func38, Try.ntmps38
    go_wp2_with (fail)
    go_ret
    exact ⟨rfl, rfl⟩
  by_cases r2 : tx = 65535
  · obtain rfl : x = 65535 := by rw [HX.out, if_pos (.inr r2)]
    have r3 : (rx == 65535) = false := by simpa using r1
    subst r2
    go_enter Try.func38, Try.ntmps38
    go_wp2_with (fail)
    go_ret
    exact ⟨rfl, rfl⟩
  have r3 : (rx == 65535) = false := by simpa using r1
  have r4 : (tx == 65535) = false := by simpa using r2
  have r5 : ¬ (rx = 65535 ∨ tx = 65535) := by omega
  by_cases k0 : kind = 0
  · obtain rfl : x = tx := by rw [HX.out, if_neg r5, if_pos k0]
    subst k0
    go_enter Try.func38, Try.ntmps38
    go_wp2_with (fail)
    go_ret
    exact ⟨rfl, rfl⟩
  by_cases k1 : kind = 1
  · obtain rfl : x = min (max tx 256 * rx / 256) 65534 := by rw [HX.out, if_neg r5, if_neg k0, if_pos k1]
    by_cases ht2 : tx < 256
    · have p0 : 0 ≤ 256 * rx := by omega
      rw [show max tx 256 = 256 by omega, show 256 * rx / 256 = rx by omega]
      have D := fun w => finite_any rx w hr
      have e4 : 256 * rx / 256 = rx := by omega
      have e3 : 256 * rx % 4294967296 = 256 * rx := by omega
      clear HX r5 r1 r2
      subst k1
      go_enter Try.func38, Try.ntmps38
      go_wp2_with (go_at_call 60; (try rw [e4]); refine (D _).mono ?_; rintro e w' ⟨rfl, rfl⟩)
      go_ret
      exact ⟨rfl, rfl⟩
    · have p0 : 0 ≤ tx * rx := Int.mul_nonneg ht hr
      have p1 : tx * rx ≤ 65535 * 65535 := Int.mul_le_mul (by omega) (by omega) hr (by omega)
      rw [show max tx 256 = tx by omega]
      have D := fun w => finite_any (tx * rx / 256) w (by omega)
      have e3 : tx * rx % 4294967296 = tx * rx := by omega
      clear HX r5 r1 r2
      subst k1
      go_enter Try.func38, Try.ntmps38
      go_wp2_with (go_at_call 60; refine (D _).mono ?_; rintro e w' ⟨rfl, rfl⟩)
      go_ret
      exact ⟨rfl, rfl⟩
  · obtain rfl : x = 65535 := by rw [HX.out, if_neg r5, if_neg k0, if_neg k1]
    have k : (kind == 0) = false := by simpa using k0
    have k' : (kind == 1) = false := by simpa using k1
    go_enter Try.func38, Try.ntmps38
    go_wp2_with (fail)
    go_ret
    exact ⟨rfl, rfl⟩
end Go.Proofs.Ytacadlbhgelncaa.Lk
