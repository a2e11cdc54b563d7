/-
  The document's Hear, for every history.
-/
import Derived.Test.YtpkjdfdjjobjgaaG1
namespace Go.Proofs.Ytpkjdfdjjobjgaa
open Go.RowKit
set_option linter.unusedSimpArgs false
theorem half_pow (b : Int) (j : Nat) : b / 2 ^ j / 2 = b / 2 ^ (j + 1) := by
  rw [Int.ediv_ediv_of_nonneg (Int.le_of_lt (Int.pow_pos (by decide))), ← Int.pow_succ]
theorem pow_ok (b : Int) (j : Nat) (h0 : 0 ≤ b) (h1 : b < 65536) : 0 ≤ b / 2 ^ j ∧ b / 2 ^ j < 65536 :=
  ⟨Int.ediv_nonneg h0 (Int.le_of_lt (Int.pow_pos (by decide))), Int.lt_of_le_of_lt (Int.ediv_le_self _ h0) h1⟩
theorem twice_pow (b : Int) (j : Nat) : b * 2 ^ j % 65536 * 2 % 65536 = b * 2 ^ (j + 1) % 65536 := by
  rw [Int.pow_succ, ← Int.mul_assoc]
  generalize b * 2 ^ j = z
  omega
set_option maxHeartbeats 4000000 in
theorem rhear_any (h : Hi) (s : Int) (w : World) (ok : h.ok) : Calls Try.prog 12 #[.agg #[.int .u16 h.b, .int .u16 h.n, .bool h.k], .int .u16 s] w (Gives w (.agg #[.int .u16 (hearH h s).b, .int .u16 (hearH h s).n, .bool (hearH h s).k])) := by
  have b0 := ok.b0
  have b1 := ok.b1
  have n0 := ok.n0
  have n1 := ok.n1
  obtain ⟨b, m, k⟩ := h
  dsimp only at b0 b1 n0 n1 ⊢
  have HX : Hid (befZ ⟨b, m, k⟩ s = if k = false then 0 else if (s - m) % 65536 ≤ 16 then b / 2 ^ ((s - m) % 65536).toNat else if (m - s) % 65536 ≤ 16 then b * 2 ^ ((m - s) % 65536).toNat % 65536 else 0) := rfl
  unfold hearH
  dsimp only
  generalize befZ ⟨b, m, k⟩ s = x at *
  have c0 : 0 ≤ (s - m) % 65536 := by omega
  have c2 : (s - m) % 65536 < 65536 := by omega
  have dd : (m - s) % 65536 = if (s - m) % 65536 = 0 then 0 else 65536 - (s - m) % 65536 := by split <;> omega
  rw [dd] at HX
  have e1 : IntKind.u16.wrap (s - m) = (s - m) % 65536 := wrap16 _
  clear dd ok
  generalize (s - m) % 65536 = c at *
  have e2 : IntKind.u16.wrap c = c := by rw [wrap16]; omega
  have e3 : c.tmod 65536 = c := by rw [Int.tmod_eq_emod_of_nonneg c0]; omega
  have e4 : IntKind.u16.wrap (s + 1) = (s + 1) % 65536 := wrap16 _
  have e5 : wrap64 (c - 65536) = c - 65536 := w64 _ (by omega) (by omega)
  have far : ∀ k : Bool, (k = false ∨ 16 < c ∧ c < 65520) → (x = if k = false then 0 else if c ≤ 16 then b / 2 ^ c.toNat else if (if c = 0 then 0 else 65536 - c) ≤ 16 then b * 2 ^ (if c = 0 then 0 else 65536 - c).toNat % 65536 else 0) → x / 2 + 32768 = 32768 := by
    intro k hk hx
    rcases hk with rfl | hk
    · rw [if_pos rfl] at hx; omega
    · rw [if_neg (by omega : ¬ c ≤ 16), if_neg (show ¬ (if c = 0 then (0 : Int) else 65536 - c) ≤ 16 by split <;> omega)] at hx
      split at hx <;> omega
  by_cases f : k = false ∨ 16 < c ∧ c < 65520
  · have ex := far k f HX.out
    rw [ex]
    clear far HX ex
    by_cases h1 : 32768 < c
    · rcases f with rfl | ⟨f1, f2⟩
      · go_enter Try.func12, Try.ntmps12
        go_wp2
        exact bodyPost_ret (retC rfl _ _ 0 rfl (lvH (ret_row _ _ _ _ _ _))) rfl ⟨rfl, two_below _ _ _⟩
      · have f3 : c - 65536 < -16 := by omega
        cases k with
        | false =>
          go_enter Try.func12, Try.ntmps12
          go_wp2
          exact bodyPost_ret (retC rfl _ _ 0 rfl (lvH (ret_row _ _ _ _ _ _))) rfl ⟨rfl, two_below _ _ _⟩
        | true =>
          go_enter Try.func12, Try.ntmps12
          go_wp2
          exact bodyPost_ret (retC rfl _ _ 0 rfl (lvH (ret_row _ _ _ _ _ _))) rfl ⟨rfl, two_below _ _ _⟩
    · rcases f with rfl | ⟨f1, f2⟩
      · go_enter Try.func12, Try.ntmps12
        go_wp2
        exact bodyPost_ret (retC rfl _ _ 0 rfl (lvH (ret_row _ _ _ _ _ _))) rfl ⟨rfl, two_below _ _ _⟩
      · cases k with
        | false =>
          go_enter Try.func12, Try.ntmps12
          go_wp2
          exact bodyPost_ret (retC rfl _ _ 0 rfl (lvH (ret_row _ _ _ _ _ _))) rfl ⟨rfl, two_below _ _ _⟩
        | true =>
          go_enter Try.func12, Try.ntmps12
          go_wp2
          exact bodyPost_ret (retC rfl _ _ 0 rfl (lvH (ret_row _ _ _ _ _ _))) rfl ⟨rfl, two_below _ _ _⟩
  · obtain rfl : k = true := by cases k <;> simp_all
    have f' : c ≤ 16 ∨ 65520 ≤ c := by simp at f; omega
    clear f far
    rcases f' with f1 | f1
    · have hx : x = b / 2 ^ c.toNat := by have := HX.out; rw [if_neg (by simp), if_pos f1] at this; exact this
      have HE : Hid (x = b / 2 ^ c.toNat) := hx
      clear hx HX
      go_enter Try.func12, Try.ntmps12
      go_wp2
      go_loopw [6] (fun i wr => ∃ j : Nat, (j : Int) ≤ c ∧ i = .int .i64 j ∧ (w.alloc (.cells #[.int .u16 (b / 2 ^ j), .int .u16 m, .bool true] 24)).alloc (.cells #[.int .u16 0, .int .u16 0, .bool false] 24) = wr) (fun i _ => c.toNat - (intOf i).toNat)
      case atStart => exact ⟨0, by omega, rfl, by simp⟩
      case round =>
        obtain ⟨j, hj, rfl, rfl⟩ := hrel
        have ok := pow_ok b j b0 b1
        have hp := half_pow b j
        by_cases hlt : (j : Int) < c
        · have HS : Hid (b / 2 ^ j / 2 = b / 2 ^ (j + 1)) := hp
          clear hp
          generalize b / 2 ^ j = y at *
          have e6 : IntKind.u16.wrap (y.tdiv 2) = y / 2 := by rw [wrap16, Int.tdiv_eq_ediv_of_nonneg ok.1]; omega
          go_wp2
          go_roundw
          case rel => exact ⟨j + 1, by omega, by go_num, by rw [← HS.out]⟩
          case measure => simp [intOf]; omega
        · have hjc : c.toNat = j := by omega
          have hx := HE.out
          rw [hjc] at hx
          subst hx
          clear HE hjc hp
          generalize b / 2 ^ j = y at *
          have e6 : IntKind.u16.wrap (y.tdiv 2) = y / 2 := by rw [wrap16, Int.tdiv_eq_ediv_of_nonneg ok.1]; omega
          have e7 : IntKind.u16.wrap (y / 2 + 32768) = y / 2 + 32768 := by rw [wrap16]; omega
          go_wp2
          go_loopw [7] (fun i wr => i = .int .i64 0 ∧ (w.alloc (.cells #[.int .u16 (y), .int .u16 m, .bool true] 24)).alloc (.cells #[.int .u16 0, .int .u16 0, .bool false] 24) = wr) (fun _ _ => 0)
          case atStart => exact ⟨rfl, rfl⟩
          case round =>
            obtain ⟨rfl, rfl⟩ := hrel
            have c3 : ¬ c < 0 := by omega
            go_wp2
            exact bodyPost_ret (retC rfl _ _ 0 rfl (lvH (ret_row _ _ _ _ _ _))) rfl ⟨rfl, two_below _ _ _⟩
    · have hd : ∃ d : Nat, 65536 - c = (d : Int) ∧ d ≤ 16 ∧ 0 < d := ⟨(65536 - c).toNat, by omega, by omega, by omega⟩
      obtain ⟨d, hd, d1, d0⟩ := hd
      have hx : x = b * 2 ^ d % 65536 := by
        have := HX.out
        rw [if_neg (by simp), if_neg (by omega : ¬ c ≤ 16), if_neg (by omega : ¬ c = 0), if_pos (by omega), hd, Int.toNat_natCast] at this
        exact this
      have HE : Hid (x = b * 2 ^ d % 65536) := hx
      have HD : Hid (65536 - c = (d : Int)) := hd
      have g1 : 32768 < c := by omega
      have g2 : ¬ 16 < c - 65536 := by omega
      have g3 : ¬ c - 65536 < -16 := by omega
      have g4 : ¬ 0 < c - 65536 := by omega
      clear hx HX
      go_enter Try.func12, Try.ntmps12
      go_wp2
      go_loopw [6] (fun i wr => i = .int .i64 0 ∧ (w.alloc (.cells #[.int .u16 (b), .int .u16 m, .bool true] 24)).alloc (.cells #[.int .u16 0, .int .u16 0, .bool false] 24) = wr) (fun _ _ => 0)
      case atStart => exact ⟨rfl, rfl⟩
      case round =>
        obtain ⟨rfl, rfl⟩ := hrel
        go_wp2
        go_loopw [7] (fun i wr => ∃ j : Nat, j ≤ d ∧ i = .int .i64 (-(j : Int)) ∧ (w.alloc (.cells #[.int .u16 (b * 2 ^ j % 65536), .int .u16 m, .bool true] 24)).alloc (.cells #[.int .u16 0, .int .u16 0, .bool false] 24) = wr) (fun i _ => d - (-(intOf i)).toNat)
        case atStart => exact ⟨0, by omega, rfl, by rw [show b * 2 ^ 0 % 65536 = b by rw [Int.pow_zero, Int.mul_one]; omega]⟩
        case round =>
          obtain ⟨j, hj, rfl, rfl⟩ := hrel
          have ok : 0 ≤ b * 2 ^ j % 65536 ∧ b * 2 ^ j % 65536 < 65536 := by omega
          have hp := twice_pow b j
          by_cases hlt : j < d
          · have HS : Hid (b * 2 ^ j % 65536 * 2 % 65536 = b * 2 ^ (j + 1) % 65536) := hp
            clear hp
            generalize b * 2 ^ j % 65536 = y at *
            have e6 : IntKind.u16.wrap (y * 2) = y * 2 % 65536 := wrap16 _
            have hlt' : c - 65536 < -(j : Int) := by omega
            go_wp2
            go_roundw
            case rel => exact ⟨j + 1, by omega, by go_num, by rw [← HS.out]⟩
            case measure => simp [intOf]; omega
          · have hjc : d = j := by omega
            have hx := HE.out
            rw [hjc] at hx
            subst hx
            have hlt' : ¬ c - 65536 < -(j : Int) := by omega
            clear HE hjc hp
            generalize b * 2 ^ j % 65536 = y at *
            have e6 : IntKind.u16.wrap (y.tdiv 2) = y / 2 := by rw [wrap16, Int.tdiv_eq_ediv_of_nonneg ok.1]; omega
            have e7 : IntKind.u16.wrap (y / 2 + 32768) = y / 2 + 32768 := by rw [wrap16]; omega
            go_wp2
            exact bodyPost_ret (retC rfl _ _ 0 rfl (lvH (ret_row _ _ _ _ _ _))) rfl ⟨rfl, two_below _ _ _⟩
end Go.Proofs.Ytpkjdfdjjobjgaa
