/-
  How many bits are 1: the library's count, and the document's.
-/
import Derived.Test.YtacadlbhgelncaaG1
namespace Go.Proofs.Ytacadlbhgelncaa.Lk
open Go.RowKit
set_option linter.unusedSimpArgs false
/-- How many of the lowest i bits are 1. -/
def lowc (b : Nat) : Nat → Nat
  | 0 => 0
  | i + 1 => lowc b i + b / 2 ^ i % 2
theorem lowc_le (b : Nat) : ∀ i, lowc b i ≤ i
  | 0 => Nat.le_refl _
  | i + 1 => by have := lowc_le b i; simp only [lowc]; omega
theorem lowc_add (b k : Nat) : ∀ i, lowc b (k + i) = lowc b k + lowc (b / 2 ^ k) i
  | 0 => rfl
  | i + 1 => by
    show lowc b (k + i) + b / 2 ^ (k + i) % 2 = lowc b k + (lowc (b / 2 ^ k) i + b / 2 ^ k / 2 ^ i % 2)
    rw [lowc_add b k i, Nat.div_div_eq_div_mul, ← Nat.pow_add]; omega
theorem lowc_mod (b : Nat) : lowc b 8 = lowc (b % 256) 8 := by
  have h0 : b % 256 / 1 % 2 = b / 1 % 2 := by omega
  have h1 : b % 256 / 2 % 2 = b / 2 % 2 := by omega
  have h2 : b % 256 / 4 % 2 = b / 4 % 2 := by omega
  have h3 : b % 256 / 8 % 2 = b / 8 % 2 := by omega
  have h4 : b % 256 / 16 % 2 = b / 16 % 2 := by omega
  have h5 : b % 256 / 32 % 2 = b / 32 % 2 := by omega
  have h6 : b % 256 / 64 % 2 = b / 64 % 2 := by omega
  have h7 : b % 256 / 128 % 2 = b / 128 % 2 := by omega
  simp only [lowc, Nat.reducePow, h0, h1, h2, h3, h4, h5, h6, h7]
theorem lowc_sum (b : Nat) : lowc b 16 = lowc (b / 256) 8 + lowc (b % 256) 8 := by
  have h := lowc_add b 8 8
  rw [lowc_mod b] at h
  rw [Nat.add_comm]
  exact h
theorem and_one (z : Int) (h0 : 0 ≤ z) (h1 : z < 65536) : bits BinOp.and IntKind.u16 z 1 = z % 2 := by
  rw [u16_and z 1 h0 h1 (by decide) (by decide)]
  show ((z.toNat &&& 1 : Nat) : Int) = _
  rw [Nat.and_one_is_mod]; omega
theorem and_low8 (z : Int) (h0 : 0 ≤ z) (h1 : z < 65536) : bits BinOp.and IntKind.u16 z 255 = z % 256 := by
  rw [u16_and z 255 h0 h1 (by decide) (by decide)]
  show ((z.toNat &&& 255 : Nat) : Int) = _
  have := Nat.and_two_pow_sub_one_eq_mod z.toNat 8
  simp at this
  rw [this]; omega
theorem shr_small (b j : Nat) (hb : b < 65536) : 0 ≤ ((b : Int) / 2 ^ j) ∧ ((b : Int) / 2 ^ j) < 65536 := by
  have p : (0 : Int) < 2 ^ j := Int.pow_pos (by decide)
  exact ⟨Int.ediv_nonneg (by omega) (Int.le_of_lt p), Int.lt_of_le_of_lt (Int.ediv_le_self _ (by omega)) (by omega)⟩
/-- The library's table. -/
def tab8 : ByteArray := ⟨#[0, 1, 1, 2, 1, 2, 2, 3, 1, 2, 2, 3, 2, 3, 3, 4, 1, 2, 2, 3, 2, 3, 3, 4, 2, 3, 3, 4, 3, 4, 4, 5, 1, 2, 2, 3, 2, 3, 3, 4, 2, 3, 3, 4, 3, 4, 4, 5, 2, 3, 3, 4, 3, 4, 4, 5, 3, 4, 4, 5, 4, 5, 5, 6, 1, 2, 2, 3, 2, 3, 3, 4, 2, 3, 3, 4, 3, 4, 4, 5, 2, 3, 3, 4, 3, 4, 4, 5, 3, 4, 4, 5, 4, 5, 5, 6, 2, 3, 3, 4, 3, 4, 4, 5, 3, 4, 4, 5, 4, 5, 5, 6, 3, 4, 4, 5, 4, 5, 5, 6, 4, 5, 5, 6, 5, 6, 6, 7, 1, 2, 2, 3, 2, 3, 3, 4, 2, 3, 3, 4, 3, 4, 4, 5, 2, 3, 3, 4, 3, 4, 4, 5, 3, 4, 4, 5, 4, 5, 5, 6, 2, 3, 3, 4, 3, 4, 4, 5, 3, 4, 4, 5, 4, 5, 5, 6, 3, 4, 4, 5, 4, 5, 5, 6, 4, 5, 5, 6, 5, 6, 6, 7, 2, 3, 3, 4, 3, 4, 4, 5, 3, 4, 4, 5, 4, 5, 5, 6, 3, 4, 4, 5, 4, 5, 5, 6, 4, 5, 5, 6, 5, 6, 6, 7, 3, 4, 4, 5, 4, 5, 5, 6, 4, 5, 5, 6, 5, 6, 6, 7, 4, 5, 5, 6, 5, 6, 6, 7, 5, 6, 6, 7, 6, 7, 7, 8]⟩
set_option maxRecDepth 100000 in
theorem tab8_eq : ∀ n : Fin 256, (tab8[n.val]'(show n.val < 256 from n.isLt)).toNat = lowc n.val 8 := by decide +kernel
theorem tab8_at (x : Nat) (h : x < 256) (h' : x < tab8.size) : (tab8[x]).toNat = lowc x 8 := tab8_eq ⟨x, h⟩
theorem tab8_sum (b : Nat) (hb : b < 65536) (h1 : b / 256 < tab8.size) (h2 : b % 256 < tab8.size) : (((tab8[b / 256]).toNat : Int) + ((tab8[b % 256]).toNat : Int)) % 256 = ((lowc b 16 : Nat) : Int) := by
  have l1 := lowc_le (b / 256) 8
  have l2 := lowc_le (b % 256) 8
  rw [tab8_at _ (by omega), tab8_at _ (by omega), lowc_sum]
  omega
set_option maxRecDepth 100000 in
theorem ones_any (b : Nat) (w : World) (hb : b < 65536) : Calls Try.prog 86 #[.int .u16 (b : Int)] w fun e w' => e = .returned (.int .i64 (lowc b 16 : Nat)) ∧ ∃ n, w.drewN n = w' := by
  have e1 := and_low8 b (by omega) (by omega)
  have g1 : 0 ≤ (b : Int) / 256 ∧ (b : Int) / 256 < 256 := by omega
  have g2 : 0 ≤ (b : Int) % 256 ∧ (b : Int) % 256 < 256 := by omega
  have HT := tab8_sum b hb (show b / 256 < 256 by omega) (show b % 256 < 256 by omega)
  have HH : Hid ((((tab8[b / 256]'(show b / 256 < 256 by omega)).toNat : Int) + ((tab8[b % 256]'(show b % 256 < 256 by omega)).toNat : Int)) % 256 = ((lowc b 16 : Nat) : Int)) := HT
  clear HT
  go_enter Try.func86, Try.ntmps86
  go_wp2
  go_quiet (fail)
  go_wp2
  go_ret
  exact ⟨congrArg (fun z => Ending.returned (.int .i64 z)) HH.out, nq, rfl⟩
end Go.Proofs.Ytacadlbhgelncaa.Lk
