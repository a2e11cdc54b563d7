/-
  The law LinkAll returns true for every input.
-/
import Derived.Test.YtpkjdfdjjobjgaaWi0
import Derived.Test.YtpkjdfdjjobjgaaBiW
namespace Go.Proofs.Ytpkjdfdjjobjgaa
open Go.RowKit
set_option linter.unusedSimpArgs false
/-- Behind n hellos that were all heard. -/
def allH (first : Int) : Nat → Hi
  | 0 => ⟨0, 0, false⟩
  | n + 1 => hearH (allH first n) ((first + n) % 65536)
theorem all_ok (first : Int) : ∀ n, (allH first n).ok
  | 0 => ⟨Int.le_refl _, (by decide : (0 : Int) < 65536), Int.le_refl _, (by decide : (0 : Int) < 65536)⟩
  | n + 1 => hear_ok _ (all_ok first n)
theorem all_k (first : Int) (n : Nat) (h : 0 < n) : (allH first n).k = true := by
  cases n with
  | zero => omega
  | succ n => rfl
theorem all_n (first : Int) (n : Nat) (h : 0 < n) : (allH first n).n = (first + n) % 65536 := by
  cases n with
  | zero => omega
  | succ n =>
    show ((first + n) % 65536 + 1) % 65536 = _
    push_cast
    omega
theorem all_step (first : Int) (n : Nat) (h : 0 < n) : (allH first (n + 1)).b = (allH first n).b / 2 + 32768 := by
  show befZ (allH first n) ((first + n) % 65536) / 2 + 32768 = _
  unfold befZ
  rw [all_k first n h, all_n first n h, if_neg (by simp), show ((first + (n : Int)) % 65536 - (first + (n : Int)) % 65536) % 65536 = 0 by omega, if_pos (by decide)]
  simp
/-- The highest n bits are 1. -/
theorem all_b (first : Int) : ∀ n, 0 < n → (allH first n).b = 65536 - 2 ^ (16 - min n 16)
  | 0, h => by omega
  | 1, _ => by simp [allH, hearH, befZ]
  | n + 2, _ => by
    rw [all_step first (n + 1) (by omega), all_b first (n + 1) (by omega)]
    by_cases h : n + 2 ≤ 16
    · rw [Nat.min_eq_left (by omega), Nat.min_eq_left h, show 16 - (n + 1) = (16 - (n + 2)) + 1 by omega, Int.pow_succ]
      have : (0 : Int) < 2 ^ (16 - (n + 2)) := Int.pow_pos (by decide)
      generalize (2 : Int) ^ (16 - (n + 2)) = z at *
      omega
    · rw [Nat.min_eq_right (by omega), Nat.min_eq_right (by omega)]
      rfl
theorem three_high : ∀ n : Fin 17, 3 ≤ n.val → 2 ≤ lowc ((65536 - 2 ^ (16 - n.val)) / 8192) 16 := by decide +kernel
theorem all_wired (cost first : Int) (n : Nat) (h : 3 ≤ n) : rxZ 0 cost (allH first n).b.toNat = cost := by
  rw [all_b first n (by omega)]
  unfold rxZ
  rw [if_pos rfl, if_pos]
  have := three_high ⟨min n 16, by omega⟩ (by dsimp only; omega)
  have e : ((65536 : Int) - 2 ^ (16 - min n 16)).toNat = 65536 - 2 ^ (16 - min n 16) := by
    have : ((2 ^ (16 - min n 16) : Nat) : Int) = (2 : Int) ^ (16 - min n 16) := by simp
    omega
  rw [e]
  exact this
theorem all_wireless (cost first : Int) (n : Nat) (h : 16 ≤ n) (hc : 0 ≤ cost) (hc' : cost < 65535) : rxZ 1 cost (allH first n).b.toNat = cost := by
  have e : lowc (allH first n).b.toNat 16 = 16 := by
    rw [all_b first n (by omega), Nat.min_eq_right h]
    decide +kernel
  unfold rxZ
  rw [if_neg (by decide), if_pos rfl, e, if_pos (by decide)]
  omega
theorem low_zero : ∀ i, lowc 0 i = 0
  | 0 => rfl
  | i + 1 => by simp [lowc, low_zero i]
theorem rx_zero (kind cost : Int) : rxZ kind cost 0 = 65535 := by
  unfold rxZ
  simp [low_zero]
theorem miss_zero (h : Hi) (n : Int) (o : h.ok) (hn : 16 ≤ n) (hk : h.k = true) : (missH h n).b = 0 := by
  unfold missH
  rw [if_pos ⟨hk, by omega⟩, Nat.min_eq_right (by omega)]
  have := o.b0
  have := o.b1
  show h.b / 65536 = 0
  omega
theorem top_small : ∀ x : Fin 2, lowc x.val 16 ≤ 1 := by decide +kernel
theorem miss_wired (cost : Int) (h : Hi) (n : Int) (o : h.ok) (hn : 2 ≤ n) (hk : h.k = true) : rxZ 0 cost (missH h n).b.toNat = 65535 := by
  have b0 := o.b0
  have b1 := o.b1
  unfold missH
  rw [if_pos ⟨hk, by omega⟩]
  unfold rxZ
  rw [if_pos rfl, if_neg]
  dsimp only
  have l : h.b / 2 ^ min n.toNat 16 < 16384 := by
    have p : (4 : Int) ≤ 2 ^ min n.toNat 16 := by
      have : (2 : Int) ^ 2 ≤ 2 ^ min n.toNat 16 := by
        have := Nat.pow_le_pow_right (n := 2) (by decide) (show 2 ≤ min n.toNat 16 by omega)
        exact_mod_cast this
      exact this
    exact Int.ediv_lt_of_lt_mul (by omega) (by omega)
  have := top_small ⟨(h.b / 2 ^ min n.toNat 16).toNat / 8192, by omega⟩
  dsimp only at this
  omega
/-- What Miss leaves of hellos that were all heard. -/
theorem silent_16 (first : Int) (n : Nat) (m : Int) (h : 16 ≤ m) : (missH (allH first n) m).b = 0 := by
  cases n with
  | zero => simp [allH, missH]
  | succ n => exact miss_zero _ m (all_ok _ _) h rfl
theorem silent_2 (cost first : Int) (n : Nat) (m : Int) (h : 2 ≤ m) : rxZ 0 cost (missH (allH first n) m).b.toNat = 65535 := by
  cases n with
  | zero =>
    rw [show missH (allH first 0) m = ⟨0, 0, false⟩ by simp [allH, missH]]
    exact rx_zero 0 cost
  | succ n => exact miss_wired cost _ m (all_ok _ _) h rfl
theorem all_next (first : Int) (n : Nat) (m : Int) (h : 0 < n) (hm : 0 ≤ m) : (missH (allH first n) m).n = (first + (n + m)) % 65536 := by
  rw [miss_n _ _ (all_k first n h) hm (all_ok _ _), all_n first n h]
  omega
theorem rx_nil (kind cost : Int) (W : World) (hc : 0 ≤ cost) (hc' : cost < 65536) : Calls Try.prog 13 #[.int .i64 kind, .int .u16 cost, .slice none 0 0] W (Gives W (.int .u16 65535)) :=
  rx_any kind cost none 0 0 [] W hc hc' (by decide) ⟨rfl, (fun _ h => by cases h), .inl rfl⟩
theorem all_short (cost first n m : Int) (w : World) (h : n < 0 ∨ 300 < n ∨ m < 0 ∨ 300 < m ∨ cost = 65535) :
    Calls Try.prog 5 #[.int .u16 cost, .int .u16 first, .int .i64 n, .int .i64 m] w (Gives w (.bool true)) := by
  by_cases h1 : n < 0
  · go_enter Try.func5, Try.ntmps5
    go_wp2_with (go_at_call 8; refine (live_any _).mono ?_; rintro e w' ⟨rfl, hw⟩)
    go_ret
    exact ⟨rfl, hw⟩
  by_cases h2 : 300 < n
  · go_enter Try.func5, Try.ntmps5
    go_wp2_with (go_at_call 8; refine (live_any _).mono ?_; rintro e w' ⟨rfl, hw⟩)
    go_ret
    exact ⟨rfl, hw⟩
  by_cases h3 : m < 0
  · go_enter Try.func5, Try.ntmps5
    go_wp2_with (go_at_call 8; refine (live_any _).mono ?_; rintro e w' ⟨rfl, hw⟩)
    go_ret
    exact ⟨rfl, hw⟩
  by_cases h4 : 300 < m
  · go_enter Try.func5, Try.ntmps5
    go_wp2_with (go_at_call 8; refine (live_any _).mono ?_; rintro e w' ⟨rfl, hw⟩)
    go_ret
    exact ⟨rfl, hw⟩
  · obtain rfl : cost = 65535 := by omega
    go_enter Try.func5, Try.ntmps5
    go_wp2_with (go_at_call 8; refine (live_any _).mono ?_; rintro e w' ⟨rfl, hw⟩)
    go_ret
    exact ⟨rfl, hw⟩
end Go.Proofs.Ytpkjdfdjjobjgaa
