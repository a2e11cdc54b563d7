/-
  What Sum answers, and the document's own, of every slice of metrics.
-/
import Derived.Test.YtacadlbhgelncaaG0
namespace Go.Proofs.Ytacadlbhgelncaa.Sq
open Go.RowKit
set_option linter.unusedSimpArgs false
theorem wrap16 (z : Int) : IntKind.u16.wrap z = z % 65536 := by simp [IntKind.wrap, IntKind.signed, IntKind.bits]
theorem w64 (z : Int) (h : -9223372036854775808 ≤ z) (h' : z ≤ 9223372036854775807) : wrap64 z = z := by
  unfold wrap64; omega
/-- The sum of metrics, which ends at Infinity. -/
def capS (l : List Nat) : Nat := min l.sum 65535
theorem capS_step (l : List Nat) (j : Nat) (h : j < l.length) : capS (l.take (j + 1)) = min (capS (l.take j) + l[j]) 65535 := by
  unfold capS
  rw [List.take_succ_eq_append_getElem h, List.sum_append]
  simp only [List.sum_cons, List.sum_nil]
  omega
theorem cap_if (V z : Nat) : (if (65535 : Int) < (V : Int) + (z : Int) then (65535 : Int) else (V : Int) + (z : Int)) = ((min (V + z) 65535 : Nat) : Int) := by
  rw [Nat.min_def]
  split <;> split <;> omega
theorem wrap_cap (l : List Nat) : IntKind.u16.wrap ((capS l : Nat) : Int) = ((capS l : Nat) : Int) := by
  rw [wrap16]
  have : capS l ≤ 65535 := by unfold capS; omega
  omega
/-- A slice value that leads to these metrics. -/
structure Mts (w : World) (a : Option Addr) (n : Nat) (l : List Nat) : Prop where
  len : l.length = n
  bare : a = none → n = 0
  small : ∀ x ∈ l, x < 65536
  cell : ∀ ad, a = some ad → ∀ (j : Nat) (h : j < l.length), w.cell? (ad.add j) = some (.int .u16 (l[j] : Nat))
theorem sum_any (a : Option Addr) (n c : Nat) (l : List Nat) (w : World) (hn : n ≤ 140737488355328) (hs : Mts w a n l) :
    Calls Try.prog 39 #[.slice a n c] w fun e w' => e = .returned (.int .u16 (capS l : Nat)) ∧ w = w' := by
  have HL : Hid (l.length = n) := hs.len
  go_enter Try.func39, Try.ntmps39
  go_wp2
  go_loopw [3, 8] (fun v i wr => ∃ j : Nat, j ≤ n ∧ i = .int .i64 j ∧ v = .int .u32 (capS (l.take j) : Nat) ∧ w = wr) (fun _ i _ => n - (intOf i).toNat)
  case atStart => exact ⟨0, Nat.zero_le _, rfl, rfl, rfl⟩
  case round =>
    obtain ⟨j, hj, rfl, rfl, rfl⟩ := hrel
    by_cases hlt : j < n
    · cases a with
      | none => exact absurd (hs.bare rfl) (by omega)
      | some ad =>
        have hjl : j < l.length := by rw [HL.out]; exact hlt
        have hc := hs.cell ad rfl j hjl
        have hz := hs.small l[j] (List.getElem_mem hjl)
        have hcs : capS (l.take j) ≤ 65535 := by unfold capS; omega
        have HS : Hid (capS (l.take (j + 1)) = min (capS (l.take j) + l[j]) 65535) := capS_step l j hjl
        generalize l[j] = z at *
        generalize capS (l.take j) = V at *
        go_wp2
        go_roundw
        case rel => exact ⟨j + 1, by omega, by go_num, by rw [HS.out, cap_if V z], trivial⟩
        case measure => simp [intOf]; omega
    · go_wp2
      go_ret
      refine ⟨?_, rfl⟩
      show Ending.returned (Value.int .u16 (IntKind.u16.wrap _)) = _
      rw [List.take_of_length_le (by rw [HL.out]; omega), wrap_cap]
end Go.Proofs.Ytacadlbhgelncaa.Sq
