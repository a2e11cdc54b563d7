/-
  The document's Same, of two slices that hold the same.
-/
import Derived.Test.YtkamcnjofpamhaaTLst
namespace Go.Proofs.Ytkamcnjofpamhaa
open Go.RowKit
set_option linter.unusedSimpArgs false
/-- A slice's memory holds these. -/
def DuesAt (w : World) (a : Option Addr) (D : List (ByteArray × Int)) : Prop := ∀ i (hi : i < D.length), ∃ g o, a = some ⟨g, o, none⟩ ∧ w.cell? ⟨g, o + i * 2, none⟩ = some (.string D[i].1) ∧ w.cell? ⟨g, o + i * 2 + 1, none⟩ = some (.int .i64 D[i].2)
theorem DuesAt.drewN {w : World} {a : Option Addr} {D : List (ByteArray × Int)} (h : DuesAt w a D) (k : Nat) : DuesAt (w.drewN k) a D := h
set_option maxHeartbeats 2000000 in
theorem same_true (D : List (ByteArray × Int)) (a b : Option Addr) (ca cb : Nat) (w : World) (hD : D.length ≤ 1000000) (ha : DuesAt w a D) (hb : DuesAt w b D) : Calls Try.prog 19 #[.slice a D.length ca, .slice b D.length cb] w (Gives w (.bool true)) := by
  have HA : Hid (DuesAt w a D ∧ DuesAt w b D) := ⟨ha, hb⟩
  clear ha hb
  go_enter Try.func19, Try.ntmps19
  go_wp2
  go_loopw [5] (fun u W => ∃ i k : Nat, u = .int .i64 i ∧ i ≤ D.length ∧ W = w.drewN k) (fun u _ => D.length - (intOf u).toNat)
  case atStart => exact ⟨0, 0, rfl, Nat.zero_le _, rfl⟩
  case round =>
    obtain ⟨i, k, rfl, hi, rfl⟩ := hrel
    by_cases hlt : i < D.length
    · have hlt' : (i : Int) < (D.length : Int) := by omega
      obtain ⟨g, o, rfl, c1, c2⟩ := HA.out.1 i hlt
      obtain ⟨g', o', rfl, e1, e2⟩ := HA.out.2 i hlt
      have hw : wrap64 ((i : Int) + 1) = (i : Int) + 1 := by unfold wrap64; omega
      generalize D[i].1 = s at *
      generalize D[i].2 = t at *
      go_wp2
      go_quiet (fail)
      go_wp2
      go_roundw
      case rel => exact ⟨i + 1, k + nq, by simp, by omega, by simp⟩
      case measure => simp [intOf]; omega
    · have hlt' : ¬ (i : Int) < (D.length : Int) := by omega
      go_wp2
      go_ret
      exact ⟨rfl, below_drewN (Below.refl _ _) k⟩
end Go.Proofs.Ytkamcnjofpamhaa
