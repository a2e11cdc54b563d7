/-
  The law SeqnoOnce returns true for every two seqnos.
-/
import Derived.Test.YtodemeilmaoodaaSLive
namespace Go.Proofs.Ytodemeilmaoodaa
open Go.RowKit
set_option linter.unusedSimpArgs false
theorem once_zero (a b : Int) (h : (a - b) % 65536 = 0 ∨ (a - b) % 65536 = 32768) : lessB a b = false ∧ lessB b a = false := by
  unfold lessB
  constructor <;> (rw [Bool.and_eq_false_iff]; simp only [decide_eq_false_iff_not]; omega)
theorem once_else (a b : Int) (h0 : (a - b) % 65536 ≠ 0) (h1 : (a - b) % 65536 ≠ 32768) : lessB b a = !lessB a b := by
  unfold lessB
  by_cases c : (b - a) % 65536 ≤ 32767
  · rw [decide_eq_true (show 1 ≤ (b - a) % 65536 by omega), decide_eq_true c, decide_eq_true (show 1 ≤ (a - b) % 65536 by omega), decide_eq_false (show ¬ (a - b) % 65536 ≤ 32767 by omega)]; rfl
  · rw [decide_eq_true (show 1 ≤ (b - a) % 65536 by omega), decide_eq_false c, decide_eq_true (show 1 ≤ (a - b) % 65536 by omega), decide_eq_true (show (a - b) % 65536 ≤ 32767 by omega)]; rfl
theorem once_walk (a b : Int) (w : World) (ha : 0 ≤ a) (ha' : a < 65536) (hb : 0 ≤ b) (hb' : b < 65536) : Calls Try.prog 5 #[.int .u16 a, .int .u16 b] w (Gives w (.bool true)) := by
  have e := wrap16 (a - b)
  have e1 : wrap64 a = a := w64 _ (by omega) (by omega)
  have e2 : wrap64 b = b := w64 _ (by omega) (by omega)
  have e3 : wrap64 (b - a) = b - a := w64 _ (by omega) (by omega)
  have e4 : plusZ a (b - a) = b := by unfold plusZ; omega
  have hO := once_zero a b
  have hE := once_else a b
  rw [← e] at hO hE
  clear ha ha' hb hb' e
  cases c0 : (IntKind.u16.wrap (a - b) == 0) with
  | true =>
    obtain ⟨f1, f2⟩ := hO (Or.inl (by simpa using c0))
    clear hO hE
    go_enter Try.func5, Try.ntmps5
    go_wp2_with (first
      | (go_at_call 10; refine (less_any _ _ _).mono ?_; rintro e w' ⟨rfl, rfl⟩; (first | rw [f1] | rw [f2]))
      | (go_at_call 9; refine (live_any _).mono ?_; rintro e w' ⟨rfl, hw⟩))
    go_ret
    exact ⟨rfl, hw⟩
  | false =>
    cases c1 : (IntKind.u16.wrap (a - b) == 32768) with
    | true =>
      obtain ⟨f1, f2⟩ := hO (Or.inr (by simpa using c1))
      clear hO hE
      go_enter Try.func5, Try.ntmps5
      go_wp2_with (first
        | (go_at_call 10; refine (less_any _ _ _).mono ?_; rintro e w' ⟨rfl, rfl⟩; (first | rw [f1] | rw [f2]))
        | (go_at_call 9; refine (live_any _).mono ?_; rintro e w' ⟨rfl, hw⟩))
      go_ret
      exact ⟨rfl, hw⟩
    | false =>
      have f := hE (by simpa using c0) (by simpa using c1)
      clear hO hE
      cases f1 : lessB a b with
      | true =>
        rw [f1] at f
        have f2 : lessB b a = false := f
        clear f
        go_enter Try.func5, Try.ntmps5
        go_wp2_with (first
          | (go_at_call 10; refine (less_any _ _ _).mono ?_; rintro e w' ⟨rfl, rfl⟩; (first | rw [f1] | rw [f2]))
          | (go_at_call 12; refine (plus_any _ _ _).mono ?_; rintro e w' ⟨rfl, rfl⟩; rw [e4])
          | (go_at_call 9; refine (live_any _).mono ?_; rintro e w' ⟨rfl, hw⟩))
        go_ret
        exact ⟨rfl, hw⟩
      | false =>
        rw [f1] at f
        have f2 : lessB b a = true := f
        clear f
        go_enter Try.func5, Try.ntmps5
        go_wp2_with (first
          | (go_at_call 10; refine (less_any _ _ _).mono ?_; rintro e w' ⟨rfl, rfl⟩; (first | rw [f1] | rw [f2]))
          | (go_at_call 12; refine (plus_any _ _ _).mono ?_; rintro e w' ⟨rfl, rfl⟩; rw [e4])
          | (go_at_call 9; refine (live_any _).mono ?_; rintro e w' ⟨rfl, hw⟩))
        go_ret
        exact ⟨rfl, hw⟩
end Go.Proofs.Ytodemeilmaoodaa
