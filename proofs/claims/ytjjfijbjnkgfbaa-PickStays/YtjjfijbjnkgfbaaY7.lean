/-
  The law's own 'live' answers true.
-/
import Derived.Test.YtjjfijbjnkgfbaaY6
namespace Go.Proofs.Ytjjfijbjnkgfbaa
open Go.RowKit
set_option linter.unusedSimpArgs false
set_option linter.unusedVariables false
theorem Cs.two {w : World} {g : Nat} {t : TypeId} {a b : Cd} (ha : a.ok) (hb : b.ok) (h : Row w g t (ccs a ++ ccs b)) : Cs w (some ⟨g, 0, none⟩) 2 [a, b] := by
  refine ⟨rfl, ?_, .inr ⟨_, _, rfl, h.lt, ?_⟩⟩
  · intro x hh
    simp at hh
    rcases hh with rfl | rfl
    · exact ha
    · exact hb
  · intro j x hj
    have R := h.range
    match j, hj with
    | 0, rfl => exact fun i v hv => R i v (by rw [List.getElem?_append_left (List.getElem?_eq_some_iff.1 hv).1]; exact hv)
    | 1, rfl =>
      intro i v hv
      have := R (3 + i) v (by rw [List.getElem?_append_right (by simp [ccs])]; simpa [ccs] using hv)
      rw [← Nat.add_assoc] at this
      simpa using this
theorem Cs.one {w : World} {g : Nat} {t : TypeId} {a : Cd} (ha : a.ok) (h : Row w g t (ccs a)) : Cs w (some ⟨g, 0, none⟩) 1 [a] := by
  refine ⟨rfl, ?_, .inr ⟨_, _, rfl, h.lt, ?_⟩⟩
  · intro x hh
    simp at hh
    subst hh
    exact ha
  · intro j x hj
    match j, hj with
    | 0, rfl => exact h.range
theorem pk16 : pkd 16 [⟨200, true, true⟩, ⟨190, true, false⟩] = (0, true) := by kernel_rfl
theorem pk5 : pkd 5 [⟨200, true, true⟩, ⟨190, true, false⟩] = (1, true) := by kernel_rfl
theorem sv1 : stv [⟨100, false, false⟩] = true := by kernel_rfl
set_option maxHeartbeats 400000 in
theorem live_any (w : World) : Calls Try.prog 7 #[] w (Gives w (.bool true)) := by
  have o1 : Cd.ok ⟨200, true, true⟩ := ⟨by decide, by decide⟩
  have o2 : Cd.ok ⟨190, true, false⟩ := ⟨by decide, by decide⟩
  have o3 : Cd.ok ⟨100, false, false⟩ := ⟨by decide, by decide⟩
  have r1 := Row.new w 34 (ccs ⟨200, true, true⟩ ++ ccs ⟨190, true, false⟩)
  have HL : Hid (∀ W, Below (w.alloc (.cells (ccs ⟨200, true, true⟩ ++ ccs ⟨190, true, false⟩).toArray 34)).heap.size (w.alloc (.cells (ccs ⟨200, true, true⟩ ++ ccs ⟨190, true, false⟩).toArray 34)) W → Below w.heap.size w W ∧ Cs W (some ⟨w.heap.size, 0, none⟩) 2 [⟨200, true, true⟩, ⟨190, true, false⟩]) := fun W h =>
    ⟨bt (ba w _) h, Cs.two o1 o2 (r1.below h r1.lt)⟩
  have C1 : ∀ W k, Below (w.alloc (.cells (ccs ⟨200, true, true⟩ ++ ccs ⟨190, true, false⟩).toArray 34)).heap.size (w.alloc (.cells (ccs ⟨200, true, true⟩ ++ ccs ⟨190, true, false⟩).toArray 34)) W → Calls Try.prog 9 #[.int .u16 16, .slice (some ⟨w.heap.size, 0, none⟩) 2 k] W (Gives W (.tuple #[.int .i64 0, .bool true])) := fun W k h => by
    have q := pick_prog 16 _ 2 k _ W (by decide) (by decide) (by decide) (HL.out W h).2
    rw [pk16] at q
    exact q
  have C2 : ∀ W k, Below (w.alloc (.cells (ccs ⟨200, true, true⟩ ++ ccs ⟨190, true, false⟩).toArray 34)).heap.size (w.alloc (.cells (ccs ⟨200, true, true⟩ ++ ccs ⟨190, true, false⟩).toArray 34)) W → Calls Try.prog 9 #[.int .u16 5, .slice (some ⟨w.heap.size, 0, none⟩) 2 k] W (Gives W (.tuple #[.int .i64 1, .bool true])) := fun W k h => by
    have q := pick_prog 5 _ 2 k _ W (by decide) (by decide) (by decide) (HL.out W h).2
    rw [pk5] at q
    exact q
  have C3 : ∀ (w : World) (k g : Nat), g = w.heap.size → Calls Try.prog 12 #[.slice (some ⟨g, 0, none⟩) 1 k] (w.alloc (.cells #[.int .u16 100, .bool false, .bool false] 34)) fun e w' => e = .returned (.bool true) ∧ Below w.heap.size w w' := fun w k g hg => by
    subst hg
    refine (starved_prog _ 1 k [⟨100, false, false⟩] _ (by decide) (Cs.one o3 (Row.new w 34 (ccs ⟨100, false, false⟩)))).mono ?_
    rintro e w' ⟨rfl, hw⟩
    exact ⟨by rw [sv1], bt (ba w _) hw⟩
  have C4 : ∀ W, Calls Try.prog 12 #[.slice none 0 0] W (Gives W (.bool false)) := fun W => starved_prog none 0 0 [] W (by decide) (Cs.nil W none)
  have b0 := Below.refl (w.alloc (.cells (ccs ⟨200, true, true⟩ ++ ccs ⟨190, true, false⟩).toArray 34)).heap.size (w.alloc (.cells (ccs ⟨200, true, true⟩ ++ ccs ⟨190, true, false⟩).toArray 34))
  clear r1 o1 o2 o3
  simp only [ccs, List.cons_append, List.nil_append] at C1 C2 b0 HL
  go_enter Try.func7, Try.ntmps7
  go_wp2_with (first
    | (have kk := C1; go_at_call 9; refine (C1 _ _ b0).mono ?_; rintro e w1 ⟨rfl, hb⟩; clear C1 kk; replace b0 := bt b0 hb; clear hb)
    | (have kk := C2; go_at_call 9; refine (C2 _ _ b0).mono ?_; rintro e w2 ⟨rfl, hb⟩; clear C2 kk; replace b0 := (HL.out _ (bt b0 hb)).1; clear hb HL)
    | (have kk := C3; go_at_call 12; refine (C3 _ _ _ (by simp)).mono ?_; rintro e w3 ⟨rfl, hw⟩; clear C3 kk; replace b0 := bt b0 hw; clear hw)
    | (have kk := C4; go_at_call 12; refine (C4 _).mono ?_; rintro e w4 ⟨rfl, hw⟩; clear C4 kk; replace b0 := bt b0 hw; clear hw))
  go_ret
  exact ⟨rfl, b0⟩
end Go.Proofs.Ytjjfijbjnkgfbaa
