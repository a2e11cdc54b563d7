/-
  The law's own 'live' answers true.
-/
import Derived.Test.YtpkjdfdjjobjgaaG4
namespace Go.Proofs.Ytpkjdfdjjobjgaa
open Go.RowKit
set_option linter.unusedSimpArgs false
theorem eqP (b n b' n' : Int) (k k' : Bool) (w : World) : (Op.equalIn 10000 24 (.agg #[.int .u16 b, .int .u16 n, .bool k]) (.agg #[.int .u16 b', .int .u16 n', .bool k'])).run Try.prog w = .ok (hiEq ⟨b, n, k⟩ ⟨b', n', k'⟩) w := eqH 9998 ⟨b, n, k⟩ ⟨b', n', k'⟩ w
theorem fieldP (b n : Int) (k : Bool) (w : World) : (Instr.field 24 (.agg #[.int .u16 b, .int .u16 n, .bool k]) 0).run Try.prog w = .ok (.int .u16 b) w := by
  show _ = _
  kernel_rfl
theorem hs_one (w : World) (b n : Int) (k : Bool) (t : TypeId) (b0 : 0 ≤ b) (b1 : b < 65536) (n0 : 0 ≤ n) (n1 : n < 65536) : Hs (w.alloc (.cells #[.int .u16 b, .int .u16 n, .bool k] t)) (some ⟨w.heap.size, 0, none⟩) 1 [⟨b, n, k⟩] := by
  refine ⟨rfl, ?_, .inr ⟨_, _, rfl, by simp, ?_⟩⟩
  · intro h hh
    simp at hh
    subst hh
    exact ⟨b0, b1, n0, n1⟩
  · intro j h hj
    match j, hj with
    | 0, rfl => exact (Row.new w t (hcs ⟨b, n, k⟩)).range
theorem rx_one (kind cost b n : Int) (k : Bool) (c g : Nat) (t : TypeId) (w : World) (hg : g = w.heap.size) (hc : 0 ≤ cost) (hc' : cost < 65536) (b0 : 0 ≤ b) (b1 : b < 65536) (n0 : 0 ≤ n) (n1 : n < 65536) :
    Calls Try.prog 13 #[.int .i64 kind, .int .u16 cost, .slice (some ⟨g, 0, none⟩) 1 c] (w.alloc (.cells #[.int .u16 b, .int .u16 n, .bool k] t)) fun e w' => e = .returned (.int .u16 (min 65535 (rxZ kind cost b.toNat))) ∧ Below w.heap.size w w' := by
  subst hg
  refine (rx_any kind cost _ 1 c _ _ hc hc' (by decide) (hs_one w b n k t b0 b1 n0 n1)).mono ?_
  rintro e w' ⟨rfl, hw⟩
  exact ⟨rfl, ((Below.refl _ _).alloc (Nat.le_refl _) _).trans (hw.mono (by simp))⟩
theorem live_any (w : World) : Calls Try.prog 8 #[] w (Gives w (.bool true)) := by
  have C1 : ∀ w, Calls Try.prog 11 #[.agg #[.int .u16 0, .int .u16 0, .bool false], .int .u16 5] w (Gives w (.agg #[.int .u16 32768, .int .u16 6, .bool true])) := fun w => hear_any ⟨0, 0, false⟩ 5 w ⟨by decide, by decide, by decide, by decide⟩
  have C2 : ∀ w, Calls Try.prog 11 #[.agg #[.int .u16 32768, .int .u16 6, .bool true], .int .u16 7] w (Gives w (.agg #[.int .u16 40960, .int .u16 8, .bool true])) := fun w => hear_any ⟨32768, 6, true⟩ 7 w ⟨by decide, by decide, by decide, by decide⟩
  have C3 : ∀ w, Calls Try.prog 9 #[.agg #[.int .u16 32768, .int .u16 6, .bool true], .int .i64 1] w (Gives w (.agg #[.int .u16 16384, .int .u16 7, .bool true])) := fun w => miss_any ⟨32768, 6, true⟩ 1 w
  have C4 : ∀ w, Calls Try.prog 15 #[.int .i64 1, .int .u16 256, .int .u16 256] w fun e w' => e = .returned (.int .u16 256) ∧ w = w' := fun w => cost_any 1 256 256 w (by decide) (by decide) (by decide) (by decide)
  have C5 : ∀ (w : World) (c g : Nat), g = w.heap.size → Calls Try.prog 13 #[.int .i64 0, .int .u16 96, .slice (some ⟨g, 0, none⟩) 1 c] (w.alloc (.cells #[.int .u16 40960, .int .u16 8, .bool true] 24)) fun e w' => e = .returned (.int .u16 96) ∧ Below w.heap.size w w' := fun w c g hg => rx_one 0 96 40960 8 true c g _ w hg (by decide) (by decide) (by decide) (by decide) (by decide) (by decide)
  have C6 : ∀ (w : World) (c g : Nat), g = w.heap.size → Calls Try.prog 13 #[.int .i64 0, .int .u16 96, .slice (some ⟨g, 0, none⟩) 1 c] (w.alloc (.cells #[.int .u16 32768, .int .u16 6, .bool true] 24)) fun e w' => e = .returned (.int .u16 65535) ∧ Below w.heap.size w w' := fun w c g hg => rx_one 0 96 32768 6 true c g _ w hg (by decide) (by decide) (by decide) (by decide) (by decide) (by decide)
  have he : hiEq ⟨32768, 6, true⟩ ⟨32768, 6, true⟩ = true := by decide
  have hq := eqP
  have hf := fieldP
  go_enter Try.func8, Try.ntmps8
  go_wp2_with (first
    | (have kk := C1; go_at_call 11; refine (C1 _).mono ?_; rintro e w1 ⟨rfl, hb⟩; clear C1 kk)
    | (have kk := C2; go_at_call 11; refine (C2 _).mono ?_; rintro e w2 ⟨rfl, hw⟩; clear C2 kk; have r1 := (Row.new w1 24 (hcs ⟨32768, 6, true⟩)).below hw (by simp); have z1 : w2.cell? ⟨w1.heap.size, 0, none⟩ = some (.int .u16 32768) := r1.cell 0; have z2 : w2.cell? ⟨w1.heap.size, 1, none⟩ = some (.int .u16 6) := r1.cell 1; have z3 : w2.cell? ⟨w1.heap.size, 2, none⟩ = some (.bool true) := r1.cell 2; have hlt := r1.lt; replace hb := (hb.alloc hb.size (.cells #[.int .u16 32768, .int .u16 6, .bool true] 24)).trans (hw.mono (by have := hb.size; simp; omega)); clear hw)
    | (have kk := C5; go_at_call 13; refine (C5 _ _ _ (by simp)).mono ?_; rintro e w3 ⟨rfl, hw⟩; clear C5 kk z1 z2 z3; replace r1 := (r1.alloc (.cells #[.int .u16 40960, .int .u16 8, .bool true] 24)).below hw (by simp; omega); have z1 : w3.cell? ⟨w1.heap.size, 0, none⟩ = some (.int .u16 32768) := r1.cell 0; have z2 : w3.cell? ⟨w1.heap.size, 1, none⟩ = some (.int .u16 6) := r1.cell 1; have z3 : w3.cell? ⟨w1.heap.size, 2, none⟩ = some (.bool true) := r1.cell 2; replace hlt := r1.lt; replace hb := (hb.alloc hb.size (.cells #[.int .u16 40960, .int .u16 8, .bool true] 24)).trans (hw.mono (by have := hb.size; simp; omega)); clear hw)
    | (have kk := C6; go_at_call 13; refine (C6 _ _ _ (by simp)).mono ?_; rintro e w4 ⟨rfl, hw⟩; clear C6 kk z1 z2 z3; replace r1 := r1.below hw (by omega); have z1 : w4.cell? ⟨w1.heap.size, 0, none⟩ = some (.int .u16 32768) := r1.cell 0; have z2 : w4.cell? ⟨w1.heap.size, 1, none⟩ = some (.int .u16 6) := r1.cell 1; have z3 : w4.cell? ⟨w1.heap.size, 2, none⟩ = some (.bool true) := r1.cell 2; replace hlt := r1.lt; replace hb := hb.trans (hw.mono hb.size); clear hw)
    | (have kk := C4; go_at_call 15; refine (C4 _).mono ?_; rintro e w5 ⟨rfl, rfl⟩; clear C4 kk)
    | (have kk := C3; go_at_call 9; refine (C3 _).mono ?_; rintro e w6 ⟨rfl, hw⟩; clear C3 kk z1 z2 z3; replace hb := hb.trans (hw.mono hb.size); clear hw))
  go_ret
  exact ⟨rfl, hb⟩
end Go.Proofs.Ytpkjdfdjjobjgaa
