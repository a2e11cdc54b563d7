/-
  The law's own 'live' answers true.
-/
import Derived.Test.YtodemeilmaoodaaSKeep
import Derived.Test.YtodemeilmaoodaaSSum
namespace Go.Proofs.Ytodemeilmaoodaa
open Go.RowKit
set_option linter.unusedSimpArgs false
theorem two_mts (w : World) (x y : Nat) (t : TypeId) (hx : x < 65536) (hy : y < 65536) : Mts (w.alloc (.cells #[.int .u16 (x : Int), .int .u16 (y : Int)] t)) (some ⟨w.heap.size, 0, none⟩) 2 [x, y] := by
  have q := Row.new w t [.int .u16 (x : Int), .int .u16 (y : Int)]
  refine ⟨rfl, (fun h => by cases h), ?_, ?_⟩
  · intro z hz
    simp at hz
    rcases hz with rfl | rfl <;> assumption
  · intro ad had j hj
    cases had
    rw [Addr.add_mid, Nat.zero_add]
    refine (q.cell j).trans ?_
    match j, hj with
    | 0, _ => rfl
    | 1, _ => rfl
theorem live_any (w : World) : Calls Try.prog 9 #[] w (Gives w (.bool true)) := by
  have l1 : lessB 65535 0 = true := by decide
  have l2 : lessB 0 32768 = false := by decide
  have l3 : lessB 32768 0 = false := by decide
  have l4 : capS [65000, 600] = 65535 := by decide
  have l5 : feaB 5 10 5 10 = false := by decide
  have l6 : feaB 6 99 5 10 = true := by decide
  have l7 : plusZ 65535 2 = 1 := by decide
  have q := Row.new w 33 [.int .u16 0, .int .u16 0]
  have hb : Below w.heap.size w (w.alloc (.cells #[.int .u16 0, .int .u16 0] 33)) := (Below.refl _ _).alloc (Nat.le_refl _) _
  go_enter Try.func9, Try.ntmps9
  go_wp2_with (first
    | (refine stD (.tmp 1) (.tmp 2) (by rfl) rfl _ 5 10 0 0 rfl rfl q ?_; intro w2 hw r1; have hs : w.heap.size < w2.heap.size := r1.lt; replace hb := hb.trans (hw.mono (by omega)); clear hw q)
    | (go_at_call 10; refine (less_any _ _ _).mono ?_; rintro e w' ⟨rfl, rfl⟩; (first | rw [l1] | rw [l2] | rw [l3]))
    | (go_at_call 12; refine (plus_any _ _ _).mono ?_; rintro e w' ⟨rfl, rfl⟩; rw [l7])
    | (go_at_call 16; refine (since_any _ _ _).mono ?_; rintro e w' ⟨rfl, rfl⟩)
    | (go_at_call 14; refine (sum_any _ _ _ [65000, 600] _ (by decide) (two_mts w2 65000 600 _ (by decide) (by decide))).mono ?_; rintro e w' ⟨rfl, hw'⟩; rw [l4]; have hw : Below w2.heap.size w2 w' := hw' ▸ (Below.refl _ _).alloc (Nat.le_refl _) _; clear hw'; replace r1 := r1.below hw hs; replace hb := hb.trans (hw.mono (by omega)); replace hs := r1.lt; clear hw)
    | (refine ldD (.tmp 1) (by rfl) rfl _ 5 10 rfl (LD.range r1) ?_)
    | (go_at_call 19; refine (feas_some _ _ _ _ _ _ (LD.range r1)).mono ?_; rintro e w3 ⟨rfl, hw⟩; (first | rw [l5] | rw [l6]); replace r1 := r1.below hw hs; replace hb := hb.trans (hw.mono (by omega)); replace hs := r1.lt; clear hw))
  go_ret
  exact ⟨rfl, hb⟩
end Go.Proofs.Ytodemeilmaoodaa
