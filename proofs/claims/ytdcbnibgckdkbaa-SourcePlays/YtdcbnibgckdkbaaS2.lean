/-
  What Feasible, Keep and Meets answer, and the document's own, for every distance.
-/
import Derived.Test.YtdcbnibgckdkbaaS1
namespace Go.Proofs.Ytdcbnibgckdkbaa.Sn
open Go.RowKit
set_option linter.unusedSimpArgs false
theorem feas_none (a1 a2 : Int) (w : World) : Calls Try.prog 37 #[.agg #[.int .u16 a1, .int .u16 a2], .pointer none] w (Gives w (.bool true)) := by
  by_cases h : a2 = 65535
  · have h' : (a2 == 65535) = true := by simpa using h
    clear h
    go_enter Try.func37, Try.ntmps37
    go_wp2_with fail
    go_ret
    exact ⟨rfl, (Below.refl _ _).alloc (Nat.le_refl _) _⟩
  · have h' : (a2 == 65535) = false := by simpa using h
    clear h
    go_enter Try.func37, Try.ntmps37
    go_wp2_with (go_at_call 39; refine (btk_none _ _ _).mono ?_; rintro e w' ⟨rfl, hw⟩)
    go_ret
    exact ⟨rfl, ((Below.refl _ _).alloc (Nat.le_refl _) _).trans (hw.mono (by simp))⟩
def feaB (a1 a2 b1 b2 : Int) : Bool := a2 == 65535 || betB a1 a2 b1 b2
theorem feas_some (a1 a2 b1 b2 : Int) (g o : Nat) (w : World) (hL : LD w g o b1 b2) : Calls Try.prog 37 #[.agg #[.int .u16 a1, .int .u16 a2], .pointer (some ⟨g, o, none⟩)] w (Gives w (.bool (feaB a1 a2 b1 b2))) := by
  have hlt := hL.lt
  by_cases h : a2 = 65535
  · have h' : (a2 == 65535) = true := by simpa using h
    rw [show feaB a1 a2 b1 b2 = true by unfold feaB; rw [h', Bool.true_or]]
    clear h hL
    go_enter Try.func37, Try.ntmps37
    go_wp2_with fail
    go_ret
    exact ⟨rfl, (Below.refl _ _).alloc (Nat.le_refl _) _⟩
  · have h' : (a2 == 65535) = false := by simpa using h
    rw [show feaB a1 a2 b1 b2 = betB a1 a2 b1 b2 by unfold feaB; rw [h', Bool.false_or]]
    clear h
    have hL' := hL.below ((Below.refl w.heap.size w).alloc (Nat.le_refl _) (.cells #[.int .u16 a1, .int .u16 a2] 41)) hlt
    clear hL
    go_enter Try.func37, Try.ntmps37
    go_wp2_with (go_at_call 39; refine (btk_some _ _ _ _ _ _ _ hL').mono ?_; rintro e w' ⟨rfl, hw⟩)
    go_ret
    exact ⟨rfl, ((Below.refl _ _).alloc (Nat.le_refl _) _).trans (hw.mono (by simp))⟩
theorem keep_none (a1 a2 : Int) (w : World) : Calls Try.prog 28 #[.pointer none, .agg #[.int .u16 a1, .int .u16 a2]] w (Gives w (.agg #[.int .u16 a1, .int .u16 a2])) := by
  have q0 := Row.new w 41 [.int .u16 a1, .int .u16 a2]
  have q1 := Row.new (w.alloc (.cells #[.int .u16 a1, .int .u16 a2] 41)) 41 [.int .u16 0, .int .u16 0]
  replace q0 := q0.alloc (.cells #[.int .u16 0, .int .u16 0] 41)
  have hb : Below w.heap.size w ((w.alloc (.cells #[.int .u16 a1, .int .u16 a2] 41)).alloc (.cells #[.int .u16 0, .int .u16 0] 41)) := ((Below.refl _ _).alloc (Nat.le_refl _) _).alloc (by simp) _
  simp only [World.size_alloc] at q1
  go_enter Try.func28, Try.ntmps28
  go_wp2_with (first
    | (go_at_call 39; refine (btk_none _ _ _).mono ?_; rintro e w1 ⟨rfl, hw⟩; replace q0 := q0.below hw (by simp; omega); replace q1 := q1.below hw (by simp); replace hb := hb.trans (hw.mono (by simp; omega)); clear hw)
    | (refine ldD (.tmp 3) (by rfl) rfl a1 a2 rfl (LD.range q0) ?_)
    | (refine stD (.tmp 4) (.tmp 8) (by rfl) rfl _ a1 a2 0 0 rfl rfl q1 ?_; intro w2 hw r1; clear q0 q1; replace hb := hb.trans (hw.mono (by omega)); clear hw))
  exact bodyPost_ret (retC rfl _ _ 0 rfl (lvD (LD.range r1))) rfl ⟨rfl, hb⟩
theorem keep_some (a1 a2 b1 b2 : Int) (g o : Nat) (w : World) (hL : LD w g o b1 b2) : Calls Try.prog 28 #[.pointer (some ⟨g, o, none⟩), .agg #[.int .u16 a1, .int .u16 a2]] w (Gives w (if betB a1 a2 b1 b2 = true then .agg #[.int .u16 a1, .int .u16 a2] else .agg #[.int .u16 b1, .int .u16 b2])) := by
  have q0 := Row.new w 41 [.int .u16 a1, .int .u16 a2]
  have q1 := Row.new (w.alloc (.cells #[.int .u16 a1, .int .u16 a2] 41)) 41 [.int .u16 0, .int .u16 0]
  replace q0 := q0.alloc (.cells #[.int .u16 0, .int .u16 0] 41)
  have hb : Below w.heap.size w ((w.alloc (.cells #[.int .u16 a1, .int .u16 a2] 41)).alloc (.cells #[.int .u16 0, .int .u16 0] 41)) := ((Below.refl _ _).alloc (Nat.le_refl _) _).alloc (by simp) _
  simp only [World.size_alloc] at q1
  have hlt := hL.lt
  replace hL := hL.below hb hlt
  cases hc : betB a1 a2 b1 b2 with
  | true =>
    rw [if_pos rfl]
    go_enter Try.func28, Try.ntmps28
    go_wp2_with (first
      | (go_at_call 39; refine (btk_some _ _ _ _ _ _ _ hL).mono ?_; rintro e w1 ⟨rfl, hw⟩; rw [hc]; clear hL; replace q0 := q0.below hw (by simp; omega); replace q1 := q1.below hw (by simp); replace hb := hb.trans (hw.mono (by simp; omega)); clear hw)
      | (refine ldD (.tmp 3) (by rfl) rfl a1 a2 rfl (LD.range q0) ?_)
      | (refine stD (.tmp 4) (.tmp 8) (by rfl) rfl _ a1 a2 0 0 rfl rfl q1 ?_; intro w2 hw r1; clear q0 q1; replace hb := hb.trans (hw.mono (by omega)); clear hw))
    exact bodyPost_ret (retC rfl _ _ 0 rfl (lvD (LD.range r1))) rfl ⟨rfl, hb⟩
  | false =>
    rw [if_neg (by simp)]
    go_enter Try.func28, Try.ntmps28
    go_wp2_with (first
      | (go_at_call 39; refine (btk_some _ _ _ _ _ _ _ hL).mono ?_; rintro e w1 ⟨rfl, hw⟩; rw [hc]; clear q0; replace hL := hL.below hw hL.lt; replace q1 := q1.below hw (by simp); replace hb := hb.trans (hw.mono (by simp; omega)); clear hw)
      | (refine ldD (.tmp 10) (by rfl) rfl b1 b2 rfl hL ?_)
      | (refine stD (.tmp 4) (.tmp 11) (by rfl) rfl _ b1 b2 0 0 rfl rfl q1 ?_; intro w2 hw r1; clear q1; replace hb := hb.trans (hw.mono (by omega)); clear hw))
    exact bodyPost_ret (retC rfl _ _ 0 rfl (lvD (LD.range r1))) rfl ⟨rfl, hb⟩
def Met (d1 d2 s : Int) : Bool := decide (d2 < 65535) && (d1 == s || lessB s d1)
end Go.Proofs.Ytdcbnibgckdkbaa.Sn
