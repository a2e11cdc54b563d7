/-
  The walk of SourceNil.
-/
import Derived.Test.YtdcbnibgckdkbaaV10
namespace Go.Proofs.Ytdcbnibgckdkbaa
open Go.RowKit Go.Maps Go.Shelf
set_option linter.unusedSimpArgs false
set_option linter.unusedVariables false
set_option maxRecDepth 20000
theorem bsI1 (i : Id8) (w : World) : (Instr.buildSlice 78 1 #[(0, idV i)]).run Try.prog w = .ok (.slice (some ⟨w.heap.size, 0, none⟩) 1 1) (w.alloc (.cells (icells i).toArray 38)) := by
  induction i using Id8.lits with | h =>
  show _ = _
  kernel_rfl
set_option maxHeartbeats 4000000 in
theorem nil_walk (p : Pr) (i : Id8) (s m : Int) (w : World) : Calls Try.prog 5 #[(Value.agg (qcells p).toArray), idV i, dV s m] w (Gives w (.bool true)) := by
  obtain ⟨hB, r0, r1, r2⟩ := low_rows3 w (qcells p) (icells i) (dcs s m) 36 38 41
  have hGet := get_nil p i
  rw [show getV (none : Option Sr) = .tuple #[sV zeroS, .bool false] from rfl] at hGet
  go_enter Try.func5, Try.ntmps5
  go_upto_region 1 with fail
  refine name_world (R := fun W => Code.wp _ _ _ _ W) (P := fun W => Below w.heap.size w W ∧ Row W w.heap.size 36 (qcells p) ∧ Row W (w.heap.size + 1) 38 (icells i) ∧ Row W (w.heap.size + 2) 41 (dcs s m)) _ ⟨hB, r0, r1, r2⟩ ?_
  clear hB r0 r1 r2
  rintro X ⟨hB, r0, r1, r2⟩
  have bX := Below.refl X.heap.size X
  have HQ : Hid (∀ W, Below X.heap.size X W → LQ W w.heap.size 0 p) := fun W h => (r0.below h r0.lt).range
  have HI : Hid (∀ W, Below X.heap.size X W → LI W (w.heap.size + 1) 0 i) := fun W h => (r1.below h r1.lt).range
  have HD : Hid (∀ W, Below X.heap.size X W → Sn.LD W (w.heap.size + 2) 0 s m) := fun W h => (r2.below h r2.lt).range
  clear r0 r1 r2
  go_wp2_with (first
    | (go_at_call 9; refine (live_any _).mono ?_; rintro e w9 ⟨rfl, k⟩; replace bX := bt bX k)
    | (go_at_call 23; refine (list_nil _).mono ?_; rintro e w' ⟨rfl, rfl⟩)
    | (have kk := r52; go_at_call 17; refine (touch_nil1 p i 0 _ _ _ r52).mono ?_; rintro e w8 ⟨rfl, k⟩; replace bX := bt bX k)
    | ((with_reducible refine bsG (T := 78) (U := 38) (n := 1) [(0, .tmp 51)] (icells i) ?_ ?_ ?_ ?_); (focus rfl); (focus rfl); (focus exact (fun w => bsI1 i w)); intro W6 r52 b6; replace bX := bt bX b6)
    | (go_at_call 15; refine (tick_nil _ _).mono ?_; rintro e w' ⟨rfl, rfl⟩)
    | (go_at_call 24; refine (feas_nil p i s m _).mono ?_; rintro e w5 ⟨rfl, k⟩; replace bX := bt bX k)
    | (go_at_call 11; refine (num_any _ _).mono ?_; rintro e w' ⟨rfl, rfl⟩)
    | (go_at_call 12; refine (keep_nil 0 p i s m _).mono ?_; rintro e w4 ⟨rfl, k⟩; replace bX := bt bX k)
    | (go_at_call 21; refine (next_nil _).mono ?_; rintro e w' ⟨rfl, rfl⟩)
    | (have kk := r3; refine stS (.tmp 8) (.tmp 17) rfl rfl g3 zeroS _ rfl rfl r3 ?_; intro W4 g4 r4; replace bX := bt bX (grown_below g4 hB3 hge3 hB3.size); clear r3)
    | (refine alG infoSz rfl rfl ?_; intro g3 W3 hge3 hgl3 hB3 r3)
    | (go_at_call 19; refine (hGet _).mono ?_; rintro e w2 ⟨rfl, k⟩; replace bX := bt bX k)
    | (refine Sn.ldD (.tmp 5) rfl rfl s m rfl (HD.out _ bX) ?_)
    | (refine ldI (.tmp 4) rfl rfl _ _ i rfl (HI.out _ bX) ?_)
    | (refine ldQ (.tmp 3) rfl rfl _ _ p rfl (HQ.out _ bX) ?_))
  go_ret
  exact ⟨rfl, bt hB bX⟩
end Go.Proofs.Ytdcbnibgckdkbaa
