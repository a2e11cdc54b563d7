/-
  The walk of RequestNil.
-/
import Derived.Test.YtbjclphgabpgoaaRL
import Derived.Test.YtbjclphgabpgoaaRH
import Derived.Test.YtbjclphgabpgoaaEv
import Derived.Test.YtbjclphgabpgoaaR7
namespace Go.Proofs.Ytbjclphgabpgoaa
open Go.RowKit Go.Maps Go.Shelf
set_option linter.unusedSimpArgs false
set_option linter.unusedVariables false
set_option maxRecDepth 20000
theorem bsQ1 (p : Pr) (w : World) : (Instr.buildSlice 82 1 #[(0, (Value.agg (qcells p).toArray))]).run Try.prog w = .ok (.slice (some ⟨w.heap.size, 0, none⟩) 1 1) (w.alloc (.cells (qcells p).toArray 38)) := by
  induction p using Pr.lits with | h =>
  show _ = _
  kernel_rfl
theorem qs_one {w : World} {g : Nat} {p : Pr} (h : Row w g 38 (qcells p)) : QsW w (some ⟨g, 0, none⟩) [p] := by
  refine ⟨.inr ⟨g, 0, rfl, ⟨_, _, _, h⟩, fun j q hq => ?_⟩⟩
  cases j with
  | zero =>
    cases hq
    exact h.range
  | succ j => cases hq
theorem forget_nil1 {w : World} {g : Nat} (p : Pr) (hi : wfQ p) (h : Row w g 38 (qcells p)) : Calls Try.prog 18 #[.pointer none, .slice (some ⟨g, 0, none⟩) 1 1] w (Gives w (.int .i64 0)) :=
  forget_nil (some ⟨g, 0, none⟩) 1 [p] (qs_one h) (by simpa using hi) (by simp)
set_option maxHeartbeats 4000000 in
theorem nil_walk (p : Pr) (i : Id8) (s m : Int) (hi : wfQ p) (w : World) : Calls Try.prog 5 #[(Value.agg (qcells p).toArray), idV i, dV s m] w (Gives w (.bool true)) := by
  obtain ⟨hB, r0, r1, r2⟩ := low_rows3 w (qcells p) (icells i) [.int .u16 s, .int .u16 m] 38 40 42
  go_enter Try.func5, Try.ntmps5
  go_upto_region 1 with fail
  refine name_world (R := fun W => Code.wp _ _ _ _ W) (P := fun W => Below w.heap.size w W ∧ Row W w.heap.size 38 (qcells p) ∧ Row W (w.heap.size + 1) 40 (icells i) ∧ Row W (w.heap.size + 2) 42 [.int .u16 s, .int .u16 m]) _ ⟨hB, r0, r1, r2⟩ ?_
  clear hB r0 r1 r2
  rintro X ⟨hB, r0, r1, r2⟩
  have bX := Below.refl X.heap.size X
  have HQ : Hid (∀ W, Below X.heap.size X W → LQ W w.heap.size 0 p) := fun W h => (r0.below h r0.lt).range
  have HI : Hid (∀ W, Below X.heap.size X W → LI W (w.heap.size + 1) 0 i) := fun W h => (r1.below h r1.lt).range
  have HD : Hid (∀ W, Below X.heap.size X W → Sn.LD W (w.heap.size + 2) 0 s m) := fun W h => (r2.below h r2.lt).range
  have c0 := r2.cell 0
  clear r0 r1 r2
  go_upto_region 5 with (first
    | (go_at_call 23; refine (next_nil _).mono ?_; rintro e w' ⟨rfl, rfl⟩)
    | (go_at_call 20; refine (tick_nil _ _).mono ?_; rintro e w3 ⟨rfl, k⟩; replace bX := bt bX k)
    | (go_at_call 13; refine (ask_nil 0 p i s _).mono ?_; rintro e w2 ⟨rfl, k⟩; replace bX := bt bX k)
    | ((with_reducible refine ldI (.tmp 4) ?_ ?_ (w.heap.size + 1) 0 i ?_ ?_ ?_); (focus rfl); (focus rfl); (focus (repeat (first | with_reducible refine ev_ne ?_ rfl | with_reducible refine ev_no ?_ | (with_reducible refine ev_eq (n := 76) ?_ rfl; repeat (first | with_reducible refine sz_put ?_ | with_reducible refine sz_no ?_ | rfl)) | rfl))); (focus exact HI.out _ bX))
    | ((with_reducible refine ldQ (.tmp 3) ?_ ?_ w.heap.size 0 p ?_ ?_ ?_); (focus rfl); (focus rfl); (focus (repeat (first | with_reducible refine ev_ne ?_ rfl | with_reducible refine ev_no ?_ | (with_reducible refine ev_eq (n := 76) ?_ rfl; repeat (first | with_reducible refine sz_put ?_ | with_reducible refine sz_no ?_ | rfl)) | rfl))); (focus exact HQ.out _ bX)))
  go_wp2_with (first
    | (go_at_call 9; refine (live_any _).mono ?_; rintro e w9 ⟨rfl, k⟩; replace bX := bt bX k)
    | (go_at_call 25; refine (list_nil _).mono ?_; rintro e w' ⟨rfl, rfl⟩)
    | (have kk := r52; go_at_call 18; refine (forget_nil1 p hi r52).mono ?_; rintro e w8 ⟨rfl, k⟩; replace bX := bt bX k)
    | ((with_reducible refine bsG (T := 82) (U := 38) (n := 1) [(0, .tmp 50)] (qcells p) ?_ ?_ ?_ ?_); (focus rfl); (focus rfl); (focus exact (fun w => bsQ1 p w)); intro W6 r52 b6; replace bX := bt bX b6)
    | (go_at_call 15; refine (num_any _ _).mono ?_; rintro e w' ⟨rfl, rfl⟩)
    | (go_at_call 16; refine (met_nil p i s m _).mono ?_; rintro e w4 ⟨rfl, k⟩; replace bX := bt bX k)
    | ((with_reducible refine Sn.ldD (b := w.heap.size + 2) (o := 0) (.tmp 5) ?_ ?_ s m ?_ ?_ ?_); (focus rfl); (focus rfl); (focus (repeat (first | with_reducible refine ev_ne ?_ rfl | with_reducible refine ev_no ?_ | (with_reducible refine ev_eq (n := 76) ?_ rfl; repeat (first | with_reducible refine sz_put ?_ | with_reducible refine sz_no ?_ | rfl)) | rfl))); (focus exact HD.out _ bX))
    | ((with_reducible refine ldI (.tmp 4) ?_ ?_ (w.heap.size + 1) 0 i ?_ ?_ ?_); (focus rfl); (focus rfl); (focus (repeat (first | with_reducible refine ev_ne ?_ rfl | with_reducible refine ev_no ?_ | (with_reducible refine ev_eq (n := 76) ?_ rfl; repeat (first | with_reducible refine sz_put ?_ | with_reducible refine sz_no ?_ | rfl)) | rfl))); (focus exact HI.out _ bX))
    | ((with_reducible refine ldQ (.tmp 3) ?_ ?_ w.heap.size 0 p ?_ ?_ ?_); (focus rfl); (focus rfl); (focus (repeat (first | with_reducible refine ev_ne ?_ rfl | with_reducible refine ev_no ?_ | (with_reducible refine ev_eq (n := 76) ?_ rfl; repeat (first | with_reducible refine sz_put ?_ | with_reducible refine sz_no ?_ | rfl)) | rfl))); (focus exact HQ.out _ bX)))
  go_ret
  exact ⟨rfl, bt hB bX⟩
end Go.Proofs.Ytbjclphgabpgoaa
