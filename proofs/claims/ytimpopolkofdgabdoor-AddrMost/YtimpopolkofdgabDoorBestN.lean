/-
  Best of an empty list.
-/
import Derived.Test.YtimpopolkofdgabDoorBest
namespace Go.Proofs.YtimpopolkofdgabDoor
open Go.RowKit
set_option linter.unusedSimpArgs false
set_option maxRecDepth 20000
theorem best_nil (src dst : Ad) (ad : Option Addr) (c : Nat) (w : World) : Calls Tryd.prog 14 #[(Value.agg (acells src).toArray), (Value.agg (acells dst).toArray), .slice ad 0 c] w fun e w' => e = .returned (.tuple #[.int .i64 0, .bool false]) ∧ Below w.heap.size w w' := by
  have hB0 : Below w.heap.size w ((w.alloc (.cells (acells src).toArray 23)).alloc (.cells (acells dst).toArray 23)) := bt (ba _ _) (ba _ _)
  go_enter Tryd.func14, Tryd.ntmps14
  go_wp2
  refine wp_loop_rounds 1 ?_
  rw [rounds_succ]
  go_wp2
  go_ret2
  exact ⟨rfl, hB0⟩
end Go.Proofs.YtimpopolkofdgabDoor
