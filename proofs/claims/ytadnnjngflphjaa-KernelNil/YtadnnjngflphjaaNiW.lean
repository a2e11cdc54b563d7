/-
  The walk of KernelNil.
-/
import Derived.Test.YtadnnjngflphjaaF7
namespace Go.Proofs.Ytadnnjngflphjaa
open Go.RowKit Go.Maps Go.Shelf
set_option linter.unusedSimpArgs false
set_option linter.unusedVariables false
set_option maxRecDepth 20000
set_option maxHeartbeats 4000000 in
theorem nil_walk (o : Oq) (s : Ad) (w : World) : Calls Try.prog 5 #[oV o, (Value.agg (acells s).toArray)] w (Gives w (.bool true)) := by
  have r0 := Row.new w 39 (pcs o)
  have b0 := ba w (.cells (pcs o).toArray 39)
  have r1 := Row.new (w.alloc (.cells (pcs o).toArray 39)) 31 (acells s)
  have b1 := ba (w.alloc (.cells (pcs o).toArray 39)) (.cells (acells s).toArray 31)
  have e1 : (w.alloc (.cells (pcs o).toArray 39)).heap.size = w.heap.size + 1 := World.size_alloc ..
  rw [e1] at r1
  have ro := r0.below b1 r0.lt
  have bX := bt b0 b1
  clear r0 b0 b1 e1
  go_enter Try.func5, Try.ntmps5
  go_upto_region 1 with fail
  refine name_world (R := fun W => Code.wp _ _ _ _ W) (P := fun W => Below w.heap.size w W ∧ Row W w.heap.size 39 (pcs o) ∧ Row W (w.heap.size + 1) 31 (acells s)) _ ⟨bX, ro, r1⟩ ?_
  clear bX ro r1
  rintro X ⟨bX, ro, r1⟩
  go_upto_region 4 with (first
    | (have kk := q6; (with_reducible refine stE (.tmp 6) (.tmp 15) ?_ ?_ g6 zeroE zeroE ?_ ?_ ?_ ?_); (focus rfl); (focus rfl); (focus rfl); (focus rfl); (focus exact q6); intro W6 gr6 r6; have k6 := bt k2 (grown_below gr6 b6 h6 b6.size); clear q6)
    | (have kk := k2; (with_reducible refine alG infoEz ?_ ?_ ?_); (focus rfl); (focus rfl); intro g6 V6 h6 l6 b6 q6)
    | (have kk := r1; go_at_call 19; refine (lookup_nil _ _ _).mono ?_; rintro e' w2 ⟨rfl, k2⟩)
    | (refine ldA (.tmp 3) rfl rfl _ _ s rfl r1.range ?_)
    | (go_at_call 12; refine (fail_nil _ _).mono ?_; rintro e' w1 ⟨rfl, rfl⟩))
  have ro6 := ro.below k6 ro.lt
  have bY := bt bX k6
  clear ro r1 bX k6 k2 gr6 b6 h6 l6 r6
  go_wp2_with (first
    | (have kk := b9; go_at_call 8; refine (live_any _).mono ?_; rintro e' w9 ⟨rfl, k⟩; have bZ := bt b9 k)
    | (go_at_call 15; refine (copy_nil _).mono ?_; rintro e' w' ⟨rfl, rfl⟩)
    | (go_at_call 18; refine (Imported_nil _).mono ?_; rintro e' w' ⟨rfl, rfl⟩)
    | (go_at_call 17; refine (List_nil _).mono ?_; rintro e' w' ⟨rfl, rfl⟩)
    | (go_at_call 13; refine (import_nil _ _).mono ?_; rintro e' w' ⟨rfl, rfl⟩; have b9 := bt bY b7)
    | ((with_reducible refine bsG (T := 27) (U := 37) (n := 1) [(0, .tmp 24)] (ecs o.e) ?_ ?_ ?_ ?_); (focus rfl); (focus rfl); (focus exact (fun w => bsN1 o.e w)); intro W7 r7 b7'; have b7 := bt k5 b7')
    | ((with_reducible refine ldE (.tmp 23) ?_ ?_ w.heap.size 1 o.e ?_ ?_ ?_); (focus rfl); (focus rfl); (focus rfl); (focus exact (ro6.below k5 ro6.lt).op.e))
    | (go_at_call 10; refine (do_nil _ _).mono ?_; rintro e' w5 ⟨rfl, k5⟩)
    | ((with_reducible refine ldO (.tmp 2) ?_ ?_ w.heap.size 0 o ?_ ?_ ?_); (focus rfl); (focus rfl); (focus rfl); (focus exact ro6.op)))
  go_ret
  exact ⟨rfl, bZ⟩
end Go.Proofs.Ytadnnjngflphjaa
