/-
  Next, Selected.
-/
import Derived.Test.YthofoocknmkdjaaXA
namespace Go.Proofs.Ythofoocknmkdjaa
open Go.RowKit Go.Maps Go.Shelf
set_option linter.unusedSimpArgs false
set_option linter.unusedVariables false
set_option maxRecDepth 20000
theorem next_nil (w : World) : Calls Try.prog 19 #[.pointer none] w fun e w' => e = .returned (.tuple #[.int .i64 0, .bool false]) ∧ w = w' := by
  go_enter Try.func19, Try.ntmps19
  go_wp2
  go_ret2
  exact ⟨rfl, rfl⟩
theorem sel_nil (p : Pr) (w : World) : Calls Try.prog 17 #[.pointer none, (Value.agg (qcells p).toArray)] w (Gives w (.tuple #[rV zeroR, .bool false])) := by
  go_enter Try.func17, Try.ntmps17
  go_upto_region 1 with (first
    | (refine alG infoRz rfl rfl ?_; intro g1 W1 hge hgl hB1 hr1))
  obtain ⟨hB, r0, hs⟩ := stepRow hB1
  have hg : w.heap.size < g1 := by simp at hge; omega
  clear hB1 hge
  go_wp2_with (first
    | ((with_reducible refine bdG (T := 41) (v := rV zeroR) [] ?_ ?_ ?_ ?_); (focus rfl); (focus rfl); (focus exact bdR0 _))
    | (refine stS (.tmp 4) (.tmp 10) rfl rfl g1 zeroR _ rfl rfl hr1 ?_; intro W2 hg2 hr2))
  exact bodyPost_ret (retCT rfl _ _ 0 rfl (lvS hr2)) rfl ⟨rfl, grown_below hg2 hB (by omega) (by omega)⟩
end Go.Proofs.Ythofoocknmkdjaa
