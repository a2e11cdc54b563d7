/-
  RequestNil of package culvertlaw18: on a nil Table each call answers as the document says, and live holds; for every input, with no condition.
-/
import Derived.Test.YtbjclphgabpgoaaNiW
import Derived.Test.YtbjclphgabpgoaaArgs
namespace Go.Proofs.Ytbjclphgabpgoaa.requestNil
open Go.ChangeShapes Go.WideShapes Go.ChangeAt Go.RowKit
open Go.ChangeMaps (open_string)
set_option maxRecDepth 100000 in
theorem lifted (os : Os) (started : os.Started) (H : Type) (enc : TypeId × Value → H) :
    ReturnsInHanded {} Try.checked os 5 .any (Rows.requestNilSpec.pre6 enc Try.prog Try.f5 Rows.requestNilRow.domain false) (Rows.requestNilSpec.post enc Try.prog Try.f5 false true false false) := by
  refine returnsInHanded_of_change (C := Try.checked) own started (by kernel_rfl) Try.func5
    (ChangeSpec.witness6 (enc := enc) (C := Try.checked) false ⟨#[], #[(Value.agg (qcells zeroQ).toArray), idV zeroI, .agg #[.int .u16 0, .int .u16 0]], []⟩ 8 (by kernel_rfl) (by kernel_rfl) (by kernel_rfl) (by kernel_rfl)) ?_
  intro W base args ds gs before hval0 hW hcnd _
  have hval : ∀ (j : Nat) t v, Try.f5.params[j]? = some t → args[j]? = some v → Value.okWide Try.prog W .any base t v := hval0
  have hW' := hW
  obtain ⟨p, q, hA0, hV, rfl, hfz, hnd⟩ := hW
  have hA : DataW.TrodAll enc Try.prog W 0 (fun _ => true) true Try.f5.params.toList args.toList ds p := hA0
  have kA := hA
  rw [Try.params5] at hA hval
  obtain ⟨v0, vs0, d0, ds0, p0, q0, hargs, rfl, rfl, h0, r0⟩ := trodAll_cons hA
  obtain ⟨v1, vs1, d1, ds1, p1, q1, rfl, rfl, rfl, h1, r1⟩ := trodAll_cons r0
  obtain ⟨v2, vs2, d2, ds2, p2, q2, rfl, rfl, rfl, h2, r2⟩ := trodAll_cons r1
  obtain ⟨rfl, rfl, rfl⟩ := trodAll_nil r2
  obtain rfl : args = #[v0, v1, v2] := by cases args; simp_all
  obtain ⟨rfl, rfl⟩ := trodVars_none hV
  obtain ⟨a0, rfl, b0⟩ := openQ (hval 0 38 v0 rfl rfl) h0
  have q0 : wfQ a0 := wfQ_of b0.1.1 b0.1.2 b0.2.1 b0.2.2
  obtain ⟨a1, rfl⟩ := openI (hval 1 40 v1 rfl rfl) h1
  obtain ⟨x2, y2, rfl, b2⟩ := openD (hval 2 42 v2 rfl rfl) h2
  clear hA0 hval0
  refine (nil_walk a0 a1 x2 y2 q0 W).mono fun e W' ⟨he, bel⟩ => ?_
  subst he
  exact ⟨_, rfl, _, _, _, [], _, [], hW', trodAll_mk1 (shut_bool Try.underlying4 _), all_stay laid_out bel _ _ _ _ (by kernel_rfl) kA, rfl, bel.frame _, fun h => by cases h⟩
theorem over : Rows.requestNilRow.holds Try.pinned (OpenSpec.ofChange Rows.requestNilSpec) :=
  OpenClaim.holds_of_wide 5 Try.f5 rfl rfl rfl rfl rfl rfl rfl ⟨rfl, rfl, rfl, rfl, rfl⟩ rfl rfl rfl rfl rfl (by kernel_rfl) Try.func5 (by kernel_rfl)
    (of_decide_eq_true (by kernel_rfl)) (by unfold Func.isWrapper; first | (rw [if_pos (by decide +kernel)]; kernel_rfl) | (rw [if_neg (by decide +kernel)]; exact ⟨rfl, rfl⟩))
    (fun os started H enc _ => lifted os started H enc)
end Go.Proofs.Ytbjclphgabpgoaa.requestNil
namespace Go.Proofs.Ytbjclphgabpgoaa
/-- The statement. -/
theorem requestNil_holds : Rows.RequestNilSaid := requestNil.over
#print axioms requestNil_holds
end Go.Proofs.Ytbjclphgabpgoaa
