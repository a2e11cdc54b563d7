/-
  What is added and removed leaves what was; what others put in is never touched.
-/
import Derived.Test.YtadnnjngflphjaaBaW
import Derived.Test.YtadnnjngflphjaaArgs
namespace Go.Proofs.Ytadnnjngflphjaa.kernelBack
open Go.ChangeShapes Go.WideShapes Go.ChangeAt Go.RowKit
open Go.ChangeMaps (open_string)
set_option maxRecDepth 100000 in
theorem lifted (os : Os) (started : os.Started) (H : Type) (enc : TypeId × Value → H) :
    ReturnsInHanded {} Try.checked os 7 .any (Rows.kernelBackSpec.pre6 enc Try.prog Try.f7 Rows.kernelBackRow.domain false) (Rows.kernelBackSpec.post enc Try.prog Try.f7 false true false false) := by
  refine returnsInHanded_of_change (C := Try.checked) own started (by kernel_rfl) Try.func7
    (ChangeSpec.witness6 (enc := enc) (C := Try.checked) false ⟨#[], #[.slice none 0 0, .slice none 0 0], []⟩ 8 (by kernel_rfl) (by kernel_rfl) (by kernel_rfl) (by kernel_rfl)) ?_
  intro W base args ds gs before hval0 hW hcnd _
  have hval : ∀ (j : Nat) t v, Try.f7.params[j]? = some t → args[j]? = some v → Value.okWide Try.prog W .any base t v := hval0
  have hW' := hW
  obtain ⟨p, q, hA0, hV, rfl, hfz, hnd⟩ := hW
  have hA : DataW.TrodAll enc Try.prog W 0 (fun _ => true) true Try.f7.params.toList args.toList ds p := hA0
  have kA := hA
  rw [Try.params7] at hA hval
  obtain ⟨v0, vs0, d0, ds0, p0, q0, hargs, rfl, rfl, h0, r0⟩ := trodAll_cons hA
  obtain ⟨v1, vs1, d1, ds1, p1, q1, rfl, rfl, rfl, h1, r1⟩ := trodAll_cons r0
  obtain ⟨rfl, rfl, rfl⟩ := trodAll_nil r1
  obtain rfl : args = #[v0, v1] := by cases args; simp_all
  obtain ⟨rfl, rfl⟩ := trodVars_none hV
  obtain ⟨ad0, c0, l0, rfl, m0, b0, e0⟩ := openEs (hval 0 27 v0 rfl rfl) h0
  obtain ⟨ad1, c1, l1, rfl, m1, b1, e1⟩ := openEs (hval 1 27 v1 rfl rfl) h1
  clear hA0 hval0
  refine (back_walk ad0 c0 l0 ad1 c1 l1 W m0 b0 m1 b1).mono fun e W' ⟨he, bel⟩ => ?_
  subst he
  exact ⟨_, rfl, _, _, _, [], _, [], hW', trodAll_mk1 (shut_bool Try.underlying4 _), all_stay laid_out bel _ _ _ _ (by kernel_rfl) kA, rfl, bel.frame _, fun h => by cases h⟩
theorem over : Rows.kernelBackRow.holds Try.pinned (OpenSpec.ofChange Rows.kernelBackSpec) :=
  OpenClaim.holds_of_wide 7 Try.f7 rfl rfl rfl rfl rfl rfl rfl ⟨rfl, rfl, rfl, rfl, rfl⟩ rfl rfl rfl rfl rfl (by kernel_rfl) Try.func7 (by kernel_rfl)
    (of_decide_eq_true (by kernel_rfl)) (by unfold Func.isWrapper; first | (rw [if_pos (by decide +kernel)]; kernel_rfl) | (rw [if_neg (by decide +kernel)]; exact ⟨rfl, rfl⟩))
    (fun os started H enc _ => lifted os started H enc)
end Go.Proofs.Ytadnnjngflphjaa.kernelBack
namespace Go.Proofs.Ytadnnjngflphjaa
/-- The statement. -/
theorem kernelBack_holds : Rows.KernelBackSaid := kernelBack.over
#print axioms kernelBack_holds
end Go.Proofs.Ytadnnjngflphjaa
