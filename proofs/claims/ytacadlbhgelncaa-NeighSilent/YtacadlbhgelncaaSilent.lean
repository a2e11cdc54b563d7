/-
  NeighSilent of package culvertlaw13: whoever is not heard any more is gone behind eighteen gaps; there are never more than there is room for; for every input, with no condition.
-/
import Derived.Test.YtacadlbhgelncaaSiW
import Derived.Test.YtacadlbhgelncaaArgK
import Derived.Test.YtacadlbhgelncaaArgN
namespace Go.Proofs.Ytacadlbhgelncaa.neighSilent
open Lk (Hi hcs hcs_one)
open Rk (Rt rcs rtV)
open Go.ChangeShapes Go.WideShapes Go.ChangeAt Go.RowKit
open Go.ChangeMaps (open_string)
set_option maxRecDepth 100000 in
theorem lifted (os : Os) (started : os.Started) (H : Type) (enc : TypeId × Value → H) :
    ReturnsInHanded {} Try.checked os 3 .any (Rows.neighSilentSpec.pre6 enc Try.prog Try.f3 Rows.neighSilentRow.domain false) (Rows.neighSilentSpec.post enc Try.prog Try.f3 false true false false) := by
  refine returnsInHanded_of_change (C := Try.checked) own started (by kernel_rfl) Try.func3
    (ChangeSpec.witness6 (enc := enc) (C := Try.checked) false ⟨#[], #[.int .i64 0, .slice none 0 0, .slice none 0 0], []⟩ 8 (by kernel_rfl) (by kernel_rfl) (by kernel_rfl) (by kernel_rfl)) ?_
  intro W base args ds gs before hval0 hW hcnd _
  have hval : ∀ (j : Nat) t v, Try.f3.params[j]? = some t → args[j]? = some v → Value.okWide Try.prog W .any base t v := hval0
  have hW' := hW
  obtain ⟨p, q, hA0, hV, rfl, hfz, hnd⟩ := hW
  have hA : DataW.TrodAll enc Try.prog W 0 (fun _ => true) true Try.f3.params.toList args.toList ds p := hA0
  have kA := hA
  rw [Try.params3] at hA hval
  obtain ⟨v0, vs0, d0, ds0, p0, q0, hargs, rfl, rfl, h0, r0⟩ := trodAll_cons hA
  obtain ⟨v1, vs1, d1, ds1, p1, q1, rfl, rfl, rfl, h1, r1⟩ := trodAll_cons r0
  obtain ⟨v2, vs2, d2, ds2, p2, q2, rfl, rfl, rfl, h2, r2⟩ := trodAll_cons r1
  obtain ⟨rfl, rfl, rfl⟩ := trodAll_nil r2
  obtain rfl : args = #[v0, v1, v2] := by cases args; simp_all
  obtain ⟨rfl, rfl⟩ := trodVars_none hV
  obtain ⟨a0, rfl, _, _, w0⟩ := open_int Try.underlying3 (hval 0 3 v0 rfl rfl) h0
  obtain ⟨ad1, c1, l1, rfl, m1, b1, e1⟩ := openC (hval 1 22 v1 rfl rfl) h1
  obtain ⟨ad2, c2, l2, rfl, m2, b2, e2⟩ := openK (hval 2 23 v2 rfl rfl) h2
  clear hA0 hval0
  refine (silent_walk a0 ad1 c1 l1 ad2 c2 l2 W m1 b1 e1 m2 b2 e2).mono fun e W' ⟨he, bel⟩ => ?_
  subst he
  exact ⟨_, rfl, _, _, _, [], _, [], hW', trodAll_mk1 (shut_bool Try.underlying4 _), all_stay laid_out bel _ _ _ _ (by kernel_rfl) kA, rfl, bel.frame _, fun h => by cases h⟩
theorem over : Rows.neighSilentRow.holds Try.pinned (OpenSpec.ofChange Rows.neighSilentSpec) :=
  OpenClaim.holds_of_wide 3 Try.f3 rfl rfl rfl rfl rfl rfl rfl ⟨rfl, rfl, rfl, rfl, rfl⟩ rfl rfl rfl rfl rfl (by kernel_rfl) Try.func3 (by kernel_rfl)
    (of_decide_eq_true (by kernel_rfl)) (by unfold Func.isWrapper; first | (rw [if_pos (by decide +kernel)]; kernel_rfl) | (rw [if_neg (by decide +kernel)]; exact ⟨rfl, rfl⟩))
    (fun os started H enc _ => lifted os started H enc)
end Go.Proofs.Ytacadlbhgelncaa.neighSilent
namespace Go.Proofs.Ytacadlbhgelncaa
/-- The statement. -/
theorem neighSilent_holds : Rows.NeighSilentSaid := neighSilent.over
#print axioms neighSilent_holds
end Go.Proofs.Ytacadlbhgelncaa
