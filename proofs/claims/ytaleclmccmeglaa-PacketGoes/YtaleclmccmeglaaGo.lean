/-
  The law PacketGoes returns true for every address and every two slices of bytes, and its arguments read as before: no condition.
-/
import Derived.Test.YtaleclmccmeglaaGoW
import Derived.Test.YtaleclmccmeglaaArgs
namespace Go.Proofs.Ytaleclmccmeglaa.packetGoes
open Go.ChangeShapes Go.WideShapes Go.ChangeAt Go.RowKit
open Go.ChangeMaps (open_string)
set_option maxRecDepth 100000 in
theorem lifted (os : Os) (started : os.Started) (H : Type) (enc : TypeId × Value → H) :
    ReturnsInHanded {} Try.checked os 7 .any (Rows.packetGoesSpec.pre6 enc Try.prog Try.f7 Rows.packetGoesRow.domain false) (Rows.packetGoesSpec.post enc Try.prog Try.f7 false true false false) := by
  refine returnsInHanded_of_change_sized (C := Try.checked) own started (by kernel_rfl) Try.func7
    (ChangeSpec.witness6 (enc := enc) (C := Try.checked) false ⟨#[], #[(Value.agg (acells zeroA).toArray), .slice none 0 0, .slice none 0 0], []⟩ 8 (by kernel_rfl) (by kernel_rfl) (by kernel_rfl) (by kernel_rfl)) ?_
  intro W base args ds gs before hval0 hW hcnd hsz _
  have hval : ∀ (j : Nat) t v, Try.f7.params[j]? = some t → args[j]? = some v → Value.okWide Try.prog W .any base t v := hval0
  have hW' := hW
  obtain ⟨p, q, hA0, hV, rfl, hfz, hnd⟩ := hW
  have hA : DataW.TrodAll enc Try.prog W 0 (fun _ => true) true Try.f7.params.toList args.toList ds p := hA0
  have kA := hA
  rw [Try.params7] at hA hval
  obtain ⟨v0, vs0, d0, ds0, p0, q0, hargs, rfl, rfl, h0, r0⟩ := trodAll_cons hA
  obtain ⟨v1, vs1, d1, ds1, p1, q1, rfl, rfl, rfl, h1, r1⟩ := trodAll_cons r0
  obtain ⟨v2, vs2, d2, ds2, p2, q2, rfl, rfl, rfl, h2, r2⟩ := trodAll_cons r1
  obtain ⟨rfl, rfl, rfl⟩ := trodAll_nil r2
  obtain rfl : args = #[v0, v1, v2] := by cases args; simp_all
  obtain ⟨rfl, rfl⟩ := trodVars_none hV
  obtain ⟨a0, rfl⟩ := openA (hval 0 23 v0 rfl rfl) h0
  obtain ⟨ad1, n1, c1, l1, rfl, m1, k1, z1⟩ := openW (hval 1 24 v1 rfl rfl) h1
  have b1 := short_of hsz (j := 1) (t := 24) rfl rfl Try.underlying24 (by kernel_rfl) z1
  obtain ⟨ad2, n2, c2, l2, rfl, m2, k2, z2⟩ := openW (hval 2 24 v2 rfl rfl) h2
  have b2 := short_of hsz (j := 2) (t := 24) rfl rfl Try.underlying24 (by kernel_rfl) z2
  clear hA0 hval0
  refine (goes_any a0 ad1 n1 c1 l1 ad2 n2 c2 l2 W m1 m2 b1 b2).mono fun e W' ⟨he, bel⟩ => ?_
  subst he
  exact ⟨_, rfl, _, _, _, [], _, [], hW', trodAll_mk1 (shut_bool Try.underlying4 _), all_stay laid_out bel _ _ _ _ (by kernel_rfl) kA, rfl, bel.frame _, fun h => by cases h⟩
theorem over : Rows.packetGoesRow.holds Try.pinned (OpenSpec.ofChange Rows.packetGoesSpec) :=
  OpenClaim.holds_of_wide 7 Try.f7 rfl rfl rfl rfl rfl rfl rfl ⟨rfl, rfl, rfl, rfl, rfl⟩ rfl rfl rfl rfl rfl (by kernel_rfl) Try.func7 (by kernel_rfl)
    (of_decide_eq_true (by kernel_rfl)) (by unfold Func.isWrapper; first | (rw [if_pos (by decide +kernel)]; kernel_rfl) | (rw [if_neg (by decide +kernel)]; exact ⟨rfl, rfl⟩))
    (fun os started H enc _ => lifted os started H enc)
end Go.Proofs.Ytaleclmccmeglaa.packetGoes
namespace Go.Proofs.Ytaleclmccmeglaa
/-- The statement. -/
theorem packetGoes_holds : Rows.PacketGoesSaid := packetGoes.over
#print axioms packetGoes_holds
end Go.Proofs.Ytaleclmccmeglaa
