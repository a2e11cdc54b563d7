/-
  The law AddrMost returns true for every list of pairs and every two addresses, and its arguments read as before: no condition.
-/
import Derived.Test.YtimpopolkofdgabDoorLive
import Derived.Test.YtimpopolkofdgabDoorMostS
import Derived.Test.YtimpopolkofdgabDoorFrame
import Derived.Test.YtimpopolkofdgabDoorTie
import Derived.Test.YtimpopolkofdgabDoorCards
import Derived.ShutString
namespace Go.Proofs.YtimpopolkofdgabDoor.addrMost
open Go.ChangeShapes Go.WideShapes Go.ChangeAt Go.RowKit
open Go.ChangeMaps (open_string)
set_option maxRecDepth 100000 in
theorem lifted (os : Os) (started : os.Started) (H : Type) (enc : TypeId × Value → H) :
    ReturnsInHanded {} Tryd.checked os 4 .any (fun w args => (Rows.addrMostSpec.pre enc Tryd.prog Tryd.f4 [] false w args ∧ laidMetH Tryd.prog laidD w) ∧ sizedMet enc Tryd.prog Tryd.f4 (OpenSpec.ofChange Rows.addrMostSpec) false w args)
      (Rows.addrMostSpec.post enc Tryd.prog Tryd.f4 false true false false) := by
  refine returns_laid_shaped (C := Tryd.checked) (X := fun w _ => laidMetH Tryd.prog laidD w) (fun _ _ _ hh h => h.of_heap hh) own started (by kernel_rfl) Tryd.func4
    (ChangeSpec.witness_shaped (enc := enc) (C := Tryd.checked) (os := os) (X := fun w _ => laidMetH Tryd.prog laidD w) false (withFirst (World.doorLaid Tryd.prog 72 os)) #[.slice none 0 0, (Value.agg (acells zeroA).toArray), (Value.agg (acells zeroA).toArray)] 8 rfl (World.shaped_of_RefB (by kernel_rfl) (by kernel_rfl)) (by kernel_rfl) (by kernel_rfl) (by kernel_rfl) (door_met os _)) ?_
  intro W base args ds gs before hval0 hW _ hL hsh
  have hval : ∀ (j : Nat) t v, Tryd.f4.params[j]? = some t → args[j]? = some v → Value.okWide Tryd.prog W .any base t v := hval0
  have hW' := hW
  obtain ⟨p, q, hA0, hV, rfl, hfz, hnd⟩ := hW
  have hA : DataW.TrodAll enc Tryd.prog W 0 (fun _ => true) true Tryd.f4.params.toList args.toList ds p := hA0
  have kA := hA
  rw [Tryd.params4] at hA hval
  obtain ⟨v0, vs0, d0, ds0, p0, q0, hargs, rfl, rfl, h0, r0⟩ := trodAll_cons hA
  obtain ⟨v1, vs1, d1, ds1, p1, q1, rfl, rfl, rfl, h1, r1⟩ := trodAll_cons r0
  obtain ⟨v2, vs2, d2, ds2, p2, q2, rfl, rfl, rfl, h2, r2⟩ := trodAll_cons r1
  obtain ⟨rfl, rfl, rfl⟩ := trodAll_nil r2
  obtain rfl : args = #[v0, v1, v2] := by cases args; simp_all
  obtain ⟨rfl, rfl⟩ := trodVars_none hV
  obtain ⟨n0, c0, o0, a0, rfl, b0⟩ := openL (hval 0 38 v0 rfl rfl) h0
  obtain ⟨a1, rfl⟩ := openA (hval 1 23 v1 rfl rfl) h1
  obtain ⟨a2, rfl⟩ := openA (hval 2 23 v2 rfl rfl) h2
  obtain ⟨g1, g2, g3⟩ := glob_of hL hsh
  clear hA0 hval0
  have lv := fun W' (hb : Below W.heap.size W W') => live_any W' (g1.keep hb g3) (g2.keep hb g3) (Nat.le_trans g3 hb.size)
  refine (most_walk a1 a2 n0 c0 o0 a0 W b0.1 b0.2 lv).mono fun e W' ⟨he, bel⟩ => ?_
  subst he
  exact ⟨_, rfl, _, _, _, [], _, [], hW', trodAll_mk1 (shut_bool Tryd.underlying4 _), all_stay laid_out bel _ _ _ _ (by kernel_rfl) kA, rfl, bel.frame _, fun h => by cases h⟩
theorem over : Rows.addrMostRow.holds Tryd.pinned (OpenSpec.ofChange Rows.addrMostSpec) :=
  OpenClaim.holds_of_wide 4 Tryd.f4 rfl rfl rfl rfl rfl rfl rfl ⟨rfl, rfl, rfl, rfl, rfl⟩ rfl rfl rfl rfl rfl (by kernel_rfl) Tryd.func4 (by kernel_rfl)
    (of_decide_eq_true (by kernel_rfl)) (by unfold Func.isWrapper; first | (rw [if_pos (by decide +kernel)]; kernel_rfl) | (rw [if_neg (by decide +kernel)]; exact ⟨rfl, rfl⟩))
    (fun os started H enc _ => lifted os started H enc)
end Go.Proofs.YtimpopolkofdgabDoor.addrMost
namespace Go.Proofs.YtimpopolkofdgabDoor
open Go
/-- The statement. -/
theorem addrMost_card : Rows.AddrMostCardSaid :=
  Claim7.holds_tied_plain_at .later [] [.data, .data, .data, .data, .sentinel, .sentinel, .pinned] true (true, "3b3e0bbcc223bc6edf9c102029f7b0304cea9cb0a3887e2981227907c6772324") true
    addrMost.over (fun _ h => by cases h) (by kernel_rfl) (fun _ h => by cases h) addrMost_row_tie rfl ⟨rfl, rfl⟩ (by kernel_rfl) rfl
    (fun f fn hf hfn => by
      obtain rfl : f = 4 := Option.some.inj ((show Tryd.prog.funcNamed Tryd.f4.name = some 4 by kernel_rfl).symm.trans hf) |>.symm
      obtain rfl : fn = Tryd.f4 := (Option.some.inj (Tryd.func4.symm.trans hfn)).symm
      exact ⟨by kernel_rfl, fun j t ht => by
        rw [Tryd.params4] at ht
        rcases j with _ | _ | _ | j
        · obtain rfl : t = 38 := by simpa using ht.symm
          exact (show Tryd.prog.wantsStandIn 38 = false by kernel_rfl)
        · obtain rfl : t = 23 := by simpa using ht.symm
          exact (show Tryd.prog.wantsStandIn 23 = false by kernel_rfl)
        · obtain rfl : t = 23 := by simpa using ht.symm
          exact (show Tryd.prog.wantsStandIn 23 = false by kernel_rfl)
        · simp at ht⟩)
    (by kernel_rfl)
#print axioms addrMost_card
end Go.Proofs.YtimpopolkofdgabDoor
