/-
  The document's Of, for every address and number.
-/
import Derived.Test.YtimpopolkofdgaaGreatDoorRefT
import Derived.Test.YtimpopolkofdgaaGreatDoorOfW
namespace Go.Proofs.YtimpopolkofdgaaGreatDoor
open Go.RowKit Go.Shelf
set_option linter.unusedSimpArgs false
set_option maxRecDepth 20000
set_option maxHeartbeats 8000000 in
theorem rof_any (a : Ad) (n : Int) (w : World) : Calls Tryz.prog 17 #[(Value.agg (acells a).toArray), .int .i64 n] w (Gives w (.tuple #[(Value.agg (pcells ((ofF a n).1)).toArray), .int .i64 (ofF a n).2])) := by
  have HK : Hid (∀ W, _ → LA W w.heap.size 0 a ∧ Row W (w.heap.size + 1) 35 (pcells zeroP) ∧ Below w.heap.size w W) := of_two w a
  have hb0 := Below.refl ((w.alloc (.cells (acells a).toArray 23)).alloc (.cells (pcells zeroP).toArray 35)).heap.size ((w.alloc (.cells (acells a).toArray 23)).alloc (.cells (pcells zeroP).toArray 35))
  have hF := rfamily_any a
  have HX : Hid (ofF a n = if 0 ≤ n ∧ n ≤ 128 - ahead a then (⟨cutA a (ahead a + n).toNat, ahead a + n⟩, 0) else (zeroP, 2)) := rfl
  obtain ⟨f, hf⟩ : ∃ f, f = famA a := ⟨_, rfl⟩
  obtain ⟨h, hh⟩ : ∃ h, h = ahead a := ⟨_, rfl⟩
  have hc : f = 4 ∧ h = 96 ∨ (f == 4) = false ∧ h = 0 := by
    rw [hf, hh, ahead]
    by_cases h4 : famA a = 4
    · exact .inl ⟨h4, by rw [if_pos h4]⟩
    · exact .inr ⟨by simpa using h4, by rw [if_neg h4]⟩
  rw [← hf] at hF
  rw [← hh] at HX
  clear hf hh
  by_cases h0 : n < 0
  · have d0 : decide (n < 0) = true := by simpa using h0
    have HX' : Hid (ofF a n = (zeroP, 2)) := by show _ = _; rw [HX.out, if_neg (by omega)]
    clear HX h0
    rcases hc with ⟨rfl, rfl⟩ | ⟨h4, rfl⟩
    all_goals go_enter Tryz.func17, Tryz.ntmps17
    all_goals go_wp2_with (first
      | (refine ldA (.tmp 2) (by rfl) rfl _ _ a rfl (HK.out _ hb0).1 ?_)
      | (refine stP (.tmp 4) (.tmp 18) (by rfl) rfl _ _ zeroP rfl rfl ((HK.out _ hb0).2.1.there (by rw [pcells_len]; omega)) ?_)
      | (go_at_call 11; refine (hF _).mono ?_; rintro e w1 ⟨rfl, hB⟩; replace hb0 := bt hb0 hB; clear hB))
    all_goals refine bodyPost_ret (retCT rfl _ _ 0 rfl (lvP (LP.stored ((HK.out _ hb0).2.1.there (by rw [pcells_len]; omega))))) rfl ⟨by rw [HX'.out]; rfl, below_setCells _ (by omega) _ _ _ (HK.out _ hb0).2.2⟩
  · have d0 : decide (n < 0) = false := by simpa using h0
    by_cases h1 : n ≤ 128 - h
    · have HX' : Hid (ofF a n = (⟨cutA a (h + n).toNat, h + n⟩, 0)) := by show _ = _; rw [HX.out, if_pos (by omega)]
      obtain ⟨k, hk⟩ : ∃ k : Nat, h + n = (k : Int) := ⟨(h + n).toNat, by omega⟩
      have hk' : k ≤ 128 := by omega
      have hC := rmasked_any a k hk'
      have hcl := acells_len (cutA a k)
      have hfs := foldSize (cutA a k)
      have hkw : IntKind.i64.wrap (h + n) = (k : Int) := by rw [IntKind.wrap_i64]; omega
      have hkw' : wrap64 (h + n) = (k : Int) := by unfold wrap64; omega
      rw [hk, Int.toNat_natCast] at HX'
      have d1 : decide (128 - h < n) = false := by simp; omega
      clear HX h0 hk hk'
      rcases hc with ⟨rfl, rfl⟩ | ⟨h4, rfl⟩
      · have d2 : decide ((32 : Int) < n) = false := d1
        clear d1 h1
        go_enter Tryz.func17, Tryz.ntmps17
        go_wp2_with (first
          | (refine ldA (.tmp 2) (by rfl) rfl _ _ a rfl (HK.out _ hb0).1 ?_)
          | (refine stP (.tmp 4) (.tmp 27) (by rfl) rfl _ _ ⟨cutA a k, (k : Int)⟩ rfl (buildP (cutA a k) k) ((HK.out _ hb0).2.1.there (by rw [pcells_len]; omega)) ?_)
          | (go_at_call 62; refine (hC _).mono ?_; rintro e w2 ⟨rfl, hB⟩; replace hb0 := bt hb0 hB; clear hB)
          | (go_at_call 11; refine (hF _).mono ?_; rintro e w1 ⟨rfl, hB⟩; replace hb0 := bt hb0 hB; clear hB))
        refine bodyPost_ret (retCT rfl _ _ 0 rfl (lvP (LP.stored ((HK.out _ hb0).2.1.there (by rw [pcells_len]; omega))))) rfl ⟨by rw [HX'.out]; rfl, below_setCells _ (by omega) _ _ _ (HK.out _ hb0).2.2⟩
      · have d2 : decide ((128 : Int) < n) = false := by simp; omega
        clear d1 h1
        simp only [Int.zero_add] at hkw hkw'
        go_enter Tryz.func17, Tryz.ntmps17
        go_wp2_with (first
          | (refine ldA (.tmp 2) (by rfl) rfl _ _ a rfl (HK.out _ hb0).1 ?_)
          | (refine stP (.tmp 4) (.tmp 27) (by rfl) rfl _ _ ⟨cutA a k, (k : Int)⟩ rfl (buildP (cutA a k) k) ((HK.out _ hb0).2.1.there (by rw [pcells_len]; omega)) ?_)
          | (go_at_call 62; refine (hC _).mono ?_; rintro e w2 ⟨rfl, hB⟩; replace hb0 := bt hb0 hB; clear hB)
          | (go_at_call 11; refine (hF _).mono ?_; rintro e w1 ⟨rfl, hB⟩; replace hb0 := bt hb0 hB; clear hB))
        refine bodyPost_ret (retCT rfl _ _ 0 rfl (lvP (LP.stored ((HK.out _ hb0).2.1.there (by rw [pcells_len]; omega))))) rfl ⟨by rw [HX'.out]; rfl, below_setCells _ (by omega) _ _ _ (HK.out _ hb0).2.2⟩
    · have HX' : Hid (ofF a n = (zeroP, 2)) := by show _ = _; rw [HX.out, if_neg (by omega)]
      have d1 : decide (128 - h < n) = true := by simp; omega
      clear HX h0 h1
      rcases hc with ⟨rfl, rfl⟩ | ⟨h4, rfl⟩
      · have d2 : decide ((32 : Int) < n) = true := d1
        clear d1
        go_enter Tryz.func17, Tryz.ntmps17
        go_wp2_with (first
          | (refine ldA (.tmp 2) (by rfl) rfl _ _ a rfl (HK.out _ hb0).1 ?_)
          | (refine stP (.tmp 4) (.tmp 18) (by rfl) rfl _ _ zeroP rfl rfl ((HK.out _ hb0).2.1.there (by rw [pcells_len]; omega)) ?_)
          | (go_at_call 11; refine (hF _).mono ?_; rintro e w1 ⟨rfl, hB⟩; replace hb0 := bt hb0 hB; clear hB))
        refine bodyPost_ret (retCT rfl _ _ 0 rfl (lvP (LP.stored ((HK.out _ hb0).2.1.there (by rw [pcells_len]; omega))))) rfl ⟨by rw [HX'.out]; rfl, below_setCells _ (by omega) _ _ _ (HK.out _ hb0).2.2⟩
      · have d2 : decide ((128 : Int) < n) = true := d1
        clear d1
        go_enter Tryz.func17, Tryz.ntmps17
        go_wp2_with (first
          | (refine ldA (.tmp 2) (by rfl) rfl _ _ a rfl (HK.out _ hb0).1 ?_)
          | (refine stP (.tmp 4) (.tmp 18) (by rfl) rfl _ _ zeroP rfl rfl ((HK.out _ hb0).2.1.there (by rw [pcells_len]; omega)) ?_)
          | (go_at_call 11; refine (hF _).mono ?_; rintro e w1 ⟨rfl, hB⟩; replace hb0 := bt hb0 hB; clear hB))
        refine bodyPost_ret (retCT rfl _ _ 0 rfl (lvP (LP.stored ((HK.out _ hb0).2.1.there (by rw [pcells_len]; omega))))) rfl ⟨by rw [HX'.out]; rfl, below_setCells _ (by omega) _ _ _ (HK.out _ hb0).2.2⟩
end Go.Proofs.YtimpopolkofdgaaGreatDoor
