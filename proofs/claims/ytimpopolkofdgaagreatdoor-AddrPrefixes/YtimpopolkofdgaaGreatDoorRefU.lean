/-
  The document's PrintPrefix, for every prefix.
-/
import Derived.Test.YtimpopolkofdgaaGreatDoorRefT
import Derived.Test.YtimpopolkofdgaaGreatDoorRefN
import Derived.Test.YtimpopolkofdgaaGreatDoorPrint
namespace Go.Proofs.YtimpopolkofdgaaGreatDoor
open Go.RowKit Go.Shelf
set_option linter.unusedSimpArgs false
set_option maxRecDepth 20000
theorem famP_four {p : Pf} (h : famP p = 4) : famA p.a = 4 := by
  unfold famP at h
  split at h
  · rename_i hh; exact hh.2
  · cases h
set_option maxHeartbeats 4000000 in
theorem rprintP_any (p : Pf) (w : World) : Calls Tryz.prog 25 #[(Value.agg (pcells p).toArray)] w (Gives w (.string (str (prtP p)))) := by
  have hA := LP.new w p 35
  have hB0 := ba w (.cells (pcells p).toArray 35)
  have hC := rcheck_any p
  have hF := rpfam_any p
  have HX : Hid (prtP p = if chk p ≠ 0 then [] else if famP p = 4 then prtA p.a ++ [47] ++ Lib.itoa (p.n - 96) else pgS p.a ++ [47] ++ Lib.itoa p.n) := rfl
  by_cases hc0 : chk p = 0
  · rw [if_neg (by simpa using hc0)] at HX
    rw [hc0] at hC
    obtain ⟨hn0, hn1⟩ := chk_range hc0
    clear hc0
    by_cases h4 : famP p = 4
    · rw [if_pos h4] at HX
      have hn2 := famP_range h4
      rw [prtA, if_pos (famP_four h4)] at HX
      rw [h4] at hF
      have h4f := famP_four h4
      clear h4
      have hlA : (ppS p.a).length ≤ 100 := by have := prtA_len p.a; rw [prtA, if_pos h4f] at this; exact this
      have hlI := itoa_128 (p.n - 96) (by omega) (by omega)
      obtain ⟨pa, hpa⟩ : ∃ pa, pa = p.a := ⟨_, rfl⟩
      obtain ⟨pn, hpn⟩ : ∃ pn, pn = p.n := ⟨_, rfl⟩
      have HW : Hid (∀ W, Below (w.heap.size + 1) (w.alloc (.cells (pcells p).toArray 35)) W → LA W w.heap.size 0 pa ∧ W.cell? ⟨w.heap.size, 16, none⟩ = some (.int .i64 pn)) := fun W hb => by
        have hP' := hA.below hb (Nat.lt_succ_self _)
        rw [hpa, hpn]
        exact ⟨by simpa using hP'.a, by simpa using hP'.n⟩
      rw [← hpa] at hlA HX
      rw [← hpn] at hlI HX hn0 hn1 hn2
      have hw96 : IntKind.i64.wrap (pn - 96) = pn - 96 := by rw [IntKind.wrap_i64]; omega
      obtain ⟨kn, hkn⟩ : ∃ kn : Nat, pn - 96 = (kn : Int) := ⟨(pn - 96).toNat, by omega⟩
      have hI := rdigits kn (by omega)
      rw [← hkn] at hI
      clear hkn
      obtain ⟨nt, hnt⟩ : ∃ nt, nt = Lib.itoa (pn - 96) := ⟨_, rfl⟩
      rw [← hnt] at hlI HX hI
      rw [← hw96] at hI
      clear hw96
      obtain ⟨at', hat⟩ : ∃ at', at' = ppS pa := ⟨_, rfl⟩
      have hPr := rfours_any pa
      rw [← hat] at hlA HX hPr
      have hn1' : ¬ 9223372036854775807 < at'.length + 1 := by omega
      have hn2' : ¬ 9223372036854775807 < at'.length + 1 + nt.length := by omega
      clear hpa hpn hnt hat
      go_enter Tryz.func25, Tryz.ntmps25
      go_wp2_with (first
        | (refine ldP (.tmp 1) rfl rfl _ _ p rfl (hA.below hB1 (by simp)) ?_)
        | (refine ldP (.tmp 1) rfl rfl _ _ p rfl hA ?_)
        | (go_at_call 21; refine (hF _).mono ?_; rintro e w2 ⟨rfl, hB2⟩)
        | (go_at_call 19; refine (hC _).mono ?_; rintro e w1 ⟨rfl, hB1⟩))
      have hB3 : Below (w.heap.size + 1) (w.alloc (.cells (pcells p).toArray 35)) w2 := (bt hB1 hB2).mono (by simp)
      clear hC hF hB1 hB2
      refine wp_region_noPanic ?_
      refine wp_region_held_drew (S := fun W => Below (w.heap.size + 1) (w.alloc (.cells (pcells p).toArray 35)) W) (by kernel_rfl) (hB3.drew) (fun hHeld => ?_)
      refine take_lit (i := 0) (v := ?_) rfl (by kernel_rfl) (by kernel_rfl) (by kernel_rfl) (fun _ _ _ h => h) (Or.inl ⟨by rfl, ?_⟩) (by assumption) ?_
      rotate_left
      · (intro w hSw; (try dsimp only at hSw); go_simp <;> with_reducible rfl)
      try simp only [Act.put, List.setIfInBounds_toArray, List.set_cons_zero, List.set_cons_succ]
      refine take_lit (i := 1) rfl (by kernel_rfl) (by kernel_rfl) (by kernel_rfl) (fun _ _ _ h => h) (yA pa (fun w h => (HW.out w h).1) (by rfl) rfl rfl) (by assumption) ?_
      try simp only [Act.put, List.setIfInBounds_toArray, List.set_cons_zero, List.set_cons_succ]
      refine take_lit (i := 4) (v := ?_) rfl (by kernel_rfl) (by kernel_rfl) (by kernel_rfl) (fun _ _ _ h => h) (Or.inl ⟨by rfl, ?_⟩) (by assumption) ?_
      rotate_left
      · (intro w hSw; (try dsimp only at hSw); go_simp <;> with_reducible rfl)
      try simp only [Act.put, List.setIfInBounds_toArray, List.set_cons_zero, List.set_cons_succ]
      refine take_lit (i := 5) (v := ?_) rfl (by kernel_rfl) (by kernel_rfl) (by kernel_rfl) (fun _ _ _ h => h) (Or.inl ⟨by rfl, ?_⟩) (by assumption) ?_
      rotate_left
      · (intro w hSw; (try dsimp only at hSw); have hcx := (HW.out _ hSw).2; go_simp <;> with_reducible rfl)
      try simp only [Act.put, List.setIfInBounds_toArray, List.set_cons_zero, List.set_cons_succ]
      refine take_lit (i := 6) (v := ?_) rfl (by kernel_rfl) (by kernel_rfl) (by kernel_rfl) (fun _ _ _ h => h) (Or.inl ⟨by rfl, ?_⟩) (by assumption) ?_
      rotate_left
      · (intro w hSw; (try dsimp only at hSw); go_simp <;> with_reducible rfl)
      try simp only [Act.put, List.setIfInBounds_toArray, List.set_cons_zero, List.set_cons_succ]
      refine wpAnyH_ready (rs := [2]) (by kernel_rfl) (by simp) ?_
      refine cons_lit rfl (fun K hK => ?_) ?_
      · go_simp
        refine (hPr _).mono ?_
        rintro e w3 ⟨rfl, hB4⟩
        refine hK.out _ _ ?_ (fun hHeld => ?_)
        · exact hHeld.trans (hB4.mono (Nat.le_trans (by simp) hHeld.size))
        clear hK K
        try simp only [Act.put, List.setIfInBounds_toArray, List.set_cons_zero, List.set_cons_succ]
        refine take_lit (i := 3) (v := ?_) rfl (by kernel_rfl) (by kernel_rfl) (by kernel_rfl) (fun _ _ _ h => h) (Or.inl ⟨by rfl, ?_⟩) (by assumption) ?_
        rotate_left
        · (intro w hSw; (try dsimp only at hSw); go_simp <;> with_reducible rfl)
        try simp only [Act.put, List.setIfInBounds_toArray, List.set_cons_zero, List.set_cons_succ]
        refine wpAnyH_ready (rs := [7]) (by kernel_rfl) (by simp) ?_
        refine cons_lit rfl (fun K hK => ?_) ?_
        · go_simp
          refine (hI _).mono ?_
          rintro e w4 ⟨rfl, rfl⟩
          refine hK.out _ _ ?_ (fun hHeld => ?_)
          · exact hHeld
          clear hK K
          try simp only [Act.put, List.setIfInBounds_toArray, List.set_cons_zero, List.set_cons_succ]
          refine take_lit (i := 8) (v := ?_) rfl (by kernel_rfl) (by kernel_rfl) (by kernel_rfl) (fun _ _ _ h => h) (Or.inl ⟨by rfl, ?_⟩) (by assumption) ?_
          rotate_left
          · (intro w hSw; (try dsimp only at hSw); go_simp <;> with_reducible rfl)
          try simp only [Act.put, List.setIfInBounds_toArray, List.set_cons_zero, List.set_cons_succ]
          refine take_lit (i := 9) (v := ?_) rfl (by kernel_rfl) (by kernel_rfl) (by kernel_rfl) (fun _ _ _ h => h) (Or.inl ⟨by rfl, ?_⟩) (by assumption) ?_
          rotate_left
          · (intro w hSw; (try dsimp only at hSw); go_simp <;> with_reducible rfl)
          try simp only [Act.put, List.setIfInBounds_toArray, List.set_cons_zero, List.set_cons_succ]
          refine wpAnyH_done (by kernel_rfl) ?_ _
          refine NoPanic.normal ?_
          go_wp2
          go_ret
          exact ⟨by rw [HX.out, ← str_app, ← str_app]; rfl, hB0.trans (hHeld.mono (by omega))⟩
        exact AllReadyH.nil
      exact AllReadyH.nil
    · rw [if_neg h4] at HX
      have h4' : (famP p == 4) = false := by simpa using h4
      obtain ⟨fp, hfp⟩ : ∃ fp, fp = famP p := ⟨_, rfl⟩
      rw [← hfp] at hF h4'
      clear h4 hfp
      have hlA := pgS_len p.a
      have hlI := itoa_128 p.n hn0 hn1
      obtain ⟨pa, hpa⟩ : ∃ pa, pa = p.a := ⟨_, rfl⟩
      obtain ⟨pn, hpn⟩ : ∃ pn, pn = p.n := ⟨_, rfl⟩
      have HW : Hid (∀ W, Below (w.heap.size + 1) (w.alloc (.cells (pcells p).toArray 35)) W → LA W w.heap.size 0 pa ∧ W.cell? ⟨w.heap.size, 16, none⟩ = some (.int .i64 pn)) := fun W hb => by
        have hP' := hA.below hb (Nat.lt_succ_self _)
        rw [hpa, hpn]
        exact ⟨by simpa using hP'.a, by simpa using hP'.n⟩
      rw [← hpa] at hlA HX
      rw [← hpn] at hlI HX hn0 hn1
      obtain ⟨kn, hkn⟩ : ∃ kn : Nat, pn = (kn : Int) := ⟨pn.toNat, by omega⟩
      have hI := rdigits kn (by omega)
      rw [← hkn] at hI
      clear hkn
      obtain ⟨nt, hnt⟩ : ∃ nt, nt = Lib.itoa pn := ⟨_, rfl⟩
      rw [← hnt] at hlI HX hI
      obtain ⟨at', hat⟩ : ∃ at', at' = pgS pa := ⟨_, rfl⟩
      have hPr := rsixes_any pa
      rw [← hat] at hlA HX hPr
      have hn1' : ¬ 9223372036854775807 < at'.length + 1 := by omega
      have hn2' : ¬ 9223372036854775807 < at'.length + 1 + nt.length := by omega
      clear hpa hpn hnt hat
      go_enter Tryz.func25, Tryz.ntmps25
      go_wp2_with (first
        | (refine ldP (.tmp 1) rfl rfl _ _ p rfl (hA.below hB1 (by simp)) ?_)
        | (refine ldP (.tmp 1) rfl rfl _ _ p rfl hA ?_)
        | (go_at_call 21; refine (hF _).mono ?_; rintro e w2 ⟨rfl, hB2⟩)
        | (go_at_call 19; refine (hC _).mono ?_; rintro e w1 ⟨rfl, hB1⟩))
      have hB3 : Below (w.heap.size + 1) (w.alloc (.cells (pcells p).toArray 35)) w2 := (bt hB1 hB2).mono (by simp)
      clear hC hF hB1 hB2
      refine wp_region_noPanic ?_
      refine wp_region_held_drew (S := fun W => Below (w.heap.size + 1) (w.alloc (.cells (pcells p).toArray 35)) W) (by kernel_rfl) (hB3.drew) (fun hHeld => ?_)
      refine take_lit (i := 0) (v := ?_) rfl (by kernel_rfl) (by kernel_rfl) (by kernel_rfl) (fun _ _ _ h => h) (Or.inl ⟨by rfl, ?_⟩) (by assumption) ?_
      rotate_left
      · (intro w hSw; (try dsimp only at hSw); go_simp <;> with_reducible rfl)
      try simp only [Act.put, List.setIfInBounds_toArray, List.set_cons_zero, List.set_cons_succ]
      refine take_lit (i := 1) rfl (by kernel_rfl) (by kernel_rfl) (by kernel_rfl) (fun _ _ _ h => h) (yA pa (fun w h => (HW.out w h).1) (by rfl) rfl rfl) (by assumption) ?_
      try simp only [Act.put, List.setIfInBounds_toArray, List.set_cons_zero, List.set_cons_succ]
      refine take_lit (i := 4) (v := ?_) rfl (by kernel_rfl) (by kernel_rfl) (by kernel_rfl) (fun _ _ _ h => h) (Or.inl ⟨by rfl, ?_⟩) (by assumption) ?_
      rotate_left
      · (intro w hSw; (try dsimp only at hSw); go_simp <;> with_reducible rfl)
      try simp only [Act.put, List.setIfInBounds_toArray, List.set_cons_zero, List.set_cons_succ]
      refine take_lit (i := 5) (v := ?_) rfl (by kernel_rfl) (by kernel_rfl) (by kernel_rfl) (fun _ _ _ h => h) (Or.inl ⟨by rfl, ?_⟩) (by assumption) ?_
      rotate_left
      · (intro w hSw; (try dsimp only at hSw); have hcx := (HW.out _ hSw).2; go_simp <;> with_reducible rfl)
      try simp only [Act.put, List.setIfInBounds_toArray, List.set_cons_zero, List.set_cons_succ]
      refine wpAnyH_ready (rs := [2]) (by kernel_rfl) (by simp) ?_
      refine cons_lit rfl (fun K hK => ?_) ?_
      · go_simp
        refine (hPr _).mono ?_
        rintro e w3 ⟨rfl, hB4⟩
        refine hK.out _ _ ?_ (fun hHeld => ?_)
        · exact hHeld.trans (hB4.mono (Nat.le_trans (by simp) hHeld.size))
        clear hK K
        try simp only [Act.put, List.setIfInBounds_toArray, List.set_cons_zero, List.set_cons_succ]
        refine take_lit (i := 3) (v := ?_) rfl (by kernel_rfl) (by kernel_rfl) (by kernel_rfl) (fun _ _ _ h => h) (Or.inl ⟨by rfl, ?_⟩) (by assumption) ?_
        rotate_left
        · (intro w hSw; (try dsimp only at hSw); go_simp <;> with_reducible rfl)
        try simp only [Act.put, List.setIfInBounds_toArray, List.set_cons_zero, List.set_cons_succ]
        refine wpAnyH_ready (rs := [6]) (by kernel_rfl) (by simp) ?_
        refine cons_lit rfl (fun K hK => ?_) ?_
        · go_simp
          refine (hI _).mono ?_
          rintro e w4 ⟨rfl, rfl⟩
          refine hK.out _ _ ?_ (fun hHeld => ?_)
          · exact hHeld
          clear hK K
          try simp only [Act.put, List.setIfInBounds_toArray, List.set_cons_zero, List.set_cons_succ]
          refine take_lit (i := 7) (v := ?_) rfl (by kernel_rfl) (by kernel_rfl) (by kernel_rfl) (fun _ _ _ h => h) (Or.inl ⟨by rfl, ?_⟩) (by assumption) ?_
          rotate_left
          · (intro w hSw; (try dsimp only at hSw); go_simp <;> with_reducible rfl)
          try simp only [Act.put, List.setIfInBounds_toArray, List.set_cons_zero, List.set_cons_succ]
          refine take_lit (i := 8) (v := ?_) rfl (by kernel_rfl) (by kernel_rfl) (by kernel_rfl) (fun _ _ _ h => h) (Or.inl ⟨by rfl, ?_⟩) (by assumption) ?_
          rotate_left
          · (intro w hSw; (try dsimp only at hSw); go_simp <;> with_reducible rfl)
          try simp only [Act.put, List.setIfInBounds_toArray, List.set_cons_zero, List.set_cons_succ]
          refine wpAnyH_done (by kernel_rfl) ?_ _
          refine NoPanic.normal ?_
          go_wp2
          go_ret
          exact ⟨by rw [HX.out, ← str_app, ← str_app]; rfl, hB0.trans (hHeld.mono (by omega))⟩
        exact AllReadyH.nil
      exact AllReadyH.nil
  · rw [if_pos hc0] at HX
    obtain ⟨c, hc⟩ : ∃ c, c = chk p := ⟨_, rfl⟩
    rw [← hc] at hC hc0
    have hc0' : (c == 0) = false := by simpa using hc0
    clear hc hc0
    go_enter Tryz.func25, Tryz.ntmps25
    go_wp2_with (first
      | (refine ldP (.tmp 1) rfl rfl _ _ p rfl hA ?_)
      | (go_at_call 19; refine (hC _).mono ?_; rintro e w1 ⟨rfl, hB1⟩))
    go_ret
    exact ⟨by rw [HX.out]; rfl, bt hB0 hB1⟩
end Go.Proofs.YtimpopolkofdgaaGreatDoor
