/-
  addr.Print and PrintPrefix: what they answer for every address and prefix.
-/
import Derived.Test.YtimpopolkofdgaaGreatDoorPPoints
namespace Go.Proofs.YtimpopolkofdgaaGreatDoor
open Go.RowKit Go.Shelf
set_option linter.unusedSimpArgs false
set_option maxRecDepth 20000
/-- An address as a text. -/
def prtA (a : Ad) : List UInt8 := if famA a = 4 then ppS a else pgS a
theorem ppS_len (a : Ad) : (ppS a).length ≤ 50 := by
  unfold ppS
  have := join_len 3 46 (ppW (a.l.drop 12)) (fun y hy => by
    unfold ppW at hy
    obtain ⟨c, _, rfl⟩ := List.mem_map.1 hy
    exact itoa_small c)
  have h2 : (ppW (a.l.drop 12)).length = 4 := by unfold ppW; rw [List.length_map, List.length_drop, a.len]
  omega
theorem pgS_len (a : Ad) : (pgS a).length ≤ 100 := by
  unfold pgS
  have h1 := joinG_len a.l (by rw [a.len]; omega)
  have h2 := joinG_len (a.l.take (lzF a.l 8).1) (by rw [List.length_take, a.len]; omega)
  have h3 := joinG_len (a.l.drop (lzF a.l 8).2) (by rw [List.length_drop, a.len]; omega)
  split
  · omega
  · simp only [List.length_append, List.length_cons, List.length_nil]; omega
theorem prtA_len (a : Ad) : (prtA a).length ≤ 100 := by
  unfold prtA
  split
  · have := ppS_len a; omega
  · exact pgS_len a
theorem print_any (a : Ad) (w : World) (hG : Glob w) (hT : Tz w) (hs8 : 8 ≤ w.heap.size) : Calls Tryz.prog 12 #[(Value.agg (acells a).toArray)] w (Gives w (.string (str (prtA a)))) := by
  have hA := LA.new w a 23
  have hB0 := ba w (.cells (acells a).toArray 23)
  have hF := fam_any a
  have HX : Hid (prtA a = if famA a = 4 then ppS a else pgS a) := rfl
  obtain ⟨f, hf⟩ : ∃ f, f = famA a := ⟨_, rfl⟩
  rw [← hf] at hF HX
  clear hf
  by_cases h4 : f = 4
  · rw [if_pos h4] at HX
    have h4' : (f == 4) = true := by simpa using h4
    clear h4
    go_enter Tryz.func12, Tryz.ntmps12
    go_wp2_with (first
      | (refine ldA (.tmp 1) rfl rfl _ _ a rfl (hA.below hB1 (by simp)) ?_)
      | (refine ldA (.tmp 1) rfl rfl _ _ a rfl hA ?_)
      | (go_at_call 54; have z1 := hB1.size; simp at z1; refine (pp_any a _ (hG.keep (hB0.trans (hB1.mono (by simp))) hs8) (by omega)).mono ?_; rintro e w2 ⟨rfl, hB2⟩)
      | (go_at_call 10; refine (hF _).mono ?_; rintro e w1 ⟨rfl, hB1⟩))
    go_ret
    exact ⟨by rw [HX.out]; rfl, bt (bt hB0 hB1) hB2⟩
  · rw [if_neg h4] at HX
    have h4' : (f == 4) = false := by simpa using h4
    clear h4
    go_enter Tryz.func12, Tryz.ntmps12
    go_wp2_with (first
      | (refine ldA (.tmp 1) rfl rfl _ _ a rfl (hA.below hB1 (by simp)) ?_)
      | (refine ldA (.tmp 1) rfl rfl _ _ a rfl hA ?_)
      | (go_at_call 55; have z1 := hB1.size; simp at z1; refine (pg_any a _ (hT.keep (hB0.trans (hB1.mono (by simp))) hs8) (by omega)).mono ?_; rintro e w2 ⟨rfl, hB2⟩)
      | (go_at_call 10; refine (hF _).mono ?_; rintro e w1 ⟨rfl, hB1⟩))
    go_ret
    exact ⟨by rw [HX.out]; rfl, bt (bt hB0 hB1) hB2⟩
/-- A prefix as a text. -/
def prtP (p : Pf) : List UInt8 := if chk p ≠ 0 then [] else if famP p = 4 then prtA p.a ++ [47] ++ Lib.itoa (p.n - 96) else pgS p.a ++ [47] ++ Lib.itoa p.n
theorem itoa_128 (n : Int) (h0 : 0 ≤ n) (h1 : n ≤ 128) : (Lib.itoa n).length ≤ 3 := by
  have h : ((List.range 129).all fun b => decide ((Lib.itoa (b : Int)).length ≤ 3)) = true := by kernel_rfl
  have := List.all_eq_true.1 h n.toNat (List.mem_range.2 (by omega))
  rw [show ((n.toNat : Nat) : Int) = n by omega] at this
  simpa using this
theorem chk_range {p : Pf} (h : chk p = 0) : 0 ≤ p.n ∧ p.n ≤ 128 := by
  unfold chk at h
  split at h
  · rename_i hh; exact ⟨hh.1, hh.2.1⟩
  · cases h
theorem famP_range {p : Pf} (h : famP p = 4) : 96 ≤ p.n := by
  unfold famP at h
  split at h
  · rename_i hh; exact hh.1
  · cases h
set_option maxHeartbeats 4000000 in
theorem printP_any (p : Pf) (w : World) (hG : Glob w) (hT : Tz w) (hs8 : 8 ≤ w.heap.size) : Calls Tryz.prog 24 #[(Value.agg (pcells p).toArray)] w (Gives w (.string (str (prtP p)))) := by
  have hA := LP.new w p 35
  have hB0 := ba w (.cells (pcells p).toArray 35)
  have hC := check_any p
  have hF := pfam_any p
  have HX : Hid (prtP p = if chk p ≠ 0 then [] else if famP p = 4 then prtA p.a ++ [47] ++ Lib.itoa (p.n - 96) else pgS p.a ++ [47] ++ Lib.itoa p.n) := rfl
  by_cases hc0 : chk p = 0
  · rw [if_neg (by simpa using hc0)] at HX
    rw [hc0] at hC
    obtain ⟨hn0, hn1⟩ := chk_range hc0
    clear hc0
    by_cases h4 : famP p = 4
    · rw [if_pos h4] at HX
      have hn2 := famP_range h4
      rw [h4] at hF
      clear h4
      have hlA := prtA_len p.a
      have hlI := itoa_128 (p.n - 96) (by omega) (by omega)
      obtain ⟨pa, hpa⟩ : ∃ pa, pa = p.a := ⟨_, rfl⟩
      obtain ⟨pn, hpn⟩ : ∃ pn, pn = p.n := ⟨_, rfl⟩
      have HW : Hid (∀ W, Below (w.heap.size + 1) (w.alloc (.cells (pcells p).toArray 35)) W → Glob W ∧ Tz W ∧ 8 ≤ W.heap.size ∧ LA W w.heap.size 0 pa ∧ W.cell? ⟨w.heap.size, 16, none⟩ = some (.int .i64 pn)) := fun W hb => by
        have hz := hb.size
        simp at hz
        have hP' := hA.below hb (Nat.lt_succ_self _)
        have hb' := hB0.trans (hb.mono (by omega))
        rw [hpa, hpn]
        exact ⟨hG.keep hb' hs8, hT.keep hb' hs8, by omega, by simpa using hP'.a, by simpa using hP'.n⟩
      rw [← hpa] at hlA HX
      rw [← hpn] at hlI HX hn0 hn1 hn2
      have hw96 : IntKind.i64.wrap (pn - 96) = pn - 96 := by rw [IntKind.wrap_i64]; omega
      have hI := fun W hG' => itoa_any (pn - 96) (by omega) (by omega) W hG'
      obtain ⟨nt, hnt⟩ : ∃ nt, nt = Lib.itoa (pn - 96) := ⟨_, rfl⟩
      rw [← hnt] at hlI HX hI
      rw [← hw96] at hI
      clear hw96
      obtain ⟨at', hat⟩ : ∃ at', at' = prtA pa := ⟨_, rfl⟩
      have hPr := fun W hG' hT' h8 => print_any pa W hG' hT' h8
      rw [← hat] at hlA HX hPr
      have hn1' : ¬ 9223372036854775807 < at'.length + 1 := by omega
      have hn2' : ¬ 9223372036854775807 < at'.length + 1 + nt.length := by omega
      clear hpa hpn hnt hat
      go_enter Tryz.func24, Tryz.ntmps24
      go_wp2_with (first
        | (refine ldP (.tmp 1) rfl rfl _ _ p rfl (hA.below hB1 (by simp)) ?_)
        | (refine ldP (.tmp 1) rfl rfl _ _ p rfl hA ?_)
        | (go_at_call 20; refine (hF _).mono ?_; rintro e w2 ⟨rfl, hB2⟩)
        | (go_at_call 18; refine (hC _).mono ?_; rintro e w1 ⟨rfl, hB1⟩))
      have hB3 : Below (w.heap.size + 1) (w.alloc (.cells (pcells p).toArray 35)) w2 := (bt hB1 hB2).mono (by simp)
      clear hC hF hB1 hB2
      refine wp_region_noPanic ?_
      refine wp_region_held_drew (S := fun W => Below (w.heap.size + 1) (w.alloc (.cells (pcells p).toArray 35)) W) (by kernel_rfl) (hB3.drew) (fun hHeld => ?_)
      refine take_lit (i := 0) (v := ?_) rfl (by kernel_rfl) (by kernel_rfl) (by kernel_rfl) (fun _ _ _ h => h) (Or.inl ⟨by rfl, ?_⟩) (by assumption) ?_
      rotate_left
      · (intro w hSw; (try dsimp only at hSw); go_simp <;> with_reducible rfl)
      try simp only [Act.put, List.setIfInBounds_toArray, List.set_cons_zero, List.set_cons_succ]
      refine take_lit (i := 1) rfl (by kernel_rfl) (by kernel_rfl) (by kernel_rfl) (fun _ _ _ h => h) (yA pa (fun w h => (HW.out w h).2.2.2.1) (by rfl) rfl rfl) (by assumption) ?_
      try simp only [Act.put, List.setIfInBounds_toArray, List.set_cons_zero, List.set_cons_succ]
      refine take_lit (i := 4) (v := ?_) rfl (by kernel_rfl) (by kernel_rfl) (by kernel_rfl) (fun _ _ _ h => h) (Or.inl ⟨by rfl, ?_⟩) (by assumption) ?_
      rotate_left
      · (intro w hSw; (try dsimp only at hSw); go_simp <;> with_reducible rfl)
      try simp only [Act.put, List.setIfInBounds_toArray, List.set_cons_zero, List.set_cons_succ]
      refine take_lit (i := 5) (v := ?_) rfl (by kernel_rfl) (by kernel_rfl) (by kernel_rfl) (fun _ _ _ h => h) (Or.inl ⟨by rfl, ?_⟩) (by assumption) ?_
      rotate_left
      · (intro w hSw; (try dsimp only at hSw); have hcx := (HW.out _ hSw).2.2.2.2; go_simp <;> with_reducible rfl)
      try simp only [Act.put, List.setIfInBounds_toArray, List.set_cons_zero, List.set_cons_succ]
      refine take_lit (i := 6) (v := ?_) rfl (by kernel_rfl) (by kernel_rfl) (by kernel_rfl) (fun _ _ _ h => h) (Or.inl ⟨by rfl, ?_⟩) (by assumption) ?_
      rotate_left
      · (intro w hSw; (try dsimp only at hSw); go_simp <;> with_reducible rfl)
      try simp only [Act.put, List.setIfInBounds_toArray, List.set_cons_zero, List.set_cons_succ]
      refine wpAnyH_ready (rs := [2]) (by kernel_rfl) (by simp) ?_
      refine cons_lit rfl (fun K hK => ?_) ?_
      · go_simp
        have hh := HW.out _ hHeld
        refine (hPr _ hh.1 hh.2.1 hh.2.2.1).mono ?_
        rintro e w3 ⟨rfl, hB4⟩
        refine hK.out _ _ ?_ (fun hHeld => ?_)
        · exact hHeld.trans (hB4.mono (Nat.le_trans (by simp) hHeld.size))
        clear hK K
        try simp only [Act.put, List.setIfInBounds_toArray, List.set_cons_zero, List.set_cons_succ]
        refine take_lit (i := 3) (v := ?_) rfl (by kernel_rfl) (by kernel_rfl) (by kernel_rfl) (fun _ _ _ h => h) (Or.inl ⟨by rfl, ?_⟩) (by assumption) ?_
        rotate_left
        · (intro w hSw; (try dsimp only at hSw); go_simp <;> with_reducible rfl)
        try simp only [Act.put, List.setIfInBounds_toArray, List.set_cons_zero, List.set_cons_succ]
        refine wpAnyH_ready (rs := [7]) (by kernel_rfl) (by simp) ?_
        refine cons_lit rfl (fun K hK => ?_) ?_
        · go_simp
          have hh := HW.out _ hHeld
          refine (hI _ hh.1).mono ?_
          rintro e w4 ⟨rfl, hB5⟩
          refine hK.out _ _ ?_ (fun hHeld => ?_)
          · exact hHeld.trans (hB5.mono (Nat.le_trans (by simp) hHeld.size))
          clear hK K
          try simp only [Act.put, List.setIfInBounds_toArray, List.set_cons_zero, List.set_cons_succ]
          refine take_lit (i := 8) (v := ?_) rfl (by kernel_rfl) (by kernel_rfl) (by kernel_rfl) (fun _ _ _ h => h) (Or.inl ⟨by rfl, ?_⟩) (by assumption) ?_
          rotate_left
          · (intro w hSw; (try dsimp only at hSw); go_simp <;> with_reducible rfl)
          try simp only [Act.put, List.setIfInBounds_toArray, List.set_cons_zero, List.set_cons_succ]
          refine take_lit (i := 9) (v := ?_) rfl (by kernel_rfl) (by kernel_rfl) (by kernel_rfl) (fun _ _ _ h => h) (Or.inl ⟨by rfl, ?_⟩) (by assumption) ?_
          rotate_left
          · (intro w hSw; (try dsimp only at hSw); go_simp <;> with_reducible rfl)
          try simp only [Act.put, List.setIfInBounds_toArray, List.set_cons_zero, List.set_cons_succ]
          refine wpAnyH_done (by kernel_rfl) ?_ _
          refine NoPanic.normal ?_
          go_wp2
          go_ret
          exact ⟨by rw [HX.out, ← str_app, ← str_app]; rfl, hB0.trans (hHeld.mono (by omega))⟩
        exact AllReadyH.nil
      exact AllReadyH.nil
    · rw [if_neg h4] at HX
      have h4' : (famP p == 4) = false := by simpa using h4
      obtain ⟨fp, hfp⟩ : ∃ fp, fp = famP p := ⟨_, rfl⟩
      rw [← hfp] at hF h4'
      clear h4 hfp
      have hlA := pgS_len p.a
      have hlI := itoa_128 p.n hn0 hn1
      obtain ⟨pa, hpa⟩ : ∃ pa, pa = p.a := ⟨_, rfl⟩
      obtain ⟨pn, hpn⟩ : ∃ pn, pn = p.n := ⟨_, rfl⟩
      have HW : Hid (∀ W, Below (w.heap.size + 1) (w.alloc (.cells (pcells p).toArray 35)) W → Glob W ∧ Tz W ∧ 8 ≤ W.heap.size ∧ LA W w.heap.size 0 pa ∧ W.cell? ⟨w.heap.size, 16, none⟩ = some (.int .i64 pn)) := fun W hb => by
        have hz := hb.size
        simp at hz
        have hP' := hA.below hb (Nat.lt_succ_self _)
        have hb' := hB0.trans (hb.mono (by omega))
        rw [hpa, hpn]
        exact ⟨hG.keep hb' hs8, hT.keep hb' hs8, by omega, by simpa using hP'.a, by simpa using hP'.n⟩
      rw [← hpa] at hlA HX
      rw [← hpn] at hlI HX hn0 hn1
      have hI := fun W hG' => itoa_any pn (by omega) (by omega) W hG'
      obtain ⟨nt, hnt⟩ : ∃ nt, nt = Lib.itoa pn := ⟨_, rfl⟩
      rw [← hnt] at hlI HX hI
      obtain ⟨at', hat⟩ : ∃ at', at' = pgS pa := ⟨_, rfl⟩
      have hPr := fun W hT' h8 => pg_any pa W hT' h8
      rw [← hat] at hlA HX hPr
      have hn1' : ¬ 9223372036854775807 < at'.length + 1 := by omega
      have hn2' : ¬ 9223372036854775807 < at'.length + 1 + nt.length := by omega
      clear hpa hpn hnt hat
      go_enter Tryz.func24, Tryz.ntmps24
      go_wp2_with (first
        | (refine ldP (.tmp 1) rfl rfl _ _ p rfl (hA.below hB1 (by simp)) ?_)
        | (refine ldP (.tmp 1) rfl rfl _ _ p rfl hA ?_)
        | (go_at_call 20; refine (hF _).mono ?_; rintro e w2 ⟨rfl, hB2⟩)
        | (go_at_call 18; refine (hC _).mono ?_; rintro e w1 ⟨rfl, hB1⟩))
      have hB3 : Below (w.heap.size + 1) (w.alloc (.cells (pcells p).toArray 35)) w2 := (bt hB1 hB2).mono (by simp)
      clear hC hF hB1 hB2
      refine wp_region_noPanic ?_
      refine wp_region_held_drew (S := fun W => Below (w.heap.size + 1) (w.alloc (.cells (pcells p).toArray 35)) W) (by kernel_rfl) (hB3.drew) (fun hHeld => ?_)
      refine take_lit (i := 0) (v := ?_) rfl (by kernel_rfl) (by kernel_rfl) (by kernel_rfl) (fun _ _ _ h => h) (Or.inl ⟨by rfl, ?_⟩) (by assumption) ?_
      rotate_left
      · (intro w hSw; (try dsimp only at hSw); go_simp <;> with_reducible rfl)
      try simp only [Act.put, List.setIfInBounds_toArray, List.set_cons_zero, List.set_cons_succ]
      refine take_lit (i := 1) rfl (by kernel_rfl) (by kernel_rfl) (by kernel_rfl) (fun _ _ _ h => h) (yA pa (fun w h => (HW.out w h).2.2.2.1) (by rfl) rfl rfl) (by assumption) ?_
      try simp only [Act.put, List.setIfInBounds_toArray, List.set_cons_zero, List.set_cons_succ]
      refine take_lit (i := 4) (v := ?_) rfl (by kernel_rfl) (by kernel_rfl) (by kernel_rfl) (fun _ _ _ h => h) (Or.inl ⟨by rfl, ?_⟩) (by assumption) ?_
      rotate_left
      · (intro w hSw; (try dsimp only at hSw); go_simp <;> with_reducible rfl)
      try simp only [Act.put, List.setIfInBounds_toArray, List.set_cons_zero, List.set_cons_succ]
      refine take_lit (i := 5) (v := ?_) rfl (by kernel_rfl) (by kernel_rfl) (by kernel_rfl) (fun _ _ _ h => h) (Or.inl ⟨by rfl, ?_⟩) (by assumption) ?_
      rotate_left
      · (intro w hSw; (try dsimp only at hSw); have hcx := (HW.out _ hSw).2.2.2.2; go_simp <;> with_reducible rfl)
      try simp only [Act.put, List.setIfInBounds_toArray, List.set_cons_zero, List.set_cons_succ]
      refine wpAnyH_ready (rs := [2]) (by kernel_rfl) (by simp) ?_
      refine cons_lit rfl (fun K hK => ?_) ?_
      · go_simp
        have hh := HW.out _ hHeld
        refine (hPr _ hh.2.1 hh.2.2.1).mono ?_
        rintro e w3 ⟨rfl, hB4⟩
        refine hK.out _ _ ?_ (fun hHeld => ?_)
        · exact hHeld.trans (hB4.mono (Nat.le_trans (by simp) hHeld.size))
        clear hK K
        try simp only [Act.put, List.setIfInBounds_toArray, List.set_cons_zero, List.set_cons_succ]
        refine take_lit (i := 3) (v := ?_) rfl (by kernel_rfl) (by kernel_rfl) (by kernel_rfl) (fun _ _ _ h => h) (Or.inl ⟨by rfl, ?_⟩) (by assumption) ?_
        rotate_left
        · (intro w hSw; (try dsimp only at hSw); go_simp <;> with_reducible rfl)
        try simp only [Act.put, List.setIfInBounds_toArray, List.set_cons_zero, List.set_cons_succ]
        refine wpAnyH_ready (rs := [6]) (by kernel_rfl) (by simp) ?_
        refine cons_lit rfl (fun K hK => ?_) ?_
        · go_simp
          have hh := HW.out _ hHeld
          refine (hI _ hh.1).mono ?_
          rintro e w4 ⟨rfl, hB5⟩
          refine hK.out _ _ ?_ (fun hHeld => ?_)
          · exact hHeld.trans (hB5.mono (Nat.le_trans (by simp) hHeld.size))
          clear hK K
          try simp only [Act.put, List.setIfInBounds_toArray, List.set_cons_zero, List.set_cons_succ]
          refine take_lit (i := 7) (v := ?_) rfl (by kernel_rfl) (by kernel_rfl) (by kernel_rfl) (fun _ _ _ h => h) (Or.inl ⟨by rfl, ?_⟩) (by assumption) ?_
          rotate_left
          · (intro w hSw; (try dsimp only at hSw); go_simp <;> with_reducible rfl)
          try simp only [Act.put, List.setIfInBounds_toArray, List.set_cons_zero, List.set_cons_succ]
          refine take_lit (i := 8) (v := ?_) rfl (by kernel_rfl) (by kernel_rfl) (by kernel_rfl) (fun _ _ _ h => h) (Or.inl ⟨by rfl, ?_⟩) (by assumption) ?_
          rotate_left
          · (intro w hSw; (try dsimp only at hSw); go_simp <;> with_reducible rfl)
          try simp only [Act.put, List.setIfInBounds_toArray, List.set_cons_zero, List.set_cons_succ]
          refine wpAnyH_done (by kernel_rfl) ?_ _
          refine NoPanic.normal ?_
          go_wp2
          go_ret
          exact ⟨by rw [HX.out, ← str_app, ← str_app]; rfl, hB0.trans (hHeld.mono (by omega))⟩
        exact AllReadyH.nil
      exact AllReadyH.nil
  · rw [if_pos hc0] at HX
    obtain ⟨c, hc⟩ : ∃ c, c = chk p := ⟨_, rfl⟩
    rw [← hc] at hC hc0
    have hc0' : (c == 0) = false := by simpa using hc0
    clear hc hc0
    go_enter Tryz.func24, Tryz.ntmps24
    go_wp2_with (first
      | (refine ldP (.tmp 1) rfl rfl _ _ p rfl hA ?_)
      | (go_at_call 18; refine (hC _).mono ?_; rintro e w1 ⟨rfl, hB1⟩))
    go_ret
    exact ⟨by rw [HX.out]; rfl, bt hB0 hB1⟩
end Go.Proofs.YtimpopolkofdgaaGreatDoor
