/-
  addr.PrintPair: what it answers for every pair.
-/
import Derived.Test.YtimpopolkofdgaaGreatDoorPrint
namespace Go.Proofs.YtimpopolkofdgaaGreatDoor
open Go.RowKit Go.Shelf
set_option linter.unusedSimpArgs false
set_option maxRecDepth 20000
/-- A pair as a text. -/
def prtQ (q : Pr) : List UInt8 := if chkQ q ≠ 0 then [] else if spec q = true then prtP q.d ++ [32] ++ [102, 114, 111, 109] ++ [32] ++ prtP q.s else prtP q.d
theorem prtP_len (p : Pf) : (prtP p).length ≤ 104 := by
  unfold prtP
  split
  · simp
  · rename_i h
    have hr := chk_range (p := p) (by simpa using h)
    split
    · rename_i h4
      have h4' := famP_range h4
      have h1 := prtA_len p.a
      have h2 := itoa_128 (p.n - 96) (by omega) (by omega)
      simp only [List.length_append, List.length_cons, List.length_nil]; omega
    · have h1 := pgS_len p.a
      have h2 := itoa_128 p.n hr.1 hr.2
      simp only [List.length_append, List.length_cons, List.length_nil]; omega
set_option maxHeartbeats 4000000 in
theorem printQ_any (p : Pr) (w : World) (hG : Glob w) (hT : Tz w) (hs8 : 8 ≤ w.heap.size) : Calls Tryz.prog 46 #[(Value.agg (qcells p).toArray)] w (Gives w (.string (str (prtQ p)))) := by
  have hA := LQ.new w p 53
  have hB0 := ba w (.cells (qcells p).toArray 53)
  have hC := checkQ_any p
  have hS := specific_any p
  have HX : Hid (prtQ p = if chkQ p ≠ 0 then [] else if spec p = true then prtP p.d ++ [32] ++ [102, 114, 111, 109] ++ [32] ++ prtP p.s else prtP p.d) := rfl
  have HW : Hid (∀ W, Below (w.heap.size + 1) (w.alloc (.cells (qcells p).toArray 53)) W → Glob W ∧ Tz W ∧ 8 ≤ W.heap.size ∧ LQ W w.heap.size 0 p) := fun W hb => by
    have hz := hb.size
    simp at hz
    have hb' := hB0.trans (hb.mono (by omega))
    exact ⟨hG.keep hb' hs8, hT.keep hb' hs8, by omega, hA.below hb (Nat.lt_succ_self _)⟩
  rcases chkQ_or p with hc0 | hc0
  · rw [if_neg (by simpa using hc0)] at HX
    rw [hc0] at hC
    clear hc0
    cases hs : spec p with
    | false =>
      rw [hs] at HX hS
      have HX' : Hid (prtQ p = prtP p.d) := HX.out
      clear HX hs
      have hP := fun W h1 h2 h3 => printP_any p.d W h1 h2 h3
      generalize prtP p.d = x at hP HX'
      go_enter Tryz.func46, Tryz.ntmps46
      go_wp2_with (first
        | (refine ldQ (.tmp 1) rfl rfl _ _ p rfl (hA.below hB1 (by simp)) ?_)
        | (refine ldQ (.tmp 1) rfl rfl _ _ p rfl hA ?_)
        | (refine ldP (.tmp 9) rfl rfl _ _ p.d rfl (HW.out _ ((bt hB1 hB2).mono (by simp))).2.2.2.d ?_)
        | (go_at_call 24; have hh := HW.out _ ((bt hB1 hB2).mono (by simp)); refine (hP _ hh.1 hh.2.1 hh.2.2.1).mono ?_; rintro e w3 ⟨rfl, hB3⟩)
        | (go_at_call 40; refine (hS _).mono ?_; rintro e w2 ⟨rfl, hB2⟩)
        | (go_at_call 38; refine (hC _).mono ?_; rintro e w1 ⟨rfl, hB1⟩))
      go_ret
      exact ⟨by rw [HX'.out]; rfl, bt (bt (bt hB0 hB1) hB2) hB3⟩
    | true =>
      rw [hs] at HX hS
      have HX' : Hid (prtQ p = prtP p.d ++ [32] ++ [102, 114, 111, 109] ++ [32] ++ prtP p.s) := HX.out
      clear HX hs
      have hP := fun W h1 h2 h3 => printP_any p.d W h1 h2 h3
      have hQ := fun W h1 h2 h3 => printP_any p.s W h1 h2 h3
      have l1 := prtP_len p.d
      have l2 := prtP_len p.s
      obtain ⟨x, hx⟩ : ∃ x, x = prtP p.d := ⟨_, rfl⟩
      obtain ⟨y, hy⟩ : ∃ x, x = prtP p.s := ⟨_, rfl⟩
      rw [← hx] at hP HX' l1
      rw [← hy] at hQ HX' l2
      have n1 : ¬ 9223372036854775807 < x.length + 1 := by omega
      have n2 : ¬ 9223372036854775807 < x.length + 1 + 4 := by omega
      have n3 : ¬ 9223372036854775807 < x.length + 1 + 4 + 1 := by omega
      have n4 : ¬ 9223372036854775807 < x.length + 1 + 4 + 1 + y.length := by omega
      clear hx hy
      go_enter Tryz.func46, Tryz.ntmps46
      go_wp2_with (first
        | (refine ldQ (.tmp 1) rfl rfl _ _ p rfl (hA.below hB1 (by simp)) ?_)
        | (refine ldQ (.tmp 1) rfl rfl _ _ p rfl hA ?_)
        | (go_at_call 40; refine (hS _).mono ?_; rintro e w2 ⟨rfl, hB2⟩)
        | (go_at_call 38; refine (hC _).mono ?_; rintro e w1 ⟨rfl, hB1⟩))
      have hB3 : Below (w.heap.size + 1) (w.alloc (.cells (qcells p).toArray 53)) w2 := (bt hB1 hB2).mono (by simp)
      clear hC hS hB1 hB2
      refine wp_region_noPanic ?_
      refine wp_region_held_drew (S := fun W => Below (w.heap.size + 1) (w.alloc (.cells (qcells p).toArray 53)) W) (by kernel_rfl) (hB3.drew) (fun hHeld => ?_)
      refine take_lit (i := 0) (v := ?_) rfl (by kernel_rfl) (by kernel_rfl) (by kernel_rfl) (fun _ _ _ h => h) (Or.inl ⟨by rfl, ?_⟩) (by assumption) ?_
      rotate_left
      · (intro w hSw; (try dsimp only at hSw); go_simp <;> with_reducible rfl)
      try simp only [Act.put, List.setIfInBounds_toArray, List.set_cons_zero, List.set_cons_succ]
      refine take_lit (i := 1) rfl (by kernel_rfl) (by kernel_rfl) (by kernel_rfl) (fun _ _ _ h => h) (yP p.d (fun w h => (HW.out w h).2.2.2.d) (by rfl) rfl rfl) (by assumption) ?_
      try simp only [Act.put, List.setIfInBounds_toArray, List.set_cons_zero, List.set_cons_succ]
      refine take_lit (i := 6) (v := ?_) rfl (by kernel_rfl) (by kernel_rfl) (by kernel_rfl) (fun _ _ _ h => h) (Or.inl ⟨by rfl, ?_⟩) (by assumption) ?_
      rotate_left
      · (intro w hSw; (try dsimp only at hSw); go_simp <;> with_reducible rfl)
      try simp only [Act.put, List.setIfInBounds_toArray, List.set_cons_zero, List.set_cons_succ]
      refine take_lit (i := 7) rfl (by kernel_rfl) (by kernel_rfl) (by kernel_rfl) (fun _ _ _ h => h) (yP p.s (fun w h => (HW.out w h).2.2.2.s) (by rfl) rfl rfl) (by assumption) ?_
      try simp only [Act.put, List.setIfInBounds_toArray, List.set_cons_zero, List.set_cons_succ]
      refine wpAnyH_ready (rs := [2]) (by kernel_rfl) (by simp) ?_
      refine cons_lit rfl (fun K hK => ?_) ?_
      · go_simp
        have hh := HW.out _ hHeld
        refine (hP _ hh.1 hh.2.1 hh.2.2.1).mono ?_
        rintro e w3 ⟨rfl, hB4⟩
        refine hK.out _ _ ?_ (fun hHeld => ?_)
        · exact hHeld.trans (hB4.mono (Nat.le_trans (by simp) hHeld.size))
        clear hK K
        try simp only [Act.put, List.setIfInBounds_toArray, List.set_cons_zero, List.set_cons_succ]
        refine take_lit (i := 3) (v := ?_) rfl (by kernel_rfl) (by kernel_rfl) (by kernel_rfl) (fun _ _ _ h => h) (Or.inl ⟨by rfl, ?_⟩) (by assumption) ?_
        rotate_left
        · (intro w hSw; (try dsimp only at hSw); go_simp <;> with_reducible rfl)
        try simp only [Act.put, List.setIfInBounds_toArray, List.set_cons_zero, List.set_cons_succ]
        refine take_lit (i := 4) (v := ?_) rfl (by kernel_rfl) (by kernel_rfl) (by kernel_rfl) (fun _ _ _ h => h) (Or.inl ⟨by rfl, ?_⟩) (by assumption) ?_
        rotate_left
        · (intro w hSw; (try dsimp only at hSw); go_simp <;> with_reducible rfl)
        try simp only [Act.put, List.setIfInBounds_toArray, List.set_cons_zero, List.set_cons_succ]
        refine take_lit (i := 5) (v := ?_) rfl (by kernel_rfl) (by kernel_rfl) (by kernel_rfl) (fun _ _ _ h => h) (Or.inl ⟨by rfl, ?_⟩) (by assumption) ?_
        rotate_left
        · (intro w hSw; (try dsimp only at hSw); go_simp <;> with_reducible rfl)
        try simp only [Act.put, List.setIfInBounds_toArray, List.set_cons_zero, List.set_cons_succ]
        refine wpAnyH_ready (rs := [8]) (by kernel_rfl) (by simp) ?_
        refine cons_lit rfl (fun K hK => ?_) ?_
        · go_simp
          have hh := HW.out _ hHeld
          refine (hQ _ hh.1 hh.2.1 hh.2.2.1).mono ?_
          rintro e w4 ⟨rfl, hB5⟩
          refine hK.out _ _ ?_ (fun hHeld => ?_)
          · exact hHeld.trans (hB5.mono (Nat.le_trans (by simp) hHeld.size))
          clear hK K
          try simp only [Act.put, List.setIfInBounds_toArray, List.set_cons_zero, List.set_cons_succ]
          refine take_lit (i := 9) (v := ?_) rfl (by kernel_rfl) (by kernel_rfl) (by kernel_rfl) (fun _ _ _ h => h) (Or.inl ⟨by rfl, ?_⟩) (by assumption) ?_
          rotate_left
          · (intro w hSw; (try dsimp only at hSw); go_simp <;> with_reducible rfl)
          try simp only [Act.put, List.setIfInBounds_toArray, List.set_cons_zero, List.set_cons_succ]
          refine take_lit (i := 10) (v := ?_) rfl (by kernel_rfl) (by kernel_rfl) (by kernel_rfl) (fun _ _ _ h => h) (Or.inl ⟨by rfl, ?_⟩) (by assumption) ?_
          rotate_left
          · (intro w hSw; (try dsimp only at hSw); go_simp <;> with_reducible rfl)
          try simp only [Act.put, List.setIfInBounds_toArray, List.set_cons_zero, List.set_cons_succ]
          refine wpAnyH_done (by kernel_rfl) ?_ _
          refine NoPanic.normal ?_
          go_wp2
          go_ret
          exact ⟨by rw [HX'.out]; rfl, hB0.trans (hHeld.mono (by omega))⟩
        exact AllReadyH.nil
      exact AllReadyH.nil
  · rw [if_pos (by rw [hc0]; decide)] at HX
    rw [hc0] at hC
    clear hc0
    go_enter Tryz.func46, Tryz.ntmps46
    go_wp2_with (first
      | (refine ldQ (.tmp 1) rfl rfl _ _ p rfl hA ?_)
      | (go_at_call 38; refine (hC _).mono ?_; rintro e w1 ⟨rfl, hB1⟩))
    go_ret
    exact ⟨by rw [HX.out]; rfl, bt hB0 hB1⟩
end Go.Proofs.YtimpopolkofdgaaGreatDoor
