/-
  Covers and CheckPair of package addr, for every input.
-/
import Derived.Test.YtadnnjngflphjaaFam
namespace Go.Proofs.Ytadnnjngflphjaa.Fa
open Go.RowKit
set_option linter.unusedSimpArgs false
set_option maxRecDepth 20000

/-- The first of two numbers that is not 0. -/
def orI (x y : Int) : Int := if x = 0 then y else x
theorem orErr (x y : Int) (t : TypeId) (w : World) : Calls Try.prog 45 #[.slice (some ⟨w.heap.size, 0, none⟩) 2 2] (w.alloc (.cells #[.int .i64 x, .int .i64 y] t)) fun e w' => e = .returned (.int .i64 (orI x y)) ∧ w' = w.alloc (.cells #[.int .i64 x, .int .i64 y] t) := by
  have hR := Row.new w t [.int .i64 x, .int .i64 y]
  have c0 := hR.cell 0
  have c1 := hR.cell 1
  simp only [List.getElem?_cons_zero, List.getElem?_cons_succ] at c0 c1
  have HE : Hid (orI x y = if x = 0 then y else x) := rfl
  refine name_world (R := fun W => Calls _ _ _ W fun e w' => e = _ ∧ w' = W) (P := fun W => W.cell? ⟨w.heap.size, 0, none⟩ = some (.int .i64 x) ∧ W.cell? ⟨w.heap.size, 1, none⟩ = some (.int .i64 y)) _ ⟨c0, c1⟩ ?_
  clear hR c0 c1
  rintro W ⟨c0, c1⟩
  go_enter Try.func45, Try.ntmps45
  go_wp2
  go_loopw [8] (fun i wr => wr = W ∧ (i = .int .i64 0 ∨ i = .int .i64 1 ∧ x = 0 ∨ i = .int .i64 2 ∧ x = 0 ∧ y = 0)) (fun i _ => 2 - (intOf i).toNat)
  case atStart => exact ⟨rfl, .inl rfl⟩
  case round =>
    obtain ⟨rfl, rfl | ⟨rfl, h⟩ | ⟨rfl, h, h'⟩⟩ := hrel
    · by_cases hx : x = 0
      · have hx' : (x != 0) = false := by simp [hx]
        have HX : Hid (x = 0) := hx
        clear hx
        go_wp2
        go_roundw
        case rel => exact ⟨trivial, .inr (.inl ⟨by go_num, HX.out⟩)⟩
        case measure => simp [intOf]
      · have hx' : (x != 0) = true := by simp [hx]
        have HX : Hid (x ≠ 0) := hx
        clear hx
        go_wp2
        go_ret
        exact ⟨by rw [HE.out, if_neg HX.out]; rfl, rfl⟩
    · have HX : Hid (x = 0) := h
      clear h
      by_cases hx : y = 0
      · have hx' : (y != 0) = false := by simp [hx]
        have HY : Hid (y = 0) := hx
        clear hx
        go_wp2
        go_roundw
        case rel => exact ⟨trivial, .inr (.inr ⟨by go_num, HX.out, HY.out⟩)⟩
        case measure => simp [intOf]
      · have hx' : (y != 0) = true := by simp [hx]
        clear hx
        go_wp2
        go_ret
        exact ⟨by rw [HE.out, if_pos HX.out]; rfl, rfl⟩
    · have HX : Hid (x = 0) := h
      have HY : Hid (y = 0) := h'
      clear h h'
      go_wp2
      go_ret
      exact ⟨by rw [HE.out, if_pos HX.out, HY.out]; rfl, rfl⟩
/-- What Covers answers. -/
def cov (p q : Pf) : Bool := decide (chk q = 0) && (decide (p.n ≤ q.n) && con p q.a)
/-- What CheckPair answers. -/
def chkQ (q : Pr) : Int := if orI (chk q.d) (chk q.s) ≠ 0 then orI (chk q.d) (chk q.s) else if famP q.d = famP q.s then 0 else 21
theorem checkQ_any (p : Pr) (w : World) : Calls Try.prog 29 #[(Value.agg (qcells p).toArray)] w (Gives w (.int .i64 (chkQ p))) := by
  have hCd := check_any p.d
  have hCs := check_any p.s
  have hFd := pfam_any p.d
  have hFs := pfam_any p.s
  obtain ⟨x, hx⟩ : ∃ x, chk p.d = x := ⟨_, rfl⟩
  obtain ⟨y, hy⟩ : ∃ x, chk p.s = x := ⟨_, rfl⟩
  obtain ⟨u, hu⟩ : ∃ x, famP p.d = x := ⟨_, rfl⟩
  obtain ⟨v, hv⟩ : ∃ x, famP p.s = x := ⟨_, rfl⟩
  obtain ⟨z, hz⟩ : ∃ z, orI x y = z := ⟨_, rfl⟩
  have hOr := orErr x y
  rw [hz] at hOr
  rw [hx] at hCd
  rw [hy] at hCs
  rw [hu] at hFd
  rw [hv] at hFs
  have HF : Hid (chkQ p = if z ≠ 0 then z else if u = v then 0 else 21) := by show _ = _; simp only [chkQ, hx, hy, hu, hv, hz]
  clear hx hy hu hv hz
  go_enter Try.func29, Try.ntmps29
  go_wp2
  refine name_world (R := fun W => Code.wp _ _ _ _ W) (P := fun W => Below w.heap.size w W ∧ LQ W w.heap.size 0 p ∧ w.heap.size < W.heap.size) _ ⟨ba _ _, LQ.new _ _ _, by simp⟩ ?_
  rintro X ⟨hB, hP, hs⟩
  have HK : Hid (∀ W, Below X.heap.size X W → Below X.heap.size X W ∧ LQ W w.heap.size 0 p) := fun W h => ⟨h, hP.below h hs⟩
  refine wp_region_noPanic ?_
  refine wp_region_held_drew (S := fun W => Below X.heap.size X W ∧ LQ W w.heap.size 0 p) (by kernel_rfl) (HK.out _ (Below.refl _ _).drew) (fun hHeld => ?_)
  refine take_lit (i := 0) (v := ?_) rfl (by kernel_rfl) (by kernel_rfl) (by kernel_rfl) (fun _ _ _ h => h) (Or.inl ⟨by rfl, ?_⟩) (by assumption) ?_
  rotate_left
  · (intro w hSw; (try dsimp only at hSw); go_simp <;> with_reducible rfl)
  try simp only [Act.put, List.setIfInBounds_toArray, List.set_cons_zero, List.set_cons_succ]
  refine take_lit (i := 1) rfl (by kernel_rfl) (by kernel_rfl) (by kernel_rfl) (fun _ _ _ h => h) (yP p.d (fun w h => h.2.d) (by rfl) rfl rfl) (by assumption) ?_
  try simp only [Act.put, List.setIfInBounds_toArray, List.set_cons_zero, List.set_cons_succ]
  refine take_lit (i := 3) (v := ?_) rfl (by kernel_rfl) (by kernel_rfl) (by kernel_rfl) (fun _ _ _ h => h) (Or.inl ⟨by rfl, ?_⟩) (by assumption) ?_
  rotate_left
  · (intro w hSw; (try dsimp only at hSw); go_simp <;> with_reducible rfl)
  try simp only [Act.put, List.setIfInBounds_toArray, List.set_cons_zero, List.set_cons_succ]
  refine take_lit (i := 4) rfl (by kernel_rfl) (by kernel_rfl) (by kernel_rfl) (fun _ _ _ h => h) (yP p.s (fun w h => h.2.s) (by rfl) rfl rfl) (by assumption) ?_
  try simp only [Act.put, List.setIfInBounds_toArray, List.set_cons_zero, List.set_cons_succ]
  refine wpAnyH_ready (rs := [2]) (by kernel_rfl) (by simp) ?_
  refine cons_lit rfl (fun K hK => ?_) ?_
  · go_simp
    refine (hCd _).mono ?_
    rintro e w1 ⟨rfl, hB1⟩
    refine hK.out _ _ ?_ (fun hHeld => ?_)
    · exact HK.out _ (hHeld.1.trans (hB1.mono hHeld.1.size))
    clear hK K
    try simp only [Act.put, List.setIfInBounds_toArray, List.set_cons_zero, List.set_cons_succ]
    refine wpAnyH_ready (rs := [5]) (by kernel_rfl) (by simp) ?_
    refine cons_lit rfl (fun K hK => ?_) ?_
    · go_simp
      refine (hCs _).mono ?_
      rintro e w2 ⟨rfl, hB2⟩
      refine hK.out _ _ ?_ (fun hHeld => ?_)
      · exact HK.out _ (hHeld.1.trans (hB2.mono hHeld.1.size))
      clear hK K
      try simp only [Act.put, List.setIfInBounds_toArray, List.set_cons_zero, List.set_cons_succ]
      refine wpAnyH_ready (rs := [6]) (by kernel_rfl) (by simp) ?_
      refine cons_lit rfl (fun K hK => ?_) ?_
      · go_simp
        refine hK.out _ _ ?_ (fun hHeld => ?_)
        · exact HK.out _ (hHeld.1.alloc hHeld.1.size _)
        clear hK K
        try simp only [Act.put, List.setIfInBounds_toArray, List.set_cons_zero, List.set_cons_succ]
        refine wpAnyH_ready (rs := [7]) (by kernel_rfl) (by simp) ?_
        refine cons_lit rfl (fun K hK => ?_) ?_
        · go_simp
          refine (hOr _ _).mono ?_
          rintro e w2 ⟨rfl, rfl⟩
          refine hK.out _ _ ?_ (fun hHeld => ?_)
          · exact hHeld
          clear hK K
          try simp only [Act.put, List.setIfInBounds_toArray, List.set_cons_zero, List.set_cons_succ]
          refine take_lit (i := 8) (v := ?_) rfl (by kernel_rfl) (by kernel_rfl) (by kernel_rfl) (fun _ _ _ h => h) (Or.inl ⟨by rfl, ?_⟩) (by assumption) ?_
          rotate_left
          · (intro w hSw; (try dsimp only at hSw); go_simp <;> with_reducible rfl)
          try simp only [Act.put, List.setIfInBounds_toArray, List.set_cons_zero, List.set_cons_succ]
          refine wpAnyH_done (by kernel_rfl) ?_ _
          refine NoPanic.normal ?_
          refine name_world (R := fun W => Exit.then _ _ _ _ W) (P := fun W => Below w.heap.size w W ∧ LQ W w.heap.size 0 p ∧ w.heap.size < W.heap.size) _ ⟨hB.trans (hHeld.1.mono (by omega)), hHeld.2, Nat.lt_of_lt_of_le hs hHeld.1.size⟩ ?_
          clear hHeld HK hB hP
          rintro X ⟨hB, hP, hs⟩
          have HK : Hid (∀ W, Below X.heap.size X W → Below X.heap.size X W ∧ LQ W w.heap.size 0 p) := fun W h => ⟨h, hP.below h hs⟩
          by_cases hz : z = 0
          · have hz' : (z != 0) = false := by simp [hz]
            have HZ : Hid (z = 0) := hz
            clear hz
            go_wp2
            refine wp_region_noPanic ?_
            refine wp_region_held_drew (S := fun W => Below X.heap.size X W ∧ LQ W w.heap.size 0 p) (by kernel_rfl) (HK.out _ (Below.refl _ _).drew) (fun hHeld => ?_)
            refine take_lit (i := 0) (v := ?_) rfl (by kernel_rfl) (by kernel_rfl) (by kernel_rfl) (fun _ _ _ h => h) (Or.inl ⟨by rfl, ?_⟩) (by assumption) ?_
            rotate_left
            · (intro w hSw; (try dsimp only at hSw); go_simp <;> with_reducible rfl)
            try simp only [Act.put, List.setIfInBounds_toArray, List.set_cons_zero, List.set_cons_succ]
            refine take_lit (i := 1) rfl (by kernel_rfl) (by kernel_rfl) (by kernel_rfl) (fun _ _ _ h => h) (yP p.d (fun w h => h.2.d) (by rfl) rfl rfl) (by assumption) ?_
            try simp only [Act.put, List.setIfInBounds_toArray, List.set_cons_zero, List.set_cons_succ]
            refine take_lit (i := 3) (v := ?_) rfl (by kernel_rfl) (by kernel_rfl) (by kernel_rfl) (fun _ _ _ h => h) (Or.inl ⟨by rfl, ?_⟩) (by assumption) ?_
            rotate_left
            · (intro w hSw; (try dsimp only at hSw); go_simp <;> with_reducible rfl)
            try simp only [Act.put, List.setIfInBounds_toArray, List.set_cons_zero, List.set_cons_succ]
            refine take_lit (i := 4) rfl (by kernel_rfl) (by kernel_rfl) (by kernel_rfl) (fun _ _ _ h => h) (yP p.s (fun w h => h.2.s) (by rfl) rfl rfl) (by assumption) ?_
            try simp only [Act.put, List.setIfInBounds_toArray, List.set_cons_zero, List.set_cons_succ]
            refine wpAnyH_ready (rs := [2]) (by kernel_rfl) (by simp) ?_
            refine cons_lit rfl (fun K hK => ?_) ?_
            · go_simp
              refine (hFd _).mono ?_
              rintro e w1 ⟨rfl, hB1⟩
              refine hK.out _ _ ?_ (fun hHeld => ?_)
              · exact HK.out _ (hHeld.1.trans (hB1.mono hHeld.1.size))
              clear hK K
              try simp only [Act.put, List.setIfInBounds_toArray, List.set_cons_zero, List.set_cons_succ]
              refine wpAnyH_ready (rs := [5]) (by kernel_rfl) (by simp) ?_
              refine cons_lit rfl (fun K hK => ?_) ?_
              · go_simp
                refine (hFs _).mono ?_
                rintro e w2 ⟨rfl, hB2⟩
                refine hK.out _ _ ?_ (fun hHeld => ?_)
                · exact HK.out _ (hHeld.1.trans (hB2.mono hHeld.1.size))
                clear hK K
                try simp only [Act.put, List.setIfInBounds_toArray, List.set_cons_zero, List.set_cons_succ]
                refine take_lit (i := 6) (v := ?_) rfl (by kernel_rfl) (by kernel_rfl) (by kernel_rfl) (fun _ _ _ h => h) (Or.inl ⟨by rfl, ?_⟩) (by assumption) ?_
                rotate_left
                · (intro w hSw; (try dsimp only at hSw); go_simp <;> with_reducible rfl)
                try simp only [Act.put, List.setIfInBounds_toArray, List.set_cons_zero, List.set_cons_succ]
                refine wpAnyH_done (by kernel_rfl) ?_ _
                refine NoPanic.normal ?_
                have hW := hB.trans (hHeld.1.mono (show w.heap.size ≤ X.heap.size by omega))
                clear hHeld
                go_wp2
                · have h : ¬ u = v := by simpa using ‹(u != v) = true›
                  go_ret
                  exact ⟨by rw [HF.out, if_neg (fun q => q HZ.out), if_neg h]; rfl, hW⟩
                · have h : u = v := by simpa using ‹(u != v) = false›
                  go_ret
                  exact ⟨by rw [HF.out, if_neg (fun q => q HZ.out), if_pos h]; rfl, hW⟩
              exact AllReadyH.nil
            exact AllReadyH.nil
          · have hz' : (z != 0) = true := by simp [hz]
            have HZ : Hid (z ≠ 0) := hz
            clear hz
            go_wp2
            go_ret
            exact ⟨by rw [HF.out, if_pos HZ.out]; rfl, hB⟩
        exact AllReadyH.nil
      exact AllReadyH.nil
    exact AllReadyH.nil
  exact AllReadyH.nil
end Go.Proofs.Ytadnnjngflphjaa.Fa
