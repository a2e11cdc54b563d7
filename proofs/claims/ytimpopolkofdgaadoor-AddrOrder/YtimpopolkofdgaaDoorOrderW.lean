/-
  AddrOrder: the walk, for every three pairs.
-/
import Derived.Test.YtimpopolkofdgaaDoorPure
import Derived.Test.YtimpopolkofdgaaDoorLiveF
namespace Go.Proofs.YtimpopolkofdgaaDoor
open Go.RowKit Go.Shelf
set_option linter.unusedSimpArgs false
set_option maxRecDepth 20000
theorem three_Q (w : World) (p q r : Pr) : ∀ W, Below (((w.alloc (.cells (qcells p).toArray 27)).alloc (.cells (qcells q).toArray 27)).alloc (.cells (qcells r).toArray 27)).heap.size (((w.alloc (.cells (qcells p).toArray 27)).alloc (.cells (qcells q).toArray 27)).alloc (.cells (qcells r).toArray 27)) W → LQ W w.heap.size 0 p ∧ LQ W (w.heap.size + 1) 0 q ∧ LQ W (w.heap.size + 1 + 1) 0 r := fun W hb => by
  have h1 := ((LQ.new w p 27).alloc (.cells (qcells q).toArray 27)).alloc (.cells (qcells r).toArray 27)
  have h2 := (LQ.new (w.alloc (.cells (qcells p).toArray 27)) q 27).alloc (.cells (qcells r).toArray 27)
  have h3 := LQ.new ((w.alloc (.cells (qcells p).toArray 27)).alloc (.cells (qcells q).toArray 27)) r 27
  simp only [World.size_alloc] at h2 h3
  exact ⟨h1.below hb (by simp; omega), h2.below hb (by simp), h3.below hb (by simp)⟩
set_option maxHeartbeats 32000000 in
theorem order_main (p q r : Pr) (w : World) (A B C A' X X' : Int) (hL : ∀ W, Below w.heap.size w W → Calls Tryd.prog 15 #[] W (Gives W (.bool true)))
    (hA : ∀ w, Calls Tryd.prog 18 #[(Value.agg (qcells p).toArray), (Value.agg (qcells q).toArray)] w (Gives w (.int .i64 A))) (hB : ∀ w, Calls Tryd.prog 18 #[(Value.agg (qcells q).toArray), (Value.agg (qcells r).toArray)] w (Gives w (.int .i64 B)))
    (hC : ∀ w, Calls Tryd.prog 18 #[(Value.agg (qcells p).toArray), (Value.agg (qcells r).toArray)] w (Gives w (.int .i64 C))) (hA' : ∀ w, Calls Tryd.prog 18 #[(Value.agg (qcells q).toArray), (Value.agg (qcells p).toArray)] w (Gives w (.int .i64 A')))
    (hX : ∀ w, Calls Tryd.prog 19 #[(Value.agg (pcells p.d).toArray), (Value.agg (pcells q.d).toArray)] w (Gives w (.int .i64 X))) (hX' : ∀ w, Calls Tryd.prog 19 #[(Value.agg (pcells q.d).toArray), (Value.agg (pcells p.d).toArray)] w (Gives w (.int .i64 X')))
    (hZ : ∀ w, Calls Tryd.prog 20 #[(Value.agg (acells p.d.a).toArray), (Value.agg (acells p.d.a).toArray)] w (Gives w (.int .i64 0)))
    (he : ∀ w, (Op.equalIn (9996 + 4) 27 (Value.agg (qcells p).toArray) (Value.agg (qcells q).toArray)).run Tryd.prog w = .ok (A == 0) w) (hf : ∀ w, (Op.equalIn (9997 + 3) 25 (Value.agg (pcells p.d).toArray) (Value.agg (pcells q.d).toArray)).run Tryd.prog w = .ok (X == 0) w)
    (n1 : IntKind.i64.wrap (-A') = A) (n2 : IntKind.i64.wrap (-X') = X)
    (ways : (0 < A ∨ A = 0 ∧ 0 < B ∨ A = 0 ∧ B ≤ 0 ∧ C ≤ 0 ∨ A < 0 ∧ 0 < B ∨ A < 0 ∧ B = 0 ∧ C ≤ 0 ∨ A < 0 ∧ B < 0 ∧ C < 0) ∧ (X = 0 ∨ X ≠ 0 ∧ A = X)) : Calls Tryd.prog 5 #[(Value.agg (qcells p).toArray), (Value.agg (qcells q).toArray), (Value.agg (qcells r).toArray)] w (Gives w (.bool true)) := by
  have HK : Hid (∀ W, _ → LQ W w.heap.size 0 p ∧ LQ W (w.heap.size + 1) 0 q ∧ LQ W (w.heap.size + 1 + 1) 0 r) := three_Q w p q r
  have hw0 : Below w.heap.size w (((w.alloc (.cells (qcells p).toArray 27)).alloc (.cells (qcells q).toArray 27)).alloc (.cells (qcells r).toArray 27)) := bt (bt (ba _ _) (ba _ _)) (ba _ _)
  have n1' : wrap64 (-A') = A := by unfold wrap64; rw [← n1, IntKind.wrap_i64]
  have n2' : wrap64 (-X') = X := by unfold wrap64; rw [← n2, IntKind.wrap_i64]
  obtain ⟨ways, xs⟩ := ways
  go_enter Tryd.func5, Tryd.ntmps5
  go_wp2
  generalize hW0 : (((w.alloc (.cells (qcells p).toArray 27)).alloc (.cells (qcells q).toArray 27)).alloc (.cells (qcells r).toArray 27)) = W0 at *
  clear hW0
  have HB : Hid (∀ W, Below W0.heap.size W0 W → Below w.heap.size w W) := fun W h => bt hw0 h
  clear hw0
  refine wp_region_noPanic ?_
  refine wp_region_held_drew (S := fun W => Below W0.heap.size W0 W) (by kernel_rfl) ((Below.refl _ _).drew) (fun hHeld => ?_)
  refine take_lit (i := 0) rfl (by kernel_rfl) (by kernel_rfl) (by kernel_rfl) (fun _ _ _ h => h) (yQ p (fun w h => (HK.out w h).1) (by rfl) rfl rfl) (by assumption) ?_
  try simp only [Act.put, List.setIfInBounds_toArray, List.set_cons_zero, List.set_cons_succ]
  refine take_lit (i := 1) rfl (by kernel_rfl) (by kernel_rfl) (by kernel_rfl) (fun _ _ _ h => h) (yQ q (fun w h => (HK.out w h).2.1) (by rfl) rfl rfl) (by assumption) ?_
  try simp only [Act.put, List.setIfInBounds_toArray, List.set_cons_zero, List.set_cons_succ]
  refine take_lit (i := 3) rfl (by kernel_rfl) (by kernel_rfl) (by kernel_rfl) (fun _ _ _ h => h) (yQ q (fun w h => (HK.out w h).2.1) (by rfl) rfl rfl) (by assumption) ?_
  try simp only [Act.put, List.setIfInBounds_toArray, List.set_cons_zero, List.set_cons_succ]
  refine take_lit (i := 4) rfl (by kernel_rfl) (by kernel_rfl) (by kernel_rfl) (fun _ _ _ h => h) (yQ r (fun w h => (HK.out w h).2.2) (by rfl) rfl rfl) (by assumption) ?_
  try simp only [Act.put, List.setIfInBounds_toArray, List.set_cons_zero, List.set_cons_succ]
  refine take_lit (i := 6) rfl (by kernel_rfl) (by kernel_rfl) (by kernel_rfl) (fun _ _ _ h => h) (yQ p (fun w h => (HK.out w h).1) (by rfl) rfl rfl) (by assumption) ?_
  try simp only [Act.put, List.setIfInBounds_toArray, List.set_cons_zero, List.set_cons_succ]
  refine take_lit (i := 7) rfl (by kernel_rfl) (by kernel_rfl) (by kernel_rfl) (fun _ _ _ h => h) (yQ r (fun w h => (HK.out w h).2.2) (by rfl) rfl rfl) (by assumption) ?_
  try simp only [Act.put, List.setIfInBounds_toArray, List.set_cons_zero, List.set_cons_succ]
  refine wpAnyH_ready (rs := [2]) (by kernel_rfl) (by simp) ?_
  refine cons_lit rfl (fun K hK => ?_) ?_
  · go_simp
    refine (hA _).mono ?_
    rintro e w1 ⟨rfl, hB1⟩
    refine hK.out _ _ ?_ (fun hHeld => ?_)
    · exact bt hHeld hB1
    clear hK K
    try simp only [Act.put, List.setIfInBounds_toArray, List.set_cons_zero, List.set_cons_succ]
    refine wpAnyH_ready (rs := [5]) (by kernel_rfl) (by simp) ?_
    refine cons_lit rfl (fun K hK => ?_) ?_
    · go_simp
      refine (hB _).mono ?_
      rintro e w2 ⟨rfl, hB2⟩
      refine hK.out _ _ ?_ (fun hHeld => ?_)
      · exact bt hHeld hB2
      clear hK K
      try simp only [Act.put, List.setIfInBounds_toArray, List.set_cons_zero, List.set_cons_succ]
      refine wpAnyH_ready (rs := [8]) (by kernel_rfl) (by simp) ?_
      refine cons_lit rfl (fun K hK => ?_) ?_
      · go_simp
        refine (hC _).mono ?_
        rintro e w3 ⟨rfl, hB3⟩
        refine hK.out _ _ ?_ (fun hHeld => ?_)
        · exact bt hHeld hB3
        clear hK K
        try simp only [Act.put, List.setIfInBounds_toArray, List.set_cons_zero, List.set_cons_succ]
        refine take_lit (i := 9) (v := ?_) rfl (by kernel_rfl) (by kernel_rfl) (by kernel_rfl) (fun _ _ _ h => h) (Or.inl ⟨by rfl, ?_⟩) (by assumption) ?_
        rotate_left
        · (intro w hSw; (try dsimp only at hSw); go_simp <;> with_reducible rfl)
        try simp only [Act.put, List.setIfInBounds_toArray, List.set_cons_zero, List.set_cons_succ]
        refine take_lit (i := 10) (v := ?_) rfl (by kernel_rfl) (by kernel_rfl) (by kernel_rfl) (fun _ _ _ h => h) (Or.inl ⟨by rfl, ?_⟩) (by assumption) ?_
        rotate_left
        · (intro w hSw; (try dsimp only at hSw); go_simp <;> with_reducible rfl)
        try simp only [Act.put, List.setIfInBounds_toArray, List.set_cons_zero, List.set_cons_succ]
        refine take_lit (i := 11) (v := ?_) rfl (by kernel_rfl) (by kernel_rfl) (by kernel_rfl) (fun _ _ _ h => h) (Or.inl ⟨by rfl, ?_⟩) (by assumption) ?_
        rotate_left
        · (intro w hSw; (try dsimp only at hSw); go_simp <;> with_reducible rfl)
        try simp only [Act.put, List.setIfInBounds_toArray, List.set_cons_zero, List.set_cons_succ]
        refine wpAnyH_done (by kernel_rfl) ?_ _
        refine NoPanic.normal ?_
        have hb0 := hHeld
        clear hHeld
        clear hA hB hC
        have e0 : (X == 0) = true ∨ (X == 0) = false ∧ (A == X) = true := by
          rcases xs with x | ⟨x, y⟩
          · exact .inl (by simpa using x)
          · exact .inr ⟨by simpa using x, by simpa using y⟩
        clear xs
        have ww : decide (A ≤ 0) = false ∧ decide (A < 0) = false ∨ decide (A ≤ 0) = true ∧ decide (B ≤ 0) = false ∧ decide (A < 0) = false ∨ decide (A ≤ 0) = true ∧ decide (B ≤ 0) = true ∧ decide (0 < C) = false ∧ decide (A < 0) = false ∨ decide (A ≤ 0) = true ∧ decide (B ≤ 0) = false ∧ decide (A < 0) = true ∧ decide (B < 0) = false ∨ decide (A ≤ 0) = true ∧ decide (B ≤ 0) = true ∧ decide (0 < C) = false ∧ decide (A < 0) = true ∧ decide (B < 0) = false ∨ decide (A ≤ 0) = true ∧ decide (B ≤ 0) = true ∧ decide (0 < C) = false ∧ decide (A < 0) = true ∧ decide (B < 0) = true ∧ decide (0 ≤ C) = false := by
          rcases ways with h | ⟨h, k⟩ | ⟨h, k, l⟩ | ⟨h, k⟩ | ⟨h, k, l⟩ | ⟨h, k, l⟩
          · exact .inl ⟨by simp; omega, by simp; omega⟩
          · exact .inr (.inl ⟨by simp; omega, by simp; omega, by simp; omega⟩)
          · exact .inr (.inr (.inl ⟨by simp; omega, by simp; omega, by simp; omega, by simp; omega⟩))
          · exact .inr (.inr (.inr (.inl ⟨by simp; omega, by simp; omega, by simp; omega, by simp; omega⟩)))
          · exact .inr (.inr (.inr (.inr (.inl ⟨by simp; omega, by simp; omega, by simp; omega, by simp; omega, by simp; omega⟩))))
          · exact .inr (.inr (.inr (.inr (.inr (⟨by simp; omega, by simp; omega, by simp; omega, by simp; omega, by simp; omega, by simp; omega⟩)))))
        clear ways
        rcases e0 with e0 | ⟨e0, e1⟩ <;> rcases ww with ⟨d0, d1⟩ | ⟨d0, d1, d2⟩ | ⟨d0, d1, d2, d3⟩ | ⟨d0, d1, d2, d3⟩ | ⟨d0, d1, d2, d3, d4⟩ | ⟨d0, d1, d2, d3, d4, d5⟩
        all_goals go_wp2_with (first
            | (refine ldQ (.tmp 3) (by rfl) rfl _ _ p rfl (HK.out _ hb0).1 ?_)
            | (refine ldQ (.tmp 4) (by rfl) rfl _ _ q rfl (HK.out _ hb0).2.1 ?_)
            | (go_at_call 18; refine (hA' _).mono ?_; rintro e w4 ⟨rfl, hB4⟩; replace hb0 := bt hb0 hB4; clear hB4))
        all_goals
          refine wp_region_noPanic ?_
          refine wp_region_held_drew (S := fun W => Below W0.heap.size W0 W) (by kernel_rfl) (hb0.drew) (fun hHeld => ?_)
          refine take_lit (i := 0) (v := ?_) rfl (by kernel_rfl) (by kernel_rfl) (by kernel_rfl) (fun _ _ _ h => h) (Or.inl ⟨by rfl, ?_⟩) (by assumption) ?_
          rotate_left
          · (intro w hSw; (try dsimp only at hSw); go_simp <;> with_reducible rfl)
          try simp only [Act.put, List.setIfInBounds_toArray, List.set_cons_zero, List.set_cons_succ]
          refine take_lit (i := 1) rfl (by kernel_rfl) (by kernel_rfl) (by kernel_rfl) (fun _ _ _ h => h) (yP p.d (fun w h => (HK.out w h).1.d) (by rfl) rfl rfl) (by assumption) ?_
          try simp only [Act.put, List.setIfInBounds_toArray, List.set_cons_zero, List.set_cons_succ]
          refine take_lit (i := 2) (v := ?_) rfl (by kernel_rfl) (by kernel_rfl) (by kernel_rfl) (fun _ _ _ h => h) (Or.inl ⟨by rfl, ?_⟩) (by assumption) ?_
          rotate_left
          · (intro w hSw; (try dsimp only at hSw); go_simp <;> with_reducible rfl)
          try simp only [Act.put, List.setIfInBounds_toArray, List.set_cons_zero, List.set_cons_succ]
          refine take_lit (i := 3) rfl (by kernel_rfl) (by kernel_rfl) (by kernel_rfl) (fun _ _ _ h => h) (yP q.d (fun w h => (HK.out w h).2.1.d) (by rfl) rfl rfl) (by assumption) ?_
          try simp only [Act.put, List.setIfInBounds_toArray, List.set_cons_zero, List.set_cons_succ]
          refine take_lit (i := 5) (v := ?_) rfl (by kernel_rfl) (by kernel_rfl) (by kernel_rfl) (fun _ _ _ h => h) (Or.inl ⟨by rfl, ?_⟩) (by assumption) ?_
          rotate_left
          · (intro w hSw; (try dsimp only at hSw); go_simp <;> with_reducible rfl)
          try simp only [Act.put, List.setIfInBounds_toArray, List.set_cons_zero, List.set_cons_succ]
          refine take_lit (i := 6) rfl (by kernel_rfl) (by kernel_rfl) (by kernel_rfl) (fun _ _ _ h => h) (yP q.d (fun w h => (HK.out w h).2.1.d) (by rfl) rfl rfl) (by assumption) ?_
          try simp only [Act.put, List.setIfInBounds_toArray, List.set_cons_zero, List.set_cons_succ]
          refine take_lit (i := 7) (v := ?_) rfl (by kernel_rfl) (by kernel_rfl) (by kernel_rfl) (fun _ _ _ h => h) (Or.inl ⟨by rfl, ?_⟩) (by assumption) ?_
          rotate_left
          · (intro w hSw; (try dsimp only at hSw); go_simp <;> with_reducible rfl)
          try simp only [Act.put, List.setIfInBounds_toArray, List.set_cons_zero, List.set_cons_succ]
          refine take_lit (i := 8) rfl (by kernel_rfl) (by kernel_rfl) (by kernel_rfl) (fun _ _ _ h => h) (yP p.d (fun w h => (HK.out w h).1.d) (by rfl) rfl rfl) (by assumption) ?_
          try simp only [Act.put, List.setIfInBounds_toArray, List.set_cons_zero, List.set_cons_succ]
          refine wpAnyH_ready (rs := [4]) (by kernel_rfl) (by simp) ?_
          refine cons_lit rfl (fun K hK => ?_) ?_
          · go_simp
            refine (hX _).mono ?_
            rintro e w5 ⟨rfl, hB5⟩
            refine hK.out _ _ ?_ (fun hHeld => ?_)
            · exact bt hHeld hB5
            clear hK K
            try simp only [Act.put, List.setIfInBounds_toArray, List.set_cons_zero, List.set_cons_succ]
            refine wpAnyH_ready (rs := [9]) (by kernel_rfl) (by simp) ?_
            refine cons_lit rfl (fun K hK => ?_) ?_
            · go_simp
              refine (hX' _).mono ?_
              rintro e w6 ⟨rfl, hB6⟩
              refine hK.out _ _ ?_ (fun hHeld => ?_)
              · exact bt hHeld hB6
              clear hK K
              try simp only [Act.put, List.setIfInBounds_toArray, List.set_cons_zero, List.set_cons_succ]
              refine take_lit (i := 10) (v := ?_) rfl (by kernel_rfl) (by kernel_rfl) (by kernel_rfl) (fun _ _ _ h => h) (Or.inl ⟨by rfl, ?_⟩) (by assumption) ?_
              rotate_left
              · (intro w hSw; (try dsimp only at hSw); go_simp <;> with_reducible rfl)
              try simp only [Act.put, List.setIfInBounds_toArray, List.set_cons_zero, List.set_cons_succ]
              refine take_lit (i := 11) (v := ?_) rfl (by kernel_rfl) (by kernel_rfl) (by kernel_rfl) (fun _ _ _ h => h) (Or.inl ⟨by rfl, ?_⟩) (by assumption) ?_
              rotate_left
              · (intro w hSw; (try dsimp only at hSw); go_simp <;> with_reducible rfl)
              try simp only [Act.put, List.setIfInBounds_toArray, List.set_cons_zero, List.set_cons_succ]
              refine wpAnyH_done (by kernel_rfl) ?_ _
              refine NoPanic.normal ?_
              replace hb0 := hHeld
              clear hHeld
              go_wp2_with (first
                | (refine ldP (.tmp 76) (by rfl) rfl _ _ p.d rfl (HK.out _ hb0).1.d ?_)
                | (refine ldP (.tmp 78) (by rfl) rfl _ _ q.d rfl (HK.out _ hb0).2.1.d ?_)
                | (refine ldA (.tmp 94) (by rfl) rfl _ _ p.d.a rfl (HK.out _ hb0).1.d.a ?_)
                | (refine ldA (.tmp 97) (by rfl) rfl _ _ p.d.a rfl (HK.out _ hb0).1.d.a ?_)
                | (go_at_call 15; refine (hL _ (HB.out _ hb0)).mono ?_; rintro e w8 ⟨rfl, hB8⟩; replace hb0 := bt hb0 hB8; clear hB8)
                | (go_at_call 20; refine (hZ _).mono ?_; rintro e w7 ⟨rfl, hB7⟩; replace hb0 := bt hb0 hB7; clear hB7))
              go_ret
              exact ⟨rfl, HB.out _ hb0⟩
            exact AllReadyH.nil
          exact AllReadyH.nil
      exact AllReadyH.nil
    exact AllReadyH.nil
  exact AllReadyH.nil
theorem order_walk (p q r : Pr) (w : World) (hL : ∀ W, Below w.heap.size w W → Calls Tryd.prog 15 #[] W (Gives W (.bool true))) : Calls Tryd.prog 5 #[(Value.agg (qcells p).toArray), (Value.agg (qcells q).toArray), (Value.agg (qcells r).toArray)] w (Gives w (.bool true)) := by
  have a1 := cmp3Q.bd p q
  have a2 := cmp3Q.bd q r
  have a3 := cmp3Q.anti p q
  have a4 := cmp3Q.zero p q
  have a5 := cmp3Q.lt p q r
  have a6 := cmp3Q.trans p q r
  have x1 := cmp3P.bd p.d q.d
  have x3 := cmp3P.anti p.d q.d
  have x4 := cmp3P.zero p.d q.d
  have x5 : cmpP p.d q.d = 0 ∨ cmpP p.d q.d ≠ 0 ∧ cmpQ p q = cmpP p.d q.d := by
    by_cases h : cmpP p.d q.d = 0
    · exact .inl h
    · exact .inr ⟨h, by simp only [cmpQ, orI, if_neg h]⟩
  have hz : cmpA p.d.a p.d.a = 0 := (cmp3A.zero _ _).2 rfl
  refine order_main p q r w (cmpQ p q) (cmpQ q r) (cmpQ p r) (cmpQ q p) (cmpP p.d q.d) (cmpP q.d p.d) hL (compareQ_any p q) (compareQ_any q r) (compareQ_any p r) (compareQ_any q p) (compareP_any p.d q.d) (compareP_any q.d p.d) (hz ▸ compare_any p.d.a p.d.a) (fun w => ?_) (fun w => ?_) ?_ ?_ ⟨?_, x5⟩
  · rw [eqQ]
    congr 1
    rw [Bool.eq_iff_iff, Bool.and_eq_true, eqPf, eqPf, beq_iff_eq, a4]
    exact ⟨fun h => Pr.ext h.1 h.2, fun h => by rw [h]; exact ⟨rfl, rfl⟩⟩
  · rw [eqP]
    congr 1
    rw [Bool.eq_iff_iff, eqPf, beq_iff_eq, x4]
  · rw [IntKind.wrap_i64]; omega
  · rw [IntKind.wrap_i64]; omega
  · omega
end Go.Proofs.YtimpopolkofdgaaDoor
