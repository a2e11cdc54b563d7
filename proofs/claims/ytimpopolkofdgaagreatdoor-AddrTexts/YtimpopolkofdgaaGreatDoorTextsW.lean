/-
  The law AddrTexts returns true: the walk.
-/
import Derived.Test.YtimpopolkofdgaaGreatDoorRefN
import Derived.Test.YtimpopolkofdgaaGreatDoorLiveF
namespace Go.Proofs.YtimpopolkofdgaaGreatDoor
open Go.RowKit Go.Shelf
set_option linter.unusedSimpArgs false
set_option maxRecDepth 20000
theorem rprint_any (a : Ad) (w : World) : Calls Tryz.prog 13 #[(Value.agg (acells a).toArray)] w (Gives w (.string (str (prtA a)))) := by
  have hb := ba w (.cells (acells a).toArray 23)
  have hA := LA.new w a 23
  have hF := rfamily_any a
  have h4 := rfours_any a
  have h6 := rsixes_any a
  by_cases h : famA a = 4
  · have e : ((famA a) == 4) = true := by simpa using h
    have HP : Hid (prtA a = ppS a) := by show _ = _; rw [prtA, if_pos h]
    generalize famA a = f at *
    clear h h6
    go_enter Tryz.func13, Tryz.ntmps13
    go_wp2_with (first
      | ((with_reducible refine ldA (.tmp 1) ?_ rfl _ _ a ?_ hA ?_); (focus rfl); (focus rfl))
      | (go_at_call 11; refine (hF _).mono ?_; rintro e w1 ⟨rfl, hB⟩; replace hA := hA.below hB (by simp); replace hb := bt hb hB; clear hB)
      | (go_at_call 56; refine (h4 _).mono ?_; rintro e w2 ⟨rfl, hB⟩; replace hb := bt hb hB; clear hB))
    go_ret
    exact ⟨by rw [HP.out]; rfl, hb⟩
  · have e : ((famA a) == 4) = false := by simpa using h
    have HP : Hid (prtA a = pgS a) := by show _ = _; rw [prtA, if_neg h]
    generalize famA a = f at *
    clear h h4
    go_enter Tryz.func13, Tryz.ntmps13
    go_wp2_with (first
      | ((with_reducible refine ldA (.tmp 1) ?_ rfl _ _ a ?_ hA ?_); (focus rfl); (focus rfl))
      | (go_at_call 11; refine (hF _).mono ?_; rintro e w1 ⟨rfl, hB⟩; replace hA := hA.below hB (by simp); replace hb := bt hb hB; clear hB)
      | (go_at_call 57; refine (h6 _).mono ?_; rintro e w2 ⟨rfl, hB⟩; replace hb := bt hb hB; clear hB))
    go_ret
    exact ⟨by rw [HP.out]; rfl, hb⟩
theorem prsV_form (s : List UInt8) : ∃ (z : Ad) (e : Int), prsV s = .tuple #[(Value.agg (acells z).toArray), .int .i64 e] ∧ 0 ≤ e ∧ e ≤ 20 := by
  unfold prsV
  cases prs s with
  | some a => exact ⟨a, 0, rfl, by omega, by omega⟩
  | none => exact ⟨zeroA, 20, rfl, by omega, by omega⟩
theorem texts_long (t : ByteArray) (a : Ad) (w : World) (hl : 5000 < t.size) (hL : ∀ W, Below w.heap.size w W → Calls Tryz.prog 6 #[] W (Gives W (.bool true))) : Calls Tryz.prog 3 #[.string t, (Value.agg (acells a).toArray)] w (Gives w (.bool true)) := by
  have h5 : (5000 : Int) < (t.size : Int) := by omega
  have hb := ba w (.cells (acells a).toArray 23)
  go_enter Tryz.func3, Tryz.ntmps3
  go_wp2_with (go_at_call 6; refine (hL _ hb).mono ?_; rintro e w1 ⟨rfl, hB⟩; replace hb := bt hb hB; clear hB)
  go_ret
  exact ⟨rfl, hb⟩
set_option maxHeartbeats 2000000 in
theorem texts_walk (t : ByteArray) (a : Ad) (w : World) (g1 : Glob w) (g2 : Tz w) (g3 : 8 ≤ w.heap.size) (hL : ∀ W, Below w.heap.size w W → Calls Tryz.prog 6 #[] W (Gives W (.bool true))) : Calls Tryz.prog 3 #[.string t, (Value.agg (acells a).toArray)] w (Gives w (.bool true)) := by
  by_cases h5 : 5000 < t.size
  · exact texts_long t a w h5 hL
  have h5' : ¬ (5000 : Int) < (t.size : Int) := by omega
  have hP : ∀ W, Glob W → 8 ≤ W.heap.size → Calls Tryz.prog 7 #[.string t] W (Gives W (prsV t.data.toList)) := fun W k1 k2 => parse_any t.data.toList W k1 k2 (by have : t.data.toList.length = t.size := Lib.size_eq t; omega)
  have hR := fun W => rparse_any t W (by omega)
  obtain ⟨z, e, hz, he0, he1⟩ := prsV_form t.data.toList
  rw [hz] at hP hR
  have hN := num_any e (by omega) (by omega)
  have hF := fam_any a
  have hF2 := rfamily_any a
  have hpr := fun W k1 k2 k3 => print_any a W k1 k2 k3
  have hpr2 := rprint_any a
  have HG : Hid (∀ W, Below w.heap.size w W → Glob W ∧ Tz W ∧ 8 ≤ W.heap.size) := fun W hb => ⟨g1.keep hb g3, g2.keep hb g3, Nat.le_trans g3 hb.size⟩
  have ez : ∀ w, (Op.equalIn (9998 + 2) 23 (Value.agg (acells z).toArray) (Value.agg (acells z).toArray)).run Tryz.prog w = .ok true w := fun w => by rw [eqA]; simp
  generalize famA a = f at *
  generalize prtA a = pa at *
  have hb := ba w (.cells (acells a).toArray 23)
  have hA := LA.new w a 23
  have hal : w.heap.size < (w.alloc (.cells (acells a).toArray 23)).heap.size := by simp
  clear hz he0 he1 g1 g2 g3 h5
  go_enter Tryz.func3, Tryz.ntmps3
  go_wp2_with (first
    | (have kk := hW2; clear kk; refine stAq (.tmp 7) (.tmp 21) (by rfl) rfl _ _ z rfl rfl (Row.there (Row.new _ _ _) (by simp)) ?_; intro w4 hw4; have hst := hw4.out ▸ storedRow w3 _ _ z (by simp); clear hw4; obtain ⟨hB, r7, -⟩ := hst; replace r5 := r5.below hB r5.lt; replace hA := hA.below hB hal; replace hal := Nat.lt_of_lt_of_le hal hB.size; replace hb := bt hb hB; clear hB hW2)
    | (have kk := hW1; clear kk; refine stAq (.tmp 5) (.tmp 16) (by rfl) rfl _ _ z rfl rfl (Row.there (Row.new _ _ _) (by simp)) ?_; intro w2 hw2; have hst := hw2.out ▸ storedRow w1 _ _ z (by simp); clear hw2; obtain ⟨hB, r5, -⟩ := hst; replace hA := hA.below hB hal; replace hal := Nat.lt_of_lt_of_le hal hB.size; replace hb := bt hb hB; clear hB hW1)
    | (go_at_call 7; have hh := HG.out _ hb; refine (hP _ hh.1 hh.2.2).mono ?_; rintro e w1 ⟨rfl, hW1⟩; replace hA := hA.below hW1 hal; replace hal := Nat.lt_of_lt_of_le hal hW1.size; replace hb := bt hb hW1; clear hh)
    | (go_at_call 8; refine (hR _).mono ?_; rintro e w3 ⟨rfl, hW2⟩; replace r5 := r5.below hW2 r5.lt; replace hA := hA.below hW2 hal; replace hal := Nat.lt_of_lt_of_le hal hW2.size; replace hb := bt hb hW2))
  have h5l := r5.lt
  have h7l := r7.lt
  generalize w1.heap.size = B5 at *
  generalize w3.heap.size = B7 at *
  have HB : Hid (Below w.heap.size w w4.drew ∧ LA w4.drew w.heap.size 0 a ∧ LA w4.drew B5 0 z ∧ LA w4.drew B7 0 z ∧ w.heap.size < w4.drew.heap.size ∧ B5 < w4.drew.heap.size ∧ B7 < w4.drew.heap.size) := ⟨hb.drew, hA, r5.range, r7.range, hal, h5l, h7l⟩
  have HK : Hid (∀ W W', (Below w.heap.size w W ∧ LA W w.heap.size 0 a ∧ LA W B5 0 z ∧ LA W B7 0 z ∧ w.heap.size < W.heap.size ∧ B5 < W.heap.size ∧ B7 < W.heap.size) → Below W.heap.size W W' → Below w.heap.size w W' ∧ LA W' w.heap.size 0 a ∧ LA W' B5 0 z ∧ LA W' B7 0 z ∧ w.heap.size < W'.heap.size ∧ B5 < W'.heap.size ∧ B7 < W'.heap.size) := fun W W' h k =>
    ⟨bt h.1 k, h.2.1.below k h.2.2.2.2.1, h.2.2.1.below k h.2.2.2.2.2.1, h.2.2.2.1.below k h.2.2.2.2.2.2, Nat.lt_of_lt_of_le h.2.2.2.2.1 k.size, Nat.lt_of_lt_of_le h.2.2.2.2.2.1 k.size, Nat.lt_of_lt_of_le h.2.2.2.2.2.2 k.size⟩
  clear hb hA r5 r7 hal h5l h7l hP hR
  refine wp_region_noPanic ?_
  refine wp_region_held_drew (S := fun W => Below w.heap.size w W ∧ LA W w.heap.size 0 a ∧ LA W B5 0 z ∧ LA W B7 0 z ∧ w.heap.size < W.heap.size ∧ B5 < W.heap.size ∧ B7 < W.heap.size) (by kernel_rfl) (HB.out) (fun hHeld => ?_)
  refine take_lit (i := 0) rfl (by kernel_rfl) (by kernel_rfl) (by kernel_rfl) (fun _ _ _ h => h) (yA z (fun w h => h.2.2.1) (by rfl) rfl rfl) (by assumption) ?_
  try simp only [Act.put, List.setIfInBounds_toArray, List.set_cons_zero, List.set_cons_succ]
  refine take_lit (i := 1) rfl (by kernel_rfl) (by kernel_rfl) (by kernel_rfl) (fun _ _ _ h => h) (yA z (fun w h => h.2.2.2.1) (by rfl) rfl rfl) (by assumption) ?_
  try simp only [Act.put, List.setIfInBounds_toArray, List.set_cons_zero, List.set_cons_succ]
  refine take_lit (i := 2) (v := ?_) rfl (by kernel_rfl) (by kernel_rfl) (by kernel_rfl) (fun _ _ _ h => h) (Or.inl ⟨by rfl, ?_⟩) (by assumption) ?_
  rotate_left
  · (intro w hSw; (try dsimp only at hSw); go_simp <;> with_reducible rfl)
  try simp only [Act.put, List.setIfInBounds_toArray, List.set_cons_zero, List.set_cons_succ]
  refine take_lit (i := 3) (v := ?_) rfl (by kernel_rfl) (by kernel_rfl) (by kernel_rfl) (fun _ _ _ h => h) (Or.inl ⟨by rfl, ?_⟩) (by assumption) ?_
  rotate_left
  · (intro w hSw; (try dsimp only at hSw); go_simp <;> with_reducible rfl)
  try simp only [Act.put, List.setIfInBounds_toArray, List.set_cons_zero, List.set_cons_succ]
  refine take_lit (i := 4) (v := ?_) rfl (by kernel_rfl) (by kernel_rfl) (by kernel_rfl) (fun _ _ _ h => h) (Or.inl ⟨by rfl, ?_⟩) (by assumption) ?_
  rotate_left
  · (intro w hSw; (try dsimp only at hSw); go_simp <;> with_reducible rfl)
  try simp only [Act.put, List.setIfInBounds_toArray, List.set_cons_zero, List.set_cons_succ]
  refine take_lit (i := 6) (v := ?_) rfl (by kernel_rfl) (by kernel_rfl) (by kernel_rfl) (fun _ _ _ h => h) (Or.inl ⟨by rfl, ?_⟩) (by assumption) ?_
  rotate_left
  · (intro w hSw; (try dsimp only at hSw); go_simp <;> with_reducible rfl)
  try simp only [Act.put, List.setIfInBounds_toArray, List.set_cons_zero, List.set_cons_succ]
  refine wpAnyH_ready (rs := [5]) (by kernel_rfl) (by simp) ?_
  refine cons_lit rfl (fun K hK => ?_) ?_
  · go_simp
    refine (hN _).mono ?_
    rintro e w5 ⟨rfl, rfl⟩
    refine hK.out _ _ ?_ (fun hHeld => ?_)
    · exact hHeld
    clear hK K
    try simp only [Act.put, List.setIfInBounds_toArray, List.set_cons_zero, List.set_cons_succ]
    refine take_lit (i := 7) (v := ?_) rfl (by kernel_rfl) (by kernel_rfl) (by kernel_rfl) (fun _ _ _ h => h) (Or.inl ⟨by rfl, ?_⟩) (by assumption) ?_
    rotate_left
    · (intro w hSw; (try dsimp only at hSw); go_simp <;> with_reducible rfl)
    try simp only [Act.put, List.setIfInBounds_toArray, List.set_cons_zero, List.set_cons_succ]
    refine take_lit (i := 8) (v := ?_) rfl (by kernel_rfl) (by kernel_rfl) (by kernel_rfl) (fun _ _ _ h => h) (Or.inl ⟨by rfl, ?_⟩) (by assumption) ?_
    rotate_left
    · (intro w hSw; (try dsimp only at hSw); go_simp <;> with_reducible rfl)
    try simp only [Act.put, List.setIfInBounds_toArray, List.set_cons_zero, List.set_cons_succ]
    refine take_lit (i := 9) (v := ?_) rfl (by kernel_rfl) (by kernel_rfl) (by kernel_rfl) (fun _ _ _ h => h) (Or.inl ⟨by rfl, ?_⟩) (by assumption) ?_
    rotate_left
    · (intro w hSw; (try dsimp only at hSw); go_simp <;> with_reducible rfl)
    try simp only [Act.put, List.setIfInBounds_toArray, List.set_cons_zero, List.set_cons_succ]
    refine take_lit (i := 10) rfl (by kernel_rfl) (by kernel_rfl) (by kernel_rfl) (fun _ _ _ h => h) (yA a (fun w h => h.2.1) (by rfl) rfl rfl) (by assumption) ?_
    try simp only [Act.put, List.setIfInBounds_toArray, List.set_cons_zero, List.set_cons_succ]
    refine take_lit (i := 12) rfl (by kernel_rfl) (by kernel_rfl) (by kernel_rfl) (fun _ _ _ h => h) (yA a (fun w h => h.2.1) (by rfl) rfl rfl) (by assumption) ?_
    try simp only [Act.put, List.setIfInBounds_toArray, List.set_cons_zero, List.set_cons_succ]
    refine wpAnyH_ready (rs := [11]) (by kernel_rfl) (by simp) ?_
    refine cons_lit rfl (fun K hK => ?_) ?_
    · go_simp
      refine (hF _).mono ?_
      rintro e w6 ⟨rfl, hB1⟩
      refine hK.out _ _ ?_ (fun hHeld => ?_)
      · exact HK.out _ _ hHeld hB1
      clear hK K
      try simp only [Act.put, List.setIfInBounds_toArray, List.set_cons_zero, List.set_cons_succ]
      refine wpAnyH_ready (rs := [13]) (by kernel_rfl) (by simp) ?_
      refine cons_lit rfl (fun K hK => ?_) ?_
      · go_simp
        refine (hF2 _).mono ?_
        rintro e w7 ⟨rfl, hB1⟩
        refine hK.out _ _ ?_ (fun hHeld => ?_)
        · exact HK.out _ _ hHeld hB1
        clear hK K
        try simp only [Act.put, List.setIfInBounds_toArray, List.set_cons_zero, List.set_cons_succ]
        refine take_lit (i := 14) (v := ?_) rfl (by kernel_rfl) (by kernel_rfl) (by kernel_rfl) (fun _ _ _ h => h) (Or.inl ⟨by rfl, ?_⟩) (by assumption) ?_
        rotate_left
        · (intro w hSw; (try dsimp only at hSw); go_simp <;> with_reducible rfl)
        try simp only [Act.put, List.setIfInBounds_toArray, List.set_cons_zero, List.set_cons_succ]
        refine take_lit (i := 15) (v := ?_) rfl (by kernel_rfl) (by kernel_rfl) (by kernel_rfl) (fun _ _ _ h => h) (Or.inl ⟨by rfl, ?_⟩) (by assumption) ?_
        rotate_left
        · (intro w hSw; (try dsimp only at hSw); go_simp <;> with_reducible rfl)
        try simp only [Act.put, List.setIfInBounds_toArray, List.set_cons_zero, List.set_cons_succ]
        refine take_lit (i := 16) (v := ?_) rfl (by kernel_rfl) (by kernel_rfl) (by kernel_rfl) (fun _ _ _ h => h) (Or.inl ⟨by rfl, ?_⟩) (by assumption) ?_
        rotate_left
        · (intro w hSw; (try dsimp only at hSw); go_simp <;> with_reducible rfl)
        try simp only [Act.put, List.setIfInBounds_toArray, List.set_cons_zero, List.set_cons_succ]
        refine take_lit (i := 17) rfl (by kernel_rfl) (by kernel_rfl) (by kernel_rfl) (fun _ _ _ h => h) (yA a (fun w h => h.2.1) (by rfl) rfl rfl) (by assumption) ?_
        try simp only [Act.put, List.setIfInBounds_toArray, List.set_cons_zero, List.set_cons_succ]
        refine take_lit (i := 19) rfl (by kernel_rfl) (by kernel_rfl) (by kernel_rfl) (fun _ _ _ h => h) (yA a (fun w h => h.2.1) (by rfl) rfl rfl) (by assumption) ?_
        try simp only [Act.put, List.setIfInBounds_toArray, List.set_cons_zero, List.set_cons_succ]
        refine wpAnyH_ready (rs := [18]) (by kernel_rfl) (by simp) ?_
        refine cons_lit rfl (fun K hK => ?_) ?_
        · go_simp
          have hh := HG.out _ hHeld.1
          refine (hpr _ hh.1 hh.2.1 hh.2.2).mono ?_
          rintro e w8 ⟨rfl, hB1⟩
          refine hK.out _ _ ?_ (fun hHeld => ?_)
          · exact HK.out _ _ hHeld hB1
          clear hK K
          try simp only [Act.put, List.setIfInBounds_toArray, List.set_cons_zero, List.set_cons_succ]
          refine wpAnyH_ready (rs := [20]) (by kernel_rfl) (by simp) ?_
          refine cons_lit rfl (fun K hK => ?_) ?_
          · go_simp
            refine (hpr2 _).mono ?_
            rintro e w9 ⟨rfl, hB1⟩
            refine hK.out _ _ ?_ (fun hHeld => ?_)
            · exact HK.out _ _ hHeld hB1
            clear hK K
            try simp only [Act.put, List.setIfInBounds_toArray, List.set_cons_zero, List.set_cons_succ]
            refine take_lit (i := 21) (v := ?_) rfl (by kernel_rfl) (by kernel_rfl) (by kernel_rfl) (fun _ _ _ h => h) (Or.inl ⟨by rfl, ?_⟩) (by assumption) ?_
            rotate_left
            · (intro w hSw; (try dsimp only at hSw); go_simp <;> with_reducible rfl)
            try simp only [Act.put, List.setIfInBounds_toArray, List.set_cons_zero, List.set_cons_succ]
            refine take_lit (i := 22) (v := ?_) rfl (by kernel_rfl) (by kernel_rfl) (by kernel_rfl) (fun _ _ _ h => h) (Or.inl ⟨by rfl, ?_⟩) (by assumption) ?_
            rotate_left
            · (intro w hSw; (try dsimp only at hSw); go_simp <;> with_reducible rfl)
            try simp only [Act.put, List.setIfInBounds_toArray, List.set_cons_zero, List.set_cons_succ]
            refine take_lit (i := 23) (v := ?_) rfl (by kernel_rfl) (by kernel_rfl) (by kernel_rfl) (fun _ _ _ h => h) (Or.inl ⟨by rfl, ?_⟩) (by assumption) ?_
            rotate_left
            · (intro w hSw; (try dsimp only at hSw); go_simp <;> with_reducible rfl)
            try simp only [Act.put, List.setIfInBounds_toArray, List.set_cons_zero, List.set_cons_succ]
            refine wpAnyH_ready (rs := [24]) (by kernel_rfl) (by simp) ?_
            refine cons_lit rfl (fun K hK => ?_) ?_
            · go_simp
              refine (hL _ hHeld.1).mono ?_
              rintro e w10 ⟨rfl, hB1⟩
              refine hK.out _ _ ?_ (fun hHeld => ?_)
              · exact HK.out _ _ hHeld hB1
              clear hK K
              try simp only [Act.put, List.setIfInBounds_toArray, List.set_cons_zero, List.set_cons_succ]
              refine take_lit (i := 25) (v := ?_) rfl (by kernel_rfl) (by kernel_rfl) (by kernel_rfl) (fun _ _ _ h => h) (Or.inl ⟨by rfl, ?_⟩) (by assumption) ?_
              rotate_left
              · (intro w hSw; (try dsimp only at hSw); go_simp <;> with_reducible rfl)
              try simp only [Act.put, List.setIfInBounds_toArray, List.set_cons_zero, List.set_cons_succ]
              refine take_lit (i := 26) (v := ?_) rfl (by kernel_rfl) (by kernel_rfl) (by kernel_rfl) (fun _ _ _ h => h) (Or.inl ⟨by rfl, ?_⟩) (by assumption) ?_
              rotate_left
              · (intro w hSw; (try dsimp only at hSw); go_simp <;> with_reducible rfl)
              try simp only [Act.put, List.setIfInBounds_toArray, List.set_cons_zero, List.set_cons_succ]
              refine wpAnyH_done (by kernel_rfl) ?_ _
              refine NoPanic.normal ?_
              go_wp2
              go_ret
              exact ⟨rfl, hHeld.1⟩
            exact AllReadyH.nil
          exact AllReadyH.nil
        exact AllReadyH.nil
      exact AllReadyH.nil
    exact AllReadyH.nil
  exact AllReadyH.nil
end Go.Proofs.YtimpopolkofdgaaGreatDoor
