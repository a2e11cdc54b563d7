/-
  Best of package addr, for every list of pairs in memory.
-/
import Derived.Test.YtimpopolkofdgaaGreatDoorMatch
namespace Go.Proofs.YtimpopolkofdgaaGreatDoor
open Go.RowKit
set_option linter.unusedSimpArgs false
set_option maxRecDepth 20000

/-- Is q better than what there is? -/
def better (qs : List Pr) (q : Pr) (s : Nat × Bool) : Bool := !s.2 || (match qs[s.1]? with | some r => lon q r | none => false)
/-- The best of the first j pairs: its place, and whether there is one. -/
def bst (qs : List Pr) (src dst : Ad) : Nat → Nat × Bool
  | 0 => (0, false)
  | j + 1 => match qs[j]? with
    | some q => if (mat q src dst && better qs q (bst qs src dst j)) = true then (j, true) else bst qs src dst j
    | none => bst qs src dst j
theorem bst_succ {qs : List Pr} {src dst : Ad} {j : Nat} {q : Pr} (h : qs[j]? = some q) : bst qs src dst (j + 1) = if (mat q src dst && better qs q (bst qs src dst j)) = true then (j, true) else bst qs src dst j := by
  rw [bst, h]
theorem bst_lt (qs : List Pr) (src dst : Ad) : ∀ j, j ≤ qs.length → (bst qs src dst j).1 < j ∨ (bst qs src dst j) = (0, false)
  | 0, _ => .inr rfl
  | j + 1, h => by
    have ih := bst_lt qs src dst j (by omega)
    rw [bst_succ (List.getElem?_eq_getElem (show j < qs.length by omega))]
    generalize (mat _ src dst && _) = c
    cases c
    · rcases ih with ih | ih
      · exact .inl (by simp; omega)
      · exact .inr (by simpa using ih)
    · exact .inl (by simp)
theorem storedQ (w : World) (cs : List Value) (t : TypeId) (q : Pr) (h : cs.length = 34) : Below w.heap.size w ((w.alloc (.cells cs.toArray t)).setCells w.heap.size 0 (qcells q)) ∧ LQ ((w.alloc (.cells cs.toArray t)).setCells w.heap.size 0 (qcells q)) w.heap.size 0 q ∧ w.heap.size < ((w.alloc (.cells cs.toArray t)).setCells w.heap.size 0 (qcells q)).heap.size := by
  have ht : (w.alloc (.cells cs.toArray t)).there w.heap.size 0 34 := Row.there (Row.new w t cs) (by omega)
  have hl := LQ.stored (c := q) ht
  refine ⟨below_setCells _ (Nat.le_refl _) _ _ _ (ba w _), hl, ?_⟩
  exact World.block_lt_of_cell? _ ⟨w.heap.size, 0 + 16, none⟩ hl.d.n
theorem storedP (w : World) (cs : List Value) (t : TypeId) (q : Pf) (h : cs.length = 17) : Below w.heap.size w ((w.alloc (.cells cs.toArray t)).setCells w.heap.size 0 (pcells q)) ∧ LP ((w.alloc (.cells cs.toArray t)).setCells w.heap.size 0 (pcells q)) w.heap.size 0 q ∧ w.heap.size < ((w.alloc (.cells cs.toArray t)).setCells w.heap.size 0 (pcells q)).heap.size := by
  have ht : (w.alloc (.cells cs.toArray t)).there w.heap.size 0 17 := Row.there (Row.new w t cs) (by omega)
  have hl := LP.stored (c := q) ht
  refine ⟨below_setCells _ (Nat.le_refl _) _ _ _ (ba w _), hl, ?_⟩
  exact World.block_lt_of_cell? _ ⟨w.heap.size, 0 + 16, none⟩ hl.n
theorem storedA (w : World) (cs : List Value) (t : TypeId) (q : Ad) (h : cs.length = 16) : Below w.heap.size w ((w.alloc (.cells cs.toArray t)).setCells w.heap.size 0 (acells q)) ∧ LA ((w.alloc (.cells cs.toArray t)).setCells w.heap.size 0 (acells q)) w.heap.size 0 q ∧ w.heap.size < ((w.alloc (.cells cs.toArray t)).setCells w.heap.size 0 (acells q)).heap.size := by
  have ht : (w.alloc (.cells cs.toArray t)).there w.heap.size 0 16 := Row.there (Row.new w t cs) (by omega)
  have hl := LA.stored (c := q) ht
  refine ⟨below_setCells _ (Nat.le_refl _) _ _ _ (ba w _), hl, ?_⟩
  have hz : ∃ v, (acells q)[0]? = some v := ⟨_, List.getElem?_eq_getElem (by rw [acells_len]; omega)⟩
  obtain ⟨v, hv⟩ := hz
  exact World.block_lt_of_cell? _ ⟨w.heap.size, 0 + 0, none⟩ (hl 0 v hv)
theorem best_any (src dst : Ad) (g o n c : Nat) (qs : List Pr) (w : World) (hn : qs.length = n) (hq : ∀ j q, qs[j]? = some q → LQ w g (o + j * 34) q) (hg : g < w.heap.size) (hmax : n < 1000000) :
    Calls Tryz.prog 36 #[(Value.agg (acells src).toArray), (Value.agg (acells dst).toArray), .slice (some ⟨g, o, none⟩) n c] w fun e w' => e = .returned (.tuple #[.int .i64 ((bst qs src dst n).1 : Int), .bool (bst qs src dst n).2]) ∧ Below w.heap.size w w' := by
  have HN : Hid (qs.length = n) := hn
  clear hn
  have hS : LA ((w.alloc (.cells (acells src).toArray 23)).alloc (.cells (acells dst).toArray 23)) w.heap.size 0 src := (LA.new w src _).alloc _
  have hD : LA ((w.alloc (.cells (acells src).toArray 23)).alloc (.cells (acells dst).toArray 23)) (w.heap.size + 1) 0 dst := by
    have := LA.new (w.alloc (.cells (acells src).toArray 23)) dst 23
    simpa using this
  have hB0 : Below w.heap.size w ((w.alloc (.cells (acells src).toArray 23)).alloc (.cells (acells dst).toArray 23)) := bt (ba _ _) (ba _ _)
  go_enter Tryz.func36, Tryz.ntmps36
  go_wp2
  go_loopw [14, 8, 9] (fun i k b wr => ∃ j : Nat, j ≤ n ∧ i = .int .i64 j ∧ k = .int .i64 ((bst qs src dst j).1 : Int) ∧ b = .bool (bst qs src dst j).2 ∧ Below w.heap.size w wr ∧ LA wr w.heap.size 0 src ∧ LA wr (w.heap.size + 1) 0 dst ∧ w.heap.size + 1 < wr.heap.size) (fun i _ _ _ => n - (intOf i).toNat)
  case atStart => exact ⟨0, Nat.zero_le _, rfl, rfl, rfl, hB0, hS, hD, by simp⟩
  case round =>
    clear hS hD hB0
    obtain ⟨j, hj, rfl, rfl, rfl, hB, hS, hD, hs⟩ := hrel
    by_cases hlt : j < n
    · obtain ⟨q, hqj⟩ : ∃ q, qs[j]? = some q := ⟨_, List.getElem?_eq_getElem (by rw [HN.out]; exact hlt)⟩
      have hQ : LQ wr g (o + j * 34) q := (hq j q hqj).below hB hg
      have hlt' : (j : Int) < (n : Int) := by omega
      go_wp2_with (first
        | (refine ldQ (.tmp 17) rfl rfl _ _ q rfl hQ ?_)
        | (refine stQ (.tmp 11) (.tmp 18) rfl rfl _ _ q rfl rfl (Row.there (Row.new _ _ _) (by simp)) ?_))
      simp only [Act.put]
      obtain ⟨m, hm⟩ : ∃ m, mat q src dst = m := ⟨_, rfl⟩
      have hMat := matches_any q src dst
      rw [hm] at hMat
      have hb := bst_lt qs src dst j (by rw [HN.out]; exact hj)
      have HS := @bst_succ qs src dst j q hqj
      rw [hm] at HS
      generalize hk : bst qs src dst j = kb at *
      obtain ⟨k, ok⟩ := kb
      dsimp only at HS hb ⊢
      have HS' : Hid (bst qs src dst (j + 1) = if (m && better qs q (k, ok)) = true then (j, true) else (k, ok)) := HS
      clear HS
      refine name_world (R := fun W => Code.wp _ _ _ _ W) (P := fun W => Below wr.heap.size wr W ∧ LQ W wr.heap.size 0 q ∧ wr.heap.size < W.heap.size) _ (storedQ wr _ _ q (by simp)) ?_
      rintro Y ⟨hb2, hQY, hrY⟩
      have hBY := hB.trans (hb2.mono hB.size)
      have hSY := hS.below hb2 (show w.heap.size < _ by omega)
      have hDY := hD.below hb2 hs
      have hsY : w.heap.size + 1 < Y.heap.size := Nat.lt_of_lt_of_le hs hb2.size
      clear hS hD hQ hm
      have HK : Hid (∀ W, Below Y.heap.size Y W → Below Y.heap.size Y W ∧ LQ W wr.heap.size 0 q ∧ LA W w.heap.size 0 src ∧ LA W (w.heap.size + 1) 0 dst) :=
        fun W h => ⟨h, hQY.below h hrY, hSY.below h (by omega), hDY.below h hsY⟩
      cases m with
      | false =>
        refine wp_region_noPanic ?_
        refine wp_region_held_drew (S := fun W => Below Y.heap.size Y W ∧ LQ W wr.heap.size 0 q ∧ LA W w.heap.size 0 src ∧ LA W (w.heap.size + 1) 0 dst) (by kernel_rfl) (HK.out _ (Below.refl _ _).drew) (fun hHeld => ?_)
        refine take_lit (i := 0) rfl (by kernel_rfl) (by kernel_rfl) (by kernel_rfl) (fun _ _ _ h => h) (yQ q (fun w h => h.2.1) (by rfl) rfl rfl) (by assumption) ?_
        try simp only [Act.put, List.setIfInBounds_toArray, List.set_cons_zero, List.set_cons_succ]
        refine take_lit (i := 1) rfl (by kernel_rfl) (by kernel_rfl) (by kernel_rfl) (fun _ _ _ h => h) (yA src (fun w h => h.2.2.1) (by rfl) rfl rfl) (by assumption) ?_
        try simp only [Act.put, List.setIfInBounds_toArray, List.set_cons_zero, List.set_cons_succ]
        refine take_lit (i := 2) rfl (by kernel_rfl) (by kernel_rfl) (by kernel_rfl) (fun _ _ _ h => h) (yA dst (fun w h => h.2.2.2) (by rfl) rfl rfl) (by assumption) ?_
        try simp only [Act.put, List.setIfInBounds_toArray, List.set_cons_zero, List.set_cons_succ]
        refine wpAnyH_ready (rs := [3]) (by kernel_rfl) (by simp) ?_
        refine cons_lit rfl (fun K hK => ?_) ?_
        · go_simp
          refine (hMat _).mono ?_
          rintro e w1 ⟨rfl, hB1⟩
          refine hK.out _ _ ?_ (fun hHeld => ?_)
          · exact HK.out _ (hHeld.1.trans (hB1.mono hHeld.1.size))
          clear hK K
          try simp only [Act.put, List.setIfInBounds_toArray, List.set_cons_zero, List.set_cons_succ]
          refine take_lit (i := 4) (v := ?_) rfl (by kernel_rfl) (by kernel_rfl) (by kernel_rfl) (fun _ _ _ h => h) (Or.inl ⟨by rfl, ?_⟩) (by assumption) ?_
          rotate_left
          · (intro w hSw; (try dsimp only at hSw); go_simp <;> with_reducible rfl)
          try simp only [Act.put, List.setIfInBounds_toArray, List.set_cons_zero, List.set_cons_succ]
          refine take_lit (i := 5) rfl (by kernel_rfl) (by kernel_rfl) (by kernel_rfl) (fun _ _ _ h => h) (Or.inr ⟨by rfl, rfl⟩) (by assumption) ?_
          try simp only [Act.put, List.setIfInBounds_toArray, List.set_cons_zero, List.set_cons_succ]
          refine take_lit (i := 6) rfl (by kernel_rfl) (by kernel_rfl) (by kernel_rfl) (fun _ _ _ h => h) (Or.inr ⟨by rfl, rfl⟩) (by assumption) ?_
          try simp only [Act.put, List.setIfInBounds_toArray, List.set_cons_zero, List.set_cons_succ]
          refine take_lit (i := 7) rfl (by kernel_rfl) (by kernel_rfl) (by kernel_rfl) (fun _ _ _ h => h) (Or.inr ⟨by rfl, rfl⟩) (by assumption) ?_
          try simp only [Act.put, List.setIfInBounds_toArray, List.set_cons_zero, List.set_cons_succ]
          refine take_lit (i := 8) rfl (by kernel_rfl) (by kernel_rfl) (by kernel_rfl) (fun _ _ _ h => h) (Or.inr ⟨by rfl, rfl⟩) (by assumption) ?_
          try simp only [Act.put, List.setIfInBounds_toArray, List.set_cons_zero, List.set_cons_succ]
          refine take_lit (i := 9) rfl (by kernel_rfl) (by kernel_rfl) (by kernel_rfl) (fun _ _ _ h => h) (Or.inr ⟨by rfl, rfl⟩) (by assumption) ?_
          try simp only [Act.put, List.setIfInBounds_toArray, List.set_cons_zero, List.set_cons_succ]
          refine take_lit (i := 10) rfl (by kernel_rfl) (by kernel_rfl) (by kernel_rfl) (fun _ _ _ h => h) (Or.inr ⟨by rfl, rfl⟩) (by assumption) ?_
          try simp only [Act.put, List.setIfInBounds_toArray, List.set_cons_zero, List.set_cons_succ]
          refine take_lit (i := 11) rfl (by kernel_rfl) (by kernel_rfl) (by kernel_rfl) (fun _ _ _ h => h) (Or.inr ⟨by rfl, rfl⟩) (by assumption) ?_
          try simp only [Act.put, List.setIfInBounds_toArray, List.set_cons_zero, List.set_cons_succ]
          refine take_lit (i := 12) rfl (by kernel_rfl) (by kernel_rfl) (by kernel_rfl) (fun _ _ _ h => h) (Or.inr ⟨by rfl, rfl⟩) (by assumption) ?_
          try simp only [Act.put, List.setIfInBounds_toArray, List.set_cons_zero, List.set_cons_succ]
          refine take_lit (i := 13) rfl (by kernel_rfl) (by kernel_rfl) (by kernel_rfl) (fun _ _ _ h => h) (Or.inr ⟨by rfl, rfl⟩) (by assumption) ?_
          try simp only [Act.put, List.setIfInBounds_toArray, List.set_cons_zero, List.set_cons_succ]
          refine take_lit (i := 14) rfl (by kernel_rfl) (by kernel_rfl) (by kernel_rfl) (fun _ _ _ h => h) (Or.inr ⟨by rfl, rfl⟩) (by assumption) ?_
          try simp only [Act.put, List.setIfInBounds_toArray, List.set_cons_zero, List.set_cons_succ]
          refine take_lit (i := 15) (v := ?_) rfl (by kernel_rfl) (by kernel_rfl) (by kernel_rfl) (fun _ _ _ h => h) (Or.inl ⟨by rfl, ?_⟩) (by assumption) ?_
          rotate_left
          · (intro w hSw; (try dsimp only at hSw); go_simp <;> with_reducible rfl)
          try simp only [Act.put, List.setIfInBounds_toArray, List.set_cons_zero, List.set_cons_succ]
          refine wpAnyH_done (by kernel_rfl) ?_ _
          refine NoPanic.normal ?_
          go_wp2
          go_roundw
          case rel => exact ⟨j + 1, by omega, by go_num, by rw [HS'.out]; simp [better], by rw [HS'.out]; simp [better], hBY.trans (hHeld.1.mono (by omega)), hHeld.2.2.1, hHeld.2.2.2, Nat.lt_of_lt_of_le hsY hHeld.1.size⟩
          case measure => simp [intOf]; omega
        exact AllReadyH.nil
      | true =>
        cases ok with
        | false =>
          refine wp_region_noPanic ?_
          refine wp_region_held_drew (S := fun W => Below Y.heap.size Y W ∧ LQ W wr.heap.size 0 q ∧ LA W w.heap.size 0 src ∧ LA W (w.heap.size + 1) 0 dst) (by kernel_rfl) (HK.out _ (Below.refl _ _).drew) (fun hHeld => ?_)
          refine take_lit (i := 0) rfl (by kernel_rfl) (by kernel_rfl) (by kernel_rfl) (fun _ _ _ h => h) (yQ q (fun w h => h.2.1) (by rfl) rfl rfl) (by assumption) ?_
          try simp only [Act.put, List.setIfInBounds_toArray, List.set_cons_zero, List.set_cons_succ]
          refine take_lit (i := 1) rfl (by kernel_rfl) (by kernel_rfl) (by kernel_rfl) (fun _ _ _ h => h) (yA src (fun w h => h.2.2.1) (by rfl) rfl rfl) (by assumption) ?_
          try simp only [Act.put, List.setIfInBounds_toArray, List.set_cons_zero, List.set_cons_succ]
          refine take_lit (i := 2) rfl (by kernel_rfl) (by kernel_rfl) (by kernel_rfl) (fun _ _ _ h => h) (yA dst (fun w h => h.2.2.2) (by rfl) rfl rfl) (by assumption) ?_
          try simp only [Act.put, List.setIfInBounds_toArray, List.set_cons_zero, List.set_cons_succ]
          refine wpAnyH_ready (rs := [3]) (by kernel_rfl) (by simp) ?_
          refine cons_lit rfl (fun K hK => ?_) ?_
          · go_simp
            refine (hMat _).mono ?_
            rintro e w1 ⟨rfl, hB1⟩
            refine hK.out _ _ ?_ (fun hHeld => ?_)
            · exact HK.out _ (hHeld.1.trans (hB1.mono hHeld.1.size))
            clear hK K
            try simp only [Act.put, List.setIfInBounds_toArray, List.set_cons_zero, List.set_cons_succ]
            refine take_lit (i := 4) (v := ?_) rfl (by kernel_rfl) (by kernel_rfl) (by kernel_rfl) (fun _ _ _ h => h) (Or.inl ⟨by rfl, ?_⟩) (by assumption) ?_
            rotate_left
            · (intro w hSw; (try dsimp only at hSw); go_simp <;> with_reducible rfl)
            try simp only [Act.put, List.setIfInBounds_toArray, List.set_cons_zero, List.set_cons_succ]
            refine take_lit (i := 5) (v := ?_) rfl (by kernel_rfl) (by kernel_rfl) (by kernel_rfl) (fun _ _ _ h => h) (Or.inl ⟨by rfl, ?_⟩) (by assumption) ?_
            rotate_left
            · (intro w hSw; (try dsimp only at hSw); go_simp <;> with_reducible rfl)
            try simp only [Act.put, List.setIfInBounds_toArray, List.set_cons_zero, List.set_cons_succ]
            refine take_lit (i := 6) (v := ?_) rfl (by kernel_rfl) (by kernel_rfl) (by kernel_rfl) (fun _ _ _ h => h) (Or.inl ⟨by rfl, ?_⟩) (by assumption) ?_
            rotate_left
            · (intro w hSw; (try dsimp only at hSw); go_simp <;> with_reducible rfl)
            try simp only [Act.put, List.setIfInBounds_toArray, List.set_cons_zero, List.set_cons_succ]
            refine take_lit (i := 7) (v := ?_) rfl (by kernel_rfl) (by kernel_rfl) (by kernel_rfl) (fun _ _ _ h => h) (Or.inl ⟨by rfl, ?_⟩) (by assumption) ?_
            rotate_left
            · (intro w hSw; (try dsimp only at hSw); go_simp <;> with_reducible rfl)
            try simp only [Act.put, List.setIfInBounds_toArray, List.set_cons_zero, List.set_cons_succ]
            refine take_lit (i := 8) rfl (by kernel_rfl) (by kernel_rfl) (by kernel_rfl) (fun _ _ _ h => h) (Or.inr ⟨by rfl, rfl⟩) (by assumption) ?_
            try simp only [Act.put, List.setIfInBounds_toArray, List.set_cons_zero, List.set_cons_succ]
            refine take_lit (i := 9) rfl (by kernel_rfl) (by kernel_rfl) (by kernel_rfl) (fun _ _ _ h => h) (Or.inr ⟨by rfl, rfl⟩) (by assumption) ?_
            try simp only [Act.put, List.setIfInBounds_toArray, List.set_cons_zero, List.set_cons_succ]
            refine take_lit (i := 10) rfl (by kernel_rfl) (by kernel_rfl) (by kernel_rfl) (fun _ _ _ h => h) (Or.inr ⟨by rfl, rfl⟩) (by assumption) ?_
            try simp only [Act.put, List.setIfInBounds_toArray, List.set_cons_zero, List.set_cons_succ]
            refine take_lit (i := 11) rfl (by kernel_rfl) (by kernel_rfl) (by kernel_rfl) (fun _ _ _ h => h) (Or.inr ⟨by rfl, rfl⟩) (by assumption) ?_
            try simp only [Act.put, List.setIfInBounds_toArray, List.set_cons_zero, List.set_cons_succ]
            refine take_lit (i := 12) rfl (by kernel_rfl) (by kernel_rfl) (by kernel_rfl) (fun _ _ _ h => h) (Or.inr ⟨by rfl, rfl⟩) (by assumption) ?_
            try simp only [Act.put, List.setIfInBounds_toArray, List.set_cons_zero, List.set_cons_succ]
            refine take_lit (i := 13) rfl (by kernel_rfl) (by kernel_rfl) (by kernel_rfl) (fun _ _ _ h => h) (Or.inr ⟨by rfl, rfl⟩) (by assumption) ?_
            try simp only [Act.put, List.setIfInBounds_toArray, List.set_cons_zero, List.set_cons_succ]
            refine take_lit (i := 14) (v := ?_) rfl (by kernel_rfl) (by kernel_rfl) (by kernel_rfl) (fun _ _ _ h => h) (Or.inl ⟨by rfl, ?_⟩) (by assumption) ?_
            rotate_left
            · (intro w hSw; (try dsimp only at hSw); go_simp <;> with_reducible rfl)
            try simp only [Act.put, List.setIfInBounds_toArray, List.set_cons_zero, List.set_cons_succ]
            refine take_lit (i := 15) (v := ?_) rfl (by kernel_rfl) (by kernel_rfl) (by kernel_rfl) (fun _ _ _ h => h) (Or.inl ⟨by rfl, ?_⟩) (by assumption) ?_
            rotate_left
            · (intro w hSw; (try dsimp only at hSw); go_simp <;> with_reducible rfl)
            try simp only [Act.put, List.setIfInBounds_toArray, List.set_cons_zero, List.set_cons_succ]
            refine wpAnyH_done (by kernel_rfl) ?_ _
            refine NoPanic.normal ?_
            go_wp2
            go_roundw
            case rel => exact ⟨j + 1, by omega, by go_num, by rw [HS'.out]; simp [better], by rw [HS'.out]; simp [better], hBY.trans (hHeld.1.mono (by omega)), hHeld.2.2.1, hHeld.2.2.2, Nat.lt_of_lt_of_le hsY hHeld.1.size⟩
            case measure => simp [intOf]; omega
          exact AllReadyH.nil
        | true =>
          have hkj : k < j := by
            rcases hb with hb | hb
            · exact hb
            · cases hb
          obtain ⟨r, hr⟩ : ∃ r, qs[k]? = some r := ⟨_, List.getElem?_eq_getElem (by rw [HN.out]; omega)⟩
          have hRY : LQ Y g (o + k * 34) r := (hq k r hr).below hBY hg
          have HK2 : Hid (∀ W, Below Y.heap.size Y W → Below Y.heap.size Y W ∧ LQ W wr.heap.size 0 q ∧ LA W w.heap.size 0 src ∧ LA W (w.heap.size + 1) 0 dst ∧ LQ W g (o + k * 34) r) :=
            fun W h => ⟨h, hQY.below h hrY, hSY.below h (by omega), hDY.below h hsY, hRY.below h (Nat.lt_of_lt_of_le hg hBY.size)⟩
          have hLon := longer_any q r
          obtain ⟨l, hl⟩ : ∃ l, lon q r = l := ⟨_, rfl⟩
          rw [hl] at hLon
          have HS2 : Hid (bst qs src dst (j + 1) = if l = true then (j, true) else (k, true)) := by
            show _ = _
            rw [HS'.out]; simp [better, hr, hl]
          have k0 : (0 : Int) ≤ (k : Int) := by omega
          have k1 : (k : Int) < (n : Int) := by omega
          clear hb hr hl
          cases l with
          | false =>
            refine wp_region_noPanic ?_
            refine wp_region_held_drew (S := fun W => Below Y.heap.size Y W ∧ LQ W wr.heap.size 0 q ∧ LA W w.heap.size 0 src ∧ LA W (w.heap.size + 1) 0 dst ∧ LQ W g (o + k * 34) r) (by kernel_rfl) (HK2.out _ (Below.refl _ _).drew) (fun hHeld => ?_)
            refine take_lit (i := 0) rfl (by kernel_rfl) (by kernel_rfl) (by kernel_rfl) (fun _ _ _ h => h) (yQ q (fun w h => h.2.1) (by rfl) rfl rfl) (by assumption) ?_
            try simp only [Act.put, List.setIfInBounds_toArray, List.set_cons_zero, List.set_cons_succ]
            refine take_lit (i := 1) rfl (by kernel_rfl) (by kernel_rfl) (by kernel_rfl) (fun _ _ _ h => h) (yA src (fun w h => h.2.2.1) (by rfl) rfl rfl) (by assumption) ?_
            try simp only [Act.put, List.setIfInBounds_toArray, List.set_cons_zero, List.set_cons_succ]
            refine take_lit (i := 2) rfl (by kernel_rfl) (by kernel_rfl) (by kernel_rfl) (fun _ _ _ h => h) (yA dst (fun w h => h.2.2.2.1) (by rfl) rfl rfl) (by assumption) ?_
            try simp only [Act.put, List.setIfInBounds_toArray, List.set_cons_zero, List.set_cons_succ]
            refine wpAnyH_ready (rs := [3]) (by kernel_rfl) (by simp) ?_
            refine cons_lit rfl (fun K hK => ?_) ?_
            · go_simp
              refine (hMat _).mono ?_
              rintro e w1 ⟨rfl, hB1⟩
              refine hK.out _ _ ?_ (fun hHeld => ?_)
              · exact HK2.out _ (hHeld.1.trans (hB1.mono hHeld.1.size))
              clear hK K
              try simp only [Act.put, List.setIfInBounds_toArray, List.set_cons_zero, List.set_cons_succ]
              refine take_lit (i := 4) (v := ?_) rfl (by kernel_rfl) (by kernel_rfl) (by kernel_rfl) (fun _ _ _ h => h) (Or.inl ⟨by rfl, ?_⟩) (by assumption) ?_
              rotate_left
              · (intro w hSw; (try dsimp only at hSw); go_simp <;> with_reducible rfl)
              try simp only [Act.put, List.setIfInBounds_toArray, List.set_cons_zero, List.set_cons_succ]
              refine take_lit (i := 5) (v := ?_) rfl (by kernel_rfl) (by kernel_rfl) (by kernel_rfl) (fun _ _ _ h => h) (Or.inl ⟨by rfl, ?_⟩) (by assumption) ?_
              rotate_left
              · (intro w hSw; (try dsimp only at hSw); go_simp <;> with_reducible rfl)
              try simp only [Act.put, List.setIfInBounds_toArray, List.set_cons_zero, List.set_cons_succ]
              refine take_lit (i := 6) (v := ?_) rfl (by kernel_rfl) (by kernel_rfl) (by kernel_rfl) (fun _ _ _ h => h) (Or.inl ⟨by rfl, ?_⟩) (by assumption) ?_
              rotate_left
              · (intro w hSw; (try dsimp only at hSw); go_simp <;> with_reducible rfl)
              try simp only [Act.put, List.setIfInBounds_toArray, List.set_cons_zero, List.set_cons_succ]
              refine take_lit (i := 7) (v := ?_) rfl (by kernel_rfl) (by kernel_rfl) (by kernel_rfl) (fun _ _ _ h => h) (Or.inl ⟨by rfl, ?_⟩) (by assumption) ?_
              rotate_left
              · (intro w hSw; (try dsimp only at hSw); go_simp <;> with_reducible rfl)
              try simp only [Act.put, List.setIfInBounds_toArray, List.set_cons_zero, List.set_cons_succ]
              refine take_lit (i := 8) rfl (by kernel_rfl) (by kernel_rfl) (by kernel_rfl) (fun _ _ _ h => h) (yQ q (fun w h => h.2.1) (by rfl) rfl rfl) (by assumption) ?_
              try simp only [Act.put, List.setIfInBounds_toArray, List.set_cons_zero, List.set_cons_succ]
              refine take_lit (i := 9) (v := ?_) rfl (by kernel_rfl) (by kernel_rfl) (by kernel_rfl) (fun _ _ _ h => h) (Or.inl ⟨by rfl, ?_⟩) (by assumption) ?_
              rotate_left
              · (intro w hSw; (try dsimp only at hSw); go_simp <;> with_reducible rfl)
              try simp only [Act.put, List.setIfInBounds_toArray, List.set_cons_zero, List.set_cons_succ]
              refine take_lit (i := 10) (v := ?_) rfl (by kernel_rfl) (by kernel_rfl) (by kernel_rfl) (fun _ _ _ h => h) (Or.inl ⟨by rfl, ?_⟩) (by assumption) ?_
              rotate_left
              · (intro w hSw; (try dsimp only at hSw); go_simp <;> with_reducible rfl)
              try simp only [Act.put, List.setIfInBounds_toArray, List.set_cons_zero, List.set_cons_succ]
              refine take_lit (i := 11) (v := ?_) rfl (by kernel_rfl) (by kernel_rfl) (by kernel_rfl) (fun _ _ _ h => h) (Or.inl ⟨by rfl, ?_⟩) (by assumption) ?_
              rotate_left
              · (intro w hSw; (try dsimp only at hSw); go_simp <;> with_reducible rfl)
              try simp only [Act.put, List.setIfInBounds_toArray, List.set_cons_zero, List.set_cons_succ]
              refine take_lit (i := 12) rfl (by kernel_rfl) (by kernel_rfl) (by kernel_rfl) (fun _ _ _ h => h) (yQ r (fun w h => h.2.2.2.2) (by rfl) rfl rfl) (by assumption) ?_
              try simp only [Act.put, List.setIfInBounds_toArray, List.set_cons_zero, List.set_cons_succ]
              refine wpAnyH_ready (rs := [13]) (by kernel_rfl) (by simp) ?_
              refine cons_lit rfl (fun K hK => ?_) ?_
              · go_simp
                refine (hLon _).mono ?_
                rintro e w2 ⟨rfl, hB2⟩
                refine hK.out _ _ ?_ (fun hHeld => ?_)
                · exact HK2.out _ (hHeld.1.trans (hB2.mono hHeld.1.size))
                clear hK K
                try simp only [Act.put, List.setIfInBounds_toArray, List.set_cons_zero, List.set_cons_succ]
                refine take_lit (i := 14) (v := ?_) rfl (by kernel_rfl) (by kernel_rfl) (by kernel_rfl) (fun _ _ _ h => h) (Or.inl ⟨by rfl, ?_⟩) (by assumption) ?_
                rotate_left
                · (intro w hSw; (try dsimp only at hSw); go_simp <;> with_reducible rfl)
                try simp only [Act.put, List.setIfInBounds_toArray, List.set_cons_zero, List.set_cons_succ]
                refine take_lit (i := 15) (v := ?_) rfl (by kernel_rfl) (by kernel_rfl) (by kernel_rfl) (fun _ _ _ h => h) (Or.inl ⟨by rfl, ?_⟩) (by assumption) ?_
                rotate_left
                · (intro w hSw; (try dsimp only at hSw); go_simp <;> with_reducible rfl)
                try simp only [Act.put, List.setIfInBounds_toArray, List.set_cons_zero, List.set_cons_succ]
                refine wpAnyH_done (by kernel_rfl) ?_ _
                refine NoPanic.normal ?_
                go_wp2
                go_roundw
                case rel => exact ⟨j + 1, by omega, by go_num, by rw [HS2.out]; simp [better], by rw [HS2.out]; simp [better], hBY.trans (hHeld.1.mono (by omega)), hHeld.2.2.1, hHeld.2.2.2.1, Nat.lt_of_lt_of_le hsY hHeld.1.size⟩
                case measure => simp [intOf]; omega
              exact AllReadyH.nil
            exact AllReadyH.nil
          | true =>
            refine wp_region_noPanic ?_
            refine wp_region_held_drew (S := fun W => Below Y.heap.size Y W ∧ LQ W wr.heap.size 0 q ∧ LA W w.heap.size 0 src ∧ LA W (w.heap.size + 1) 0 dst ∧ LQ W g (o + k * 34) r) (by kernel_rfl) (HK2.out _ (Below.refl _ _).drew) (fun hHeld => ?_)
            refine take_lit (i := 0) rfl (by kernel_rfl) (by kernel_rfl) (by kernel_rfl) (fun _ _ _ h => h) (yQ q (fun w h => h.2.1) (by rfl) rfl rfl) (by assumption) ?_
            try simp only [Act.put, List.setIfInBounds_toArray, List.set_cons_zero, List.set_cons_succ]
            refine take_lit (i := 1) rfl (by kernel_rfl) (by kernel_rfl) (by kernel_rfl) (fun _ _ _ h => h) (yA src (fun w h => h.2.2.1) (by rfl) rfl rfl) (by assumption) ?_
            try simp only [Act.put, List.setIfInBounds_toArray, List.set_cons_zero, List.set_cons_succ]
            refine take_lit (i := 2) rfl (by kernel_rfl) (by kernel_rfl) (by kernel_rfl) (fun _ _ _ h => h) (yA dst (fun w h => h.2.2.2.1) (by rfl) rfl rfl) (by assumption) ?_
            try simp only [Act.put, List.setIfInBounds_toArray, List.set_cons_zero, List.set_cons_succ]
            refine wpAnyH_ready (rs := [3]) (by kernel_rfl) (by simp) ?_
            refine cons_lit rfl (fun K hK => ?_) ?_
            · go_simp
              refine (hMat _).mono ?_
              rintro e w1 ⟨rfl, hB1⟩
              refine hK.out _ _ ?_ (fun hHeld => ?_)
              · exact HK2.out _ (hHeld.1.trans (hB1.mono hHeld.1.size))
              clear hK K
              try simp only [Act.put, List.setIfInBounds_toArray, List.set_cons_zero, List.set_cons_succ]
              refine take_lit (i := 4) (v := ?_) rfl (by kernel_rfl) (by kernel_rfl) (by kernel_rfl) (fun _ _ _ h => h) (Or.inl ⟨by rfl, ?_⟩) (by assumption) ?_
              rotate_left
              · (intro w hSw; (try dsimp only at hSw); go_simp <;> with_reducible rfl)
              try simp only [Act.put, List.setIfInBounds_toArray, List.set_cons_zero, List.set_cons_succ]
              refine take_lit (i := 5) (v := ?_) rfl (by kernel_rfl) (by kernel_rfl) (by kernel_rfl) (fun _ _ _ h => h) (Or.inl ⟨by rfl, ?_⟩) (by assumption) ?_
              rotate_left
              · (intro w hSw; (try dsimp only at hSw); go_simp <;> with_reducible rfl)
              try simp only [Act.put, List.setIfInBounds_toArray, List.set_cons_zero, List.set_cons_succ]
              refine take_lit (i := 6) (v := ?_) rfl (by kernel_rfl) (by kernel_rfl) (by kernel_rfl) (fun _ _ _ h => h) (Or.inl ⟨by rfl, ?_⟩) (by assumption) ?_
              rotate_left
              · (intro w hSw; (try dsimp only at hSw); go_simp <;> with_reducible rfl)
              try simp only [Act.put, List.setIfInBounds_toArray, List.set_cons_zero, List.set_cons_succ]
              refine take_lit (i := 7) (v := ?_) rfl (by kernel_rfl) (by kernel_rfl) (by kernel_rfl) (fun _ _ _ h => h) (Or.inl ⟨by rfl, ?_⟩) (by assumption) ?_
              rotate_left
              · (intro w hSw; (try dsimp only at hSw); go_simp <;> with_reducible rfl)
              try simp only [Act.put, List.setIfInBounds_toArray, List.set_cons_zero, List.set_cons_succ]
              refine take_lit (i := 8) rfl (by kernel_rfl) (by kernel_rfl) (by kernel_rfl) (fun _ _ _ h => h) (yQ q (fun w h => h.2.1) (by rfl) rfl rfl) (by assumption) ?_
              try simp only [Act.put, List.setIfInBounds_toArray, List.set_cons_zero, List.set_cons_succ]
              refine take_lit (i := 9) (v := ?_) rfl (by kernel_rfl) (by kernel_rfl) (by kernel_rfl) (fun _ _ _ h => h) (Or.inl ⟨by rfl, ?_⟩) (by assumption) ?_
              rotate_left
              · (intro w hSw; (try dsimp only at hSw); go_simp <;> with_reducible rfl)
              try simp only [Act.put, List.setIfInBounds_toArray, List.set_cons_zero, List.set_cons_succ]
              refine take_lit (i := 10) (v := ?_) rfl (by kernel_rfl) (by kernel_rfl) (by kernel_rfl) (fun _ _ _ h => h) (Or.inl ⟨by rfl, ?_⟩) (by assumption) ?_
              rotate_left
              · (intro w hSw; (try dsimp only at hSw); go_simp <;> with_reducible rfl)
              try simp only [Act.put, List.setIfInBounds_toArray, List.set_cons_zero, List.set_cons_succ]
              refine take_lit (i := 11) (v := ?_) rfl (by kernel_rfl) (by kernel_rfl) (by kernel_rfl) (fun _ _ _ h => h) (Or.inl ⟨by rfl, ?_⟩) (by assumption) ?_
              rotate_left
              · (intro w hSw; (try dsimp only at hSw); go_simp <;> with_reducible rfl)
              try simp only [Act.put, List.setIfInBounds_toArray, List.set_cons_zero, List.set_cons_succ]
              refine take_lit (i := 12) rfl (by kernel_rfl) (by kernel_rfl) (by kernel_rfl) (fun _ _ _ h => h) (yQ r (fun w h => h.2.2.2.2) (by rfl) rfl rfl) (by assumption) ?_
              try simp only [Act.put, List.setIfInBounds_toArray, List.set_cons_zero, List.set_cons_succ]
              refine wpAnyH_ready (rs := [13]) (by kernel_rfl) (by simp) ?_
              refine cons_lit rfl (fun K hK => ?_) ?_
              · go_simp
                refine (hLon _).mono ?_
                rintro e w2 ⟨rfl, hB2⟩
                refine hK.out _ _ ?_ (fun hHeld => ?_)
                · exact HK2.out _ (hHeld.1.trans (hB2.mono hHeld.1.size))
                clear hK K
                try simp only [Act.put, List.setIfInBounds_toArray, List.set_cons_zero, List.set_cons_succ]
                refine take_lit (i := 14) (v := ?_) rfl (by kernel_rfl) (by kernel_rfl) (by kernel_rfl) (fun _ _ _ h => h) (Or.inl ⟨by rfl, ?_⟩) (by assumption) ?_
                rotate_left
                · (intro w hSw; (try dsimp only at hSw); go_simp <;> with_reducible rfl)
                try simp only [Act.put, List.setIfInBounds_toArray, List.set_cons_zero, List.set_cons_succ]
                refine take_lit (i := 15) (v := ?_) rfl (by kernel_rfl) (by kernel_rfl) (by kernel_rfl) (fun _ _ _ h => h) (Or.inl ⟨by rfl, ?_⟩) (by assumption) ?_
                rotate_left
                · (intro w hSw; (try dsimp only at hSw); go_simp <;> with_reducible rfl)
                try simp only [Act.put, List.setIfInBounds_toArray, List.set_cons_zero, List.set_cons_succ]
                refine wpAnyH_done (by kernel_rfl) ?_ _
                refine NoPanic.normal ?_
                go_wp2
                go_roundw
                case rel => exact ⟨j + 1, by omega, by go_num, by rw [HS2.out]; simp [better], by rw [HS2.out]; simp [better], hBY.trans (hHeld.1.mono (by omega)), hHeld.2.2.1, hHeld.2.2.2.1, Nat.lt_of_lt_of_le hsY hHeld.1.size⟩
                case measure => simp [intOf]; omega
              exact AllReadyH.nil
            exact AllReadyH.nil
    · obtain rfl : n = j := by omega
      go_wp2
      go_ret2
      exact ⟨rfl, hB⟩
end Go.Proofs.YtimpopolkofdgaaGreatDoor
