/-
  The document's fours, for every address.
-/
import Derived.Test.YtimpopolkofdgaaGreatDoorRefK
import Derived.Test.YtimpopolkofdgaaGreatDoorPrint
import Derived.Test.YtimpopolkofdgaaGreatDoorRefA
namespace Go.Proofs.YtimpopolkofdgaaGreatDoor
open Go.RowKit
set_option linter.unusedSimpArgs false
set_option maxRecDepth 20000
theorem ppS_four (a : Ad) (b0 b1 b2 b3 : UInt8) (h : a.l.drop 12 = [b0, b1, b2, b3]) : ppS a = Lib.itoa b0.toNat ++ [46] ++ Lib.itoa b1.toNat ++ [46] ++ Lib.itoa b2.toNat ++ [46] ++ Lib.itoa b3.toNat := by
  unfold ppS ppW Lib.join
  rw [h]
  simp [List.intercalate]
theorem last_four (a : Ad) : ∃ b0 b1 b2 b3, a.l.drop 12 = [b0, b1, b2, b3] ∧ a.l[12]? = some b0 ∧ a.l[13]? = some b1 ∧ a.l[14]? = some b2 ∧ a.l[15]? = some b3 := by
  have hl : (a.l.drop 12).length = 4 := by rw [List.length_drop, a.len]
  match hd : a.l.drop 12, hl with
  | [b0, b1, b2, b3], _ =>
    have g : ∀ k, a.l[12 + k]? = [b0, b1, b2, b3][k]? := fun k => by rw [← hd, List.getElem?_drop]
    exact ⟨b0, b1, b2, b3, rfl, g 0, g 1, g 2, g 3⟩
theorem wb (b : UInt8) : IntKind.i64.wrap (b.toNat : Int) = (b.toNat : Int) := by
  have := b.toNat_lt
  simp [IntKind.wrap, IntKind.signed, IntKind.bits]
  omega
set_option maxHeartbeats 4000000 in
theorem rfours_any (a : Ad) (w : World) : Calls Tryz.prog 56 #[(Value.agg (acells a).toArray)] w (Gives w (.string (str (ppS a)))) := by
  obtain ⟨b0, b1, b2, b3, hd, g0, g1, g2, g3⟩ := last_four a
  have HP : Hid (ppS a = _) := ppS_four a b0 b1 b2 b3 hd
  have HK : Hid (∀ W, Below (w.heap.size + 1) (w.alloc (.cells (acells a).toArray 23)) W → Below (w.heap.size + 1) (w.alloc (.cells (acells a).toArray 23)) W ∧ W.cell? ⟨w.heap.size, 12, none⟩ = some (.int .u8 b0.toNat) ∧ W.cell? ⟨w.heap.size, 13, none⟩ = some (.int .u8 b1.toNat) ∧ W.cell? ⟨w.heap.size, 14, none⟩ = some (.int .u8 b2.toNat) ∧ W.cell? ⟨w.heap.size, 15, none⟩ = some (.int .u8 b3.toNat)) := fun W h => by
    have hA := (LA.new w a 23).below h (by omega)
    exact ⟨h, by simpa using hA 12 _ (bcells_get g0), by simpa using hA 13 _ (bcells_get g1), by simpa using hA 14 _ (bcells_get g2), by simpa using hA 15 _ (bcells_get g3)⟩
  clear hd g0 g1 g2 g3
  have d0 := rdigits b0.toNat (by have := b0.toNat_lt; omega)
  have w0 := wb b0
  have l0 : (Lib.itoa (b0.toNat : Int)).length ≤ 21 := Lib.itoa_length_le _ (by omega) (by have := b0.toNat_lt; omega)
  have d1 := rdigits b1.toNat (by have := b1.toNat_lt; omega)
  have w1 := wb b1
  have l1 : (Lib.itoa (b1.toNat : Int)).length ≤ 21 := Lib.itoa_length_le _ (by omega) (by have := b1.toNat_lt; omega)
  have d2 := rdigits b2.toNat (by have := b2.toNat_lt; omega)
  have w2 := wb b2
  have l2 : (Lib.itoa (b2.toNat : Int)).length ≤ 21 := Lib.itoa_length_le _ (by omega) (by have := b2.toNat_lt; omega)
  have d3 := rdigits b3.toNat (by have := b3.toNat_lt; omega)
  have w3 := wb b3
  have l3 : (Lib.itoa (b3.toNat : Int)).length ≤ 21 := Lib.itoa_length_le _ (by omega) (by have := b3.toNat_lt; omega)
  generalize Lib.itoa (b0.toNat : Int) = x0 at *
  generalize Lib.itoa (b1.toNat : Int) = x1 at *
  generalize Lib.itoa (b2.toNat : Int) = x2 at *
  generalize Lib.itoa (b3.toNat : Int) = x3 at *
  have n1 : ¬ 9223372036854775807 < x0.length + 1 := by omega
  have n2 : ¬ 9223372036854775807 < x0.length + 1 + x1.length := by omega
  have n3 : ¬ 9223372036854775807 < x0.length + 1 + x1.length + 1 := by omega
  have n4 : ¬ 9223372036854775807 < x0.length + 1 + x1.length + 1 + x2.length := by omega
  have n5 : ¬ 9223372036854775807 < x0.length + 1 + x1.length + 1 + x2.length + 1 := by omega
  have n6 : ¬ 9223372036854775807 < x0.length + 1 + x1.length + 1 + x2.length + 1 + x3.length := by omega
  clear l0 l1 l2 l3
  go_enter Tryz.func56, Tryz.ntmps56
  go_wp2
  refine wp_region_noPanic ?_
  refine wp_region_held_drew (S := fun W => Below (w.heap.size + 1) (w.alloc (.cells (acells a).toArray 23)) W ∧ W.cell? ⟨w.heap.size, 12, none⟩ = some (.int .u8 b0.toNat) ∧ W.cell? ⟨w.heap.size, 13, none⟩ = some (.int .u8 b1.toNat) ∧ W.cell? ⟨w.heap.size, 14, none⟩ = some (.int .u8 b2.toNat) ∧ W.cell? ⟨w.heap.size, 15, none⟩ = some (.int .u8 b3.toNat)) (by kernel_rfl) (HK.out _ (Below.refl _ _).drew) (fun hHeld => ?_)
  refine take_lit (i := 0) (v := ?_) rfl (by kernel_rfl) (by kernel_rfl) (by kernel_rfl) (fun _ _ _ h => h) (Or.inl ⟨by rfl, ?_⟩) (by assumption) ?_
  rotate_left
  · (intro w hSw; (try dsimp only at hSw); go_simp <;> with_reducible rfl)
  try simp only [Act.put, List.setIfInBounds_toArray, List.set_cons_zero, List.set_cons_succ]
  refine take_lit (i := 1) (v := ?_) rfl (by kernel_rfl) (by kernel_rfl) (by kernel_rfl) (fun _ _ _ h => h) (Or.inl ⟨by rfl, ?_⟩) (by assumption) ?_
  rotate_left
  · (intro w hSw; (try dsimp only at hSw); go_simp <;> with_reducible rfl)
  try simp only [Act.put, List.setIfInBounds_toArray, List.set_cons_zero, List.set_cons_succ]
  refine take_lit (i := 2) (v := ?_) rfl (by kernel_rfl) (by kernel_rfl) (by kernel_rfl) (fun _ _ _ h => h) (Or.inl ⟨by rfl, ?_⟩) (by assumption) ?_
  rotate_left
  · (intro w hSw; (try dsimp only at hSw); go_simp <;> with_reducible rfl)
  try simp only [Act.put, List.setIfInBounds_toArray, List.set_cons_zero, List.set_cons_succ]
  refine take_lit (i := 5) (v := ?_) rfl (by kernel_rfl) (by kernel_rfl) (by kernel_rfl) (fun _ _ _ h => h) (Or.inl ⟨by rfl, ?_⟩) (by assumption) ?_
  rotate_left
  · (intro w hSw; (try dsimp only at hSw); go_simp <;> with_reducible rfl)
  try simp only [Act.put, List.setIfInBounds_toArray, List.set_cons_zero, List.set_cons_succ]
  refine take_lit (i := 6) (v := ?_) rfl (by kernel_rfl) (by kernel_rfl) (by kernel_rfl) (fun _ _ _ h => h) (Or.inl ⟨by rfl, ?_⟩) (by assumption) ?_
  rotate_left
  · (intro w hSw; (try dsimp only at hSw); go_simp <;> with_reducible rfl)
  try simp only [Act.put, List.setIfInBounds_toArray, List.set_cons_zero, List.set_cons_succ]
  refine take_lit (i := 7) (v := ?_) rfl (by kernel_rfl) (by kernel_rfl) (by kernel_rfl) (fun _ _ _ h => h) (Or.inl ⟨by rfl, ?_⟩) (by assumption) ?_
  rotate_left
  · (intro w hSw; (try dsimp only at hSw); go_simp <;> with_reducible rfl)
  try simp only [Act.put, List.setIfInBounds_toArray, List.set_cons_zero, List.set_cons_succ]
  refine take_lit (i := 11) (v := ?_) rfl (by kernel_rfl) (by kernel_rfl) (by kernel_rfl) (fun _ _ _ h => h) (Or.inl ⟨by rfl, ?_⟩) (by assumption) ?_
  rotate_left
  · (intro w hSw; (try dsimp only at hSw); go_simp <;> with_reducible rfl)
  try simp only [Act.put, List.setIfInBounds_toArray, List.set_cons_zero, List.set_cons_succ]
  refine take_lit (i := 12) (v := ?_) rfl (by kernel_rfl) (by kernel_rfl) (by kernel_rfl) (fun _ _ _ h => h) (Or.inl ⟨by rfl, ?_⟩) (by assumption) ?_
  rotate_left
  · (intro w hSw; (try dsimp only at hSw); go_simp <;> with_reducible rfl)
  try simp only [Act.put, List.setIfInBounds_toArray, List.set_cons_zero, List.set_cons_succ]
  refine take_lit (i := 13) (v := ?_) rfl (by kernel_rfl) (by kernel_rfl) (by kernel_rfl) (fun _ _ _ h => h) (Or.inl ⟨by rfl, ?_⟩) (by assumption) ?_
  rotate_left
  · (intro w hSw; (try dsimp only at hSw); go_simp <;> with_reducible rfl)
  try simp only [Act.put, List.setIfInBounds_toArray, List.set_cons_zero, List.set_cons_succ]
  refine take_lit (i := 17) (v := ?_) rfl (by kernel_rfl) (by kernel_rfl) (by kernel_rfl) (fun _ _ _ h => h) (Or.inl ⟨by rfl, ?_⟩) (by assumption) ?_
  rotate_left
  · (intro w hSw; (try dsimp only at hSw); go_simp <;> with_reducible rfl)
  try simp only [Act.put, List.setIfInBounds_toArray, List.set_cons_zero, List.set_cons_succ]
  refine take_lit (i := 18) (v := ?_) rfl (by kernel_rfl) (by kernel_rfl) (by kernel_rfl) (fun _ _ _ h => h) (Or.inl ⟨by rfl, ?_⟩) (by assumption) ?_
  rotate_left
  · (intro w hSw; (try dsimp only at hSw); go_simp <;> with_reducible rfl)
  try simp only [Act.put, List.setIfInBounds_toArray, List.set_cons_zero, List.set_cons_succ]
  refine take_lit (i := 19) (v := ?_) rfl (by kernel_rfl) (by kernel_rfl) (by kernel_rfl) (fun _ _ _ h => h) (Or.inl ⟨by rfl, ?_⟩) (by assumption) ?_
  rotate_left
  · (intro w hSw; (try dsimp only at hSw); go_simp <;> with_reducible rfl)
  try simp only [Act.put, List.setIfInBounds_toArray, List.set_cons_zero, List.set_cons_succ]
  refine wpAnyH_ready (rs := [3]) (by kernel_rfl) (by simp) ?_
  refine cons_lit rfl (fun K hK => ?_) ?_
  · go_simp
    refine (d0 _).mono ?_
    rintro e w1 ⟨rfl, rfl⟩
    refine hK.out _ _ ?_ (fun hHeld => ?_)
    · exact hHeld
    clear hK K
    try simp only [Act.put, List.setIfInBounds_toArray, List.set_cons_zero, List.set_cons_succ]
    refine take_lit (i := 4) (v := ?_) rfl (by kernel_rfl) (by kernel_rfl) (by kernel_rfl) (fun _ _ _ h => h) (Or.inl ⟨by rfl, ?_⟩) (by assumption) ?_
    rotate_left
    · (intro w hSw; (try dsimp only at hSw); go_simp <;> with_reducible rfl)
    try simp only [Act.put, List.setIfInBounds_toArray, List.set_cons_zero, List.set_cons_succ]
    refine wpAnyH_ready (rs := [8]) (by kernel_rfl) (by simp) ?_
    refine cons_lit rfl (fun K hK => ?_) ?_
    · go_simp
      refine (d1 _).mono ?_
      rintro e w1 ⟨rfl, rfl⟩
      refine hK.out _ _ ?_ (fun hHeld => ?_)
      · exact hHeld
      clear hK K
      try simp only [Act.put, List.setIfInBounds_toArray, List.set_cons_zero, List.set_cons_succ]
      refine take_lit (i := 9) (v := ?_) rfl (by kernel_rfl) (by kernel_rfl) (by kernel_rfl) (fun _ _ _ h => h) (Or.inl ⟨by rfl, ?_⟩) (by assumption) ?_
      rotate_left
      · (intro w hSw; (try dsimp only at hSw); go_simp <;> with_reducible rfl)
      try simp only [Act.put, List.setIfInBounds_toArray, List.set_cons_zero, List.set_cons_succ]
      refine take_lit (i := 10) (v := ?_) rfl (by kernel_rfl) (by kernel_rfl) (by kernel_rfl) (fun _ _ _ h => h) (Or.inl ⟨by rfl, ?_⟩) (by assumption) ?_
      rotate_left
      · (intro w hSw; (try dsimp only at hSw); go_simp <;> with_reducible rfl)
      try simp only [Act.put, List.setIfInBounds_toArray, List.set_cons_zero, List.set_cons_succ]
      refine wpAnyH_ready (rs := [14]) (by kernel_rfl) (by simp) ?_
      refine cons_lit rfl (fun K hK => ?_) ?_
      · go_simp
        refine (d2 _).mono ?_
        rintro e w1 ⟨rfl, rfl⟩
        refine hK.out _ _ ?_ (fun hHeld => ?_)
        · exact hHeld
        clear hK K
        try simp only [Act.put, List.setIfInBounds_toArray, List.set_cons_zero, List.set_cons_succ]
        refine take_lit (i := 15) (v := ?_) rfl (by kernel_rfl) (by kernel_rfl) (by kernel_rfl) (fun _ _ _ h => h) (Or.inl ⟨by rfl, ?_⟩) (by assumption) ?_
        rotate_left
        · (intro w hSw; (try dsimp only at hSw); go_simp <;> with_reducible rfl)
        try simp only [Act.put, List.setIfInBounds_toArray, List.set_cons_zero, List.set_cons_succ]
        refine take_lit (i := 16) (v := ?_) rfl (by kernel_rfl) (by kernel_rfl) (by kernel_rfl) (fun _ _ _ h => h) (Or.inl ⟨by rfl, ?_⟩) (by assumption) ?_
        rotate_left
        · (intro w hSw; (try dsimp only at hSw); go_simp <;> with_reducible rfl)
        try simp only [Act.put, List.setIfInBounds_toArray, List.set_cons_zero, List.set_cons_succ]
        refine wpAnyH_ready (rs := [20]) (by kernel_rfl) (by simp) ?_
        refine cons_lit rfl (fun K hK => ?_) ?_
        · go_simp
          refine (d3 _).mono ?_
          rintro e w1 ⟨rfl, rfl⟩
          refine hK.out _ _ ?_ (fun hHeld => ?_)
          · exact hHeld
          clear hK K
          try simp only [Act.put, List.setIfInBounds_toArray, List.set_cons_zero, List.set_cons_succ]
          refine take_lit (i := 21) (v := ?_) rfl (by kernel_rfl) (by kernel_rfl) (by kernel_rfl) (fun _ _ _ h => h) (Or.inl ⟨by rfl, ?_⟩) (by assumption) ?_
          rotate_left
          · (intro w hSw; (try dsimp only at hSw); go_simp <;> with_reducible rfl)
          try simp only [Act.put, List.setIfInBounds_toArray, List.set_cons_zero, List.set_cons_succ]
          refine take_lit (i := 22) (v := ?_) rfl (by kernel_rfl) (by kernel_rfl) (by kernel_rfl) (fun _ _ _ h => h) (Or.inl ⟨by rfl, ?_⟩) (by assumption) ?_
          rotate_left
          · (intro w hSw; (try dsimp only at hSw); go_simp <;> with_reducible rfl)
          try simp only [Act.put, List.setIfInBounds_toArray, List.set_cons_zero, List.set_cons_succ]
          refine wpAnyH_done (by kernel_rfl) ?_ _
          refine NoPanic.normal ?_
          go_wp2
          go_ret
          exact ⟨by rw [HP.out]; rfl, (ba _ _).trans (hHeld.1.mono (by omega))⟩
        exact AllReadyH.nil
      exact AllReadyH.nil
    exact AllReadyH.nil
  exact AllReadyH.nil
end Go.Proofs.YtimpopolkofdgaaGreatDoor
