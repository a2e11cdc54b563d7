/-
  The line of timers: its length, which of two comes first, and how two change places.
-/
import Derived.Test.YtkamcnjofpamhaaTBase
namespace Go.Proofs.Ytkamcnjofpamhaa
open Go.RowKit
set_option linter.unusedSimpArgs false
def Ptr (b : Nat) : Value := .pointer (some ⟨b, 0, none⟩)
theorem len_any (v : Option Addr) (n cap : Nat) (w : World) : Calls Try.prog 83 #[.slice v n cap] w fun e w' => e = .returned (.int .i64 n) ∧ w = w' := by
  go_enter Try.func83, Try.ntmps83
  go_wp2
  go_ret
  exact ⟨rfl, rfl⟩
theorem less_any (g n cap i j : Nat) (s t : Tm) (a b : Int) (w : World) (hi : i < n) (hj : j < n) (hci : w.cell? ⟨g, i, none⟩ = some (.pointer (some ⟨s.b, 0, none⟩))) (hcj : w.cell? ⟨g, j, none⟩ = some (.pointer (some ⟨t.b, 0, none⟩))) (hs : Tim w s a) (ht : Tim w t b) :
    Calls Try.prog 84 #[.slice (some ⟨g, 0, none⟩) n cap, .int .i64 i, .int .i64 j] w (Gives w (.bool (decide (cmpT s t < 0)))) := by
  have hg : g < w.heap.size := block_lt_of_cell hci
  have HK : Hid (∀ W, Below w.heap.size w W → Below w.heap.size w W ∧ W.cell? ⟨g, i, none⟩ = some (.pointer (some ⟨s.b, 0, none⟩)) ∧ W.cell? ⟨g, j, none⟩ = some (.pointer (some ⟨t.b, 0, none⟩)) ∧ Hid (Tim W s a ∧ Tim W t b)) := fun W hW =>
    ⟨hW, (hW.cell (p := ⟨g, i, none⟩) hg).trans hci, (hW.cell (p := ⟨g, j, none⟩) hg).trans hcj, hs.below hW, ht.below hW⟩
  have hi' : (i : Int) < (n : Int) := by omega
  have hj' : (j : Int) < (n : Int) := by omega
  clear hci hcj hs ht
  go_enter Try.func84, Try.ntmps84
  go_wp2
  refine wp_region_noPanic ?_
  refine wp_region_held_drew (S := fun W => Below w.heap.size w W ∧ W.cell? ⟨g, i, none⟩ = some (.pointer (some ⟨s.b, 0, none⟩)) ∧ W.cell? ⟨g, j, none⟩ = some (.pointer (some ⟨t.b, 0, none⟩)) ∧ Hid (Tim W s a ∧ Tim W t b)) (by kernel_rfl) (HK.out _ (Below.refl _ _).drew) (fun hHeld => ?_)
  refine take_lit (i := 0) (v := ?_) rfl (by kernel_rfl) (by kernel_rfl) (by kernel_rfl) (fun _ _ _ h => h) (Or.inl ⟨by rfl, ?_⟩) (by assumption) ?_
  rotate_left
  · (intro w hSw; (try dsimp only at hSw); go_simp <;> with_reducible rfl)
  try simp only [Act.put, List.setIfInBounds_toArray, List.set_cons_zero, List.set_cons_succ]
  refine take_lit (i := 1) (v := ?_) rfl (by kernel_rfl) (by kernel_rfl) (by kernel_rfl) (fun _ _ _ h => h) (Or.inl ⟨by rfl, ?_⟩) (by assumption) ?_
  rotate_left
  · (intro w hSw; (try dsimp only at hSw); go_simp <;> with_reducible rfl)
  try simp only [Act.put, List.setIfInBounds_toArray, List.set_cons_zero, List.set_cons_succ]
  refine take_lit (i := 2) (v := ?_) rfl (by kernel_rfl) (by kernel_rfl) (by kernel_rfl) (fun _ _ _ h => h) (Or.inl ⟨by rfl, ?_⟩) (by assumption) ?_
  rotate_left
  · (intro w hSw; (try dsimp only at hSw); go_simp <;> with_reducible rfl)
  try simp only [Act.put, List.setIfInBounds_toArray, List.set_cons_zero, List.set_cons_succ]
  refine take_lit (i := 3) (v := ?_) rfl (by kernel_rfl) (by kernel_rfl) (by kernel_rfl) (fun _ _ _ h => h) (Or.inl ⟨by rfl, ?_⟩) (by assumption) ?_
  rotate_left
  · (intro w hSw; (try dsimp only at hSw); go_simp <;> with_reducible rfl)
  try simp only [Act.put, List.setIfInBounds_toArray, List.set_cons_zero, List.set_cons_succ]
  refine take_lit (i := 4) (v := ?_) rfl (by kernel_rfl) (by kernel_rfl) (by kernel_rfl) (fun _ _ _ h => h) (Or.inl ⟨by rfl, ?_⟩) (by assumption) ?_
  rotate_left
  · (intro w hSw; (try dsimp only at hSw); go_simp <;> with_reducible rfl)
  try simp only [Act.put, List.setIfInBounds_toArray, List.set_cons_zero, List.set_cons_succ]
  refine take_lit (i := 5) (v := ?_) rfl (by kernel_rfl) (by kernel_rfl) (by kernel_rfl) (fun _ _ _ h => h) (Or.inl ⟨by rfl, ?_⟩) (by assumption) ?_
  rotate_left
  · (intro w hSw; (try dsimp only at hSw); go_simp <;> with_reducible rfl)
  try simp only [Act.put, List.setIfInBounds_toArray, List.set_cons_zero, List.set_cons_succ]
  refine take_lit (i := 6) (v := ?_) rfl (by kernel_rfl) (by kernel_rfl) (by kernel_rfl) (fun _ _ _ h => h) (Or.inl ⟨by rfl, ?_⟩) (by assumption) ?_
  rotate_left
  · (intro w hSw; (try dsimp only at hSw); go_simp <;> with_reducible rfl)
  try simp only [Act.put, List.setIfInBounds_toArray, List.set_cons_zero, List.set_cons_succ]
  refine take_lit (i := 7) (v := ?_) rfl (by kernel_rfl) (by kernel_rfl) (by kernel_rfl) (fun _ _ _ h => h) (Or.inl ⟨by rfl, ?_⟩) (by assumption) ?_
  rotate_left
  · (intro w hSw; (try dsimp only at hSw); go_simp <;> with_reducible rfl)
  try simp only [Act.put, List.setIfInBounds_toArray, List.set_cons_zero, List.set_cons_succ]
  refine wpAnyH_ready (rs := [8]) (by kernel_rfl) (by simp) ?_
  refine cons_lit rfl (fun K hK => ?_) ?_
  · go_simp
    refine (compare_any s t a b _ hHeld.2.2.2.out.1 hHeld.2.2.2.out.2).mono ?_
    rintro e w1 ⟨rfl, hB1⟩
    refine hK.out _ _ ?_ (fun hHeld => ?_)
    · exact HK.out _ (hHeld.1.trans (hB1.mono hHeld.1.size))
    clear hK K
    try simp only [Act.put, List.setIfInBounds_toArray, List.set_cons_zero, List.set_cons_succ]
    refine take_lit (i := 9) (v := ?_) rfl (by kernel_rfl) (by kernel_rfl) (by kernel_rfl) (fun _ _ _ h => h) (Or.inl ⟨by rfl, ?_⟩) (by assumption) ?_
    rotate_left
    · (intro w hSw; (try dsimp only at hSw); go_simp <;> with_reducible rfl)
    try simp only [Act.put, List.setIfInBounds_toArray, List.set_cons_zero, List.set_cons_succ]
    refine take_lit (i := 10) (v := ?_) rfl (by kernel_rfl) (by kernel_rfl) (by kernel_rfl) (fun _ _ _ h => h) (Or.inl ⟨by rfl, ?_⟩) (by assumption) ?_
    rotate_left
    · (intro w hSw; (try dsimp only at hSw); go_simp <;> with_reducible rfl)
    try simp only [Act.put, List.setIfInBounds_toArray, List.set_cons_zero, List.set_cons_succ]
    refine wpAnyH_done (by kernel_rfl) ?_ _
    refine NoPanic.normal ?_
    go_wp2
    go_ret
    exact ⟨rfl, hHeld.1⟩
  exact AllReadyH.nil
/-- The world behind an exchange. -/
def swW (w : World) (g i j : Nat) (s t : Tm) : World :=
  ((((w.setCell ⟨g, i, none⟩ (.pointer (some ⟨t.b, 0, none⟩))).setCell ⟨g, j, none⟩ (.pointer (some ⟨s.b, 0, none⟩))).setCell ⟨t.b, 2, none⟩ (.int .i64 i)).setCell ⟨s.b, 2, none⟩ (.int .i64 j)).drew.drew
theorem swap_any (g n cap i j : Nat) (s t : Tm) (a b : Int) (w : World) (hi : i < n) (hj : j < n) (hne : i ≠ j) (hci : w.cell? ⟨g, i, none⟩ = some (.pointer (some ⟨s.b, 0, none⟩))) (hcj : w.cell? ⟨g, j, none⟩ = some (.pointer (some ⟨t.b, 0, none⟩))) (hs : Tim w s a) (ht : Tim w t b)
    (hgi : w.frozen? ⟨g, i, none⟩ = false) (hgj : w.frozen? ⟨g, j, none⟩ = false) (hst : s.b ≠ t.b) (hgs : g ≠ s.b) (hgt : g ≠ t.b) :
    Calls Try.prog 85 #[.slice (some ⟨g, 0, none⟩) n cap, .int .i64 i, .int .i64 j] w (fun e w' => e = .returned (.tuple #[]) ∧ w' = swW w g i j s t) := by
  have hi' : (i : Int) < (n : Int) := by omega
  have hj' : (j : Int) < (n : Int) := by omega
  have hne' : ¬ (i = j) := hne
  have hne2 : ¬ (j = i) := fun h => hne h.symm
  have s2 : w.cell? ⟨s.b, 2, none⟩ = some (.int .i64 a) := one_cell hs rfl
  have t2 : w.cell? ⟨t.b, 2, none⟩ = some (.int .i64 b) := one_cell ht rfl
  have s3 : w.frozen? ⟨s.b, 2, none⟩ = false := one_free hs
  have t3 : w.frozen? ⟨t.b, 2, none⟩ = false := one_free ht
  have HS : Hid (s.b ≠ t.b ∧ g ≠ s.b ∧ g ≠ t.b) := ⟨hst, hgs, hgt⟩
  clear hs ht hne
  go_enter Try.func85, Try.ntmps85
  go_wp2
  go_region
  refine name_world (R := fun W => Exit.then _ _ _ _ W.drew) (P := fun W => W.cell? ⟨g, i, none⟩ = some (.pointer (some ⟨t.b, 0, none⟩)) ∧ W.cell? ⟨g, j, none⟩ = some (.pointer (some ⟨s.b, 0, none⟩)) ∧ W.cell? ⟨s.b, 2, none⟩ = some (.int .i64 a) ∧ W.cell? ⟨t.b, 2, none⟩ = some (.int .i64 b) ∧ W.frozen? ⟨s.b, 2, none⟩ = false ∧ W.frozen? ⟨t.b, 2, none⟩ = false ∧ Hid (W = ((w.setCell ⟨g, i, none⟩ (.pointer (some ⟨t.b, 0, none⟩))).setCell ⟨g, j, none⟩ (.pointer (some ⟨s.b, 0, none⟩))))) _ ?_ ?_
  · refine ⟨?_, ?_, ?_, ?_, ?_, ?_, rfl⟩
    · rw [World.cell?_setCell_other _ _ _ _ (by simp [hne2]), World.cell?_setCell_same _ _ _ hci]
    · rw [World.cell?_setCell_same _ _ _ (by rw [World.cell?_setCell_other _ _ _ _ (by simp [hne'])]; exact hcj)]
    · rw [World.cell?_setCell_other _ _ _ _ (by simp [hgs]), World.cell?_setCell_other _ _ _ _ (by simp [hgs]), s2]
    · rw [World.cell?_setCell_other _ _ _ _ (by simp [hgt]), World.cell?_setCell_other _ _ _ _ (by simp [hgt]), t2]
    · simp [s3]
    · simp [t3]
  rintro W ⟨c1, c2, c3, c4, c5, c6, HW⟩
  clear hci hcj s2 t2 s3 t3 hgi hgj
  go_wp2
  go_region
  go_wp2
  go_end0
  exact ⟨rfl, by rw [HW.out]; rfl⟩
end Go.Proofs.Ytkamcnjofpamhaa
