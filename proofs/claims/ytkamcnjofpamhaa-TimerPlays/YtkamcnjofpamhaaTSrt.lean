/-
  slices.SortFunc of a line's timers by timer.compare: a row of the same timers, in the order in which they come.
-/
import Derived.Test.YtkamcnjofpamhaaTOrd
import Derived.Test.YtkamcnjofpamhaaTCol
import Derived.Test.YtkamcnjofpamhaaShelf
import Derived.Shelf.SlSortCmp.Whole1
namespace Go.Proofs.Ytkamcnjofpamhaa
open Go.RowKit Go.Shelf
set_option linter.unusedSimpArgs false
/-- A later world that has only grown. -/
def Gr (w W : World) : Prop := ∃ q os, W = Sort.grow (w.drewN q) os
theorem Gr.refl (w : World) : Gr w w := ⟨0, #[], by rw [Sort.grow_empty]; rfl⟩
theorem Gr.drew {w W : World} (h : Gr w W) : Gr w W.drew := by
  obtain ⟨q, os, rfl⟩ := h
  exact ⟨q + 1, os, by rw [Sort.drew_grow]; rfl⟩
theorem Gr.alloc {w W : World} (h : Gr w W) (o : Obj) : Gr w (W.alloc o) := by
  obtain ⟨q, os, rfl⟩ := h
  exact ⟨q, os ++ #[o], by rw [Sort.alloc_eq_grow, Sort.grow_grow]⟩
theorem Gr.below {w W : World} (h : Gr w W) : Below w.heap.size w W := by
  obtain ⟨q, os, rfl⟩ := h
  exact ⟨rfl, rfl, rfl, by rw [Sort.size_grow]; exact Nat.le_add_right _ _, fun k hk => Sort.heap_grow_old _ _ hk⟩
theorem compare_gr (s t : Tm) (i j : Int) (w : World) (hs : Tim w s i) (ht : Tim w t j) : Calls Try.prog 35 #[.pointer (some ⟨s.b, 0, none⟩), .pointer (some ⟨t.b, 0, none⟩)] w (fun e w' => e = .returned (.int .i64 (cmpT s t)) ∧ Gr w w') := by
  have HK : Hid (∀ W, Gr w W → Gr w W ∧ W.cell? ⟨s.b, 0, none⟩ = some (.int .i64 s.tm) ∧ W.cell? ⟨s.b, 1, none⟩ = some (.string s.nm) ∧ W.cell? ⟨t.b, 0, none⟩ = some (.int .i64 t.tm) ∧ W.cell? ⟨t.b, 1, none⟩ = some (.string t.nm)) := fun W hW =>
    ⟨hW, one_cell (hs.below hW.below) rfl, one_cell (hs.below hW.below) rfl, one_cell (ht.below hW.below) rfl, one_cell (ht.below hW.below) rfl⟩
  clear hs ht
  obtain ⟨sb, sa, sn⟩ := s
  obtain ⟨tb, ta, tn⟩ := t
  unfold cmpT
  dsimp only at *
  obtain ⟨x, hx⟩ : ∃ x, cmpI sa ta = x := ⟨_, rfl⟩
  obtain ⟨y, hy⟩ : ∃ y, cmpS sn tn = y := ⟨_, rfl⟩
  have C1 := cmp_int sa ta
  have C2 := cmp_str sn tn
  rw [hx] at C1 ⊢
  rw [hy] at C2 ⊢
  clear hx hy
  go_enter Try.func35, Try.ntmps35
  go_wp2
  refine wp_region_noPanic ?_
  refine wp_region_held_drew (S := fun W => Gr w W ∧ W.cell? ⟨sb, 0, none⟩ = some (.int .i64 sa) ∧ W.cell? ⟨sb, 1, none⟩ = some (.string sn) ∧ W.cell? ⟨tb, 0, none⟩ = some (.int .i64 ta) ∧ W.cell? ⟨tb, 1, none⟩ = some (.string tn)) (by kernel_rfl) (HK.out _ (Gr.refl _).drew) (fun hHeld => ?_)
  refine take_lit (i := 0) (v := ?_) rfl (by kernel_rfl) (by kernel_rfl) (by kernel_rfl) (fun _ _ _ h => h) (Or.inl ⟨by rfl, ?_⟩) (by assumption) ?_
  rotate_left
  · (intro w hSw; (try dsimp only at hSw); go_simp <;> with_reducible rfl)
  try simp only [Act.put, List.setIfInBounds_toArray, List.set_cons_zero, List.set_cons_succ]
  refine take_lit (i := 1) (v := ?_) rfl (by kernel_rfl) (by kernel_rfl) (by kernel_rfl) (fun _ _ _ h => h) (Or.inl ⟨by rfl, ?_⟩) (by assumption) ?_
  rotate_left
  · (intro w hSw; (try dsimp only at hSw); go_simp <;> with_reducible rfl)
  try simp only [Act.put, List.setIfInBounds_toArray, List.set_cons_zero, List.set_cons_succ]
  refine take_lit (i := 2) (v := ?_) rfl (by kernel_rfl) (by kernel_rfl) (by kernel_rfl) (fun _ _ _ h => h) (Or.inl ⟨by rfl, ?_⟩) (by assumption) ?_
  rotate_left
  · (intro w hSw; (try dsimp only at hSw); go_simp <;> with_reducible rfl)
  try simp only [Act.put, List.setIfInBounds_toArray, List.set_cons_zero, List.set_cons_succ]
  refine take_lit (i := 3) (v := ?_) rfl (by kernel_rfl) (by kernel_rfl) (by kernel_rfl) (fun _ _ _ h => h) (Or.inl ⟨by rfl, ?_⟩) (by assumption) ?_
  rotate_left
  · (intro w hSw; (try dsimp only at hSw); go_simp <;> with_reducible rfl)
  try simp only [Act.put, List.setIfInBounds_toArray, List.set_cons_zero, List.set_cons_succ]
  refine take_lit (i := 4) (v := ?_) rfl (by kernel_rfl) (by kernel_rfl) (by kernel_rfl) (fun _ _ _ h => h) (Or.inl ⟨by rfl, ?_⟩) (by assumption) ?_
  rotate_left
  · (intro w hSw; (try dsimp only at hSw); go_simp <;> with_reducible rfl)
  try simp only [Act.put, List.setIfInBounds_toArray, List.set_cons_zero, List.set_cons_succ]
  refine take_lit (i := 5) (v := ?_) rfl (by kernel_rfl) (by kernel_rfl) (by kernel_rfl) (fun _ _ _ h => h) (Or.inl ⟨by rfl, ?_⟩) (by assumption) ?_
  rotate_left
  · (intro w hSw; (try dsimp only at hSw); go_simp <;> with_reducible rfl)
  try simp only [Act.put, List.setIfInBounds_toArray, List.set_cons_zero, List.set_cons_succ]
  refine take_lit (i := 6) (v := ?_) rfl (by kernel_rfl) (by kernel_rfl) (by kernel_rfl) (fun _ _ _ h => h) (Or.inl ⟨by rfl, ?_⟩) (by assumption) ?_
  rotate_left
  · (intro w hSw; (try dsimp only at hSw); go_simp <;> with_reducible rfl)
  try simp only [Act.put, List.setIfInBounds_toArray, List.set_cons_zero, List.set_cons_succ]
  refine take_lit (i := 7) (v := ?_) rfl (by kernel_rfl) (by kernel_rfl) (by kernel_rfl) (fun _ _ _ h => h) (Or.inl ⟨by rfl, ?_⟩) (by assumption) ?_
  rotate_left
  · (intro w hSw; (try dsimp only at hSw); go_simp <;> with_reducible rfl)
  try simp only [Act.put, List.setIfInBounds_toArray, List.set_cons_zero, List.set_cons_succ]
  refine take_lit (i := 8) (v := ?_) rfl (by kernel_rfl) (by kernel_rfl) (by kernel_rfl) (fun _ _ _ h => h) (Or.inl ⟨by rfl, ?_⟩) (by assumption) ?_
  rotate_left
  · (intro w hSw; (try dsimp only at hSw); go_simp <;> with_reducible rfl)
  try simp only [Act.put, List.setIfInBounds_toArray, List.set_cons_zero, List.set_cons_succ]
  refine take_lit (i := 9) (v := ?_) rfl (by kernel_rfl) (by kernel_rfl) (by kernel_rfl) (fun _ _ _ h => h) (Or.inl ⟨by rfl, ?_⟩) (by assumption) ?_
  rotate_left
  · (intro w hSw; (try dsimp only at hSw); go_simp <;> with_reducible rfl)
  try simp only [Act.put, List.setIfInBounds_toArray, List.set_cons_zero, List.set_cons_succ]
  refine take_lit (i := 11) (v := ?_) rfl (by kernel_rfl) (by kernel_rfl) (by kernel_rfl) (fun _ _ _ h => h) (Or.inl ⟨by rfl, ?_⟩) (by assumption) ?_
  rotate_left
  · (intro w hSw; (try dsimp only at hSw); go_simp <;> with_reducible rfl)
  try simp only [Act.put, List.setIfInBounds_toArray, List.set_cons_zero, List.set_cons_succ]
  refine take_lit (i := 12) (v := ?_) rfl (by kernel_rfl) (by kernel_rfl) (by kernel_rfl) (fun _ _ _ h => h) (Or.inl ⟨by rfl, ?_⟩) (by assumption) ?_
  rotate_left
  · (intro w hSw; (try dsimp only at hSw); go_simp <;> with_reducible rfl)
  try simp only [Act.put, List.setIfInBounds_toArray, List.set_cons_zero, List.set_cons_succ]
  refine take_lit (i := 13) (v := ?_) rfl (by kernel_rfl) (by kernel_rfl) (by kernel_rfl) (fun _ _ _ h => h) (Or.inl ⟨by rfl, ?_⟩) (by assumption) ?_
  rotate_left
  · (intro w hSw; (try dsimp only at hSw); go_simp <;> with_reducible rfl)
  try simp only [Act.put, List.setIfInBounds_toArray, List.set_cons_zero, List.set_cons_succ]
  refine take_lit (i := 14) (v := ?_) rfl (by kernel_rfl) (by kernel_rfl) (by kernel_rfl) (fun _ _ _ h => h) (Or.inl ⟨by rfl, ?_⟩) (by assumption) ?_
  rotate_left
  · (intro w hSw; (try dsimp only at hSw); go_simp <;> with_reducible rfl)
  try simp only [Act.put, List.setIfInBounds_toArray, List.set_cons_zero, List.set_cons_succ]
  refine take_lit (i := 15) (v := ?_) rfl (by kernel_rfl) (by kernel_rfl) (by kernel_rfl) (fun _ _ _ h => h) (Or.inl ⟨by rfl, ?_⟩) (by assumption) ?_
  rotate_left
  · (intro w hSw; (try dsimp only at hSw); go_simp <;> with_reducible rfl)
  try simp only [Act.put, List.setIfInBounds_toArray, List.set_cons_zero, List.set_cons_succ]
  refine take_lit (i := 16) (v := ?_) rfl (by kernel_rfl) (by kernel_rfl) (by kernel_rfl) (fun _ _ _ h => h) (Or.inl ⟨by rfl, ?_⟩) (by assumption) ?_
  rotate_left
  · (intro w hSw; (try dsimp only at hSw); go_simp <;> with_reducible rfl)
  try simp only [Act.put, List.setIfInBounds_toArray, List.set_cons_zero, List.set_cons_succ]
  refine take_lit (i := 17) (v := ?_) rfl (by kernel_rfl) (by kernel_rfl) (by kernel_rfl) (fun _ _ _ h => h) (Or.inl ⟨by rfl, ?_⟩) (by assumption) ?_
  rotate_left
  · (intro w hSw; (try dsimp only at hSw); go_simp <;> with_reducible rfl)
  try simp only [Act.put, List.setIfInBounds_toArray, List.set_cons_zero, List.set_cons_succ]
  refine take_lit (i := 18) (v := ?_) rfl (by kernel_rfl) (by kernel_rfl) (by kernel_rfl) (fun _ _ _ h => h) (Or.inl ⟨by rfl, ?_⟩) (by assumption) ?_
  rotate_left
  · (intro w hSw; (try dsimp only at hSw); go_simp <;> with_reducible rfl)
  try simp only [Act.put, List.setIfInBounds_toArray, List.set_cons_zero, List.set_cons_succ]
  refine wpAnyH_ready (rs := [10]) (by kernel_rfl) (by simp) ?_
  refine cons_lit rfl (fun K hK => ?_) ?_
  · go_simp
    refine (C1 _).mono ?_
    rintro e w1 ⟨rfl, rfl⟩
    refine hK.out _ _ ?_ (fun hHeld => ?_)
    · exact hHeld
    clear hK K
    try simp only [Act.put, List.setIfInBounds_toArray, List.set_cons_zero, List.set_cons_succ]
    refine wpAnyH_ready (rs := [19]) (by kernel_rfl) (by simp) ?_
    refine cons_lit rfl (fun K hK => ?_) ?_
    · go_simp
      refine (C2 _).mono ?_
      rintro e w2 ⟨rfl, rfl⟩
      refine hK.out _ _ ?_ (fun hHeld => ?_)
      · exact hHeld
      clear hK K
      try simp only [Act.put, List.setIfInBounds_toArray, List.set_cons_zero, List.set_cons_succ]
      refine wpAnyH_ready (rs := [20]) (by kernel_rfl) (by simp) ?_
      refine cons_lit rfl (fun K hK => ?_) ?_
      · go_simp
        refine hK.out _ _ ?_ (fun hHeld => ?_)
        · exact HK.out _ (hHeld.1.alloc _)
        clear hK K
        try simp only [Act.put, List.setIfInBounds_toArray, List.set_cons_zero, List.set_cons_succ]
        refine wpAnyH_ready (rs := [21]) (by kernel_rfl) (by simp) ?_
        refine cons_lit rfl (fun K hK => ?_) ?_
        · go_simp
          refine (or_two x y _ _ (by exact one_cell (new_block _ _ _) rfl) (by exact one_cell (new_block _ _ _) rfl)).mono ?_
          rintro e w2 ⟨rfl, rfl⟩
          refine hK.out _ _ ?_ (fun hHeld => ?_)
          · exact hHeld
          clear hK K
          try simp only [Act.put, List.setIfInBounds_toArray, List.set_cons_zero, List.set_cons_succ]
          refine take_lit (i := 22) (v := ?_) rfl (by kernel_rfl) (by kernel_rfl) (by kernel_rfl) (fun _ _ _ h => h) (Or.inl ⟨by rfl, ?_⟩) (by assumption) ?_
          rotate_left
          · (intro w hSw; (try dsimp only at hSw); go_simp <;> with_reducible rfl)
          try simp only [Act.put, List.setIfInBounds_toArray, List.set_cons_zero, List.set_cons_succ]
          refine wpAnyH_done (by kernel_rfl) ?_ _
          refine NoPanic.normal ?_
          go_wp2
          go_ret
          exact ⟨rfl, hHeld.1⟩
        exact AllReadyH.nil
      exact AllReadyH.nil
    exact AllReadyH.nil
  exact AllReadyH.nil
section
variable {α : Type} [Inhabited α]
theorem sw_other (enc : α → Value) (w : World) (blk off m : Nat) (d : Array α) (os : Array Obj) {k : Nat} (hk : k < w.heap.size) (hne : k ≠ blk) : (sortWorld enc w blk off m d os).heap[k]? = w.heap[k]? := by
  unfold sortWorld
  rw [Sort.heap_grow_old _ _ (by simpa using hk)]
  show ((Sort.ahead w m).heap.modify blk _)[k]? = _
  rw [Array.getElem?_modify, if_neg (fun e => hne e.symm)]
  rfl
theorem sw_below (enc : α → Value) (w : World) (blk off m : Nat) (d : Array α) (os : Array Obj) {B : Nat} (hB : B ≤ blk) (hl : blk < w.heap.size) : Below B w (sortWorld enc w blk off m d os) :=
  ⟨rfl, rfl, rfl, by unfold sortWorld; rw [Sort.size_grow]; simp, fun k hk => sw_other enc w blk off m d os (by omega) (by omega)⟩
end
theorem sw_same {α : Type} [Inhabited α] (enc : α → Value) (w : World) (blk off m : Nat) (d : Array α) (os : Array Obj) {cur : Array Value} {T : TypeId} {f : Nat × Nat} (h : w.heap[blk]? = some (.cells cur T f)) : ∃ cur', (sortWorld enc w blk off m d os).heap[blk]? = some (.cells cur' T f) := by
  have hl := (Array.getElem?_eq_some_iff.1 h).1
  unfold sortWorld
  rw [Sort.heap_grow_old _ _ (by simpa using hl)]
  show ∃ cur', ((Sort.ahead w m).heap.modify blk _)[blk]? = _
  rw [Array.getElem?_modify, if_pos rfl, Sort.heap_ahead, h]
  exact ⟨_, rfl⟩
/-- The timers of a line, each with the fact that it is one of them. -/
def tagged (L : List Tm) : Array {t : Tm // t ∈ L} := L.attach.toArray
theorem tagged_size (L : List Tm) : (tagged L).size = L.length := by simp [tagged]
theorem srt_any (L : List Tm) (blk cap : Nat) (w : World) (hne : 0 < L.length) (hL : L.length ≤ 10000) (hb : blk < w.heap.size) (hc : ∀ i (hi : i < L.length), w.cell? ⟨blk, i, none⟩ = some (encT L[i]) ∧ w.frozen? ⟨blk, i, none⟩ = false)
    (hT : ∀ t ∈ L, t.b ≠ blk ∧ ∃ i, Tim w t i) :
    Calls Try.prog 41 #[.slice (some ⟨blk, 0, none⟩) L.length cap, .func (.func 35) #[] #[]] w fun e w' =>
      e = .returned (.tuple #[]) ∧ ∃ K : List Tm, K.Perm L ∧ (∀ i j (hi : i < K.length) (hj : j < K.length), i < j → ¬ Ah K[j] K[i]) ∧ (∀ i (hi : i < K.length), w'.cell? ⟨blk, i, none⟩ = some (encT K[i])) ∧ (∀ B, B ≤ blk → Below B w w') ∧ (∀ cur T, w.heap[blk]? = some (.cells cur T (0, 0)) → ∃ cur', w'.heap[blk]? = some (.cells cur' T (0, 0))) := by
  have hin : Inhabited {t : Tm // t ∈ L} := ⟨⟨L[0], List.getElem_mem hne⟩⟩
  have hg : ∀ i (hi : i < L.length), (tagged L)[i]! = ⟨L[i], List.getElem_mem hi⟩ := fun i hi => by
    rw [getElem!_pos _ i (by rw [tagged_size]; exact hi)]
    simp [tagged]
  have hH : Sort.Holds (fun x : {t : Tm // t ∈ L} => encT x.1) w blk 0 (tagged L) := fun j hj => by
    rw [tagged_size] at hj
    rw [Nat.zero_add, hg j hj]
    exact hc j hj
  have hcmp : CmpLays1 Try.prog 35 #[] (fun x : {t : Tm // t ∈ L} => encT x.1) (fun x y => cmpT x.1 y.1) blk 0 (tagged L).size w := fun m os dk hs x y => by
    obtain ⟨hx, i, hi⟩ := hT x.1 x.2
    obtain ⟨hy, j, hj⟩ := hT y.1 y.2
    exact compare_gr x.1 y.1 i j _ ((sw_other _ w blk 0 m dk os hi.lt hx).trans hi) ((sw_other _ w blk 0 m dk os hj.lt hy).trans hj)
  have h : Calls Try.prog 41 _ _ _ := Any.slices_SortFunc Try.sortL (fun x : {t : Tm // t ∈ L} => encT x.1) (fun _ => rfl) (fun x y => cmpT x.1 y.1) swo_cmpT 35 #[] blk 0 cap (tagged L) w (enters_of Try.func35 (by kernel_rfl) rfl) hcmp hH hb (by rw [tagged_size]; omega)
  rw [tagged_size] at h
  refine h.mono ?_
  rintro e w' ⟨rfl, d', n, os, hp, hs, rfl⟩
  have hz : d'.size = L.length := by rw [hp.1, tagged_size]
  have hh := SW.holds (w0 := w) (dk := d') ⟨n, os, rfl⟩ hb hH hp.1
  have hg' : ∀ i (hi : i < d'.size), d'[i]! = d'[i] := fun i hi => getElem!_pos _ i hi
  refine ⟨rfl, d'.toList.map (·.1), ?_, ?_, ?_, fun B hB => sw_below _ w blk 0 n d' os hB hb, fun cur T hh => sw_same _ w blk 0 n d' os hh⟩
  · have h3 := hp.2.2
    rw [Array.extract_eq_self_of_le (by omega), Array.extract_eq_self_of_le (by rw [tagged_size]; omega)] at h3
    have h4 := h3.map (·.1)
    rwa [show (tagged L).toList.map (·.1) = L by simp [tagged]] at h4
  · intro i j hi hj hij
    simp only [List.length_map, Array.length_toList] at hi hj
    have h5 := hs i j (Nat.zero_le _) hij (by omega)
    rw [hg' j hj, hg' i hi] at h5
    have h6 := of_decide_eq_false h5
    rw [cmpT_ah] at h6
    simpa using h6
  · intro i hi
    simp only [List.length_map, Array.length_toList] at hi
    have h7 := (hh i hi).1
    rw [Nat.zero_add, hg' i hi] at h7
    simpa using h7
end Go.Proofs.Ytkamcnjofpamhaa
