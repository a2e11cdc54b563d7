/-
  The contract of the document's own Open for every bytes within memory.
-/
import Derived.Test.YtgkonglkfjbmnaaRefP
namespace Go.Proofs.Ytgkonglkfjbmnaa
open Go.RowKit
set_option linter.unusedSimpArgs false

theorem at_lit {ops : Array Oper} {i : Nat} {o : Oper} {rest : List Oper} (h : ops.toList.drop i = o :: rest) : ops[i]? = some o := by
  have e : (ops.toList.drop i)[0]? = some o := by rw [h]; rfl
  rw [List.getElem?_drop] at e
  simpa using e
theorem take_lit {P : Program} {md : Region.Mode} {ops : Array Oper} {Q : Exit → Act → World → Prop} {S : World → Prop} {i : Nat} {oi : Oper} {rest : List Oper} {v : Value} {fuel : Nat} {listed : Array Bool} {a : Act} {w : World} (hi : ops.toList.drop i = oi :: rest)
    (hs : Region.noSelect ops = true) (hf : Region.free md ops listed i = true) (hr : (Region.ready md ops listed).contains i = true)
    (hQ : ∀ c a w, Q (.panic c) (a.put oi.dst v) w → Q (.panic c) a w) (hy : YieldsIf P ops S oi v a) (hS : S w)
    (h : wpAnyH P md ops Q S fuel (listed.setIfInBounds i true) (a.put oi.dst v) w) : wpAnyH P md ops Q S (fuel + 1) listed a w :=
  wpAnyH_take (at_lit hi) hs hf hr hQ hy hS h
theorem cons_lit {P : Program} {md : Region.Mode} {ops : Array Oper} {Q : Exit → Act → World → Prop} {S : World → Prop} {fuel : Nat} {listed : Array Bool} {a : Act} {w : World} {i : Nat} {o : Oper} {rest : List Oper} {rs : List Nat} (ho : ops.toList.drop i = o :: rest)
    (h : ∀ K' : Act → World → Prop, Shut (∀ a w, S w → (S w → wpAnyH P md ops Q S fuel (listed.setIfInBounds i true) a w) → K' a w) → if Region.wanted o (yielded ops a.tmps) = true then Oper.wp P o a w K' Q else K' (a.put o.dst undef) w)
    (hs : AllReadyH P md ops Q S fuel listed a w rs) : AllReadyH P md ops Q S fuel listed a w (i :: rs) := AllReadyH.cons (at_lit ho) h hs
theorem two_new (w : World) (o o' : Obj) : ((w.alloc o).alloc o').heap[w.heap.size + 1]? = some o' := by
  have := heap_alloc_new (w.alloc o) o'
  rwa [World.size_alloc] at this
theorem two_old (w : World) (o o' : Obj) : ((w.alloc o).alloc o').heap[w.heap.size]? = some o := (heap_alloc_old' (w.alloc o) o' _ (by simp)).trans (heap_alloc_new w o)
/-- Bytes that lie in a block with cells stay where an empty one is written. -/
theorem src_keep {x w' : World} {h : Nat} {a : Option Addr} {m c : Nat} {xs : List Value} (hs : Src x a m c xs) (hh : x.heap[h]? = some (.cells #[] 5 (0, 0))) (hg : x.grownBy w' (some h)) : Src w' a m c xs := by
  refine hs.grown hg (fun ad had hne e => ?_)
  cases xs with
  | nil => exact hne rfl
  | cons u r =>
    have h1 := hs.cell ad had 0 u rfl
    rw [Addr.add_zero'] at h1
    cases e
    obtain ⟨b, o, x⟩ := ad
    cases x with
    | none =>
      rw [cell_of_row _ _ _ _ _ _ hh] at h1
      simp at h1
    | some y =>
      have := World.cell?_spot h1
      simp at this

set_option maxRecDepth 100000 in
set_option maxHeartbeats 1000000 in
theorem ropen_0 (ad : Addr) (n c : Nat) (l : List UInt8) (w : World) (m v X Y : Nat) (H : Hm w ad m v X Y) (hs : Src w (some ad) n c (bcells l)) (hc : n ≤ c) (hn : ¬ n < 4) (hb : n ≤ 140737488355328) (h1 : m = 42) (h2 : v = 2) (hx : X < 256) (hy : Y < 256) (h3 : 4 + (X * 256 + Y) ≤ n) :
    Calls Try.prog 12 #[.slice (some ad) n c] w fun e w' => ∃ a1 c1 a2 c2, e = .returned (.tuple #[.slice a1 (X * 256 + Y) c1, .slice a2 (n - (4 + (X * 256 + Y))) c2, .int .i64 0]) ∧ Src w' a1 (X * 256 + Y) c1 (bcells ((l.drop 4).take (X * 256 + Y))) ∧ Src w' a2 (n - (4 + (X * 256 + Y))) c2 (bcells (l.drop (4 + (X * 256 + Y)))) ∧ Below w.heap.size w w' := by
  obtain ⟨c0, c1, c2, c3⟩ := H
  subst h1 h2
  have ho := or_low64 X Y hx hy
  obtain ⟨N, hN⟩ : ∃ N, N = X * 256 + Y := ⟨_, rfl⟩
  rw [← hN] at ho h3 ⊢
  have hNl : N < 65536 := by omega
  have HN : Hid (N = X * 256 + Y) := hN
  have hd : ¬ (n : Int) - 4 < (N : Int) := by omega
  obtain ⟨sa, sc, hsl, HSL⟩ := slice_mid ad n c 4 N h3 hc
  obtain ⟨ta, tc, htl, HTL⟩ := slice_to ad n c (4 + N) h3 hc
  have HS1 : Hid (∀ w', Below w.heap.size w w' → Src w' sa N sc (bcells ((l.drop 4).take N))) := fun w' hb => HSL w' l (hs.below hb hs.lt)
  have HS2 : Hid (∀ w', Below w.heap.size w w' → Src w' ta (n - (4 + N)) tc (bcells (l.drop (4 + N)))) := fun w' hb => HTL w' l (hs.below hb hs.lt)
  have x1 : IntKind.i64.wrap (4 + (N : Int)) = 4 + (N : Int) := by rw [IntKind.wrap_i64]; omega
  have x2 : ((4 + N : Nat) : Int) = 4 + (N : Int) := by omega
  rw [x2] at htl
  rw [show ((4 : Nat) : Int) = 4 from rfl] at hsl
  clear hN HSL HTL hs x2
  go_enter Try.func12, Try.ntmps12
  go_wp2
  go_quiet (fail)
  go_wp2
  have hB0 : Below w.heap.size w (w.drewN nq) := below_drewN (Below.refl _ _) _
  generalize w.drewN nq = V at *
  have hVs := hB0.size
  refine wp_region_noPanic ?_
  refine wp_region_held_drew (S := fun W => Below V.heap.size V W) (by kernel_rfl) ((Below.refl _ _).drew) (fun hHeld => ?_)
  refine take_lit (i := 1) (v := ?_) rfl (by kernel_rfl) (by kernel_rfl) (by kernel_rfl) (fun _ _ _ h => h) (Or.inl ⟨by rfl, ?_⟩) (by assumption) ?_
  rotate_left
  · (intro w hSw; (try dsimp only at hSw); go_simp <;> with_reducible rfl)
  try simp only [Act.put, List.setIfInBounds_toArray, List.set_cons_zero, List.set_cons_succ]
  refine take_lit (i := 2) (v := ?_) rfl (by kernel_rfl) (by kernel_rfl) (by kernel_rfl) (fun _ _ _ h => h) (Or.inl ⟨by rfl, ?_⟩) (by assumption) ?_
  rotate_left
  · (intro w hSw; (try dsimp only at hSw); go_simp <;> with_reducible rfl)
  try simp only [Act.put, List.setIfInBounds_toArray, List.set_cons_zero, List.set_cons_succ]
  refine take_lit (i := 3) (v := ?_) rfl (by kernel_rfl) (by kernel_rfl) (by kernel_rfl) (fun _ _ _ h => h) (Or.inl ⟨by rfl, ?_⟩) (by assumption) ?_
  rotate_left
  · (intro w hSw; (try dsimp only at hSw); go_simp <;> with_reducible rfl)
  try simp only [Act.put, List.setIfInBounds_toArray, List.set_cons_zero, List.set_cons_succ]
  refine take_lit (i := 4) (v := ?_) rfl (by kernel_rfl) (by kernel_rfl) (by kernel_rfl) (fun _ _ _ h => h) (Or.inl ⟨by rfl, ?_⟩) (by assumption) ?_
  rotate_left
  · (intro w hSw; (try dsimp only at hSw); go_simp <;> with_reducible rfl)
  try simp only [Act.put, List.setIfInBounds_toArray, List.set_cons_zero, List.set_cons_succ]
  refine take_lit (i := 7) (v := ?_) rfl (by kernel_rfl) (by kernel_rfl) (by kernel_rfl) (fun _ _ _ h => h) (Or.inl ⟨by rfl, ?_⟩) (by assumption) ?_
  rotate_left
  · (intro w hSw; (try dsimp only at hSw); go_simp <;> with_reducible rfl)
  try simp only [Act.put, List.setIfInBounds_toArray, List.set_cons_zero, List.set_cons_succ]
  refine take_lit (i := 8) (v := ?_) rfl (by kernel_rfl) (by kernel_rfl) (by kernel_rfl) (fun _ _ _ h => h) (Or.inl ⟨by rfl, ?_⟩) (by assumption) ?_
  rotate_left
  · (intro w hSw; (try dsimp only at hSw); go_simp <;> with_reducible rfl)
  try simp only [Act.put, List.setIfInBounds_toArray, List.set_cons_zero, List.set_cons_succ]
  refine take_lit (i := 9) (v := ?_) rfl (by kernel_rfl) (by kernel_rfl) (by kernel_rfl) (fun _ _ _ h => h) (Or.inl ⟨by rfl, ?_⟩) (by assumption) ?_
  rotate_left
  · (intro w hSw; (try dsimp only at hSw); go_simp <;> with_reducible rfl)
  try simp only [Act.put, List.setIfInBounds_toArray, List.set_cons_zero, List.set_cons_succ]
  refine take_lit (i := 10) (v := ?_) rfl (by kernel_rfl) (by kernel_rfl) (by kernel_rfl) (fun _ _ _ h => h) (Or.inl ⟨by rfl, ?_⟩) (by assumption) ?_
  rotate_left
  · (intro w hSw; (try dsimp only at hSw); go_simp <;> with_reducible rfl)
  try simp only [Act.put, List.setIfInBounds_toArray, List.set_cons_zero, List.set_cons_succ]
  refine wpAnyH_ready (rs := [0, 6]) (by kernel_rfl) (by simp) ?_
  refine cons_lit rfl (fun K hK => ?_) ?_
  · go_simp
    refine hK.out _ _ ?_ (fun hHeld => ?_)
    · exact hHeld.alloc hHeld.size _
    clear hK K
    try simp only [Act.put, List.setIfInBounds_toArray, List.set_cons_zero, List.set_cons_succ]
    refine wpAnyH_ready (rs := [5, 6]) (by kernel_rfl) (by simp) ?_
    refine cons_lit rfl (fun K hK => ?_) ?_
    · skip
      refine step_copy (by rfl) (.tmp 32) (.tmp 36) (by rfl) _ (by rfl) (by first | exact heap_alloc_new _ _ | exact two_old _ _ _ | exact two_new _ _ _) sa N sc ((l.drop 4).take N) (by rfl) (HS1.out _ (hB0.trans (hHeld.mono hVs))) (by omega) ?_
      intro a5 c5 x5 own5 hg5
      have h5s : V.heap.size ≤ x5.heap.size := Nat.le_trans hHeld.size hg5.size
      refine hK.out _ _ ?_ (fun hHeld => ?_)
      · exact hHeld.grown hg5 hHeld.size (fun j hj => by cases hj; first | exact h5s | simp)
      clear hK K
      try simp only [Act.put, List.setIfInBounds_toArray, List.set_cons_zero, List.set_cons_succ]
      refine wpAnyH_ready (rs := [6]) (by kernel_rfl) (by simp) ?_
      refine cons_lit rfl (fun K hK => ?_) ?_
      · go_simp
        refine hK.out _ _ ?_ (fun hHeld => ?_)
        · exact hHeld.alloc hHeld.size _
        clear hK K
        try simp only [Act.put, List.setIfInBounds_toArray, List.set_cons_zero, List.set_cons_succ]
        refine wpAnyH_ready (rs := [11]) (by kernel_rfl) (by simp) ?_
        refine cons_lit rfl (fun K hK => ?_) ?_
        · skip
          refine step_copy (by rfl) (.tmp 38) (.tmp 42) (by rfl) _ (by rfl) (by first | exact heap_alloc_new _ _ | exact (hg5.block _ (by simp <;> omega) (by simp <;> omega)).trans (two_old _ _ _) | exact (hg5.block _ (by simp <;> omega) (by simp <;> omega)).trans (two_new _ _ _)) ta (n - (4 + N)) tc (l.drop (4 + N)) (by rfl) (HS2.out _ (hB0.trans (hHeld.mono hVs))) (by omega) ?_
          intro a11 c11 x11 own11 hg11
          have s11 := own_src own11
          have s5 : Src x11 a5 N c5 (bcells ((l.drop 4).take N)) := by first | exact src_keep ((own_src own5).alloc _) (heap_alloc_new _ _) hg11 | exact src_keep (own_src own5) ((hg5.block _ (by simp <;> omega) (by simp <;> omega)).trans (two_old _ _ _)) hg11 | exact src_keep (own_src own5) ((hg5.block _ (by simp <;> omega) (by simp <;> omega)).trans (two_new _ _ _)) hg11
          refine hK.out _ _ ?_ (fun hHeld => ?_)
          · exact hHeld.grown hg11 hHeld.size (fun j hj => by cases hj; first | exact h5s | simp)
          clear hK K
          try simp only [Act.put, List.setIfInBounds_toArray, List.set_cons_zero, List.set_cons_succ]
          refine take_lit (i := 12) (v := ?_) rfl (by kernel_rfl) (by kernel_rfl) (by kernel_rfl) (fun _ _ _ h => h) (Or.inl ⟨by rfl, ?_⟩) (by assumption) ?_
          rotate_left
          · (intro w hSw; (try dsimp only at hSw); go_simp <;> with_reducible rfl)
          try simp only [Act.put, List.setIfInBounds_toArray, List.set_cons_zero, List.set_cons_succ]
          refine take_lit (i := 13) (v := ?_) rfl (by kernel_rfl) (by kernel_rfl) (by kernel_rfl) (fun _ _ _ h => h) (Or.inl ⟨by rfl, ?_⟩) (by assumption) ?_
          rotate_left
          · (intro w hSw; (try dsimp only at hSw); go_simp <;> with_reducible rfl)
          try simp only [Act.put, List.setIfInBounds_toArray, List.set_cons_zero, List.set_cons_succ]
          refine take_lit (i := 14) (v := ?_) rfl (by kernel_rfl) (by kernel_rfl) (by kernel_rfl) (fun _ _ _ h => h) (Or.inl ⟨by rfl, ?_⟩) (by assumption) ?_
          rotate_left
          · (intro w hSw; (try dsimp only at hSw); go_simp <;> with_reducible rfl)
          try simp only [Act.put, List.setIfInBounds_toArray, List.set_cons_zero, List.set_cons_succ]
          refine wpAnyH_done (by kernel_rfl) ?_ _
          refine NoPanic.normal ?_
          go_wp2
          go_ret3
          exact ⟨a5, c5, a11, c11, rfl, s5, s11, hB0.trans (hHeld.mono hVs)⟩
        exact AllReadyH.nil
      exact AllReadyH.nil
    refine cons_lit rfl (fun K hK => ?_) ?_
    · go_simp
      refine hK.out _ _ ?_ (fun hHeld => ?_)
      · exact hHeld.alloc hHeld.size _
      clear hK K
      try simp only [Act.put, List.setIfInBounds_toArray, List.set_cons_zero, List.set_cons_succ]
      refine wpAnyH_ready (rs := [5]) (by kernel_rfl) (by simp) ?_
      refine cons_lit rfl (fun K hK => ?_) ?_
      · skip
        refine step_copy (by rfl) (.tmp 32) (.tmp 36) (by rfl) _ (by rfl) (by first | exact heap_alloc_new _ _ | exact two_old _ _ _ | exact two_new _ _ _) sa N sc ((l.drop 4).take N) (by rfl) (HS1.out _ (hB0.trans (hHeld.mono hVs))) (by omega) ?_
        intro a5 c5 x5 own5 hg5
        have h5s : V.heap.size ≤ x5.heap.size := Nat.le_trans hHeld.size hg5.size
        refine hK.out _ _ ?_ (fun hHeld => ?_)
        · exact hHeld.grown hg5 hHeld.size (fun j hj => by cases hj; first | exact h5s | simp)
        clear hK K
        try simp only [Act.put, List.setIfInBounds_toArray, List.set_cons_zero, List.set_cons_succ]
        refine wpAnyH_ready (rs := [11]) (by kernel_rfl) (by simp) ?_
        refine cons_lit rfl (fun K hK => ?_) ?_
        · skip
          refine step_copy (by rfl) (.tmp 38) (.tmp 42) (by rfl) _ (by rfl) (by first | exact heap_alloc_new _ _ | exact (hg5.block _ (by simp <;> omega) (by simp <;> omega)).trans (two_old _ _ _) | exact (hg5.block _ (by simp <;> omega) (by simp <;> omega)).trans (two_new _ _ _)) ta (n - (4 + N)) tc (l.drop (4 + N)) (by rfl) (HS2.out _ (hB0.trans (hHeld.mono hVs))) (by omega) ?_
          intro a11 c11 x11 own11 hg11
          have s11 := own_src own11
          have s5 : Src x11 a5 N c5 (bcells ((l.drop 4).take N)) := by first | exact src_keep ((own_src own5).alloc _) (heap_alloc_new _ _) hg11 | exact src_keep (own_src own5) ((hg5.block _ (by simp <;> omega) (by simp <;> omega)).trans (two_old _ _ _)) hg11 | exact src_keep (own_src own5) ((hg5.block _ (by simp <;> omega) (by simp <;> omega)).trans (two_new _ _ _)) hg11
          refine hK.out _ _ ?_ (fun hHeld => ?_)
          · exact hHeld.grown hg11 hHeld.size (fun j hj => by cases hj; first | exact h5s | simp)
          clear hK K
          try simp only [Act.put, List.setIfInBounds_toArray, List.set_cons_zero, List.set_cons_succ]
          refine take_lit (i := 12) (v := ?_) rfl (by kernel_rfl) (by kernel_rfl) (by kernel_rfl) (fun _ _ _ h => h) (Or.inl ⟨by rfl, ?_⟩) (by assumption) ?_
          rotate_left
          · (intro w hSw; (try dsimp only at hSw); go_simp <;> with_reducible rfl)
          try simp only [Act.put, List.setIfInBounds_toArray, List.set_cons_zero, List.set_cons_succ]
          refine take_lit (i := 13) (v := ?_) rfl (by kernel_rfl) (by kernel_rfl) (by kernel_rfl) (fun _ _ _ h => h) (Or.inl ⟨by rfl, ?_⟩) (by assumption) ?_
          rotate_left
          · (intro w hSw; (try dsimp only at hSw); go_simp <;> with_reducible rfl)
          try simp only [Act.put, List.setIfInBounds_toArray, List.set_cons_zero, List.set_cons_succ]
          refine take_lit (i := 14) (v := ?_) rfl (by kernel_rfl) (by kernel_rfl) (by kernel_rfl) (fun _ _ _ h => h) (Or.inl ⟨by rfl, ?_⟩) (by assumption) ?_
          rotate_left
          · (intro w hSw; (try dsimp only at hSw); go_simp <;> with_reducible rfl)
          try simp only [Act.put, List.setIfInBounds_toArray, List.set_cons_zero, List.set_cons_succ]
          refine wpAnyH_done (by kernel_rfl) ?_ _
          refine NoPanic.normal ?_
          go_wp2
          go_ret3
          exact ⟨a5, c5, a11, c11, rfl, s5, s11, hB0.trans (hHeld.mono hVs)⟩
        exact AllReadyH.nil
      exact AllReadyH.nil
    exact AllReadyH.nil
  refine cons_lit rfl (fun K hK => ?_) ?_
  · go_simp
    refine hK.out _ _ ?_ (fun hHeld => ?_)
    · exact hHeld.alloc hHeld.size _
    clear hK K
    try simp only [Act.put, List.setIfInBounds_toArray, List.set_cons_zero, List.set_cons_succ]
    refine wpAnyH_ready (rs := [0]) (by kernel_rfl) (by simp) ?_
    refine cons_lit rfl (fun K hK => ?_) ?_
    · go_simp
      refine hK.out _ _ ?_ (fun hHeld => ?_)
      · exact hHeld.alloc hHeld.size _
      clear hK K
      try simp only [Act.put, List.setIfInBounds_toArray, List.set_cons_zero, List.set_cons_succ]
      refine wpAnyH_ready (rs := [5]) (by kernel_rfl) (by simp) ?_
      refine cons_lit rfl (fun K hK => ?_) ?_
      · skip
        refine step_copy (by rfl) (.tmp 32) (.tmp 36) (by rfl) _ (by rfl) (by first | exact heap_alloc_new _ _ | exact two_old _ _ _ | exact two_new _ _ _) sa N sc ((l.drop 4).take N) (by rfl) (HS1.out _ (hB0.trans (hHeld.mono hVs))) (by omega) ?_
        intro a5 c5 x5 own5 hg5
        have h5s : V.heap.size ≤ x5.heap.size := Nat.le_trans hHeld.size hg5.size
        refine hK.out _ _ ?_ (fun hHeld => ?_)
        · exact hHeld.grown hg5 hHeld.size (fun j hj => by cases hj; first | exact h5s | simp)
        clear hK K
        try simp only [Act.put, List.setIfInBounds_toArray, List.set_cons_zero, List.set_cons_succ]
        refine wpAnyH_ready (rs := [11]) (by kernel_rfl) (by simp) ?_
        refine cons_lit rfl (fun K hK => ?_) ?_
        · skip
          refine step_copy (by rfl) (.tmp 38) (.tmp 42) (by rfl) _ (by rfl) (by first | exact heap_alloc_new _ _ | exact (hg5.block _ (by simp <;> omega) (by simp <;> omega)).trans (two_old _ _ _) | exact (hg5.block _ (by simp <;> omega) (by simp <;> omega)).trans (two_new _ _ _)) ta (n - (4 + N)) tc (l.drop (4 + N)) (by rfl) (HS2.out _ (hB0.trans (hHeld.mono hVs))) (by omega) ?_
          intro a11 c11 x11 own11 hg11
          have s11 := own_src own11
          have s5 : Src x11 a5 N c5 (bcells ((l.drop 4).take N)) := by first | exact src_keep ((own_src own5).alloc _) (heap_alloc_new _ _) hg11 | exact src_keep (own_src own5) ((hg5.block _ (by simp <;> omega) (by simp <;> omega)).trans (two_old _ _ _)) hg11 | exact src_keep (own_src own5) ((hg5.block _ (by simp <;> omega) (by simp <;> omega)).trans (two_new _ _ _)) hg11
          refine hK.out _ _ ?_ (fun hHeld => ?_)
          · exact hHeld.grown hg11 hHeld.size (fun j hj => by cases hj; first | exact h5s | simp)
          clear hK K
          try simp only [Act.put, List.setIfInBounds_toArray, List.set_cons_zero, List.set_cons_succ]
          refine take_lit (i := 12) (v := ?_) rfl (by kernel_rfl) (by kernel_rfl) (by kernel_rfl) (fun _ _ _ h => h) (Or.inl ⟨by rfl, ?_⟩) (by assumption) ?_
          rotate_left
          · (intro w hSw; (try dsimp only at hSw); go_simp <;> with_reducible rfl)
          try simp only [Act.put, List.setIfInBounds_toArray, List.set_cons_zero, List.set_cons_succ]
          refine take_lit (i := 13) (v := ?_) rfl (by kernel_rfl) (by kernel_rfl) (by kernel_rfl) (fun _ _ _ h => h) (Or.inl ⟨by rfl, ?_⟩) (by assumption) ?_
          rotate_left
          · (intro w hSw; (try dsimp only at hSw); go_simp <;> with_reducible rfl)
          try simp only [Act.put, List.setIfInBounds_toArray, List.set_cons_zero, List.set_cons_succ]
          refine take_lit (i := 14) (v := ?_) rfl (by kernel_rfl) (by kernel_rfl) (by kernel_rfl) (fun _ _ _ h => h) (Or.inl ⟨by rfl, ?_⟩) (by assumption) ?_
          rotate_left
          · (intro w hSw; (try dsimp only at hSw); go_simp <;> with_reducible rfl)
          try simp only [Act.put, List.setIfInBounds_toArray, List.set_cons_zero, List.set_cons_succ]
          refine wpAnyH_done (by kernel_rfl) ?_ _
          refine NoPanic.normal ?_
          go_wp2
          go_ret3
          exact ⟨a5, c5, a11, c11, rfl, s5, s11, hB0.trans (hHeld.mono hVs)⟩
        exact AllReadyH.nil
      exact AllReadyH.nil
    exact AllReadyH.nil
  exact AllReadyH.nil
/-- The document's Open: the same bytes, the same error. -/
def ROpened (w : World) (l : List UInt8) (e : Ending) (w' : World) : Prop :=
  ∃ a c b d, e = .returned (.tuple #[.slice a (opB l).length c, .slice b (opT l).length d, .int .i64 (opE l)]) ∧ Src w' a (opB l).length c (bcells (opB l)) ∧ Src w' b (opT l).length d (bcells (opT l)) ∧ Below w.heap.size w w'
theorem ropened_err {w w' : World} {l : List UInt8} {z : Int} (hz : opE l = z) (h0 : z ≠ 0) (hb : Below w.heap.size w w') : ROpened w l (.returned (.tuple #[.slice none 0 0, .slice none 0 0, .int .i64 z])) w' := by
  obtain ⟨a, c, b, d, h1, h2, h3, h4⟩ := opened_err hz h0 hb
  exact ⟨a, c, b, d, h1, h2.1, h3.1, h4⟩
theorem ropen_any (a : Option Addr) (n c : Nat) (l : List UInt8) (w : World) (hs : Src w a n c (bcells l)) (hc : n ≤ c) (hn : n ≤ 140737488355328) : Calls Try.prog 12 #[.slice a n c] w (ROpened w l) := by
  have hlen := hs.blen
  by_cases hl : l.length < 4
  · refine (ropen_short a n c w (by omega)).mono ?_
    rintro e w' ⟨rfl, rfl⟩
    refine ropened_err ?_ (by decide) (Below.refl _ _)
    match l, hl with
    | [], _ => rfl
    | [_], _ => rfl
    | [_, _], _ => rfl
    | [_, _, _], _ => rfl
  · obtain ⟨m, v, x, y, r, rfl⟩ : ∃ m v x y r, l = m :: v :: x :: y :: r := by
      match l, hl with
      | m :: v :: x :: y :: r, _ => exact ⟨m, v, x, y, r, rfl⟩
      | [], h => exact absurd (by simp) h
      | [_], h => exact absurd (by simp) h
      | [_, _], h => exact absurd (by simp) h
      | [_, _, _], h => exact absurd (by simp) h
    have hx := x.toNat_lt
    have hy := y.toNat_lt
    have e1 : m = 42 ↔ m.toNat = 42 := UInt8.toNat_inj.symm
    have e2 : v = 2 ↔ v.toNat = 2 := UInt8.toNat_inj.symm
    simp only [List.length_cons] at hlen
    cases a with
    | none => exact absurd (hs.bare rfl).1 (by omega)
    | some ad =>
      have H := Hm.of hs
      by_cases h1 : m = 42
      · by_cases h2 : v = 2
        · by_cases h3 : r.length < x.toNat * 256 + y.toNat
          · refine (ropen_52 ad n c w _ _ _ _ H (by omega) hn (e1.1 h1) (e2.1 h2) (by omega) (by omega) (by omega)).mono ?_
            rintro e w' ⟨rfl, hb⟩
            exact ropened_err (by simp [opE, h1, h2, h3]) (by decide) hb
          · refine (ropen_0 ad n c _ w _ _ _ _ H hs hc (by omega) hn (e1.1 h1) (e2.1 h2) (by omega) (by omega) (by omega)).mono ?_
            rintro e w' ⟨a1, c1, a2, c2, rfl, hs1, hs2, hb⟩
            have z : opE (m :: v :: x :: y :: r) = 0 := by simp only [opE]; rw [if_neg (by simp [h1]), if_neg (by simp [h2]), if_neg h3]
            have zB : opB (m :: v :: x :: y :: r) = r.take (x.toNat * 256 + y.toNat) := by unfold opB; rw [if_pos z]
            have zT : opT (m :: v :: x :: y :: r) = r.drop (x.toNat * 256 + y.toNat) := by unfold opT; rw [if_pos z]
            have lB : (opB (m :: v :: x :: y :: r)).length = x.toNat * 256 + y.toNat := by rw [zB]; simp; omega
            have lT : (opT (m :: v :: x :: y :: r)).length = n - (4 + (x.toNat * 256 + y.toNat)) := by rw [zT]; simp; omega
            have dT : (m :: v :: x :: y :: r).drop (4 + (x.toNat * 256 + y.toNat)) = opT (m :: v :: x :: y :: r) := by rw [zT, ← List.drop_drop]; rfl
            have dB : ((m :: v :: x :: y :: r).drop 4).take (x.toNat * 256 + y.toNat) = opB (m :: v :: x :: y :: r) := by rw [zB]; rfl
            rw [dB, ← lB] at hs1
            rw [dT, ← lT] at hs2
            exact ⟨a1, c1, a2, c2, by rw [lB, lT, z], hs1, hs2, hb⟩
        · refine (ropen_51 ad n c w _ _ _ _ H (by omega) (e1.1 h1) (fun h => h2 (e2.2 h))).mono ?_
          rintro e w' ⟨rfl, hb⟩
          exact ropened_err (by simp [opE, h1, h2]) (by decide) hb
      · refine (ropen_50 ad n c w _ _ _ _ H (by omega) (fun h => h1 (e1.2 h))).mono ?_
        rintro e w' ⟨rfl, hb⟩
        exact ropened_err (by simp [opE, h1]) (by decide) hb
end Go.Proofs.Ytgkonglkfjbmnaa
