/-
  How entries are compared: by their pairs.
-/
import Derived.Test.YtadnnjngflphjaaB4
import Derived.Test.YtadnnjngflphjaaTLast
import Derived.Deep.QuietTactic
import Derived.BigQuiet
import Derived.Deep.CutBlock
import Derived.Lib.Bytealg
import Derived.Lib.BytesEntry
import Derived.Laws.Externs
import Derived.Handy
import Derived.Shelf.SlSortCmp.WholeK
namespace Go.Proofs.Ytadnnjngflphjaa
open Go.RowKit Go.Shelf
set_option linter.unusedSimpArgs false
set_option linter.unusedVariables false
set_option maxRecDepth 20000
/-- A later world that has only grown. -/
def Gr (w W : World) : Prop := ∃ q os, W = Sort.grow (w.drewN q) os
theorem Gr.refl (w : World) : Gr w w := ⟨0, #[], by rw [Sort.grow_empty]; rfl⟩
theorem Gr.drew {w W : World} (h : Gr w W) : Gr w W.drew := by
  obtain ⟨q, os, rfl⟩ := h
  exact ⟨q + 1, os, by rw [Sort.drew_grow]; rfl⟩
theorem Gr.alloc {w W : World} (h : Gr w W) (o : Obj) : Gr w (W.alloc o) := by
  obtain ⟨q, os, rfl⟩ := h
  exact ⟨q, os ++ #[o], by rw [Sort.alloc_eq_grow, Sort.grow_grow]⟩
theorem drewN_drewN (w : World) (q : Nat) : ∀ r, (w.drewN q).drewN r = w.drewN (q + r)
  | 0 => rfl
  | r + 1 => by show ((w.drewN q).drewN r).drew = _; rw [drewN_drewN w q r]; rfl
theorem drewN_grow (w : World) (os : Array Obj) : ∀ r, (Sort.grow w os).drewN r = Sort.grow (w.drewN r) os
  | 0 => rfl
  | r + 1 => by show ((Sort.grow w os).drewN r).drew = _; rw [drewN_grow w os r, Sort.drew_grow]; rfl
theorem Gr.trans {w W V : World} (h : Gr w W) (k : Gr W V) : Gr w V := by
  obtain ⟨q, os, rfl⟩ := h
  obtain ⟨r, os', rfl⟩ := k
  exact ⟨q + r, os ++ os', by rw [drewN_grow, drewN_drewN, Sort.grow_grow]⟩
theorem Gr.below {w W : World} (h : Gr w W) : Below w.heap.size w W := by
  obtain ⟨q, os, rfl⟩ := h
  exact ⟨rfl, rfl, rfl, by rw [Sort.size_grow]; exact Nat.le_add_right _ _, fun k hk => Sort.heap_grow_old _ _ hk⟩
def cmpI (a b : Int) : Int := if a < b then -1 else if b < a then 1 else 0
theorem nan_int (a : Int) (w : World) : Calls Try.prog 80 #[.int .i64 a] w fun e w' => e = .returned (.bool false) ∧ w = w' := by
  go_enter Try.func80, Try.ntmps80
  go_wp2
  go_ret
  exact ⟨rfl, rfl⟩
theorem cmp_int (a b : Int) (w : World) : Calls Try.prog 77 #[.int .i64 a, .int .i64 b] w fun e w' => e = .returned (.int .i64 (cmpI a b)) ∧ w = w' := by
  by_cases h1 : a < b
  · have hc : cmpI a b = -1 := by unfold cmpI; rw [if_pos h1]
    rw [hc]; clear hc
    go_enter Try.func77, Try.ntmps77
    go_wp2_with (go_at_call 80; refine (nan_int _ _).mono ?_; rintro e w' ⟨rfl, rfl⟩)
    go_ret
    exact ⟨rfl, rfl⟩
  · by_cases h2 : b < a
    · have hc : cmpI a b = 1 := by unfold cmpI; rw [if_neg h1, if_pos h2]
      rw [hc]; clear hc
      go_enter Try.func77, Try.ntmps77
      go_wp2_with (go_at_call 80; refine (nan_int _ _).mono ?_; rintro e w' ⟨rfl, rfl⟩)
      go_ret
      exact ⟨rfl, rfl⟩
    · have hc : cmpI a b = 0 := by unfold cmpI; rw [if_neg h1, if_neg h2]
      rw [hc]; clear hc
      go_enter Try.func77, Try.ntmps77
      go_wp2_with (go_at_call 80; refine (nan_int _ _).mono ?_; rintro e w' ⟨rfl, rfl⟩)
      go_ret
      exact ⟨rfl, rfl⟩
def orI (x y : Int) : Int := if x = 0 then y else x
theorem or_two (x y : Int) (g : Nat) (w : World) (h0 : w.cell? ⟨g, 0, none⟩ = some (.int .i64 x)) (h1 : w.cell? ⟨g, 1, none⟩ = some (.int .i64 y)) : Calls Try.prog 69 #[.slice (some ⟨g, 0, none⟩) 2 2] w fun e w' => e = .returned (.int .i64 (orI x y)) ∧ w = w' := by
  by_cases hx : x = 0
  · have hc : orI x y = y := by unfold orI; rw [if_pos hx]
    rw [hc]; clear hc
    have hx' : (x != 0) = false := by simpa using hx
    clear hx
    by_cases hy : y = 0
    · subst hy
      go_enter Try.func69, Try.ntmps69
      go_wp2
      go_rounds 3
      go_ret
      exact ⟨rfl, rfl⟩
    · have hy' : (y != 0) = true := by simpa using hy
      clear hy
      go_enter Try.func69, Try.ntmps69
      go_wp2
      go_rounds 3
      go_ret
      exact ⟨rfl, rfl⟩
  · have hc : orI x y = x := by unfold orI; rw [if_neg hx]
    rw [hc]; clear hc
    have hx' : (x != 0) = true := by simpa using hx
    clear hx
    go_enter Try.func69, Try.ntmps69
    go_wp2
    go_rounds 3
    go_ret
    exact ⟨rfl, rfl⟩
theorem loadX (l : List UInt8) (b o : Nat) (w : World) (h : w.rangeAt b o (bcells l)) : (Extern.Bytes.loadBytes ⟨b, o, none⟩ l.length .empty).run Try.prog w = .ok ⟨l.toArray⟩ w := by
  have := Lib.run_loadBytesX (P := Try.prog) (w := w) (l.map fun b => (b.toNat : Int)) ⟨b, o, none⟩ .empty (fun j x hx => by
    rw [Addr.add_mid]
    rw [List.getElem?_map] at hx
    cases hj : l[j]? with
    | none => rw [hj] at hx; cases hx
    | some c => rw [hj] at hx; cases hx; exact h j _ (bcells_get hj))
  have e : Lib.bytesOf (l.map fun b => (b.toNat : Int)) = l := by
    unfold Lib.bytesOf
    rw [List.map_map]
    conv => rhs; rw [← List.map_id l]
    apply List.map_congr_left
    intro x _
    simp
  rw [e] at this
  simpa using this
theorem bcmp (l m : List UInt8) (b1 o1 b2 o2 c1 c2 n1 n2 : Nat) (w : World) (hn1 : n1 = l.length) (hn2 : n2 = m.length) (h1 : w.rangeAt b1 o1 (bcells l)) (h2 : w.rangeAt b2 o2 (bcells m)) : Calls Try.prog 79 #[.slice (some ⟨b1, o1, none⟩) n1 c1, .slice (some ⟨b2, o2, none⟩) n2 c2] w fun e w' => e = .returned (.int .i64 (Lib.compareBytes l m)) ∧ w' = w := by
  have hx : (callFunc 81 #[.slice (some ⟨b1, o1, none⟩) n1 c1, .slice (some ⟨b2, o2, none⟩) n2 c2]).run Try.prog w = .ok (.value (.int .i64 (Lib.compareBytes l m))) w := by
    rw [run_callFunc_extern Try.func81 (by kernel_rfl) (by kernel_rfl) (by kernel_rfl) (e := Extern.BytealgCompare.compare) (by kernel_rfl)]
    subst hn1 hn2
    have e1 := loadX l b1 o1 w h1
    have e2 := loadX m b2 o2 w h2
    change ((Sem.run Try.prog (do pure (goInt (Extern.BytealgCompare.cmp (← Extern.Bytes.bytesOf (.slice (some ⟨b1, o1, none⟩) l.length c1)) (← Extern.Bytes.bytesOf (.slice (some ⟨b2, o2, none⟩) m.length c2))))) w).andThen fun v w' => .ok (Next.value v) w') = _
    simp only [Extern.Bytes.bytesOf, Sem.run_bind, e1, e2, Result.andThen_ok, Sem.run_pure, Lib.cmp_eq]
    simp [goInt]
  clear h1 h2 hn1 hn2
  go_enter Try.func79, Try.ntmps79
  go_wp2
  go_ret
  exact ⟨rfl, rfl⟩

/-- The order of addresses. -/
def cmpA (a b : Ad) : Int := Lib.compareBytes a.l b.l
theorem compare_gr (a b : Ad) (w : World) : Calls Try.prog 76 #[(Value.agg (acells a).toArray), (Value.agg (acells b).toArray)] w (fun e w' => e = .returned (.int .i64 (cmpA a b)) ∧ Gr w w') := by
  go_enter Try.func76, Try.ntmps76
  go_wp2
  refine name_world (R := fun W => Code.wp _ _ _ _ W) (P := fun W => Gr w W ∧ LA W w.heap.size 0 a ∧ LA W (w.heap.size + 1) 0 b ∧ w.heap.size + 1 < W.heap.size) _ ⟨((Gr.refl w).alloc _).alloc _, (LA.new _ _ _).alloc _, by have := LA.new (w.alloc (.cells (acells a).toArray 31)) b 31; simpa using this, by simp⟩ ?_
  rintro X ⟨hB, hP, hA, hs⟩
  have HK : Hid (∀ W, Gr X W → Gr X W ∧ LA W w.heap.size 0 a ∧ LA W (w.heap.size + 1) 0 b) := fun W h => ⟨h, hP.below h.below (by omega), hA.below h.below hs⟩
  refine wp_region_noPanic ?_
  refine wp_region_held_drew (S := fun W => Gr X W ∧ LA W w.heap.size 0 a ∧ LA W (w.heap.size + 1) 0 b) (by kernel_rfl) (HK.out _ (Gr.refl _).drew) (fun hHeld => ?_)
  refine take_lit (i := 0) (v := ?_) rfl (by kernel_rfl) (by kernel_rfl) (by kernel_rfl) (fun _ _ _ h => h) (Or.inl ⟨by rfl, ?_⟩) (by assumption) ?_
  rotate_left
  · (intro w hSw; (try dsimp only at hSw); go_simp <;> with_reducible rfl)
  try simp only [Act.put, List.setIfInBounds_toArray, List.set_cons_zero, List.set_cons_succ]
  refine take_lit (i := 1) (v := ?_) rfl (by kernel_rfl) (by kernel_rfl) (by kernel_rfl) (fun _ _ _ h => h) (Or.inl ⟨by rfl, ?_⟩) (by assumption) ?_
  rotate_left
  · (intro w hSw; (try dsimp only at hSw); go_simp <;> with_reducible rfl)
  try simp only [Act.put, List.setIfInBounds_toArray, List.set_cons_zero, List.set_cons_succ]
  refine wpAnyH_ready (rs := [2]) (by kernel_rfl) (by simp) ?_
  refine cons_lit rfl (fun K hK => ?_) ?_
  · go_simp
    refine (bcmp a.l b.l _ _ _ _ _ _ _ _ _ a.len.symm b.len.symm hHeld.2.1 hHeld.2.2).mono ?_
    rintro e w1 ⟨rfl, rfl⟩
    refine hK.out _ _ ?_ (fun hHeld => ?_)
    · exact hHeld
    clear hK K
    try simp only [Act.put, List.setIfInBounds_toArray, List.set_cons_zero, List.set_cons_succ]
    refine take_lit (i := 3) (v := ?_) rfl (by kernel_rfl) (by kernel_rfl) (by kernel_rfl) (fun _ _ _ h => h) (Or.inl ⟨by rfl, ?_⟩) (by assumption) ?_
    rotate_left
    · (intro w hSw; (try dsimp only at hSw); go_simp <;> with_reducible rfl)
    try simp only [Act.put, List.setIfInBounds_toArray, List.set_cons_zero, List.set_cons_succ]
    refine wpAnyH_done (by kernel_rfl) ?_ _
    refine NoPanic.normal ?_
    go_wp2
    go_ret
    exact ⟨rfl, hB.trans hHeld.1⟩
  exact AllReadyH.nil
/-- The order of prefixes, and of pairs. -/
def cmpP (p q : Pf) : Int := orI (cmpA p.a q.a) (cmpI p.n q.n)
def cmpQ (p q : Pr) : Int := orI (cmpP p.d q.d) (cmpP p.s q.s)
theorem gr_rows (w : World) (cs ds : List Value) (t u : TypeId) : Gr w ((w.alloc (.cells cs.toArray t)).alloc (.cells ds.toArray u)) ∧ Row ((w.alloc (.cells cs.toArray t)).alloc (.cells ds.toArray u)) w.heap.size t cs ∧ Row ((w.alloc (.cells cs.toArray t)).alloc (.cells ds.toArray u)) (w.heap.size + 1) u ds :=
  ⟨((Gr.refl w).alloc _).alloc _, (low_rows w cs ds t u).2⟩
theorem compareP_gr (p q : Pf) (w : World) : Calls Try.prog 70 #[(Value.agg (pcells p).toArray), (Value.agg (pcells q).toArray)] w (fun e w' => e = .returned (.int .i64 (cmpP p q)) ∧ Gr w w') := by
  have C1 := compare_gr p.a q.a
  have C2 := cmp_int p.n q.n
  have HE : Hid (cmpP p q = orI (cmpA p.a q.a) (cmpI p.n q.n)) := rfl
  obtain ⟨hB0, r0, r1⟩ := gr_rows w (pcells p) (pcells q) 33 33
  generalize cmpP p q = R at *
  generalize cmpA p.a q.a = x at *
  generalize cmpI p.n q.n = y at *
  go_enter Try.func70, Try.ntmps70
  go_upto_region 1 with fail
  refine name_world (R := fun W => Code.wp _ _ _ _ W) (P := fun W => Gr w W ∧ Row W w.heap.size 33 (pcells p) ∧ Row W (w.heap.size + 1) 33 (pcells q)) _ ⟨hB0, r0, r1⟩ ?_
  clear hB0 r0 r1
  rintro X ⟨hG, r0, r1⟩
  have hs0 := r0.lt
  have hs1 := r1.lt
  have HK : Hid (∀ W, Gr X W → W.cell? ⟨w.heap.size, 16, none⟩ = some (.int .i64 p.n) ∧ W.cell? ⟨w.heap.size + 1, 16, none⟩ = some (.int .i64 q.n) ∧ LA W w.heap.size 0 p.a ∧ LA W (w.heap.size + 1) 0 q.a) := fun W h => by
    have a1 : LP W w.heap.size 0 p := (r0.below h.below hs0).range
    have a2 : LP W (w.heap.size + 1) 0 q := (r1.below h.below hs1).range
    exact ⟨by simpa using a1.n, by simpa using a2.n, a1.a, a2.a⟩
  refine wp_region_noPanic ?_
  refine wp_region_held_drew (S := fun W => Gr X W) (by kernel_rfl) ((Gr.refl _).drew) (fun hHeld => ?_)
  refine take_lit (i := 0) (v := ?_) rfl (by kernel_rfl) (by kernel_rfl) (by kernel_rfl) (fun _ _ _ h => h) (Or.inl ⟨by rfl, ?_⟩) (by assumption) ?_
  rotate_left
  · (intro w hSw; (try dsimp only at hSw); go_simp <;> with_reducible rfl)
  try simp only [Act.put, List.setIfInBounds_toArray, List.set_cons_zero, List.set_cons_succ]
  refine take_lit (i := 1) rfl (by kernel_rfl) (by kernel_rfl) (by kernel_rfl) (fun _ _ _ h => h) (yA p.a (fun w h => (HK.out _ h).2.2.1) (by rfl) rfl rfl) (by assumption) ?_
  try simp only [Act.put, List.setIfInBounds_toArray, List.set_cons_zero, List.set_cons_succ]
  refine take_lit (i := 2) (v := ?_) rfl (by kernel_rfl) (by kernel_rfl) (by kernel_rfl) (fun _ _ _ h => h) (Or.inl ⟨by rfl, ?_⟩) (by assumption) ?_
  rotate_left
  · (intro w hSw; (try dsimp only at hSw); go_simp <;> with_reducible rfl)
  try simp only [Act.put, List.setIfInBounds_toArray, List.set_cons_zero, List.set_cons_succ]
  refine take_lit (i := 3) rfl (by kernel_rfl) (by kernel_rfl) (by kernel_rfl) (fun _ _ _ h => h) (yA q.a (fun w h => (HK.out _ h).2.2.2) (by rfl) rfl rfl) (by assumption) ?_
  try simp only [Act.put, List.setIfInBounds_toArray, List.set_cons_zero, List.set_cons_succ]
  refine take_lit (i := 5) (v := ?_) rfl (by kernel_rfl) (by kernel_rfl) (by kernel_rfl) (fun _ _ _ h => h) (Or.inl ⟨by rfl, ?_⟩) (by assumption) ?_
  rotate_left
  · (intro w hSw; (try dsimp only at hSw); go_simp <;> with_reducible rfl)
  try simp only [Act.put, List.setIfInBounds_toArray, List.set_cons_zero, List.set_cons_succ]
  refine take_lit (i := 6) (v := ?_) rfl (by kernel_rfl) (by kernel_rfl) (by kernel_rfl) (fun _ _ _ h => h) (Or.inl ⟨by rfl, ?_⟩) (by assumption) ?_
  rotate_left
  · (intro w hSw; (try dsimp only at hSw); have z := (HK.out _ hSw).1; go_simp <;> with_reducible rfl)
  try simp only [Act.put, List.setIfInBounds_toArray, List.set_cons_zero, List.set_cons_succ]
  refine take_lit (i := 7) (v := ?_) rfl (by kernel_rfl) (by kernel_rfl) (by kernel_rfl) (fun _ _ _ h => h) (Or.inl ⟨by rfl, ?_⟩) (by assumption) ?_
  rotate_left
  · (intro w hSw; (try dsimp only at hSw); go_simp <;> with_reducible rfl)
  try simp only [Act.put, List.setIfInBounds_toArray, List.set_cons_zero, List.set_cons_succ]
  refine take_lit (i := 8) (v := ?_) rfl (by kernel_rfl) (by kernel_rfl) (by kernel_rfl) (fun _ _ _ h => h) (Or.inl ⟨by rfl, ?_⟩) (by assumption) ?_
  rotate_left
  · (intro w hSw; (try dsimp only at hSw); have z := (HK.out _ hSw).2.1; go_simp <;> with_reducible rfl)
  try simp only [Act.put, List.setIfInBounds_toArray, List.set_cons_zero, List.set_cons_succ]
  refine wpAnyH_ready (rs := [4]) (by kernel_rfl) (by simp) ?_
  refine cons_lit rfl (fun K hK => ?_) ?_
  · go_simp
    refine (C1 _).mono ?_
    rintro e w1 ⟨rfl, hg1⟩
    refine hK.out _ _ ?_ (fun hHeld => ?_)
    · exact hHeld.trans hg1
    clear hK K
    try simp only [Act.put, List.setIfInBounds_toArray, List.set_cons_zero, List.set_cons_succ]
    refine wpAnyH_ready (rs := [9]) (by kernel_rfl) (by simp) ?_
    refine cons_lit rfl (fun K hK => ?_) ?_
    · go_simp
      refine (C2 _).mono ?_
      rintro e w2 ⟨rfl, rfl⟩
      refine hK.out _ _ ?_ (fun hHeld => ?_)
      · exact hHeld
      clear hK K
      try simp only [Act.put, List.setIfInBounds_toArray, List.set_cons_zero, List.set_cons_succ]
      refine wpAnyH_ready (rs := [10]) (by kernel_rfl) (by simp) ?_
      refine cons_lit rfl (fun K hK => ?_) ?_
      · go_simp
        refine hK.out _ _ ?_ (fun hHeld => ?_)
        · exact hHeld.alloc _
        clear hK K
        try simp only [Act.put, List.setIfInBounds_toArray, List.set_cons_zero, List.set_cons_succ]
        refine wpAnyH_ready (rs := [11]) (by kernel_rfl) (by simp) ?_
        refine cons_lit rfl (fun K hK => ?_) ?_
        · go_simp
          refine (or_two x y _ _ (by exact (Row.new _ _ _).cell 0) (by exact (Row.new _ _ _).cell 1)).mono ?_
          rintro e w3 ⟨rfl, rfl⟩
          refine hK.out _ _ ?_ (fun hHeld => ?_)
          · exact hHeld
          clear hK K
          try simp only [Act.put, List.setIfInBounds_toArray, List.set_cons_zero, List.set_cons_succ]
          refine take_lit (i := 12) (v := ?_) rfl (by kernel_rfl) (by kernel_rfl) (by kernel_rfl) (fun _ _ _ h => h) (Or.inl ⟨by rfl, ?_⟩) (by assumption) ?_
          rotate_left
          · (intro w hSw; (try dsimp only at hSw); go_simp <;> with_reducible rfl)
          try simp only [Act.put, List.setIfInBounds_toArray, List.set_cons_zero, List.set_cons_succ]
          refine wpAnyH_done (by kernel_rfl) ?_ _
          refine NoPanic.normal ?_
          go_wp2
          go_ret
          exact ⟨by rw [HE.out]; rfl, hG.trans hHeld⟩
        exact AllReadyH.nil
      exact AllReadyH.nil
    exact AllReadyH.nil
  exact AllReadyH.nil
theorem compareQ_gr (p q : Pr) (w : World) : Calls Try.prog 57 #[(Value.agg (qcells p).toArray), (Value.agg (qcells q).toArray)] w (fun e w' => e = .returned (.int .i64 (cmpQ p q)) ∧ Gr w w') := by
  have C1 := compareP_gr p.d q.d
  have C2 := compareP_gr p.s q.s
  have HE : Hid (cmpQ p q = orI (cmpP p.d q.d) (cmpP p.s q.s)) := rfl
  obtain ⟨hB0, r0, r1⟩ := gr_rows w (qcells p) (qcells q) 35 35
  generalize cmpQ p q = R at *
  generalize cmpP p.d q.d = x at *
  generalize cmpP p.s q.s = y at *
  go_enter Try.func57, Try.ntmps57
  go_upto_region 1 with fail
  refine name_world (R := fun W => Code.wp _ _ _ _ W) (P := fun W => Gr w W ∧ Row W w.heap.size 35 (qcells p) ∧ Row W (w.heap.size + 1) 35 (qcells q)) _ ⟨hB0, r0, r1⟩ ?_
  clear hB0 r0 r1
  rintro X ⟨hG, r0, r1⟩
  have hs0 := r0.lt
  have hs1 := r1.lt
  have HK : Hid (∀ W, Gr X W → LQ W w.heap.size 0 p ∧ LQ W (w.heap.size + 1) 0 q) := fun W h => ⟨(r0.below h.below hs0).range, (r1.below h.below hs1).range⟩
  refine wp_region_noPanic ?_
  refine wp_region_held_drew (S := fun W => Gr X W) (by kernel_rfl) ((Gr.refl _).drew) (fun hHeld => ?_)
  refine take_lit (i := 0) (v := ?_) rfl (by kernel_rfl) (by kernel_rfl) (by kernel_rfl) (fun _ _ _ h => h) (Or.inl ⟨by rfl, ?_⟩) (by assumption) ?_
  rotate_left
  · (intro w hSw; (try dsimp only at hSw); go_simp <;> with_reducible rfl)
  try simp only [Act.put, List.setIfInBounds_toArray, List.set_cons_zero, List.set_cons_succ]
  refine take_lit (i := 1) rfl (by kernel_rfl) (by kernel_rfl) (by kernel_rfl) (fun _ _ _ h => h) (yP p.d (fun w h => (HK.out _ h).1.d) (by rfl) rfl rfl) (by assumption) ?_
  try simp only [Act.put, List.setIfInBounds_toArray, List.set_cons_zero, List.set_cons_succ]
  refine take_lit (i := 2) (v := ?_) rfl (by kernel_rfl) (by kernel_rfl) (by kernel_rfl) (fun _ _ _ h => h) (Or.inl ⟨by rfl, ?_⟩) (by assumption) ?_
  rotate_left
  · (intro w hSw; (try dsimp only at hSw); go_simp <;> with_reducible rfl)
  try simp only [Act.put, List.setIfInBounds_toArray, List.set_cons_zero, List.set_cons_succ]
  refine take_lit (i := 3) rfl (by kernel_rfl) (by kernel_rfl) (by kernel_rfl) (fun _ _ _ h => h) (yP q.d (fun w h => (HK.out _ h).2.d) (by rfl) rfl rfl) (by assumption) ?_
  try simp only [Act.put, List.setIfInBounds_toArray, List.set_cons_zero, List.set_cons_succ]
  refine take_lit (i := 5) (v := ?_) rfl (by kernel_rfl) (by kernel_rfl) (by kernel_rfl) (fun _ _ _ h => h) (Or.inl ⟨by rfl, ?_⟩) (by assumption) ?_
  rotate_left
  · (intro w hSw; (try dsimp only at hSw); go_simp <;> with_reducible rfl)
  try simp only [Act.put, List.setIfInBounds_toArray, List.set_cons_zero, List.set_cons_succ]
  refine take_lit (i := 6) rfl (by kernel_rfl) (by kernel_rfl) (by kernel_rfl) (fun _ _ _ h => h) (yP p.s (fun w h => (HK.out _ h).1.s) (by rfl) rfl rfl) (by assumption) ?_
  try simp only [Act.put, List.setIfInBounds_toArray, List.set_cons_zero, List.set_cons_succ]
  refine take_lit (i := 7) (v := ?_) rfl (by kernel_rfl) (by kernel_rfl) (by kernel_rfl) (fun _ _ _ h => h) (Or.inl ⟨by rfl, ?_⟩) (by assumption) ?_
  rotate_left
  · (intro w hSw; (try dsimp only at hSw); go_simp <;> with_reducible rfl)
  try simp only [Act.put, List.setIfInBounds_toArray, List.set_cons_zero, List.set_cons_succ]
  refine take_lit (i := 8) rfl (by kernel_rfl) (by kernel_rfl) (by kernel_rfl) (fun _ _ _ h => h) (yP q.s (fun w h => (HK.out _ h).2.s) (by rfl) rfl rfl) (by assumption) ?_
  try simp only [Act.put, List.setIfInBounds_toArray, List.set_cons_zero, List.set_cons_succ]
  refine wpAnyH_ready (rs := [4]) (by kernel_rfl) (by simp) ?_
  refine cons_lit rfl (fun K hK => ?_) ?_
  · go_simp
    refine (C1 _).mono ?_
    rintro e w1 ⟨rfl, hg1⟩
    refine hK.out _ _ ?_ (fun hHeld => ?_)
    · exact hHeld.trans hg1
    clear hK K
    try simp only [Act.put, List.setIfInBounds_toArray, List.set_cons_zero, List.set_cons_succ]
    refine wpAnyH_ready (rs := [9]) (by kernel_rfl) (by simp) ?_
    refine cons_lit rfl (fun K hK => ?_) ?_
    · go_simp
      refine (C2 _).mono ?_
      rintro e w2 ⟨rfl, hg2⟩
      refine hK.out _ _ ?_ (fun hHeld => ?_)
      · exact hHeld.trans hg2
      clear hK K
      try simp only [Act.put, List.setIfInBounds_toArray, List.set_cons_zero, List.set_cons_succ]
      refine wpAnyH_ready (rs := [10]) (by kernel_rfl) (by simp) ?_
      refine cons_lit rfl (fun K hK => ?_) ?_
      · go_simp
        refine hK.out _ _ ?_ (fun hHeld => ?_)
        · exact hHeld.alloc _
        clear hK K
        try simp only [Act.put, List.setIfInBounds_toArray, List.set_cons_zero, List.set_cons_succ]
        refine wpAnyH_ready (rs := [11]) (by kernel_rfl) (by simp) ?_
        refine cons_lit rfl (fun K hK => ?_) ?_
        · go_simp
          refine (or_two x y _ _ (by exact (Row.new _ _ _).cell 0) (by exact (Row.new _ _ _).cell 1)).mono ?_
          rintro e w3 ⟨rfl, rfl⟩
          refine hK.out _ _ ?_ (fun hHeld => ?_)
          · exact hHeld
          clear hK K
          try simp only [Act.put, List.setIfInBounds_toArray, List.set_cons_zero, List.set_cons_succ]
          refine take_lit (i := 12) (v := ?_) rfl (by kernel_rfl) (by kernel_rfl) (by kernel_rfl) (fun _ _ _ h => h) (Or.inl ⟨by rfl, ?_⟩) (by assumption) ?_
          rotate_left
          · (intro w hSw; (try dsimp only at hSw); go_simp <;> with_reducible rfl)
          try simp only [Act.put, List.setIfInBounds_toArray, List.set_cons_zero, List.set_cons_succ]
          refine wpAnyH_done (by kernel_rfl) ?_ _
          refine NoPanic.normal ?_
          go_wp2
          go_ret
          exact ⟨by rw [HE.out]; rfl, hG.trans hHeld⟩
        exact AllReadyH.nil
      exact AllReadyH.nil
    exact AllReadyH.nil
  exact AllReadyH.nil
theorem orders_gr (x y : En) (w : World) : Calls Try.prog 50 #[eV x, eV y] w (fun e w' => e = .returned (.int .i64 (cmpQ x.p y.p)) ∧ Gr w w') := by
  have C1 := compareQ_gr x.p y.p
  obtain ⟨hB0, r0, r1⟩ := gr_rows w (ecs x) (ecs y) 37 37
  generalize cmpQ x.p y.p = R at *
  go_enter Try.func50, Try.ntmps50
  go_upto_region 1 with fail
  refine name_world (R := fun W => Code.wp _ _ _ _ W) (P := fun W => Gr w W ∧ Row W w.heap.size 37 (ecs x) ∧ Row W (w.heap.size + 1) 37 (ecs y)) _ ⟨hB0, r0, r1⟩ ?_
  clear hB0 r0 r1
  rintro X ⟨hG, r0, r1⟩
  go_wp2_with (first
    | (go_at_call 57; refine (C1 _).mono ?_; rintro e w1 ⟨rfl, hg1⟩)
    | (refine ldQ (.tmp 7) rfl rfl _ _ y.p rfl r1.en.q ?_)
    | (refine ldQ (.tmp 5) rfl rfl _ _ x.p rfl r0.en.q ?_))
  go_ret
  exact ⟨rfl, hG.trans hg1⟩
end Go.Proofs.Ytadnnjngflphjaa
