/-
  Specific, Matches and longer of package addr, for every input.
-/
import Derived.Test.YtimpopolkofdgaaGreatDoorPair
namespace Go.Proofs.YtimpopolkofdgaaGreatDoor
open Go.RowKit
set_option linter.unusedSimpArgs false
set_option maxRecDepth 20000

/-- What Specific answers. -/
def spec (p : Pr) : Bool := !(decide (p.s.a.l = (anyP (famP p.s)).a.l) && decide (p.s.n = (anyP (famP p.s)).n))
theorem specific_any (p : Pr) (w : World) : Calls Tryz.prog 40 #[(Value.agg (qcells p).toArray)] w (Gives w (.bool (spec p))) := by
  have hF := pfam_any p.s
  obtain ⟨f, hf⟩ : ∃ f, famP p.s = f := ⟨_, rfl⟩
  rw [hf] at hF
  have hY := any_any f
  obtain ⟨q, hq⟩ : ∃ q, anyP f = q := ⟨_, rfl⟩
  rw [hq] at hY
  have he := eqP 9997 p.s q
  obtain ⟨b, hb⟩ : ∃ b, (decide (p.s.a.l = q.a.l) && decide (p.s.n = q.n)) = b := ⟨_, rfl⟩
  rw [hb] at he
  have HF : Hid (spec p = !b) := by show _ = _; simp only [spec, hf, hq, hb]
  clear hf hq hb
  go_enter Tryz.func40, Tryz.ntmps40
  go_wp2
  refine name_world (R := fun W => Code.wp _ _ _ _ W) (P := fun W => Below w.heap.size w W ∧ LQ W w.heap.size 0 p ∧ w.heap.size < W.heap.size) _ ⟨ba _ _, LQ.new _ _ _, by simp⟩ ?_
  rintro X ⟨hB, hP, hs⟩
  have HK : Hid (∀ W, Below X.heap.size X W → Below X.heap.size X W ∧ LQ W w.heap.size 0 p) := fun W h => ⟨h, hP.below h hs⟩
  refine wp_region_noPanic ?_
  refine wp_region_held_drew (S := fun W => Below X.heap.size X W ∧ LQ W w.heap.size 0 p) (by kernel_rfl) (HK.out _ (Below.refl _ _).drew) (fun hHeld => ?_)
  refine take_lit (i := 0) (v := ?_) rfl (by kernel_rfl) (by kernel_rfl) (by kernel_rfl) (fun _ _ _ h => h) (Or.inl ⟨by rfl, ?_⟩) (by assumption) ?_
  rotate_left
  · (intro w hSw; (try dsimp only at hSw); go_simp <;> with_reducible rfl)
  try simp only [Act.put, List.setIfInBounds_toArray, List.set_cons_zero, List.set_cons_succ]
  refine take_lit (i := 1) rfl (by kernel_rfl) (by kernel_rfl) (by kernel_rfl) (fun _ _ _ h => h) (yP p.s (fun w h => h.2.s) (by rfl) rfl rfl) (by assumption) ?_
  try simp only [Act.put, List.setIfInBounds_toArray, List.set_cons_zero, List.set_cons_succ]
  refine take_lit (i := 2) (v := ?_) rfl (by kernel_rfl) (by kernel_rfl) (by kernel_rfl) (fun _ _ _ h => h) (Or.inl ⟨by rfl, ?_⟩) (by assumption) ?_
  rotate_left
  · (intro w hSw; (try dsimp only at hSw); go_simp <;> with_reducible rfl)
  try simp only [Act.put, List.setIfInBounds_toArray, List.set_cons_zero, List.set_cons_succ]
  refine take_lit (i := 3) rfl (by kernel_rfl) (by kernel_rfl) (by kernel_rfl) (fun _ _ _ h => h) (yP p.s (fun w h => h.2.s) (by rfl) rfl rfl) (by assumption) ?_
  try simp only [Act.put, List.setIfInBounds_toArray, List.set_cons_zero, List.set_cons_succ]
  refine wpAnyH_ready (rs := [4]) (by kernel_rfl) (by simp) ?_
  refine cons_lit rfl (fun K hK => ?_) ?_
  · go_simp
    refine (hF _).mono ?_
    rintro e w1 ⟨rfl, hB1⟩
    refine hK.out _ _ ?_ (fun hHeld => ?_)
    · exact HK.out _ (hHeld.1.trans (hB1.mono hHeld.1.size))
    clear hK K
    try simp only [Act.put, List.setIfInBounds_toArray, List.set_cons_zero, List.set_cons_succ]
    refine wpAnyH_ready (rs := [5]) (by kernel_rfl) (by simp) ?_
    refine cons_lit rfl (fun K hK => ?_) ?_
    · go_simp
      refine (hY _).mono ?_
      rintro e w2 ⟨rfl, hB2⟩
      refine hK.out _ _ ?_ (fun hHeld => ?_)
      · exact HK.out _ (hHeld.1.trans (hB2.mono hHeld.1.size))
      clear hK K
      try simp only [Act.put, List.setIfInBounds_toArray, List.set_cons_zero, List.set_cons_succ]
      refine take_lit (i := 6) (v := ?_) rfl (by kernel_rfl) (by kernel_rfl) (by kernel_rfl) (fun _ _ _ h => h) (Or.inl ⟨by rfl, ?_⟩) (by assumption) ?_
      rotate_left
      · (intro w hSw; (try dsimp only at hSw); go_simp <;> with_reducible rfl)
      try simp only [Act.put, List.setIfInBounds_toArray, List.set_cons_zero, List.set_cons_succ]
      refine take_lit (i := 7) (v := ?_) rfl (by kernel_rfl) (by kernel_rfl) (by kernel_rfl) (fun _ _ _ h => h) (Or.inl ⟨by rfl, ?_⟩) (by assumption) ?_
      rotate_left
      · (intro w hSw; (try dsimp only at hSw); go_simp <;> with_reducible rfl)
      try simp only [Act.put, List.setIfInBounds_toArray, List.set_cons_zero, List.set_cons_succ]
      refine wpAnyH_done (by kernel_rfl) ?_ _
      refine NoPanic.normal ?_
      go_wp2
      go_ret
      exact ⟨by rw [HF.out]; rfl, hB.trans (hHeld.1.mono (by omega))⟩
    exact AllReadyH.nil
  exact AllReadyH.nil
theorem orI_21 {x y : Int} (hx : x = 0 ∨ x = 21) (hy : y = 0 ∨ y = 21) : orI x y = 0 ∨ orI x y = 21 := by
  rcases hx with rfl | rfl <;> rcases hy with rfl | rfl <;> simp [orI]
theorem chkQ_or (p : Pr) : chkQ p = 0 ∨ chkQ p = 21 := by
  have h1 : chk p.d = 0 ∨ chk p.d = 21 := (chk_or p.d).imp (·.1) id
  have h2 : chk p.s = 0 ∨ chk p.s = 21 := (chk_or p.s).imp (·.1) id
  unfold chkQ
  split
  · exact orI_21 h1 h2
  · split <;> simp
/-- What Matches answers. -/
def mat (p : Pr) (src dst : Ad) : Bool := decide (chkQ p = 0) && (con p.d dst && con p.s src)
theorem matches_any (p : Pr) (src dst : Ad) (w : World) : Calls Tryz.prog 42 #[(Value.agg (qcells p).toArray), (Value.agg (acells src).toArray), (Value.agg (acells dst).toArray)] w (Gives w (.bool (mat p src dst))) := by
  have hChk := checkQ_any p
  have hC1 := contains_any p.d dst
  have hC2 := contains_any p.s src
  have h0 := chkQ_or p
  obtain ⟨z, hz⟩ : ∃ z, chkQ p = z := ⟨_, rfl⟩
  obtain ⟨b, hb⟩ : ∃ b, con p.d dst = b := ⟨_, rfl⟩
  obtain ⟨d, hd⟩ : ∃ b, con p.s src = b := ⟨_, rfl⟩
  rw [hz] at hChk h0
  rw [hb] at hC1
  rw [hd] at hC2
  have HF : Hid (mat p src dst = (decide (z = 0) && (b && d))) := by show _ = _; simp only [mat, hz, hb, hd]
  have hQ := ((LQ.new w p 53).alloc (.cells (acells src).toArray 23)).alloc (.cells (acells dst).toArray 23)
  have hS : LA (((w.alloc (.cells (qcells p).toArray 53)).alloc (.cells (acells src).toArray 23)).alloc (.cells (acells dst).toArray 23)) (w.heap.size + 1) 0 src := by
    have := (LA.new (w.alloc (.cells (qcells p).toArray 53)) src 23).alloc (.cells (acells dst).toArray 23)
    simpa using this
  have hD : LA (((w.alloc (.cells (qcells p).toArray 53)).alloc (.cells (acells src).toArray 23)).alloc (.cells (acells dst).toArray 23)) (w.heap.size + 1 + 1) 0 dst := by
    have := LA.new ((w.alloc (.cells (qcells p).toArray 53)).alloc (.cells (acells src).toArray 23)) dst 23
    simpa using this
  clear hz hb hd
  rcases h0 with rfl | rfl
  · cases b with
    | true =>
      go_enter Tryz.func42, Tryz.ntmps42
      go_wp2_with (first
        | (refine ldQ (.tmp 3) rfl rfl _ _ p rfl hQ ?_)
        | (refine ldP (.tmp 11) (by rfl) rfl _ _ p.d rfl hQ1.d ?_)
        | (refine ldA (.tmp 5) (by rfl) rfl _ _ dst rfl hD1 ?_)
        | (refine ldP (.tmp 17) (by rfl) rfl _ _ p.s rfl hQ2.s ?_)
        | (refine ldA (.tmp 4) (by rfl) rfl _ _ src rfl hS2 ?_)
        | (go_at_call 38; refine (hChk _).mono ?_; rintro e w1 ⟨rfl, hB1⟩; have hQ1 : LQ w1 w.heap.size 0 p := hQ.below hB1 (by simp; omega); have hS1 : LA w1 (w.heap.size + 1) 0 src := hS.below hB1 (by simp); have hD1 : LA w1 (w.heap.size + 1 + 1) 0 dst := hD.below hB1 (by simp))
        | (go_at_call 26; refine (hC1 _).mono ?_; clear hC1; rintro e w2 ⟨rfl, hB2⟩; have hQ2 : LQ w2 w.heap.size 0 p := hQ1.below hB2 (by have := hB1.size; simp at this; omega); have hS2 : LA w2 (w.heap.size + 1) 0 src := hS1.below hB2 (by have := hB1.size; simp at this; omega))
        | (go_at_call 26; refine (hC2 _).mono ?_; rintro e w3 ⟨rfl, hB3⟩))
      go_ret
      exact ⟨by rw [HF.out]; rfl, bt (bt (bt (bt (bt (ba _ _) (ba _ _)) (ba _ _)) hB1) hB2) hB3⟩
    | false =>
      go_enter Tryz.func42, Tryz.ntmps42
      go_wp2_with (first
        | (refine ldQ (.tmp 3) rfl rfl _ _ p rfl hQ ?_)
        | (refine ldP (.tmp 11) (by rfl) rfl _ _ p.d rfl hQ1.d ?_)
        | (refine ldA (.tmp 5) (by rfl) rfl _ _ dst rfl hD1 ?_)
        | (go_at_call 38; refine (hChk _).mono ?_; rintro e w1 ⟨rfl, hB1⟩; have hQ1 : LQ w1 w.heap.size 0 p := hQ.below hB1 (by simp; omega); have hS1 : LA w1 (w.heap.size + 1) 0 src := hS.below hB1 (by simp); have hD1 : LA w1 (w.heap.size + 1 + 1) 0 dst := hD.below hB1 (by simp))
        | (go_at_call 26; refine (hC1 _).mono ?_; clear hC1; rintro e w2 ⟨rfl, hB2⟩))
      go_ret
      exact ⟨by rw [HF.out]; rfl, bt (bt (bt (bt (ba _ _) (ba _ _)) (ba _ _)) hB1) hB2⟩
  · go_enter Tryz.func42, Tryz.ntmps42
    go_wp2_with (first
      | (refine ldQ (.tmp 3) rfl rfl _ _ p rfl hQ ?_)
      | (go_at_call 38; refine (hChk _).mono ?_; rintro e w1 ⟨rfl, hB1⟩))
    go_ret
    exact ⟨by rw [HF.out]; rfl, bt (bt (bt (ba _ _) (ba _ _)) (ba _ _)) hB1⟩
theorem orIntD (x y : Int) (t : TypeId) (w : World) : Calls Tryz.prog 66 #[.slice (some ⟨w.heap.size, 0, none⟩) 2 2] (w.alloc (.cells #[.int .i64 x, .int .i64 y] t)).drew fun e w' => e = .returned (.int .i64 (orI x y)) ∧ w' = (w.alloc (.cells #[.int .i64 x, .int .i64 y] t)).drew := by
  have h := orInt x y t w.drew
  exact h
/-- What longer answers. -/
def lon (p q : Pr) : Bool := decide (0 < orI (Lib.compareInt p.d.n q.d.n) (Lib.compareInt p.s.n q.s.n))
theorem longer_any (p q : Pr) (w : World) : Calls Tryz.prog 71 #[(Value.agg (qcells p).toArray), (Value.agg (qcells q).toArray)] w (Gives w (.bool (lon p q))) := by
  obtain ⟨n1, hn1⟩ : ∃ n, p.d.n = n := ⟨_, rfl⟩
  obtain ⟨n2, hn2⟩ : ∃ n, p.s.n = n := ⟨_, rfl⟩
  obtain ⟨m1, hm1⟩ : ∃ n, q.d.n = n := ⟨_, rfl⟩
  obtain ⟨m2, hm2⟩ : ∃ n, q.s.n = n := ⟨_, rfl⟩
  have hI1 := Tryz.cmp_Compare_int n1 m1
  have hI2 := Tryz.cmp_Compare_int n2 m2
  obtain ⟨x, hx⟩ : ∃ y, Lib.compareInt n1 m1 = y := ⟨_, rfl⟩
  obtain ⟨y, hy⟩ : ∃ y, Lib.compareInt n2 m2 = y := ⟨_, rfl⟩
  rw [hx] at hI1
  rw [hy] at hI2
  have hOr := orIntD x y
  obtain ⟨z, hz⟩ : ∃ z, orI x y = z := ⟨_, rfl⟩
  rw [hz] at hOr
  have HF : Hid (lon p q = decide (0 < z)) := by show _ = _; simp only [lon, hn1, hn2, hm1, hm2, hx, hy, hz]
  clear hx hy hz
  go_enter Tryz.func71, Tryz.ntmps71
  go_wp2
  refine name_world (R := fun W => Code.wp _ _ _ _ W) (P := fun W => Below w.heap.size w W ∧ LQ W w.heap.size 0 p ∧ LQ W (w.heap.size + 1) 0 q ∧ w.heap.size + 1 < W.heap.size) _ ⟨bt (ba _ _) (ba _ _), (LQ.new _ _ _).alloc _, by have := LQ.new (w.alloc (.cells (qcells p).toArray 53)) q 53; simpa using this, by simp⟩ ?_
  rintro X ⟨hB, hP, hA, hs⟩
  have c1 := hP.d.n
  have c2 := hP.s.n
  have c3 := hA.d.n
  have c4 := hA.s.n
  rw [hn1] at c1
  rw [hn2] at c2
  rw [hm1] at c3
  rw [hm2] at c4
  simp only [Nat.zero_add, Nat.reduceAdd] at c1 c2 c3 c4
  clear hn1 hn2 hm1 hm2
  have HK : Hid (∀ W, Below X.heap.size X W → Below X.heap.size X W ∧ W.cell? ⟨w.heap.size, 16, none⟩ = some (.int .i64 n1) ∧ W.cell? ⟨w.heap.size, 33, none⟩ = some (.int .i64 n2) ∧ W.cell? ⟨w.heap.size + 1, 16, none⟩ = some (.int .i64 m1) ∧ W.cell? ⟨w.heap.size + 1, 33, none⟩ = some (.int .i64 m2)) :=
    fun W h => ⟨h, (h.cell (p := ⟨w.heap.size, 16, none⟩) (by show w.heap.size < _; omega)).trans c1, (h.cell (p := ⟨w.heap.size, 33, none⟩) (by show w.heap.size < _; omega)).trans c2, (h.cell (p := ⟨w.heap.size + 1, 16, none⟩) hs).trans c3, (h.cell (p := ⟨w.heap.size + 1, 33, none⟩) hs).trans c4⟩
  refine wp_region_noPanic ?_
  refine wp_region_held_drew (S := fun W => Below X.heap.size X W ∧ W.cell? ⟨w.heap.size, 16, none⟩ = some (.int .i64 n1) ∧ W.cell? ⟨w.heap.size, 33, none⟩ = some (.int .i64 n2) ∧ W.cell? ⟨w.heap.size + 1, 16, none⟩ = some (.int .i64 m1) ∧ W.cell? ⟨w.heap.size + 1, 33, none⟩ = some (.int .i64 m2)) (by kernel_rfl) (HK.out _ (Below.refl _ _).drew) (fun hHeld => ?_)
  refine take_lit (i := 0) (v := ?_) rfl (by kernel_rfl) (by kernel_rfl) (by kernel_rfl) (fun _ _ _ h => h) (Or.inl ⟨by rfl, ?_⟩) (by assumption) ?_
  rotate_left
  · (intro w hSw; (try dsimp only at hSw); go_simp <;> with_reducible rfl)
  try simp only [Act.put, List.setIfInBounds_toArray, List.set_cons_zero, List.set_cons_succ]
  refine take_lit (i := 1) (v := ?_) rfl (by kernel_rfl) (by kernel_rfl) (by kernel_rfl) (fun _ _ _ h => h) (Or.inl ⟨by rfl, ?_⟩) (by assumption) ?_
  rotate_left
  · (intro w hSw; (try dsimp only at hSw); go_simp <;> with_reducible rfl)
  try simp only [Act.put, List.setIfInBounds_toArray, List.set_cons_zero, List.set_cons_succ]
  refine take_lit (i := 2) (v := ?_) rfl (by kernel_rfl) (by kernel_rfl) (by kernel_rfl) (fun _ _ _ h => h) (Or.inl ⟨by rfl, ?_⟩) (by assumption) ?_
  rotate_left
  · (intro w hSw; (try dsimp only at hSw); go_simp <;> with_reducible rfl)
  try simp only [Act.put, List.setIfInBounds_toArray, List.set_cons_zero, List.set_cons_succ]
  refine take_lit (i := 3) (v := ?_) rfl (by kernel_rfl) (by kernel_rfl) (by kernel_rfl) (fun _ _ _ h => h) (Or.inl ⟨by rfl, ?_⟩) (by assumption) ?_
  rotate_left
  · (intro w hSw; (try dsimp only at hSw); go_simp <;> with_reducible rfl)
  try simp only [Act.put, List.setIfInBounds_toArray, List.set_cons_zero, List.set_cons_succ]
  refine take_lit (i := 4) (v := ?_) rfl (by kernel_rfl) (by kernel_rfl) (by kernel_rfl) (fun _ _ _ h => h) (Or.inl ⟨by rfl, ?_⟩) (by assumption) ?_
  rotate_left
  · (intro w hSw; (try dsimp only at hSw); go_simp <;> with_reducible rfl)
  try simp only [Act.put, List.setIfInBounds_toArray, List.set_cons_zero, List.set_cons_succ]
  refine take_lit (i := 5) (v := ?_) rfl (by kernel_rfl) (by kernel_rfl) (by kernel_rfl) (fun _ _ _ h => h) (Or.inl ⟨by rfl, ?_⟩) (by assumption) ?_
  rotate_left
  · (intro w hSw; (try dsimp only at hSw); go_simp <;> with_reducible rfl)
  try simp only [Act.put, List.setIfInBounds_toArray, List.set_cons_zero, List.set_cons_succ]
  refine take_lit (i := 7) (v := ?_) rfl (by kernel_rfl) (by kernel_rfl) (by kernel_rfl) (fun _ _ _ h => h) (Or.inl ⟨by rfl, ?_⟩) (by assumption) ?_
  rotate_left
  · (intro w hSw; (try dsimp only at hSw); go_simp <;> with_reducible rfl)
  try simp only [Act.put, List.setIfInBounds_toArray, List.set_cons_zero, List.set_cons_succ]
  refine take_lit (i := 8) (v := ?_) rfl (by kernel_rfl) (by kernel_rfl) (by kernel_rfl) (fun _ _ _ h => h) (Or.inl ⟨by rfl, ?_⟩) (by assumption) ?_
  rotate_left
  · (intro w hSw; (try dsimp only at hSw); go_simp <;> with_reducible rfl)
  try simp only [Act.put, List.setIfInBounds_toArray, List.set_cons_zero, List.set_cons_succ]
  refine take_lit (i := 9) (v := ?_) rfl (by kernel_rfl) (by kernel_rfl) (by kernel_rfl) (fun _ _ _ h => h) (Or.inl ⟨by rfl, ?_⟩) (by assumption) ?_
  rotate_left
  · (intro w hSw; (try dsimp only at hSw); go_simp <;> with_reducible rfl)
  try simp only [Act.put, List.setIfInBounds_toArray, List.set_cons_zero, List.set_cons_succ]
  refine take_lit (i := 10) (v := ?_) rfl (by kernel_rfl) (by kernel_rfl) (by kernel_rfl) (fun _ _ _ h => h) (Or.inl ⟨by rfl, ?_⟩) (by assumption) ?_
  rotate_left
  · (intro w hSw; (try dsimp only at hSw); go_simp <;> with_reducible rfl)
  try simp only [Act.put, List.setIfInBounds_toArray, List.set_cons_zero, List.set_cons_succ]
  refine take_lit (i := 11) (v := ?_) rfl (by kernel_rfl) (by kernel_rfl) (by kernel_rfl) (fun _ _ _ h => h) (Or.inl ⟨by rfl, ?_⟩) (by assumption) ?_
  rotate_left
  · (intro w hSw; (try dsimp only at hSw); go_simp <;> with_reducible rfl)
  try simp only [Act.put, List.setIfInBounds_toArray, List.set_cons_zero, List.set_cons_succ]
  refine take_lit (i := 12) (v := ?_) rfl (by kernel_rfl) (by kernel_rfl) (by kernel_rfl) (fun _ _ _ h => h) (Or.inl ⟨by rfl, ?_⟩) (by assumption) ?_
  rotate_left
  · (intro w hSw; (try dsimp only at hSw); go_simp <;> with_reducible rfl)
  try simp only [Act.put, List.setIfInBounds_toArray, List.set_cons_zero, List.set_cons_succ]
  refine wpAnyH_ready (rs := [6]) (by kernel_rfl) (by simp) ?_
  refine cons_lit rfl (fun K hK => ?_) ?_
  · go_simp
    refine (hI1 _).mono ?_
    rintro e w2 ⟨rfl, rfl⟩
    refine hK.out _ _ ?_ (fun hHeld => ?_)
    · exact hHeld
    clear hK K
    try simp only [Act.put, List.setIfInBounds_toArray, List.set_cons_zero, List.set_cons_succ]
    refine wpAnyH_ready (rs := [13]) (by kernel_rfl) (by simp) ?_
    refine cons_lit rfl (fun K hK => ?_) ?_
    · go_simp
      refine (hI2 _).mono ?_
      rintro e w2 ⟨rfl, rfl⟩
      refine hK.out _ _ ?_ (fun hHeld => ?_)
      · exact hHeld
      clear hK K
      try simp only [Act.put, List.setIfInBounds_toArray, List.set_cons_zero, List.set_cons_succ]
      refine wpAnyH_ready (rs := [14]) (by kernel_rfl) (by simp) ?_
      refine cons_lit rfl (fun K hK => ?_) ?_
      · go_simp
        refine hK.out _ _ ?_ (fun hHeld => ?_)
        · exact HK.out _ (hHeld.1.alloc hHeld.1.size _)
        clear hK K
        try simp only [Act.put, List.setIfInBounds_toArray, List.set_cons_zero, List.set_cons_succ]
        refine wpAnyH_ready (rs := [15]) (by kernel_rfl) (by simp) ?_
        refine cons_lit rfl (fun K hK => ?_) ?_
        · go_simp
          refine (hOr _ _).mono ?_
          rintro e w2 ⟨rfl, rfl⟩
          refine hK.out _ _ ?_ (fun hHeld => ?_)
          · exact hHeld
          clear hK K
          try simp only [Act.put, List.setIfInBounds_toArray, List.set_cons_zero, List.set_cons_succ]
          refine take_lit (i := 16) (v := ?_) rfl (by kernel_rfl) (by kernel_rfl) (by kernel_rfl) (fun _ _ _ h => h) (Or.inl ⟨by rfl, ?_⟩) (by assumption) ?_
          rotate_left
          · (intro w hSw; (try dsimp only at hSw); go_simp <;> with_reducible rfl)
          try simp only [Act.put, List.setIfInBounds_toArray, List.set_cons_zero, List.set_cons_succ]
          refine take_lit (i := 17) (v := ?_) rfl (by kernel_rfl) (by kernel_rfl) (by kernel_rfl) (fun _ _ _ h => h) (Or.inl ⟨by rfl, ?_⟩) (by assumption) ?_
          rotate_left
          · (intro w hSw; (try dsimp only at hSw); go_simp <;> with_reducible rfl)
          try simp only [Act.put, List.setIfInBounds_toArray, List.set_cons_zero, List.set_cons_succ]
          refine wpAnyH_done (by kernel_rfl) ?_ _
          refine NoPanic.normal ?_
          go_wp2
          go_ret
          exact ⟨by rw [HF.out]; rfl, hB.trans (hHeld.1.mono (by omega))⟩
        exact AllReadyH.nil
      exact AllReadyH.nil
    exact AllReadyH.nil
  exact AllReadyH.nil
end Go.Proofs.YtimpopolkofdgaaGreatDoor
