/-
  The document's Any, PrefixFamily, Of, Contains and Covers, for every input.
-/
import Derived.Test.YtfohknbgfpbmiaaRfT
import Derived.Test.YtfohknbgfpbmiaaRefS
namespace Go.Proofs.Ytfohknbgfpbmiaa
open Go.RowKit
set_option linter.unusedSimpArgs false
set_option maxRecDepth 20000
theorem rany_any (f : Int) (w : World) : Calls Try.prog 18 #[.int .i64 f] w (Gives w (Value.agg (pcells (anyP f)).toArray)) := by
  by_cases h : f = 4
  · have h' : (f == 4) = true := by simpa using h
    rw [show anyP f = ⟨mapA, 96⟩ by simp [anyP, h]]
    clear h
    go_enter Try.func18, Try.ntmps18
    go_wp2
    exact bodyPost_ret (retC rfl _ w.heap.size 0 rfl (lvP (LP.new w ⟨mapA, 96⟩ _))) rfl ⟨rfl, (Below.refl _ _).alloc (Nat.le_refl _) _⟩
  · have h' : (f == 4) = false := by simpa using h
    rw [show anyP f = ⟨zeroA, 0⟩ by simp [anyP, h]]
    clear h
    go_enter Try.func18, Try.ntmps18
    go_wp2
    exact bodyPost_ret (retC rfl _ w.heap.size 0 rfl (lvP (LP.new w ⟨zeroA, 0⟩ _))) rfl ⟨rfl, (Below.refl _ _).alloc (Nat.le_refl _) _⟩
theorem rcontains_any (p : Pf) (a : Ad) (w : World) : Calls Try.prog 34 #[(Value.agg (pcells p).toArray), (Value.agg (acells a).toArray)] w (Gives w (.bool (con p a))) := by
  have he := eqA 9998
  have hChk := rcheck_any p
  have h0 := chk_or p
  obtain ⟨c, hc⟩ : ∃ c, chk p = c := ⟨_, rfl⟩
  obtain ⟨n, hn⟩ : ∃ n, p.n = n := ⟨_, rfl⟩
  obtain ⟨b, hb⟩ : ∃ b, decide ((cutA a n.toNat).l = p.a.l) = b := ⟨_, rfl⟩
  rw [hn] at h0
  rw [hc] at hChk h0
  have HF : Hid (con p a = (decide (c = 0) && b)) := by show _ = _; simp [con, hn, ← hb, hc]
  go_enter Try.func34, Try.ntmps34
  go_wp2
  refine name_world (R := fun W => Code.wp _ _ _ _ W) (P := fun W => Below w.heap.size w W ∧ LP W w.heap.size 0 p ∧ LA W (w.heap.size + 1) 0 a ∧ w.heap.size + 1 < W.heap.size) _ ⟨bt (ba _ _) (ba _ _), (LP.new _ _ _).alloc _, by have := LA.new (w.alloc (.cells (pcells p).toArray 26)) a 24; simpa using this, by simp⟩ ?_
  rintro X ⟨hB, hP, hA, hs⟩
  have h1 := hP.n
  rw [hn] at h1
  simp only [Nat.zero_add] at h1
  clear hn hc
  have HK : Hid (∀ W, Below X.heap.size X W → Below X.heap.size X W ∧ LP W w.heap.size 0 p ∧ LA W (w.heap.size + 1) 0 a ∧ W.cell? ⟨w.heap.size, 16, none⟩ = some (.int .i64 n)) :=
    fun W h => ⟨h, hP.below h (by omega), hA.below h hs, (h.cell (p := ⟨w.heap.size, 16, none⟩) (by show w.heap.size < _; omega)).trans h1⟩
  rcases h0 with ⟨h0, hn0, hn1, _⟩ | h0
  · subst h0
    obtain ⟨k, rfl⟩ : ∃ k : Nat, n = k := ⟨n.toNat, by omega⟩
    have hC := rmasked_any a k (by omega)
    simp only [Int.toNat_natCast] at hb
    clear hn0 hn1
    refine wp_region_noPanic ?_
    refine wp_region_held_drew (S := fun W => Below X.heap.size X W ∧ LP W w.heap.size 0 p ∧ LA W (w.heap.size + 1) 0 a ∧ W.cell? ⟨w.heap.size, 16, none⟩ = some (.int .i64 (k : Int))) (by kernel_rfl) (HK.out _ (Below.refl _ _).drew) (fun hHeld => ?_)
    refine take_lit (i := 0) rfl (by kernel_rfl) (by kernel_rfl) (by kernel_rfl) (fun _ _ _ h => h) (yP p (fun w h => h.2.1) (by rfl) rfl rfl) (by assumption) ?_
    try simp only [Act.put, List.setIfInBounds_toArray, List.set_cons_zero, List.set_cons_succ]
    refine wpAnyH_ready (rs := [1]) (by kernel_rfl) (by simp) ?_
    refine cons_lit rfl (fun K hK => ?_) ?_
    · go_simp
      refine (hChk _).mono ?_
      rintro e w1 ⟨rfl, hB1⟩
      refine hK.out _ _ ?_ (fun hHeld => ?_)
      · exact HK.out _ (hHeld.1.trans (hB1.mono hHeld.1.size))
      clear hK K
      try simp only [Act.put, List.setIfInBounds_toArray, List.set_cons_zero, List.set_cons_succ]
      refine take_lit (i := 2) (v := ?_) rfl (by kernel_rfl) (by kernel_rfl) (by kernel_rfl) (fun _ _ _ h => h) (Or.inl ⟨by rfl, ?_⟩) (by assumption) ?_
      rotate_left
      · (intro w hSw; (try dsimp only at hSw); go_simp <;> with_reducible rfl)
      try simp only [Act.put, List.setIfInBounds_toArray, List.set_cons_zero, List.set_cons_succ]
      refine take_lit (i := 3) (v := ?_) rfl (by kernel_rfl) (by kernel_rfl) (by kernel_rfl) (fun _ _ _ h => h) (Or.inl ⟨by rfl, ?_⟩) (by assumption) ?_
      rotate_left
      · (intro w hSw; (try dsimp only at hSw); go_simp <;> with_reducible rfl)
      try simp only [Act.put, List.setIfInBounds_toArray, List.set_cons_zero, List.set_cons_succ]
      refine take_lit (i := 4) rfl (by kernel_rfl) (by kernel_rfl) (by kernel_rfl) (fun _ _ _ h => h) (yA a (fun w h => h.2.2.1) (by rfl) rfl rfl) (by assumption) ?_
      try simp only [Act.put, List.setIfInBounds_toArray, List.set_cons_zero, List.set_cons_succ]
      refine take_lit (i := 5) (v := ?_) rfl (by kernel_rfl) (by kernel_rfl) (by kernel_rfl) (fun _ _ _ h => h) (Or.inl ⟨by rfl, ?_⟩) (by assumption) ?_
      rotate_left
      · (intro w hSw; (try dsimp only at hSw); go_simp <;> with_reducible rfl)
      try simp only [Act.put, List.setIfInBounds_toArray, List.set_cons_zero, List.set_cons_succ]
      refine take_lit (i := 6) (v := ?_) rfl (by kernel_rfl) (by kernel_rfl) (by kernel_rfl) (fun _ _ _ h => h) (Or.inl ⟨by rfl, ?_⟩) (by assumption) ?_
      rotate_left
      · (intro w hSw; (try dsimp only at hSw); go_simp <;> with_reducible rfl)
      try simp only [Act.put, List.setIfInBounds_toArray, List.set_cons_zero, List.set_cons_succ]
      refine take_lit (i := 8) (v := ?_) rfl (by kernel_rfl) (by kernel_rfl) (by kernel_rfl) (fun _ _ _ h => h) (Or.inl ⟨by rfl, ?_⟩) (by assumption) ?_
      rotate_left
      · (intro w hSw; (try dsimp only at hSw); go_simp <;> with_reducible rfl)
      try simp only [Act.put, List.setIfInBounds_toArray, List.set_cons_zero, List.set_cons_succ]
      refine take_lit (i := 9) rfl (by kernel_rfl) (by kernel_rfl) (by kernel_rfl) (fun _ _ _ h => h) (yA p.a (fun w h => h.2.1.a) (by rfl) rfl rfl) (by assumption) ?_
      try simp only [Act.put, List.setIfInBounds_toArray, List.set_cons_zero, List.set_cons_succ]
      refine wpAnyH_ready (rs := [7]) (by kernel_rfl) (by simp) ?_
      refine cons_lit rfl (fun K hK => ?_) ?_
      · go_simp
        refine (hC _).mono ?_
        rintro e w2 ⟨rfl, hB2⟩
        refine hK.out _ _ ?_ (fun hHeld => ?_)
        · exact HK.out _ (hHeld.1.trans (hB2.mono hHeld.1.size))
        clear hK K
        try simp only [Act.put, List.setIfInBounds_toArray, List.set_cons_zero, List.set_cons_succ]
        refine take_lit (i := 10) (v := ?_) rfl (by kernel_rfl) (by kernel_rfl) (by kernel_rfl) (fun _ _ _ h => h) (Or.inl ⟨by rfl, ?_⟩) (by assumption) ?_
        rotate_left
        · (intro w hSw; (try dsimp only at hSw); go_simp <;> with_reducible rfl)
        try simp only [Act.put, List.setIfInBounds_toArray, List.set_cons_zero, List.set_cons_succ]
        refine take_lit (i := 11) (v := ?_) rfl (by kernel_rfl) (by kernel_rfl) (by kernel_rfl) (fun _ _ _ h => h) (Or.inl ⟨by rfl, ?_⟩) (by assumption) ?_
        rotate_left
        · (intro w hSw; (try dsimp only at hSw); go_simp <;> with_reducible rfl)
        try simp only [Act.put, List.setIfInBounds_toArray, List.set_cons_zero, List.set_cons_succ]
        refine take_lit (i := 12) (v := ?_) rfl (by kernel_rfl) (by kernel_rfl) (by kernel_rfl) (fun _ _ _ h => h) (Or.inl ⟨by rfl, ?_⟩) (by assumption) ?_
        rotate_left
        · (intro w hSw; (try dsimp only at hSw); go_simp <;> with_reducible rfl)
        try simp only [Act.put, List.setIfInBounds_toArray, List.set_cons_zero, List.set_cons_succ]
        refine wpAnyH_done (by kernel_rfl) ?_ _
        refine NoPanic.normal ?_
        go_wp2
        go_ret
        exact ⟨by rw [HF.out]; rfl, hB.trans (hHeld.1.mono (by omega))⟩
      exact AllReadyH.nil
    exact AllReadyH.nil
  · subst h0
    refine wp_region_noPanic ?_
    refine wp_region_held_drew (S := fun W => Below X.heap.size X W ∧ LP W w.heap.size 0 p ∧ LA W (w.heap.size + 1) 0 a ∧ W.cell? ⟨w.heap.size, 16, none⟩ = some (.int .i64 n)) (by kernel_rfl) (HK.out _ (Below.refl _ _).drew) (fun hHeld => ?_)
    refine take_lit (i := 0) rfl (by kernel_rfl) (by kernel_rfl) (by kernel_rfl) (fun _ _ _ h => h) (yP p (fun w h => h.2.1) (by rfl) rfl rfl) (by assumption) ?_
    try simp only [Act.put, List.setIfInBounds_toArray, List.set_cons_zero, List.set_cons_succ]
    refine wpAnyH_ready (rs := [1]) (by kernel_rfl) (by simp) ?_
    refine cons_lit rfl (fun K hK => ?_) ?_
    · go_simp
      refine (hChk _).mono ?_
      rintro e w1 ⟨rfl, hB1⟩
      refine hK.out _ _ ?_ (fun hHeld => ?_)
      · exact HK.out _ (hHeld.1.trans (hB1.mono hHeld.1.size))
      clear hK K
      try simp only [Act.put, List.setIfInBounds_toArray, List.set_cons_zero, List.set_cons_succ]
      refine take_lit (i := 2) (v := ?_) rfl (by kernel_rfl) (by kernel_rfl) (by kernel_rfl) (fun _ _ _ h => h) (Or.inl ⟨by rfl, ?_⟩) (by assumption) ?_
      rotate_left
      · (intro w hSw; (try dsimp only at hSw); go_simp <;> with_reducible rfl)
      try simp only [Act.put, List.setIfInBounds_toArray, List.set_cons_zero, List.set_cons_succ]
      refine take_lit (i := 3) (v := ?_) rfl (by kernel_rfl) (by kernel_rfl) (by kernel_rfl) (fun _ _ _ h => h) (Or.inl ⟨by rfl, ?_⟩) (by assumption) ?_
      rotate_left
      · (intro w hSw; (try dsimp only at hSw); go_simp <;> with_reducible rfl)
      try simp only [Act.put, List.setIfInBounds_toArray, List.set_cons_zero, List.set_cons_succ]
      refine take_lit (i := 4) rfl (by kernel_rfl) (by kernel_rfl) (by kernel_rfl) (fun _ _ _ h => h) (Or.inr ⟨by rfl, rfl⟩) (by assumption) ?_
      try simp only [Act.put, List.setIfInBounds_toArray, List.set_cons_zero, List.set_cons_succ]
      refine take_lit (i := 5) rfl (by kernel_rfl) (by kernel_rfl) (by kernel_rfl) (fun _ _ _ h => h) (Or.inr ⟨by rfl, rfl⟩) (by assumption) ?_
      try simp only [Act.put, List.setIfInBounds_toArray, List.set_cons_zero, List.set_cons_succ]
      refine take_lit (i := 6) rfl (by kernel_rfl) (by kernel_rfl) (by kernel_rfl) (fun _ _ _ h => h) (Or.inr ⟨by rfl, rfl⟩) (by assumption) ?_
      try simp only [Act.put, List.setIfInBounds_toArray, List.set_cons_zero, List.set_cons_succ]
      refine take_lit (i := 7) rfl (by kernel_rfl) (by kernel_rfl) (by kernel_rfl) (fun _ _ _ h => h) (Or.inr ⟨by rfl, rfl⟩) (by assumption) ?_
      try simp only [Act.put, List.setIfInBounds_toArray, List.set_cons_zero, List.set_cons_succ]
      refine take_lit (i := 8) rfl (by kernel_rfl) (by kernel_rfl) (by kernel_rfl) (fun _ _ _ h => h) (Or.inr ⟨by rfl, rfl⟩) (by assumption) ?_
      try simp only [Act.put, List.setIfInBounds_toArray, List.set_cons_zero, List.set_cons_succ]
      refine take_lit (i := 9) rfl (by kernel_rfl) (by kernel_rfl) (by kernel_rfl) (fun _ _ _ h => h) (Or.inr ⟨by rfl, rfl⟩) (by assumption) ?_
      try simp only [Act.put, List.setIfInBounds_toArray, List.set_cons_zero, List.set_cons_succ]
      refine take_lit (i := 10) rfl (by kernel_rfl) (by kernel_rfl) (by kernel_rfl) (fun _ _ _ h => h) (Or.inr ⟨by rfl, rfl⟩) (by assumption) ?_
      try simp only [Act.put, List.setIfInBounds_toArray, List.set_cons_zero, List.set_cons_succ]
      refine take_lit (i := 11) (v := ?_) rfl (by kernel_rfl) (by kernel_rfl) (by kernel_rfl) (fun _ _ _ h => h) (Or.inl ⟨by rfl, ?_⟩) (by assumption) ?_
      rotate_left
      · (intro w hSw; (try dsimp only at hSw); go_simp <;> with_reducible rfl)
      try simp only [Act.put, List.setIfInBounds_toArray, List.set_cons_zero, List.set_cons_succ]
      refine take_lit (i := 12) (v := ?_) rfl (by kernel_rfl) (by kernel_rfl) (by kernel_rfl) (fun _ _ _ h => h) (Or.inl ⟨by rfl, ?_⟩) (by assumption) ?_
      rotate_left
      · (intro w hSw; (try dsimp only at hSw); go_simp <;> with_reducible rfl)
      try simp only [Act.put, List.setIfInBounds_toArray, List.set_cons_zero, List.set_cons_succ]
      refine wpAnyH_done (by kernel_rfl) ?_ _
      refine NoPanic.normal ?_
      go_wp2
      go_ret
      exact ⟨by rw [HF.out]; rfl, hB.trans (hHeld.1.mono (by omega))⟩
    exact AllReadyH.nil
theorem rcovers_any (p q : Pf) (w : World) : Calls Try.prog 23 #[(Value.agg (pcells p).toArray), (Value.agg (pcells q).toArray)] w (Gives w (.bool (cov p q))) := by
  have hChk := rcheck_any q
  have hCon := rcontains_any p q.a
  obtain ⟨c, hc⟩ : ∃ c, chk q = c := ⟨_, rfl⟩
  obtain ⟨d, hd⟩ : ∃ c, con p q.a = c := ⟨_, rfl⟩
  obtain ⟨n, hn⟩ : ∃ n, p.n = n := ⟨_, rfl⟩
  obtain ⟨m, hm⟩ : ∃ n, q.n = n := ⟨_, rfl⟩
  rw [hc] at hChk
  rw [hd] at hCon
  have HF : Hid (cov p q = (decide (c = 0) && (decide (n ≤ m) && d))) := by show _ = _; simp [cov, hn, hm, hc, hd]
  have hP := (LP.new w p 26).alloc (.cells (pcells q).toArray 26)
  have hQ : LP ((w.alloc (.cells (pcells p).toArray 26)).alloc (.cells (pcells q).toArray 26)) (w.heap.size + 1) 0 q := by
    have := LP.new (w.alloc (.cells (pcells p).toArray 26)) q 26
    simpa using this
  have h0 := chk_or q
  rw [hc] at h0
  have HN := hn
  rcases h0 with ⟨rfl, _⟩ | rfl
  · by_cases hnm : n ≤ m
    · have d1 : decide (n ≤ m) = true := by simpa using hnm
      go_enter Try.func23, Try.ntmps23
      go_wp2_with (first
        | (refine ldP (.tmp 3) rfl rfl _ _ q rfl hQ ?_)
        | (refine ldP (.tmp 2) (by rfl) rfl _ _ p rfl hP1 ?_)
        | (refine ldA (.tmp 17) (by rfl) rfl _ _ q.a rfl hQ1.a ?_)
        | (go_at_call 34; refine (hCon _).mono ?_; rintro e w2 ⟨rfl, hB2⟩)
        | (go_at_call 26; refine (hChk _).mono ?_; rintro e w1 ⟨rfl, hB1⟩; have hP1 : LP w1 w.heap.size 0 p := hP.below hB1 (by simp; omega); have hQ1 : LP w1 (w.heap.size + 1) 0 q := hQ.below hB1 (by simp); have c1 := hP1.n; have c2 := hQ1.n; rw [hn] at c1; rw [hm] at c2; simp only [Nat.zero_add] at c1 c2))
      go_ret
      exact ⟨by rw [HF.out, d1]; rfl, bt (bt (bt (ba _ _) (ba _ _)) hB1) hB2⟩
    · have d1 : decide (n ≤ m) = false := by simpa using hnm
      go_enter Try.func23, Try.ntmps23
      go_wp2_with (first
        | (refine ldP (.tmp 3) rfl rfl _ _ q rfl hQ ?_)
        | (refine ldP (.tmp 2) (by rfl) rfl _ _ p rfl hP1 ?_)
        | (refine ldA (.tmp 17) (by rfl) rfl _ _ q.a rfl hQ1.a ?_)
        | (go_at_call 34; refine (hCon _).mono ?_; rintro e w2 ⟨rfl, hB2⟩)
        | (go_at_call 26; refine (hChk _).mono ?_; rintro e w1 ⟨rfl, hB1⟩; have hP1 : LP w1 w.heap.size 0 p := hP.below hB1 (by simp; omega); have hQ1 : LP w1 (w.heap.size + 1) 0 q := hQ.below hB1 (by simp); have c1 := hP1.n; have c2 := hQ1.n; rw [hn] at c1; rw [hm] at c2; simp only [Nat.zero_add] at c1 c2))
      go_ret
      exact ⟨by rw [HF.out, d1]; rfl, bt (bt (ba _ _) (ba _ _)) hB1⟩
  · go_enter Try.func23, Try.ntmps23
    go_wp2_with (first
      | (refine ldP (.tmp 3) rfl rfl _ _ q rfl hQ ?_)
      | (refine ldP (.tmp 2) (by rfl) rfl _ _ p rfl hP1 ?_)
      | (refine ldA (.tmp 17) (by rfl) rfl _ _ q.a rfl hQ1.a ?_)
      | (go_at_call 34; refine (hCon _).mono ?_; rintro e w2 ⟨rfl, hB2⟩)
      | (go_at_call 26; refine (hChk _).mono ?_; rintro e w1 ⟨rfl, hB1⟩; have hP1 : LP w1 w.heap.size 0 p := hP.below hB1 (by simp; omega); have hQ1 : LP w1 (w.heap.size + 1) 0 q := hQ.below hB1 (by simp); have c1 := hP1.n; have c2 := hQ1.n; rw [hn] at c1; rw [hm] at c2; simp only [Nat.zero_add] at c1 c2))
    go_ret
    exact ⟨by rw [HF.out]; rfl, bt (bt (ba _ _) (ba _ _)) hB1⟩
end Go.Proofs.Ytfohknbgfpbmiaa
