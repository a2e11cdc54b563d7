/-
  Family, PrefixFamily, Check and Contains of package addr, for every address and prefix.
-/
import Derived.Test.YtadnnjngflphjaaCut
import Derived.Deep.QuietTactic
import Derived.BigQuiet
namespace Go.Proofs.Ytadnnjngflphjaa.Fa
open Go.RowKit
set_option linter.unusedSimpArgs false
set_option maxRecDepth 20000

theorem bt {w w1 w2 : World} (h : Below w.heap.size w w1) (k : Below w1.heap.size w1 w2) : Below w.heap.size w w2 := h.trans (k.mono h.size)
theorem ba (w : World) (o : Obj) : Below w.heap.size w (w.alloc o) := (Below.refl _ _).alloc (Nat.le_refl _) o
theorem cut_n (a : Ad) (n : Nat) (hn : n ≤ 128) (w : World) : Calls Try.prog 42 #[(Value.agg (acells a).toArray), .int .i64 (n : Int)] w (Gives w (Value.agg (acells (cutA a n)).toArray)) := by
  have h := cut_any a (n / 8) (n % 8) (by omega) (by omega) w
  rwa [show 8 * (n / 8) + n % 8 = n by omega] at h
/-- The family of an address. -/
def famA (a : Ad) : Int := if (cutA a 96).l = mapA.l then 4 else 6
theorem fam_any (a : Ad) (w : World) : Calls Try.prog 22 #[(Value.agg (acells a).toArray)] w (Gives w (.int .i64 (famA a))) := by
  have he := eqA 9998
  have hf := run_fieldA
  have hc := cut_n a 96 (by omega)
  have ha := any_any 4
  rw [show anyP 4 = ⟨mapA, 96⟩ from rfl] at ha
  have H : ∀ b : Bool, decide ((cutA a 96).l = mapA.l) = b → famA a = if b = true then 4 else 6 := by
    intro b hb; subst hb; simp [famA]
  obtain ⟨b, hb⟩ : ∃ b, decide ((cutA a 96).l = mapA.l) = b := ⟨_, rfl⟩
  have HF : Hid (famA a = if b = true then 4 else 6) := H b hb
  clear H
  have h0 := LA.new w a 31
  go_enter Try.func22, Try.ntmps22
  go_wp2_with (first
    | (refine ldA (.tmp 1) rfl rfl _ _ a rfl h0 ?_)
    | (go_at_call 43; refine (ha _).mono ?_; rintro e w2 ⟨rfl, hB2⟩)
    | (go_at_call 42; refine (hc _).mono ?_; rintro e w1 ⟨rfl, hB1⟩))
  · have h : b = true := by assumption
    go_ret
    exact ⟨by rw [HF.out, if_pos h]; rfl, bt (bt (ba _ _) hB1) hB2⟩
  · have h : b = false := by assumption
    go_ret
    exact ⟨by rw [HF.out, h]; rfl, bt (bt (ba _ _) hB1) hB2⟩
/-- The family of a prefix. -/
def famP (p : Pf) : Int := if 96 ≤ p.n ∧ famA p.a = 4 then 4 else 6
theorem pfam_any (p : Pf) (w : World) : Calls Try.prog 21 #[(Value.agg (pcells p).toArray)] w (Gives w (.int .i64 (famP p))) := by
  have h0 := LP.new w p 33
  have h1 := h0.n
  have h2 := h0.a
  have hF := fam_any p.a
  obtain ⟨f, hf⟩ : ∃ f, famA p.a = f := ⟨_, rfl⟩
  obtain ⟨n, hn⟩ : ∃ n, p.n = n := ⟨_, rfl⟩
  rw [hf] at hF
  have HF : Hid (famP p = if 96 ≤ n ∧ f = 4 then 4 else 6) := by show _ = _; simp [famP, hf, hn]
  rw [hn] at h1
  simp only [Nat.zero_add] at h1
  clear hf hn
  go_enter Try.func21, Try.ntmps21
  go_wp2_with (first
    | (refine ldA (.tmp 7) rfl rfl _ _ p.a rfl h2 ?_)
    | (go_at_call 22; refine (hF _).mono ?_; rintro e w1 ⟨rfl, hB1⟩))
  · have h : f = 4 := by simpa using ‹(f == 4) = true›
    have h' : 96 ≤ n := by assumption
    go_ret
    exact ⟨by rw [HF.out, if_pos ⟨h', h⟩]; rfl, bt (ba _ _) hB1⟩
  · have h : ¬ f = 4 := by simpa using ‹(f == 4) = false›
    go_ret
    exact ⟨by rw [HF.out, if_neg (fun q => h q.2)]; rfl, bt (ba _ _) hB1⟩
  · have h : n < 96 := by assumption
    go_ret
    exact ⟨by rw [HF.out, if_neg (fun q => absurd q.1 (by omega))]; rfl, ba _ _⟩
/-- What Check answers. -/
def chk (p : Pf) : Int := if 0 ≤ p.n ∧ p.n ≤ 128 ∧ (cutA p.a p.n.toNat).l = p.a.l then 0 else 21
theorem check_any (p : Pf) (w : World) : Calls Try.prog 44 #[(Value.agg (pcells p).toArray)] w (Gives w (.int .i64 (chk p))) := by
  have he := eqA 9998
  obtain ⟨n, hn⟩ : ∃ n, p.n = n := ⟨_, rfl⟩
  obtain ⟨b, hb⟩ : ∃ b, decide ((cutA p.a n.toNat).l = p.a.l) = b := ⟨_, rfl⟩
  have HF : Hid (chk p = if 0 ≤ n ∧ n ≤ 128 ∧ b = true then 0 else 21) := by show _ = _; simp [chk, hn, ← hb]
  have hu := Try.underlying31
  have hi : (Try.prog.info? 31).map (·.size) = some (acells p.a).length := by rw [infoA, acells_len]
  go_enter Try.func44, Try.ntmps44
  go_wp2
  refine name_world (R := fun W => Code.wp _ _ _ _ W) (P := fun W => Below w.heap.size w W ∧ LP W w.heap.size 0 p ∧ w.heap.size < W.heap.size) _ ⟨ba _ _, LP.new _ _ _, by simp⟩ ?_
  rintro X ⟨hB, hP, hs⟩
  have h1 := hP.n
  have h2 := hP.a
  rw [hn] at h1
  simp only [Nat.zero_add] at h1
  clear hn
  have HK : Hid (∀ W, Below X.heap.size X W → Below X.heap.size X W ∧ LA W w.heap.size 0 p.a ∧ W.cell? ⟨w.heap.size, 16, none⟩ = some (.int .i64 n)) :=
    fun W h => ⟨h, h2.below h hs, (h.cell (p := ⟨w.heap.size, 16, none⟩) hs).trans h1⟩
  by_cases c1 : n < 0
  · have d1 : decide (n < 0) = true := by simpa using c1
    go_quiet (fail)
    go_wp2
    go_ret
    exact ⟨by rw [HF.out, if_neg (fun q => absurd q.1 (by omega))]; rfl, below_drewN hB _⟩
  by_cases c2 : 128 < n
  · have d1 : decide (n < 0) = false := by simpa using c1
    have d2 : decide (128 < n) = true := by simpa using c2
    go_quiet (fail)
    go_wp2
    go_ret
    exact ⟨by rw [HF.out, if_neg (fun q => absurd q.2.1 (by omega))]; rfl, below_drewN hB _⟩
  · obtain ⟨k, rfl⟩ : ∃ k : Nat, n = k := ⟨n.toNat, by omega⟩
    have hk : k ≤ 128 := by omega
    have hC := cut_n p.a k hk
    have d1 : decide ((k : Int) < 0) = false := by simp
    have d2 : decide ((128 : Int) < (k : Int)) = false := by simpa using c2
    simp only [Int.toNat_natCast] at hb
    have HKk : Hid (k ≤ 128) := hk
    clear c1 c2 hk
    refine wp_region_noPanic ?_
    refine wp_region_held_drew (S := fun W => Below X.heap.size X W ∧ LA W w.heap.size 0 p.a ∧ W.cell? ⟨w.heap.size, 16, none⟩ = some (.int .i64 (k : Int))) (by kernel_rfl) (HK.out _ (Below.refl _ _).drew) (fun hHeld => ?_)
    refine take_lit (i := 0) (v := ?_) rfl (by kernel_rfl) (by kernel_rfl) (by kernel_rfl) (fun _ _ _ h => h) (Or.inl ⟨by rfl, ?_⟩) (by assumption) ?_
    rotate_left
    · (intro w hSw; (try dsimp only at hSw); go_simp <;> with_reducible rfl)
    try simp only [Act.put, List.setIfInBounds_toArray, List.set_cons_zero, List.set_cons_succ]
    refine take_lit (i := 1) (v := ?_) rfl (by kernel_rfl) (by kernel_rfl) (by kernel_rfl) (fun _ _ _ h => h) (Or.inl ⟨by rfl, ?_⟩) (by assumption) ?_
    rotate_left
    · (intro w hSw; (try dsimp only at hSw); go_simp <;> with_reducible rfl)
    try simp only [Act.put, List.setIfInBounds_toArray, List.set_cons_zero, List.set_cons_succ]
    refine take_lit (i := 2) (v := ?_) rfl (by kernel_rfl) (by kernel_rfl) (by kernel_rfl) (fun _ _ _ h => h) (Or.inl ⟨by rfl, ?_⟩) (by assumption) ?_
    rotate_left
    · (intro w hSw; (try dsimp only at hSw); go_simp <;> with_reducible rfl)
    try simp only [Act.put, List.setIfInBounds_toArray, List.set_cons_zero, List.set_cons_succ]
    refine take_lit (i := 3) (v := ?_) rfl (by kernel_rfl) (by kernel_rfl) (by kernel_rfl) (fun _ _ _ h => h) (Or.inl ⟨by rfl, ?_⟩) (by assumption) ?_
    rotate_left
    · (intro w hSw; (try dsimp only at hSw); go_simp <;> with_reducible rfl)
    try simp only [Act.put, List.setIfInBounds_toArray, List.set_cons_zero, List.set_cons_succ]
    refine take_lit (i := 4) (v := ?_) rfl (by kernel_rfl) (by kernel_rfl) (by kernel_rfl) (fun _ _ _ h => h) (Or.inl ⟨by rfl, ?_⟩) (by assumption) ?_
    rotate_left
    · (intro w hSw; (try dsimp only at hSw); go_simp <;> with_reducible rfl)
    try simp only [Act.put, List.setIfInBounds_toArray, List.set_cons_zero, List.set_cons_succ]
    refine take_lit (i := 5) (v := ?_) rfl (by kernel_rfl) (by kernel_rfl) (by kernel_rfl) (fun _ _ _ h => h) (Or.inl ⟨by rfl, ?_⟩) (by assumption) ?_
    rotate_left
    · (intro w hSw; (try dsimp only at hSw); go_simp <;> with_reducible rfl)
    try simp only [Act.put, List.setIfInBounds_toArray, List.set_cons_zero, List.set_cons_succ]
    refine take_lit (i := 6) (v := ?_) rfl (by kernel_rfl) (by kernel_rfl) (by kernel_rfl) (fun _ _ _ h => h) (Or.inl ⟨by rfl, ?_⟩) (by assumption) ?_
    rotate_left
    · (intro w hSw; (try dsimp only at hSw); go_simp <;> with_reducible rfl)
    try simp only [Act.put, List.setIfInBounds_toArray, List.set_cons_zero, List.set_cons_succ]
    refine take_lit (i := 7) (v := ?_) rfl (by kernel_rfl) (by kernel_rfl) (by kernel_rfl) (fun _ _ _ h => h) (Or.inl ⟨by rfl, ?_⟩) (by assumption) ?_
    rotate_left
    · (intro w hSw; (try dsimp only at hSw); go_simp <;> with_reducible rfl)
    try simp only [Act.put, List.setIfInBounds_toArray, List.set_cons_zero, List.set_cons_succ]
    refine take_lit (i := 8) (v := ?_) rfl (by kernel_rfl) (by kernel_rfl) (by kernel_rfl) (fun _ _ _ h => h) (Or.inl ⟨by rfl, ?_⟩) (by assumption) ?_
    rotate_left
    · (intro w hSw; (try dsimp only at hSw); go_simp <;> with_reducible rfl)
    try simp only [Act.put, List.setIfInBounds_toArray, List.set_cons_zero, List.set_cons_succ]
    refine take_lit (i := 9) (v := ?_) rfl (by kernel_rfl) (by kernel_rfl) (by kernel_rfl) (fun _ _ _ h => h) (Or.inl ⟨by rfl, ?_⟩) (by assumption) ?_
    rotate_left
    · (intro w hSw; (try dsimp only at hSw); go_simp <;> with_reducible rfl)
    try simp only [Act.put, List.setIfInBounds_toArray, List.set_cons_zero, List.set_cons_succ]
    refine take_lit (i := 10) rfl (by kernel_rfl) (by kernel_rfl) (by kernel_rfl) (fun _ _ _ h => h) (yA p.a (fun w h => h.2.1) (by rfl) rfl rfl) (by assumption) ?_
    try simp only [Act.put, List.setIfInBounds_toArray, List.set_cons_zero, List.set_cons_succ]
    refine take_lit (i := 11) (v := ?_) rfl (by kernel_rfl) (by kernel_rfl) (by kernel_rfl) (fun _ _ _ h => h) (Or.inl ⟨by rfl, ?_⟩) (by assumption) ?_
    rotate_left
    · (intro w hSw; (try dsimp only at hSw); go_simp <;> with_reducible rfl)
    try simp only [Act.put, List.setIfInBounds_toArray, List.set_cons_zero, List.set_cons_succ]
    refine take_lit (i := 12) (v := ?_) rfl (by kernel_rfl) (by kernel_rfl) (by kernel_rfl) (fun _ _ _ h => h) (Or.inl ⟨by rfl, ?_⟩) (by assumption) ?_
    rotate_left
    · (intro w hSw; (try dsimp only at hSw); go_simp <;> with_reducible rfl)
    try simp only [Act.put, List.setIfInBounds_toArray, List.set_cons_zero, List.set_cons_succ]
    refine take_lit (i := 14) (v := ?_) rfl (by kernel_rfl) (by kernel_rfl) (by kernel_rfl) (fun _ _ _ h => h) (Or.inl ⟨by rfl, ?_⟩) (by assumption) ?_
    rotate_left
    · (intro w hSw; (try dsimp only at hSw); go_simp <;> with_reducible rfl)
    try simp only [Act.put, List.setIfInBounds_toArray, List.set_cons_zero, List.set_cons_succ]
    refine take_lit (i := 15) rfl (by kernel_rfl) (by kernel_rfl) (by kernel_rfl) (fun _ _ _ h => h) (yA p.a (fun w h => h.2.1) (by rfl) rfl rfl) (by assumption) ?_
    try simp only [Act.put, List.setIfInBounds_toArray, List.set_cons_zero, List.set_cons_succ]
    refine wpAnyH_ready (rs := [13]) (by kernel_rfl) (by simp) ?_
    refine cons_lit rfl (fun K hK => ?_) ?_
    · go_simp
      refine (hC _).mono ?_
      rintro e w1 ⟨rfl, hB1⟩
      refine hK.out _ _ ?_ (fun hHeld => ?_)
      · exact HK.out _ (hHeld.1.trans (hB1.mono hHeld.1.size))
      clear hK K
      try simp only [Act.put, List.setIfInBounds_toArray, List.set_cons_zero, List.set_cons_succ]
      refine take_lit (i := 16) (v := ?_) rfl (by kernel_rfl) (by kernel_rfl) (by kernel_rfl) (fun _ _ _ h => h) (Or.inl ⟨by rfl, ?_⟩) (by assumption) ?_
      rotate_left
      · (intro w hSw; (try dsimp only at hSw); go_simp <;> with_reducible rfl)
      try simp only [Act.put, List.setIfInBounds_toArray, List.set_cons_zero, List.set_cons_succ]
      refine take_lit (i := 17) (v := ?_) rfl (by kernel_rfl) (by kernel_rfl) (by kernel_rfl) (fun _ _ _ h => h) (Or.inl ⟨by rfl, ?_⟩) (by assumption) ?_
      rotate_left
      · (intro w hSw; (try dsimp only at hSw); go_simp <;> with_reducible rfl)
      try simp only [Act.put, List.setIfInBounds_toArray, List.set_cons_zero, List.set_cons_succ]
      refine wpAnyH_done (by kernel_rfl) ?_ _
      refine NoPanic.normal ?_
      go_wp2
      · have h : b = false := by simpa using ‹(!b) = true›
        go_ret
        exact ⟨by rw [HF.out, if_neg (fun q => by rw [h] at q; exact absurd q.2.2 (by simp))]; rfl, hB.trans (hHeld.1.mono (Nat.le_of_lt hs))⟩
      · have h : b = true := by simpa using ‹(!b) = false›
        go_ret
        exact ⟨by rw [HF.out, if_pos ⟨by omega, by have := HKk.out; omega, h⟩]; rfl, hB.trans (hHeld.1.mono (Nat.le_of_lt hs))⟩
    exact AllReadyH.nil
/-- What Contains answers. -/
def con (p : Pf) (a : Ad) : Bool := decide (chk p = 0) && decide ((cutA a p.n.toNat).l = p.a.l)
theorem chk_or (p : Pf) : chk p = 0 ∧ 0 ≤ p.n ∧ p.n ≤ 128 ∧ (cutA p.a p.n.toNat).l = p.a.l ∨ chk p = 21 := by
  unfold chk
  by_cases h : 0 ≤ p.n ∧ p.n ≤ 128 ∧ (cutA p.a p.n.toNat).l = p.a.l
  · rw [if_pos h]; exact .inl ⟨rfl, h⟩
  · rw [if_neg h]; exact .inr rfl
theorem contains_any (p : Pf) (a : Ad) (w : World) : Calls Try.prog 23 #[(Value.agg (pcells p).toArray), (Value.agg (acells a).toArray)] w (Gives w (.bool (con p a))) := by
  have he := eqA 9998
  have hChk := check_any p
  have h0 := chk_or p
  obtain ⟨c, hc⟩ : ∃ c, chk p = c := ⟨_, rfl⟩
  obtain ⟨n, hn⟩ : ∃ n, p.n = n := ⟨_, rfl⟩
  obtain ⟨b, hb⟩ : ∃ b, decide ((cutA a n.toNat).l = p.a.l) = b := ⟨_, rfl⟩
  rw [hn] at h0
  rw [hc] at hChk h0
  have HF : Hid (con p a = (decide (c = 0) && b)) := by show _ = _; simp [con, hn, ← hb, hc]
  go_enter Try.func23, Try.ntmps23
  go_wp2
  refine name_world (R := fun W => Code.wp _ _ _ _ W) (P := fun W => Below w.heap.size w W ∧ LP W w.heap.size 0 p ∧ LA W (w.heap.size + 1) 0 a ∧ w.heap.size + 1 < W.heap.size) _ ⟨bt (ba _ _) (ba _ _), (LP.new _ _ _).alloc _, by have := LA.new (w.alloc (.cells (pcells p).toArray 33)) a 31; simpa using this, by simp⟩ ?_
  rintro X ⟨hB, hP, hA, hs⟩
  have h1 := hP.n
  rw [hn] at h1
  simp only [Nat.zero_add] at h1
  clear hn hc
  have HK : Hid (∀ W, Below X.heap.size X W → Below X.heap.size X W ∧ LP W w.heap.size 0 p ∧ LA W (w.heap.size + 1) 0 a ∧ W.cell? ⟨w.heap.size, 16, none⟩ = some (.int .i64 n)) :=
    fun W h => ⟨h, hP.below h (by omega), hA.below h hs, (h.cell (p := ⟨w.heap.size, 16, none⟩) (by show w.heap.size < _; omega)).trans h1⟩
  rcases h0 with ⟨h0, hn0, hn1, _⟩ | h0
  · subst h0
    obtain ⟨k, rfl⟩ : ∃ k : Nat, n = k := ⟨n.toNat, by omega⟩
    have hC := cut_n a k (by omega)
    simp only [Int.toNat_natCast] at hb
    clear hn0 hn1
    refine wp_region_noPanic ?_
    refine wp_region_held_drew (S := fun W => Below X.heap.size X W ∧ LP W w.heap.size 0 p ∧ LA W (w.heap.size + 1) 0 a ∧ W.cell? ⟨w.heap.size, 16, none⟩ = some (.int .i64 (k : Int))) (by kernel_rfl) (HK.out _ (Below.refl _ _).drew) (fun hHeld => ?_)
    refine take_lit (i := 0) rfl (by kernel_rfl) (by kernel_rfl) (by kernel_rfl) (fun _ _ _ h => h) (yP p (fun w h => h.2.1) (by rfl) rfl rfl) (by assumption) ?_
    try simp only [Act.put, List.setIfInBounds_toArray, List.set_cons_zero, List.set_cons_succ]
    refine wpAnyH_ready (rs := [1]) (by kernel_rfl) (by simp) ?_
    refine cons_lit rfl (fun K hK => ?_) ?_
    · go_simp
      refine (hChk _).mono ?_
      rintro e w1 ⟨rfl, hB1⟩
      refine hK.out _ _ ?_ (fun hHeld => ?_)
      · exact HK.out _ (hHeld.1.trans (hB1.mono hHeld.1.size))
      clear hK K
      try simp only [Act.put, List.setIfInBounds_toArray, List.set_cons_zero, List.set_cons_succ]
      refine take_lit (i := 2) (v := ?_) rfl (by kernel_rfl) (by kernel_rfl) (by kernel_rfl) (fun _ _ _ h => h) (Or.inl ⟨by rfl, ?_⟩) (by assumption) ?_
      rotate_left
      · (intro w hSw; (try dsimp only at hSw); go_simp <;> with_reducible rfl)
      try simp only [Act.put, List.setIfInBounds_toArray, List.set_cons_zero, List.set_cons_succ]
      refine take_lit (i := 3) (v := ?_) rfl (by kernel_rfl) (by kernel_rfl) (by kernel_rfl) (fun _ _ _ h => h) (Or.inl ⟨by rfl, ?_⟩) (by assumption) ?_
      rotate_left
      · (intro w hSw; (try dsimp only at hSw); go_simp <;> with_reducible rfl)
      try simp only [Act.put, List.setIfInBounds_toArray, List.set_cons_zero, List.set_cons_succ]
      refine take_lit (i := 4) rfl (by kernel_rfl) (by kernel_rfl) (by kernel_rfl) (fun _ _ _ h => h) (yA a (fun w h => h.2.2.1) (by rfl) rfl rfl) (by assumption) ?_
      try simp only [Act.put, List.setIfInBounds_toArray, List.set_cons_zero, List.set_cons_succ]
      refine take_lit (i := 5) (v := ?_) rfl (by kernel_rfl) (by kernel_rfl) (by kernel_rfl) (fun _ _ _ h => h) (Or.inl ⟨by rfl, ?_⟩) (by assumption) ?_
      rotate_left
      · (intro w hSw; (try dsimp only at hSw); go_simp <;> with_reducible rfl)
      try simp only [Act.put, List.setIfInBounds_toArray, List.set_cons_zero, List.set_cons_succ]
      refine take_lit (i := 6) (v := ?_) rfl (by kernel_rfl) (by kernel_rfl) (by kernel_rfl) (fun _ _ _ h => h) (Or.inl ⟨by rfl, ?_⟩) (by assumption) ?_
      rotate_left
      · (intro w hSw; (try dsimp only at hSw); go_simp <;> with_reducible rfl)
      try simp only [Act.put, List.setIfInBounds_toArray, List.set_cons_zero, List.set_cons_succ]
      refine take_lit (i := 8) (v := ?_) rfl (by kernel_rfl) (by kernel_rfl) (by kernel_rfl) (fun _ _ _ h => h) (Or.inl ⟨by rfl, ?_⟩) (by assumption) ?_
      rotate_left
      · (intro w hSw; (try dsimp only at hSw); go_simp <;> with_reducible rfl)
      try simp only [Act.put, List.setIfInBounds_toArray, List.set_cons_zero, List.set_cons_succ]
      refine take_lit (i := 9) rfl (by kernel_rfl) (by kernel_rfl) (by kernel_rfl) (fun _ _ _ h => h) (yA p.a (fun w h => h.2.1.a) (by rfl) rfl rfl) (by assumption) ?_
      try simp only [Act.put, List.setIfInBounds_toArray, List.set_cons_zero, List.set_cons_succ]
      refine wpAnyH_ready (rs := [7]) (by kernel_rfl) (by simp) ?_
      refine cons_lit rfl (fun K hK => ?_) ?_
      · go_simp
        refine (hC _).mono ?_
        rintro e w2 ⟨rfl, hB2⟩
        refine hK.out _ _ ?_ (fun hHeld => ?_)
        · exact HK.out _ (hHeld.1.trans (hB2.mono hHeld.1.size))
        clear hK K
        try simp only [Act.put, List.setIfInBounds_toArray, List.set_cons_zero, List.set_cons_succ]
        refine take_lit (i := 10) (v := ?_) rfl (by kernel_rfl) (by kernel_rfl) (by kernel_rfl) (fun _ _ _ h => h) (Or.inl ⟨by rfl, ?_⟩) (by assumption) ?_
        rotate_left
        · (intro w hSw; (try dsimp only at hSw); go_simp <;> with_reducible rfl)
        try simp only [Act.put, List.setIfInBounds_toArray, List.set_cons_zero, List.set_cons_succ]
        refine take_lit (i := 11) (v := ?_) rfl (by kernel_rfl) (by kernel_rfl) (by kernel_rfl) (fun _ _ _ h => h) (Or.inl ⟨by rfl, ?_⟩) (by assumption) ?_
        rotate_left
        · (intro w hSw; (try dsimp only at hSw); go_simp <;> with_reducible rfl)
        try simp only [Act.put, List.setIfInBounds_toArray, List.set_cons_zero, List.set_cons_succ]
        refine take_lit (i := 12) (v := ?_) rfl (by kernel_rfl) (by kernel_rfl) (by kernel_rfl) (fun _ _ _ h => h) (Or.inl ⟨by rfl, ?_⟩) (by assumption) ?_
        rotate_left
        · (intro w hSw; (try dsimp only at hSw); go_simp <;> with_reducible rfl)
        try simp only [Act.put, List.setIfInBounds_toArray, List.set_cons_zero, List.set_cons_succ]
        refine wpAnyH_done (by kernel_rfl) ?_ _
        refine NoPanic.normal ?_
        go_wp2
        go_ret
        exact ⟨by rw [HF.out]; rfl, hB.trans (hHeld.1.mono (by omega))⟩
      exact AllReadyH.nil
    exact AllReadyH.nil
  · subst h0
    refine wp_region_noPanic ?_
    refine wp_region_held_drew (S := fun W => Below X.heap.size X W ∧ LP W w.heap.size 0 p ∧ LA W (w.heap.size + 1) 0 a ∧ W.cell? ⟨w.heap.size, 16, none⟩ = some (.int .i64 n)) (by kernel_rfl) (HK.out _ (Below.refl _ _).drew) (fun hHeld => ?_)
    refine take_lit (i := 0) rfl (by kernel_rfl) (by kernel_rfl) (by kernel_rfl) (fun _ _ _ h => h) (yP p (fun w h => h.2.1) (by rfl) rfl rfl) (by assumption) ?_
    try simp only [Act.put, List.setIfInBounds_toArray, List.set_cons_zero, List.set_cons_succ]
    refine wpAnyH_ready (rs := [1]) (by kernel_rfl) (by simp) ?_
    refine cons_lit rfl (fun K hK => ?_) ?_
    · go_simp
      refine (hChk _).mono ?_
      rintro e w1 ⟨rfl, hB1⟩
      refine hK.out _ _ ?_ (fun hHeld => ?_)
      · exact HK.out _ (hHeld.1.trans (hB1.mono hHeld.1.size))
      clear hK K
      try simp only [Act.put, List.setIfInBounds_toArray, List.set_cons_zero, List.set_cons_succ]
      refine take_lit (i := 2) (v := ?_) rfl (by kernel_rfl) (by kernel_rfl) (by kernel_rfl) (fun _ _ _ h => h) (Or.inl ⟨by rfl, ?_⟩) (by assumption) ?_
      rotate_left
      · (intro w hSw; (try dsimp only at hSw); go_simp <;> with_reducible rfl)
      try simp only [Act.put, List.setIfInBounds_toArray, List.set_cons_zero, List.set_cons_succ]
      refine take_lit (i := 3) (v := ?_) rfl (by kernel_rfl) (by kernel_rfl) (by kernel_rfl) (fun _ _ _ h => h) (Or.inl ⟨by rfl, ?_⟩) (by assumption) ?_
      rotate_left
      · (intro w hSw; (try dsimp only at hSw); go_simp <;> with_reducible rfl)
      try simp only [Act.put, List.setIfInBounds_toArray, List.set_cons_zero, List.set_cons_succ]
      refine take_lit (i := 4) rfl (by kernel_rfl) (by kernel_rfl) (by kernel_rfl) (fun _ _ _ h => h) (Or.inr ⟨by rfl, rfl⟩) (by assumption) ?_
      try simp only [Act.put, List.setIfInBounds_toArray, List.set_cons_zero, List.set_cons_succ]
      refine take_lit (i := 5) rfl (by kernel_rfl) (by kernel_rfl) (by kernel_rfl) (fun _ _ _ h => h) (Or.inr ⟨by rfl, rfl⟩) (by assumption) ?_
      try simp only [Act.put, List.setIfInBounds_toArray, List.set_cons_zero, List.set_cons_succ]
      refine take_lit (i := 6) rfl (by kernel_rfl) (by kernel_rfl) (by kernel_rfl) (fun _ _ _ h => h) (Or.inr ⟨by rfl, rfl⟩) (by assumption) ?_
      try simp only [Act.put, List.setIfInBounds_toArray, List.set_cons_zero, List.set_cons_succ]
      refine take_lit (i := 7) rfl (by kernel_rfl) (by kernel_rfl) (by kernel_rfl) (fun _ _ _ h => h) (Or.inr ⟨by rfl, rfl⟩) (by assumption) ?_
      try simp only [Act.put, List.setIfInBounds_toArray, List.set_cons_zero, List.set_cons_succ]
      refine take_lit (i := 8) rfl (by kernel_rfl) (by kernel_rfl) (by kernel_rfl) (fun _ _ _ h => h) (Or.inr ⟨by rfl, rfl⟩) (by assumption) ?_
      try simp only [Act.put, List.setIfInBounds_toArray, List.set_cons_zero, List.set_cons_succ]
      refine take_lit (i := 9) rfl (by kernel_rfl) (by kernel_rfl) (by kernel_rfl) (fun _ _ _ h => h) (Or.inr ⟨by rfl, rfl⟩) (by assumption) ?_
      try simp only [Act.put, List.setIfInBounds_toArray, List.set_cons_zero, List.set_cons_succ]
      refine take_lit (i := 10) rfl (by kernel_rfl) (by kernel_rfl) (by kernel_rfl) (fun _ _ _ h => h) (Or.inr ⟨by rfl, rfl⟩) (by assumption) ?_
      try simp only [Act.put, List.setIfInBounds_toArray, List.set_cons_zero, List.set_cons_succ]
      refine take_lit (i := 11) (v := ?_) rfl (by kernel_rfl) (by kernel_rfl) (by kernel_rfl) (fun _ _ _ h => h) (Or.inl ⟨by rfl, ?_⟩) (by assumption) ?_
      rotate_left
      · (intro w hSw; (try dsimp only at hSw); go_simp <;> with_reducible rfl)
      try simp only [Act.put, List.setIfInBounds_toArray, List.set_cons_zero, List.set_cons_succ]
      refine take_lit (i := 12) (v := ?_) rfl (by kernel_rfl) (by kernel_rfl) (by kernel_rfl) (fun _ _ _ h => h) (Or.inl ⟨by rfl, ?_⟩) (by assumption) ?_
      rotate_left
      · (intro w hSw; (try dsimp only at hSw); go_simp <;> with_reducible rfl)
      try simp only [Act.put, List.setIfInBounds_toArray, List.set_cons_zero, List.set_cons_succ]
      refine wpAnyH_done (by kernel_rfl) ?_ _
      refine NoPanic.normal ?_
      go_wp2
      go_ret
      exact ⟨by rw [HF.out]; rfl, hB.trans (hHeld.1.mono (by omega))⟩
    exact AllReadyH.nil
end Go.Proofs.Ytadnnjngflphjaa.Fa
