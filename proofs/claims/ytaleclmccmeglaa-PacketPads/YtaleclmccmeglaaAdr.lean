/-
  The contract of address of package packet.
-/
import Derived.Test.YtaleclmccmeglaaFr
namespace Go.Proofs.Ytaleclmccmeglaa
open Go.RowKit
set_option linter.unusedSimpArgs false
set_option maxRecDepth 20000
variable {bv : Option Addr}

/-- The address that is read, and the reading behind it. -/
def adR (ae : Nat) (r : RS) : RS := if frB ae then r else r.bad
def adA (ae : Nat) (l : List UInt8) (r : RS) : Ad := spA (frA ae) (frN ae) (tkB l (adR ae r).p (adR ae r).y ((16 - frN ae : Nat) : Int))
def adN (ae : Nat) (l : List UInt8) (r : RS) : RS := (adR ae r).adv l ((16 - frN ae : Nat) : Int)
theorem spA_none (a : Ad) (n : Nat) : spA a n [] = a := by
  unfold spA
  split
  · exact Ad.ext (by simp [splice])
  · rfl
theorem tkB_zero (l : List UInt8) (p : Nat) (y : Int) : tkB l p y 0 = [] := by unfold tkB; split <;> simp

theorem address_16_ok {w : World} {P g : Nat} {l : List UInt8} {r : RS} (ae : Nat) (A0 : Ad) (hf : ∀ W, Calls Try.prog 95 #[.int .u8 (ae : Int)] W fun e w' => e = .returned (.tuple #[(Value.agg (acells A0).toArray), .int .i64 16, .bool true]) ∧ Below W.heap.size W w') (hp : Pg w P g) (h : RdS w g bv l r) :
    Calls Try.prog 74 #[.pointer (some ⟨P, 0, none⟩), .int .u8 (ae : Int)] w fun e w' => e = .returned (Value.agg (acells (spA A0 16 (tkB l r.p r.y 0))).toArray) ∧ NowS w w' g bv l (r.adv l 0) := by
  have hlt := h.lt
  have hPlt := hp.lt
  go_enter Try.func74, Try.ntmps74
  go_wp2_with (first
    | (have kk := b3; refine stA0 (.tmp 5) (.tmp 11) (by rfl) rfl gB A0 _ (acells_len _) rfl rfl rB ?_; intro wC hgC rC; have rA2 := (rA1.below b3 (Nat.lt_of_lt_of_le a2 hB1.size)).grown hgC (by intro e; have := hB1.size; cases e; omega); have bC := (bt a4 b3).grown hgC (bt a4 b3).size (fun k hk => by cases hk; exact Nat.le_trans a4.size b1))
    | (have kk := hB1; refine alG infoAz (by rfl) rfl ?_; intro gB wB b1 b2 b3 rB)
    | (go_at_call 95; refine (hf _).mono ?_; rintro e w1 ⟨rfl, hB1⟩; have rA1 := rA.below hB1 a2; have a4 := bt a3 hB1)
    | (refine alG infoAz (by rfl) rfl ?_; intro gA wA a1 a2 a3 rA))
  have hpB := hp.below bC
  have hrB := h.below bC
  have hN0 : NowS w wC g bv l r := hrB.now.after bC
  have rCd := rC
  have rAd := rA2
  have hsz : w.heap.size ≤ gB := Nat.le_trans a4.size b1
  have hne : gA < gB := by have := hB1.size; omega
  have hgB : gB ≠ g := by omega
  have hgA : gA ≠ g := by omega
  have hPB : P < gB := by omega
  have hBC : gB < wC.heap.size := rCd.lt
  clear a3 b3 rA kk a4 hB1 bC rA1 rB b2
  refine wp_region_noPanic ?_
  refine wp_region_held_drew (S := fun W => W.cell? ⟨P, 11, none⟩ = some (.pointer (some ⟨g, 0, none⟩))) (by kernel_rfl) ((hpB.below (bd _)).c) (fun hHeld => ?_)
  refine take_lit (i := 0) (v := ?_) rfl (by kernel_rfl) (by kernel_rfl) (by kernel_rfl) (fun _ _ _ h => h) (Or.inl ⟨by rfl, ?_⟩) (by assumption) ?_
  rotate_left
  · (intro w hSw; (try dsimp only at hSw); go_simp <;> with_reducible rfl)
  try simp only [Act.put, List.setIfInBounds_toArray, List.set_cons_zero, List.set_cons_succ]
  refine take_lit (i := 1) (v := ?_) rfl (by kernel_rfl) (by kernel_rfl) (by kernel_rfl) (fun _ _ _ h => h) (Or.inl ⟨by rfl, ?_⟩) (by assumption) ?_
  rotate_left
  · (intro w hSw; (try dsimp only at hSw); go_simp <;> with_reducible rfl)
  try simp only [Act.put, List.setIfInBounds_toArray, List.set_cons_zero, List.set_cons_succ]
  refine take_lit (i := 2) (v := ?_) rfl (by kernel_rfl) (by kernel_rfl) (by kernel_rfl) (fun _ _ _ h => h) (Or.inl ⟨by rfl, ?_⟩) (by assumption) ?_
  rotate_left
  · (intro w hSw; (try dsimp only at hSw); go_simp <;> with_reducible rfl)
  try simp only [Act.put, List.setIfInBounds_toArray, List.set_cons_zero, List.set_cons_succ]
  refine take_lit (i := 3) (v := ?_) rfl (by kernel_rfl) (by kernel_rfl) (by kernel_rfl) (fun _ _ _ h => h) (Or.inl ⟨by rfl, ?_⟩) (by assumption) ?_
  rotate_left
  · (intro w hSw; (try dsimp only at hSw); go_simp <;> with_reducible rfl)
  try simp only [Act.put, List.setIfInBounds_toArray, List.set_cons_zero, List.set_cons_succ]
  refine take_lit (i := 4) (v := ?_) rfl (by kernel_rfl) (by kernel_rfl) (by kernel_rfl) (fun _ _ _ h => h) (Or.inl ⟨by rfl, ?_⟩) (by assumption) ?_
  rotate_left
  · (intro w hSw; (try dsimp only at hSw); go_simp <;> with_reducible rfl)
  try simp only [Act.put, List.setIfInBounds_toArray, List.set_cons_zero, List.set_cons_succ]
  refine take_lit (i := 5) (v := ?_) rfl (by kernel_rfl) (by kernel_rfl) (by kernel_rfl) (fun _ _ _ h => h) (Or.inl ⟨by rfl, ?_⟩) (by assumption) ?_
  rotate_left
  · (intro w hSw; (try dsimp only at hSw); go_simp <;> with_reducible rfl)
  try simp only [Act.put, List.setIfInBounds_toArray, List.set_cons_zero, List.set_cons_succ]
  refine take_lit (i := 6) (v := ?_) rfl (by kernel_rfl) (by kernel_rfl) (by kernel_rfl) (fun _ _ _ h => h) (Or.inl ⟨by rfl, ?_⟩) (by assumption) ?_
  rotate_left
  · (intro w hSw; (try dsimp only at hSw); go_simp <;> with_reducible rfl)
  try simp only [Act.put, List.setIfInBounds_toArray, List.set_cons_zero, List.set_cons_succ]
  refine take_lit (i := 7) (v := ?_) rfl (by kernel_rfl) (by kernel_rfl) (by kernel_rfl) (fun _ _ _ h => h) (Or.inl ⟨by rfl, ?_⟩) (by assumption) ?_
  rotate_left
  · (intro w hSw; (try dsimp only at hSw); go_simp <;> with_reducible rfl)
  try simp only [Act.put, List.setIfInBounds_toArray, List.set_cons_zero, List.set_cons_succ]
  refine wpAnyH_ready (rs := [8]) (by kernel_rfl) (by simp) ?_
  refine cons_lit rfl (fun K hK => ?_) ?_
  · go_simp
    refine (bytes_r 0 (hrB.below (bd _))).mono ?_
    rintro e w1 ⟨n, a1, c1, hn, hn8, rfl, s1, hn1⟩
    have rB1 := (rCd.below (bd _) hBC).nowS hn1 hgB
    have rA1 := (rAd.below (bd _) (by omega)).nowS hn1 hgA
    refine hK.out _ _ ?_ (fun hHeld => ?_)
    · exact ((hpB.below (bd _)).now hn1).c
    clear hK K
    try simp only [Act.put, List.setIfInBounds_toArray, List.set_cons_zero, List.set_cons_succ]
    refine wpAnyH_ready (rs := [9]) (by kernel_rfl) (by simp) ?_
    refine cons_lit rfl (fun K hK => ?_) ?_
    · skip
      refine step_copy_splice rfl (.tmp 19) (.tmp 26) 24 24 rfl 5 Try.underlying24 (by kernel_rfl) _ _ _ _ _ _ rfl rfl gB 0 (acells A0) 23 rB1 (bcells (tkB l r.p r.y 0)) (by rw [bcells_length]; exact hn.out.symm.trans (Nat.min_eq_left hn8).symm) (fun h0 => ⟨rfl, s1.pos h0⟩) (by rw [bcells_length, acells_len]; have t4 : (tkB l r.p r.y 0).length ≤ 0 := tkB_le l r.p r.y 0; omega) (bcells_one _) gB w1 (Below.refl _ _) (Nat.le_refl _) ?_
      intro w2 HG2 hB2
      refine hK.out _ _ ?_ (fun hHeld => ?_)
      · exact (hB2.cell (p := ⟨P, 11, none⟩) hPB).trans ‹_›
      clear hK K
      try simp only [Act.put, List.setIfInBounds_toArray, List.set_cons_zero, List.set_cons_succ]
      refine wpAnyH_done (by kernel_rfl) ?_ _
      refine NoPanic.normal ?_
      have rB2 : Row w2 gB 23 (acells (spA A0 16 (tkB l r.p r.y 0))) := by rw [tkB_zero, spA_none]; show w2.heap[gB]? = _; have e := HG2.out; rw [tkB_zero] at e; simpa [splice, bcells] using e
      have rA2' : Row w2 gA 23 (acells zeroA) := rA1.below hB2 (by omega)
      have N2 : NowS w w2 g bv l (r.adv l 0) := NowS.low h (hN0.trans (hn1.after (bd _))) hB2 hsz
      clear HG2 hB2 rA1 rB1 hn1 s1 hHeld
      go_wp2_with (first
        | (refine stA0 (.tmp 4) (.tmp 28) (by rfl) rfl gA (spA A0 16 (tkB l r.p r.y 0)) _ (acells_len _) rfl rfl rA2' ?_; intro w3 hg3 r3)
        | (refine ldA (.tmp 5) (by rfl) rfl gB 0 (spA A0 16 (tkB l r.p r.y 0)) rfl rB2.range ?_))
      exact bodyPost_ret (retC rfl _ _ 0 rfl (lvA r3.range)) rfl ⟨rfl, N2.fresh h hg3 (by omega)⟩
    exact AllReadyH.nil
  exact AllReadyH.nil
theorem address_12_ok {w : World} {P g : Nat} {l : List UInt8} {r : RS} (ae : Nat) (A0 : Ad) (hf : ∀ W, Calls Try.prog 95 #[.int .u8 (ae : Int)] W fun e w' => e = .returned (.tuple #[(Value.agg (acells A0).toArray), .int .i64 12, .bool true]) ∧ Below W.heap.size W w') (hp : Pg w P g) (h : RdS w g bv l r) :
    Calls Try.prog 74 #[.pointer (some ⟨P, 0, none⟩), .int .u8 (ae : Int)] w fun e w' => e = .returned (Value.agg (acells (spA A0 12 (tkB l r.p r.y 4))).toArray) ∧ NowS w w' g bv l (r.adv l 4) := by
  have hlt := h.lt
  have hPlt := hp.lt
  go_enter Try.func74, Try.ntmps74
  go_wp2_with (first
    | (have kk := b3; refine stA0 (.tmp 5) (.tmp 11) (by rfl) rfl gB A0 _ (acells_len _) rfl rfl rB ?_; intro wC hgC rC; have rA2 := (rA1.below b3 (Nat.lt_of_lt_of_le a2 hB1.size)).grown hgC (by intro e; have := hB1.size; cases e; omega); have bC := (bt a4 b3).grown hgC (bt a4 b3).size (fun k hk => by cases hk; exact Nat.le_trans a4.size b1))
    | (have kk := hB1; refine alG infoAz (by rfl) rfl ?_; intro gB wB b1 b2 b3 rB)
    | (go_at_call 95; refine (hf _).mono ?_; rintro e w1 ⟨rfl, hB1⟩; have rA1 := rA.below hB1 a2; have a4 := bt a3 hB1)
    | (refine alG infoAz (by rfl) rfl ?_; intro gA wA a1 a2 a3 rA))
  have hpB := hp.below bC
  have hrB := h.below bC
  have hN0 : NowS w wC g bv l r := hrB.now.after bC
  have rCd := rC
  have rAd := rA2
  have hsz : w.heap.size ≤ gB := Nat.le_trans a4.size b1
  have hne : gA < gB := by have := hB1.size; omega
  have hgB : gB ≠ g := by omega
  have hgA : gA ≠ g := by omega
  have hPB : P < gB := by omega
  have hBC : gB < wC.heap.size := rCd.lt
  clear a3 b3 rA kk a4 hB1 bC rA1 rB b2
  refine wp_region_noPanic ?_
  refine wp_region_held_drew (S := fun W => W.cell? ⟨P, 11, none⟩ = some (.pointer (some ⟨g, 0, none⟩))) (by kernel_rfl) ((hpB.below (bd _)).c) (fun hHeld => ?_)
  refine take_lit (i := 0) (v := ?_) rfl (by kernel_rfl) (by kernel_rfl) (by kernel_rfl) (fun _ _ _ h => h) (Or.inl ⟨by rfl, ?_⟩) (by assumption) ?_
  rotate_left
  · (intro w hSw; (try dsimp only at hSw); go_simp <;> with_reducible rfl)
  try simp only [Act.put, List.setIfInBounds_toArray, List.set_cons_zero, List.set_cons_succ]
  refine take_lit (i := 1) (v := ?_) rfl (by kernel_rfl) (by kernel_rfl) (by kernel_rfl) (fun _ _ _ h => h) (Or.inl ⟨by rfl, ?_⟩) (by assumption) ?_
  rotate_left
  · (intro w hSw; (try dsimp only at hSw); go_simp <;> with_reducible rfl)
  try simp only [Act.put, List.setIfInBounds_toArray, List.set_cons_zero, List.set_cons_succ]
  refine take_lit (i := 2) (v := ?_) rfl (by kernel_rfl) (by kernel_rfl) (by kernel_rfl) (fun _ _ _ h => h) (Or.inl ⟨by rfl, ?_⟩) (by assumption) ?_
  rotate_left
  · (intro w hSw; (try dsimp only at hSw); go_simp <;> with_reducible rfl)
  try simp only [Act.put, List.setIfInBounds_toArray, List.set_cons_zero, List.set_cons_succ]
  refine take_lit (i := 3) (v := ?_) rfl (by kernel_rfl) (by kernel_rfl) (by kernel_rfl) (fun _ _ _ h => h) (Or.inl ⟨by rfl, ?_⟩) (by assumption) ?_
  rotate_left
  · (intro w hSw; (try dsimp only at hSw); go_simp <;> with_reducible rfl)
  try simp only [Act.put, List.setIfInBounds_toArray, List.set_cons_zero, List.set_cons_succ]
  refine take_lit (i := 4) (v := ?_) rfl (by kernel_rfl) (by kernel_rfl) (by kernel_rfl) (fun _ _ _ h => h) (Or.inl ⟨by rfl, ?_⟩) (by assumption) ?_
  rotate_left
  · (intro w hSw; (try dsimp only at hSw); go_simp <;> with_reducible rfl)
  try simp only [Act.put, List.setIfInBounds_toArray, List.set_cons_zero, List.set_cons_succ]
  refine take_lit (i := 5) (v := ?_) rfl (by kernel_rfl) (by kernel_rfl) (by kernel_rfl) (fun _ _ _ h => h) (Or.inl ⟨by rfl, ?_⟩) (by assumption) ?_
  rotate_left
  · (intro w hSw; (try dsimp only at hSw); go_simp <;> with_reducible rfl)
  try simp only [Act.put, List.setIfInBounds_toArray, List.set_cons_zero, List.set_cons_succ]
  refine take_lit (i := 6) (v := ?_) rfl (by kernel_rfl) (by kernel_rfl) (by kernel_rfl) (fun _ _ _ h => h) (Or.inl ⟨by rfl, ?_⟩) (by assumption) ?_
  rotate_left
  · (intro w hSw; (try dsimp only at hSw); go_simp <;> with_reducible rfl)
  try simp only [Act.put, List.setIfInBounds_toArray, List.set_cons_zero, List.set_cons_succ]
  refine take_lit (i := 7) (v := ?_) rfl (by kernel_rfl) (by kernel_rfl) (by kernel_rfl) (fun _ _ _ h => h) (Or.inl ⟨by rfl, ?_⟩) (by assumption) ?_
  rotate_left
  · (intro w hSw; (try dsimp only at hSw); go_simp <;> with_reducible rfl)
  try simp only [Act.put, List.setIfInBounds_toArray, List.set_cons_zero, List.set_cons_succ]
  refine wpAnyH_ready (rs := [8]) (by kernel_rfl) (by simp) ?_
  refine cons_lit rfl (fun K hK => ?_) ?_
  · go_simp
    refine (bytes_r 4 (hrB.below (bd _))).mono ?_
    rintro e w1 ⟨n, a1, c1, hn, hn8, rfl, s1, hn1⟩
    have rB1 := (rCd.below (bd _) hBC).nowS hn1 hgB
    have rA1 := (rAd.below (bd _) (by omega)).nowS hn1 hgA
    refine hK.out _ _ ?_ (fun hHeld => ?_)
    · exact ((hpB.below (bd _)).now hn1).c
    clear hK K
    try simp only [Act.put, List.setIfInBounds_toArray, List.set_cons_zero, List.set_cons_succ]
    refine wpAnyH_ready (rs := [9]) (by kernel_rfl) (by simp) ?_
    refine cons_lit rfl (fun K hK => ?_) ?_
    · skip
      refine step_copy_splice rfl (.tmp 19) (.tmp 26) 24 24 rfl 5 Try.underlying24 (by kernel_rfl) _ _ _ _ _ _ rfl rfl gB 12 (acells A0) 23 rB1 (bcells (tkB l r.p r.y 4)) (by rw [bcells_length]; exact hn.out.symm.trans (Nat.min_eq_left hn8).symm) (fun h0 => ⟨rfl, s1.pos h0⟩) (by rw [bcells_length, acells_len]; have t4 : (tkB l r.p r.y 4).length ≤ 4 := tkB_le l r.p r.y 4; omega) (bcells_one _) gB w1 (Below.refl _ _) (Nat.le_refl _) ?_
      intro w2 HG2 hB2
      refine hK.out _ _ ?_ (fun hHeld => ?_)
      · exact (hB2.cell (p := ⟨P, 11, none⟩) hPB).trans ‹_›
      clear hK K
      try simp only [Act.put, List.setIfInBounds_toArray, List.set_cons_zero, List.set_cons_succ]
      refine wpAnyH_done (by kernel_rfl) ?_ _
      refine NoPanic.normal ?_
      have rB2 : Row w2 gB 23 (acells (spA A0 12 (tkB l r.p r.y 4))) := by have t4 : (tkB l r.p r.y 4).length ≤ 4 := tkB_le l r.p r.y 4; rw [acells_spA _ _ _ (by omega)]; exact HG2.out
      have rA2' : Row w2 gA 23 (acells zeroA) := rA1.below hB2 (by omega)
      have N2 : NowS w w2 g bv l (r.adv l 4) := NowS.low h (hN0.trans (hn1.after (bd _))) hB2 hsz
      clear HG2 hB2 rA1 rB1 hn1 s1 hHeld
      go_wp2_with (first
        | (refine stA0 (.tmp 4) (.tmp 28) (by rfl) rfl gA (spA A0 12 (tkB l r.p r.y 4)) _ (acells_len _) rfl rfl rA2' ?_; intro w3 hg3 r3)
        | (refine ldA (.tmp 5) (by rfl) rfl gB 0 (spA A0 12 (tkB l r.p r.y 4)) rfl rB2.range ?_))
      exact bodyPost_ret (retC rfl _ _ 0 rfl (lvA r3.range)) rfl ⟨rfl, N2.fresh h hg3 (by omega)⟩
    exact AllReadyH.nil
  exact AllReadyH.nil
theorem address_0_ok {w : World} {P g : Nat} {l : List UInt8} {r : RS} (ae : Nat) (A0 : Ad) (hf : ∀ W, Calls Try.prog 95 #[.int .u8 (ae : Int)] W fun e w' => e = .returned (.tuple #[(Value.agg (acells A0).toArray), .int .i64 0, .bool true]) ∧ Below W.heap.size W w') (hp : Pg w P g) (h : RdS w g bv l r) :
    Calls Try.prog 74 #[.pointer (some ⟨P, 0, none⟩), .int .u8 (ae : Int)] w fun e w' => e = .returned (Value.agg (acells (spA A0 0 (tkB l r.p r.y 16))).toArray) ∧ NowS w w' g bv l (r.adv l 16) := by
  have hlt := h.lt
  have hPlt := hp.lt
  go_enter Try.func74, Try.ntmps74
  go_wp2_with (first
    | (have kk := b3; refine stA0 (.tmp 5) (.tmp 11) (by rfl) rfl gB A0 _ (acells_len _) rfl rfl rB ?_; intro wC hgC rC; have rA2 := (rA1.below b3 (Nat.lt_of_lt_of_le a2 hB1.size)).grown hgC (by intro e; have := hB1.size; cases e; omega); have bC := (bt a4 b3).grown hgC (bt a4 b3).size (fun k hk => by cases hk; exact Nat.le_trans a4.size b1))
    | (have kk := hB1; refine alG infoAz (by rfl) rfl ?_; intro gB wB b1 b2 b3 rB)
    | (go_at_call 95; refine (hf _).mono ?_; rintro e w1 ⟨rfl, hB1⟩; have rA1 := rA.below hB1 a2; have a4 := bt a3 hB1)
    | (refine alG infoAz (by rfl) rfl ?_; intro gA wA a1 a2 a3 rA))
  have hpB := hp.below bC
  have hrB := h.below bC
  have hN0 : NowS w wC g bv l r := hrB.now.after bC
  have rCd := rC
  have rAd := rA2
  have hsz : w.heap.size ≤ gB := Nat.le_trans a4.size b1
  have hne : gA < gB := by have := hB1.size; omega
  have hgB : gB ≠ g := by omega
  have hgA : gA ≠ g := by omega
  have hPB : P < gB := by omega
  have hBC : gB < wC.heap.size := rCd.lt
  clear a3 b3 rA kk a4 hB1 bC rA1 rB b2
  refine wp_region_noPanic ?_
  refine wp_region_held_drew (S := fun W => W.cell? ⟨P, 11, none⟩ = some (.pointer (some ⟨g, 0, none⟩))) (by kernel_rfl) ((hpB.below (bd _)).c) (fun hHeld => ?_)
  refine take_lit (i := 0) (v := ?_) rfl (by kernel_rfl) (by kernel_rfl) (by kernel_rfl) (fun _ _ _ h => h) (Or.inl ⟨by rfl, ?_⟩) (by assumption) ?_
  rotate_left
  · (intro w hSw; (try dsimp only at hSw); go_simp <;> with_reducible rfl)
  try simp only [Act.put, List.setIfInBounds_toArray, List.set_cons_zero, List.set_cons_succ]
  refine take_lit (i := 1) (v := ?_) rfl (by kernel_rfl) (by kernel_rfl) (by kernel_rfl) (fun _ _ _ h => h) (Or.inl ⟨by rfl, ?_⟩) (by assumption) ?_
  rotate_left
  · (intro w hSw; (try dsimp only at hSw); go_simp <;> with_reducible rfl)
  try simp only [Act.put, List.setIfInBounds_toArray, List.set_cons_zero, List.set_cons_succ]
  refine take_lit (i := 2) (v := ?_) rfl (by kernel_rfl) (by kernel_rfl) (by kernel_rfl) (fun _ _ _ h => h) (Or.inl ⟨by rfl, ?_⟩) (by assumption) ?_
  rotate_left
  · (intro w hSw; (try dsimp only at hSw); go_simp <;> with_reducible rfl)
  try simp only [Act.put, List.setIfInBounds_toArray, List.set_cons_zero, List.set_cons_succ]
  refine take_lit (i := 3) (v := ?_) rfl (by kernel_rfl) (by kernel_rfl) (by kernel_rfl) (fun _ _ _ h => h) (Or.inl ⟨by rfl, ?_⟩) (by assumption) ?_
  rotate_left
  · (intro w hSw; (try dsimp only at hSw); go_simp <;> with_reducible rfl)
  try simp only [Act.put, List.setIfInBounds_toArray, List.set_cons_zero, List.set_cons_succ]
  refine take_lit (i := 4) (v := ?_) rfl (by kernel_rfl) (by kernel_rfl) (by kernel_rfl) (fun _ _ _ h => h) (Or.inl ⟨by rfl, ?_⟩) (by assumption) ?_
  rotate_left
  · (intro w hSw; (try dsimp only at hSw); go_simp <;> with_reducible rfl)
  try simp only [Act.put, List.setIfInBounds_toArray, List.set_cons_zero, List.set_cons_succ]
  refine take_lit (i := 5) (v := ?_) rfl (by kernel_rfl) (by kernel_rfl) (by kernel_rfl) (fun _ _ _ h => h) (Or.inl ⟨by rfl, ?_⟩) (by assumption) ?_
  rotate_left
  · (intro w hSw; (try dsimp only at hSw); go_simp <;> with_reducible rfl)
  try simp only [Act.put, List.setIfInBounds_toArray, List.set_cons_zero, List.set_cons_succ]
  refine take_lit (i := 6) (v := ?_) rfl (by kernel_rfl) (by kernel_rfl) (by kernel_rfl) (fun _ _ _ h => h) (Or.inl ⟨by rfl, ?_⟩) (by assumption) ?_
  rotate_left
  · (intro w hSw; (try dsimp only at hSw); go_simp <;> with_reducible rfl)
  try simp only [Act.put, List.setIfInBounds_toArray, List.set_cons_zero, List.set_cons_succ]
  refine take_lit (i := 7) (v := ?_) rfl (by kernel_rfl) (by kernel_rfl) (by kernel_rfl) (fun _ _ _ h => h) (Or.inl ⟨by rfl, ?_⟩) (by assumption) ?_
  rotate_left
  · (intro w hSw; (try dsimp only at hSw); go_simp <;> with_reducible rfl)
  try simp only [Act.put, List.setIfInBounds_toArray, List.set_cons_zero, List.set_cons_succ]
  refine wpAnyH_ready (rs := [8]) (by kernel_rfl) (by simp) ?_
  refine cons_lit rfl (fun K hK => ?_) ?_
  · go_simp
    refine (bytes_r 16 (hrB.below (bd _))).mono ?_
    rintro e w1 ⟨n, a1, c1, hn, hn8, rfl, s1, hn1⟩
    have rB1 := (rCd.below (bd _) hBC).nowS hn1 hgB
    have rA1 := (rAd.below (bd _) (by omega)).nowS hn1 hgA
    refine hK.out _ _ ?_ (fun hHeld => ?_)
    · exact ((hpB.below (bd _)).now hn1).c
    clear hK K
    try simp only [Act.put, List.setIfInBounds_toArray, List.set_cons_zero, List.set_cons_succ]
    refine wpAnyH_ready (rs := [9]) (by kernel_rfl) (by simp) ?_
    refine cons_lit rfl (fun K hK => ?_) ?_
    · skip
      refine step_copy_splice rfl (.tmp 19) (.tmp 26) 24 24 rfl 5 Try.underlying24 (by kernel_rfl) _ _ _ _ _ _ rfl rfl gB 0 (acells A0) 23 rB1 (bcells (tkB l r.p r.y 16)) (by rw [bcells_length]; exact hn.out.symm.trans (Nat.min_eq_left hn8).symm) (fun h0 => ⟨rfl, s1.pos h0⟩) (by rw [bcells_length, acells_len]; have t4 : (tkB l r.p r.y 16).length ≤ 16 := tkB_le l r.p r.y 16; omega) (bcells_one _) gB w1 (Below.refl _ _) (Nat.le_refl _) ?_
      intro w2 HG2 hB2
      refine hK.out _ _ ?_ (fun hHeld => ?_)
      · exact (hB2.cell (p := ⟨P, 11, none⟩) hPB).trans ‹_›
      clear hK K
      try simp only [Act.put, List.setIfInBounds_toArray, List.set_cons_zero, List.set_cons_succ]
      refine wpAnyH_done (by kernel_rfl) ?_ _
      refine NoPanic.normal ?_
      have rB2 : Row w2 gB 23 (acells (spA A0 0 (tkB l r.p r.y 16))) := by have t4 : (tkB l r.p r.y 16).length ≤ 16 := tkB_le l r.p r.y 16; rw [acells_spA _ _ _ (by omega)]; exact HG2.out
      have rA2' : Row w2 gA 23 (acells zeroA) := rA1.below hB2 (by omega)
      have N2 : NowS w w2 g bv l (r.adv l 16) := NowS.low h (hN0.trans (hn1.after (bd _))) hB2 hsz
      clear HG2 hB2 rA1 rB1 hn1 s1 hHeld
      go_wp2_with (first
        | (refine stA0 (.tmp 4) (.tmp 28) (by rfl) rfl gA (spA A0 0 (tkB l r.p r.y 16)) _ (acells_len _) rfl rfl rA2' ?_; intro w3 hg3 r3)
        | (refine ldA (.tmp 5) (by rfl) rfl gB 0 (spA A0 0 (tkB l r.p r.y 16)) rfl rB2.range ?_))
      exact bodyPost_ret (retC rfl _ _ 0 rfl (lvA r3.range)) rfl ⟨rfl, N2.fresh h hg3 (by omega)⟩
    exact AllReadyH.nil
  exact AllReadyH.nil
theorem address_8_ok {w : World} {P g : Nat} {l : List UInt8} {r : RS} (ae : Nat) (A0 : Ad) (hf : ∀ W, Calls Try.prog 95 #[.int .u8 (ae : Int)] W fun e w' => e = .returned (.tuple #[(Value.agg (acells A0).toArray), .int .i64 8, .bool true]) ∧ Below W.heap.size W w') (hp : Pg w P g) (h : RdS w g bv l r) :
    Calls Try.prog 74 #[.pointer (some ⟨P, 0, none⟩), .int .u8 (ae : Int)] w fun e w' => e = .returned (Value.agg (acells (spA A0 8 (tkB l r.p r.y 8))).toArray) ∧ NowS w w' g bv l (r.adv l 8) := by
  have hlt := h.lt
  have hPlt := hp.lt
  go_enter Try.func74, Try.ntmps74
  go_wp2_with (first
    | (have kk := b3; refine stA0 (.tmp 5) (.tmp 11) (by rfl) rfl gB A0 _ (acells_len _) rfl rfl rB ?_; intro wC hgC rC; have rA2 := (rA1.below b3 (Nat.lt_of_lt_of_le a2 hB1.size)).grown hgC (by intro e; have := hB1.size; cases e; omega); have bC := (bt a4 b3).grown hgC (bt a4 b3).size (fun k hk => by cases hk; exact Nat.le_trans a4.size b1))
    | (have kk := hB1; refine alG infoAz (by rfl) rfl ?_; intro gB wB b1 b2 b3 rB)
    | (go_at_call 95; refine (hf _).mono ?_; rintro e w1 ⟨rfl, hB1⟩; have rA1 := rA.below hB1 a2; have a4 := bt a3 hB1)
    | (refine alG infoAz (by rfl) rfl ?_; intro gA wA a1 a2 a3 rA))
  have hpB := hp.below bC
  have hrB := h.below bC
  have hN0 : NowS w wC g bv l r := hrB.now.after bC
  have rCd := rC
  have rAd := rA2
  have hsz : w.heap.size ≤ gB := Nat.le_trans a4.size b1
  have hne : gA < gB := by have := hB1.size; omega
  have hgB : gB ≠ g := by omega
  have hgA : gA ≠ g := by omega
  have hPB : P < gB := by omega
  have hBC : gB < wC.heap.size := rCd.lt
  clear a3 b3 rA kk a4 hB1 bC rA1 rB b2
  refine wp_region_noPanic ?_
  refine wp_region_held_drew (S := fun W => W.cell? ⟨P, 11, none⟩ = some (.pointer (some ⟨g, 0, none⟩))) (by kernel_rfl) ((hpB.below (bd _)).c) (fun hHeld => ?_)
  refine take_lit (i := 0) (v := ?_) rfl (by kernel_rfl) (by kernel_rfl) (by kernel_rfl) (fun _ _ _ h => h) (Or.inl ⟨by rfl, ?_⟩) (by assumption) ?_
  rotate_left
  · (intro w hSw; (try dsimp only at hSw); go_simp <;> with_reducible rfl)
  try simp only [Act.put, List.setIfInBounds_toArray, List.set_cons_zero, List.set_cons_succ]
  refine take_lit (i := 1) (v := ?_) rfl (by kernel_rfl) (by kernel_rfl) (by kernel_rfl) (fun _ _ _ h => h) (Or.inl ⟨by rfl, ?_⟩) (by assumption) ?_
  rotate_left
  · (intro w hSw; (try dsimp only at hSw); go_simp <;> with_reducible rfl)
  try simp only [Act.put, List.setIfInBounds_toArray, List.set_cons_zero, List.set_cons_succ]
  refine take_lit (i := 2) (v := ?_) rfl (by kernel_rfl) (by kernel_rfl) (by kernel_rfl) (fun _ _ _ h => h) (Or.inl ⟨by rfl, ?_⟩) (by assumption) ?_
  rotate_left
  · (intro w hSw; (try dsimp only at hSw); go_simp <;> with_reducible rfl)
  try simp only [Act.put, List.setIfInBounds_toArray, List.set_cons_zero, List.set_cons_succ]
  refine take_lit (i := 3) (v := ?_) rfl (by kernel_rfl) (by kernel_rfl) (by kernel_rfl) (fun _ _ _ h => h) (Or.inl ⟨by rfl, ?_⟩) (by assumption) ?_
  rotate_left
  · (intro w hSw; (try dsimp only at hSw); go_simp <;> with_reducible rfl)
  try simp only [Act.put, List.setIfInBounds_toArray, List.set_cons_zero, List.set_cons_succ]
  refine take_lit (i := 4) (v := ?_) rfl (by kernel_rfl) (by kernel_rfl) (by kernel_rfl) (fun _ _ _ h => h) (Or.inl ⟨by rfl, ?_⟩) (by assumption) ?_
  rotate_left
  · (intro w hSw; (try dsimp only at hSw); go_simp <;> with_reducible rfl)
  try simp only [Act.put, List.setIfInBounds_toArray, List.set_cons_zero, List.set_cons_succ]
  refine take_lit (i := 5) (v := ?_) rfl (by kernel_rfl) (by kernel_rfl) (by kernel_rfl) (fun _ _ _ h => h) (Or.inl ⟨by rfl, ?_⟩) (by assumption) ?_
  rotate_left
  · (intro w hSw; (try dsimp only at hSw); go_simp <;> with_reducible rfl)
  try simp only [Act.put, List.setIfInBounds_toArray, List.set_cons_zero, List.set_cons_succ]
  refine take_lit (i := 6) (v := ?_) rfl (by kernel_rfl) (by kernel_rfl) (by kernel_rfl) (fun _ _ _ h => h) (Or.inl ⟨by rfl, ?_⟩) (by assumption) ?_
  rotate_left
  · (intro w hSw; (try dsimp only at hSw); go_simp <;> with_reducible rfl)
  try simp only [Act.put, List.setIfInBounds_toArray, List.set_cons_zero, List.set_cons_succ]
  refine take_lit (i := 7) (v := ?_) rfl (by kernel_rfl) (by kernel_rfl) (by kernel_rfl) (fun _ _ _ h => h) (Or.inl ⟨by rfl, ?_⟩) (by assumption) ?_
  rotate_left
  · (intro w hSw; (try dsimp only at hSw); go_simp <;> with_reducible rfl)
  try simp only [Act.put, List.setIfInBounds_toArray, List.set_cons_zero, List.set_cons_succ]
  refine wpAnyH_ready (rs := [8]) (by kernel_rfl) (by simp) ?_
  refine cons_lit rfl (fun K hK => ?_) ?_
  · go_simp
    refine (bytes_r 8 (hrB.below (bd _))).mono ?_
    rintro e w1 ⟨n, a1, c1, hn, hn8, rfl, s1, hn1⟩
    have rB1 := (rCd.below (bd _) hBC).nowS hn1 hgB
    have rA1 := (rAd.below (bd _) (by omega)).nowS hn1 hgA
    refine hK.out _ _ ?_ (fun hHeld => ?_)
    · exact ((hpB.below (bd _)).now hn1).c
    clear hK K
    try simp only [Act.put, List.setIfInBounds_toArray, List.set_cons_zero, List.set_cons_succ]
    refine wpAnyH_ready (rs := [9]) (by kernel_rfl) (by simp) ?_
    refine cons_lit rfl (fun K hK => ?_) ?_
    · skip
      refine step_copy_splice rfl (.tmp 19) (.tmp 26) 24 24 rfl 5 Try.underlying24 (by kernel_rfl) _ _ _ _ _ _ rfl rfl gB 8 (acells A0) 23 rB1 (bcells (tkB l r.p r.y 8)) (by rw [bcells_length]; exact hn.out.symm.trans (Nat.min_eq_left hn8).symm) (fun h0 => ⟨rfl, s1.pos h0⟩) (by rw [bcells_length, acells_len]; have t4 : (tkB l r.p r.y 8).length ≤ 8 := tkB_le l r.p r.y 8; omega) (bcells_one _) gB w1 (Below.refl _ _) (Nat.le_refl _) ?_
      intro w2 HG2 hB2
      refine hK.out _ _ ?_ (fun hHeld => ?_)
      · exact (hB2.cell (p := ⟨P, 11, none⟩) hPB).trans ‹_›
      clear hK K
      try simp only [Act.put, List.setIfInBounds_toArray, List.set_cons_zero, List.set_cons_succ]
      refine wpAnyH_done (by kernel_rfl) ?_ _
      refine NoPanic.normal ?_
      have rB2 : Row w2 gB 23 (acells (spA A0 8 (tkB l r.p r.y 8))) := by have t4 : (tkB l r.p r.y 8).length ≤ 8 := tkB_le l r.p r.y 8; rw [acells_spA _ _ _ (by omega)]; exact HG2.out
      have rA2' : Row w2 gA 23 (acells zeroA) := rA1.below hB2 (by omega)
      have N2 : NowS w w2 g bv l (r.adv l 8) := NowS.low h (hN0.trans (hn1.after (bd _))) hB2 hsz
      clear HG2 hB2 rA1 rB1 hn1 s1 hHeld
      go_wp2_with (first
        | (refine stA0 (.tmp 4) (.tmp 28) (by rfl) rfl gA (spA A0 8 (tkB l r.p r.y 8)) _ (acells_len _) rfl rfl rA2' ?_; intro w3 hg3 r3)
        | (refine ldA (.tmp 5) (by rfl) rfl gB 0 (spA A0 8 (tkB l r.p r.y 8)) rfl rB2.range ?_))
      exact bodyPost_ret (retC rfl _ _ 0 rfl (lvA r3.range)) rfl ⟨rfl, N2.fresh h hg3 (by omega)⟩
    exact AllReadyH.nil
  exact AllReadyH.nil
theorem address_0_no {w : World} {P g : Nat} {l : List UInt8} {r : RS} (ae : Nat) (A0 : Ad) (hf : ∀ W, Calls Try.prog 95 #[.int .u8 (ae : Int)] W fun e w' => e = .returned (.tuple #[(Value.agg (acells A0).toArray), .int .i64 0, .bool false]) ∧ Below W.heap.size W w') (hp : Pg w P g) (h : RdS w g bv l r) :
    Calls Try.prog 74 #[.pointer (some ⟨P, 0, none⟩), .int .u8 (ae : Int)] w fun e w' => e = .returned (Value.agg (acells (spA A0 0 (tkB l (RS.bad r).p (RS.bad r).y 16))).toArray) ∧ NowS w w' g bv l (r.bad.adv l 16) := by
  have hlt := h.lt
  have hPlt := hp.lt
  obtain ⟨rr, HRR⟩ : ∃ rr, Hid (r.bad = rr) := ⟨_, rfl⟩
  have HB : Hid (∀ W, Pg W P g → RdS W g bv l r → Calls Try.prog 78 #[.pointer (some ⟨P, 0, none⟩)] W fun e w' => e = .returned (.tuple #[]) ∧ NowS W w' g bv l rr) := fun W h1 h2 => by rw [← HRR.out]; exact bad_any h1 h2
  rw [HRR.out]
  go_enter Try.func74, Try.ntmps74
  go_wp2_with (first
    | (go_at_call 78; have kk := bC; refine (HB.out _ (hp.below bC) (h.below bC)).mono ?_; rintro e wD ⟨rfl, hnD⟩)
    | (have kk := b3; refine stA0 (.tmp 5) (.tmp 11) (by rfl) rfl gB A0 _ (acells_len _) rfl rfl rB ?_; intro wC hgC rC; have rA2 := (rA1.below b3 (Nat.lt_of_lt_of_le a2 hB1.size)).grown hgC (by intro e; have := hB1.size; cases e; omega); have bC := (bt a4 b3).grown hgC (bt a4 b3).size (fun k hk => by cases hk; exact Nat.le_trans a4.size b1))
    | (have kk := hB1; refine alG infoAz (by rfl) rfl ?_; intro gB wB b1 b2 b3 rB)
    | (go_at_call 95; refine (hf _).mono ?_; rintro e w1 ⟨rfl, hB1⟩; have rA1 := rA.below hB1 a2; have a4 := bt a3 hB1)
    | (refine alG infoAz (by rfl) rfl ?_; intro gA wA a1 a2 a3 rA))
  have hpB := (hp.below bC).now hnD
  have hrB := hnD.rd
  have hN0 : NowS w wD g bv l rr := hnD.after bC
  have hq1 : gB ≠ g := by have := a4.size; omega
  have hq2 : gA ≠ g := by omega
  have rCd := rC.nowS hnD hq1
  have rAd := rA2.nowS hnD hq2
  have hsz : w.heap.size ≤ gB := Nat.le_trans a4.size b1
  have hne : gA < gB := by have := hB1.size; omega
  have hgB : gB ≠ g := by omega
  have hgA : gA ≠ g := by omega
  have hPB : P < gB := by omega
  have hBC : gB < wD.heap.size := rCd.lt
  clear a3 b3 rA kk a4 hB1 bC rA1 rB b2
  refine wp_region_noPanic ?_
  refine wp_region_held_drew (S := fun W => W.cell? ⟨P, 11, none⟩ = some (.pointer (some ⟨g, 0, none⟩))) (by kernel_rfl) ((hpB.below (bd _)).c) (fun hHeld => ?_)
  refine take_lit (i := 0) (v := ?_) rfl (by kernel_rfl) (by kernel_rfl) (by kernel_rfl) (fun _ _ _ h => h) (Or.inl ⟨by rfl, ?_⟩) (by assumption) ?_
  rotate_left
  · (intro w hSw; (try dsimp only at hSw); go_simp <;> with_reducible rfl)
  try simp only [Act.put, List.setIfInBounds_toArray, List.set_cons_zero, List.set_cons_succ]
  refine take_lit (i := 1) (v := ?_) rfl (by kernel_rfl) (by kernel_rfl) (by kernel_rfl) (fun _ _ _ h => h) (Or.inl ⟨by rfl, ?_⟩) (by assumption) ?_
  rotate_left
  · (intro w hSw; (try dsimp only at hSw); go_simp <;> with_reducible rfl)
  try simp only [Act.put, List.setIfInBounds_toArray, List.set_cons_zero, List.set_cons_succ]
  refine take_lit (i := 2) (v := ?_) rfl (by kernel_rfl) (by kernel_rfl) (by kernel_rfl) (fun _ _ _ h => h) (Or.inl ⟨by rfl, ?_⟩) (by assumption) ?_
  rotate_left
  · (intro w hSw; (try dsimp only at hSw); go_simp <;> with_reducible rfl)
  try simp only [Act.put, List.setIfInBounds_toArray, List.set_cons_zero, List.set_cons_succ]
  refine take_lit (i := 3) (v := ?_) rfl (by kernel_rfl) (by kernel_rfl) (by kernel_rfl) (fun _ _ _ h => h) (Or.inl ⟨by rfl, ?_⟩) (by assumption) ?_
  rotate_left
  · (intro w hSw; (try dsimp only at hSw); go_simp <;> with_reducible rfl)
  try simp only [Act.put, List.setIfInBounds_toArray, List.set_cons_zero, List.set_cons_succ]
  refine take_lit (i := 4) (v := ?_) rfl (by kernel_rfl) (by kernel_rfl) (by kernel_rfl) (fun _ _ _ h => h) (Or.inl ⟨by rfl, ?_⟩) (by assumption) ?_
  rotate_left
  · (intro w hSw; (try dsimp only at hSw); go_simp <;> with_reducible rfl)
  try simp only [Act.put, List.setIfInBounds_toArray, List.set_cons_zero, List.set_cons_succ]
  refine take_lit (i := 5) (v := ?_) rfl (by kernel_rfl) (by kernel_rfl) (by kernel_rfl) (fun _ _ _ h => h) (Or.inl ⟨by rfl, ?_⟩) (by assumption) ?_
  rotate_left
  · (intro w hSw; (try dsimp only at hSw); go_simp <;> with_reducible rfl)
  try simp only [Act.put, List.setIfInBounds_toArray, List.set_cons_zero, List.set_cons_succ]
  refine take_lit (i := 6) (v := ?_) rfl (by kernel_rfl) (by kernel_rfl) (by kernel_rfl) (fun _ _ _ h => h) (Or.inl ⟨by rfl, ?_⟩) (by assumption) ?_
  rotate_left
  · (intro w hSw; (try dsimp only at hSw); go_simp <;> with_reducible rfl)
  try simp only [Act.put, List.setIfInBounds_toArray, List.set_cons_zero, List.set_cons_succ]
  refine take_lit (i := 7) (v := ?_) rfl (by kernel_rfl) (by kernel_rfl) (by kernel_rfl) (fun _ _ _ h => h) (Or.inl ⟨by rfl, ?_⟩) (by assumption) ?_
  rotate_left
  · (intro w hSw; (try dsimp only at hSw); go_simp <;> with_reducible rfl)
  try simp only [Act.put, List.setIfInBounds_toArray, List.set_cons_zero, List.set_cons_succ]
  refine wpAnyH_ready (rs := [8]) (by kernel_rfl) (by simp) ?_
  refine cons_lit rfl (fun K hK => ?_) ?_
  · go_simp
    refine (bytes_r 16 (hrB.below (bd _))).mono ?_
    rintro e w1 ⟨n, a1, c1, hn, hn8, rfl, s1, hn1⟩
    have rB1 := (rCd.below (bd _) hBC).nowS hn1 hgB
    have rA1 := (rAd.below (bd _) (by omega)).nowS hn1 hgA
    refine hK.out _ _ ?_ (fun hHeld => ?_)
    · exact ((hpB.below (bd _)).now hn1).c
    clear hK K
    try simp only [Act.put, List.setIfInBounds_toArray, List.set_cons_zero, List.set_cons_succ]
    refine wpAnyH_ready (rs := [9]) (by kernel_rfl) (by simp) ?_
    refine cons_lit rfl (fun K hK => ?_) ?_
    · skip
      refine step_copy_splice rfl (.tmp 19) (.tmp 26) 24 24 rfl 5 Try.underlying24 (by kernel_rfl) _ _ _ _ _ _ rfl rfl gB 0 (acells A0) 23 rB1 (bcells (tkB l rr.p rr.y 16)) (by rw [bcells_length]; exact hn.out.symm.trans (Nat.min_eq_left hn8).symm) (fun h0 => ⟨rfl, s1.pos h0⟩) (by rw [bcells_length, acells_len]; have t4 : (tkB l rr.p rr.y 16).length ≤ 16 := tkB_le l rr.p rr.y 16; omega) (bcells_one _) gB w1 (Below.refl _ _) (Nat.le_refl _) ?_
      intro w2 HG2 hB2
      refine hK.out _ _ ?_ (fun hHeld => ?_)
      · exact (hB2.cell (p := ⟨P, 11, none⟩) hPB).trans ‹_›
      clear hK K
      try simp only [Act.put, List.setIfInBounds_toArray, List.set_cons_zero, List.set_cons_succ]
      refine wpAnyH_done (by kernel_rfl) ?_ _
      refine NoPanic.normal ?_
      have rB2 : Row w2 gB 23 (acells (spA A0 0 (tkB l rr.p rr.y 16))) := by have t4 : (tkB l rr.p rr.y 16).length ≤ 16 := tkB_le l rr.p rr.y 16; rw [acells_spA _ _ _ (by omega)]; exact HG2.out
      have rA2' : Row w2 gA 23 (acells zeroA) := rA1.below hB2 (by omega)
      have N2 : NowS w w2 g bv l (rr.adv l 16) := NowS.low h (hN0.trans (hn1.after (bd _))) hB2 hsz
      clear HG2 hB2 rA1 rB1 hn1 s1 hHeld
      go_wp2_with (first
        | (refine stA0 (.tmp 4) (.tmp 28) (by rfl) rfl gA (spA A0 0 (tkB l rr.p rr.y 16)) _ (acells_len _) rfl rfl rA2' ?_; intro w3 hg3 r3)
        | (refine ldA (.tmp 5) (by rfl) rfl gB 0 (spA A0 0 (tkB l rr.p rr.y 16)) rfl rB2.range ?_))
      exact bodyPost_ret (retC rfl _ _ 0 rfl (lvA r3.range)) rfl ⟨rfl, N2.fresh h hg3 (by omega)⟩
    exact AllReadyH.nil
  exact AllReadyH.nil
theorem address_any {w : World} {P g : Nat} {l : List UInt8} {r : RS} (ae : Nat) (hae : ae < 256) (hp : Pg w P g) (h : RdS w g bv l r) :
    Calls Try.prog 74 #[.pointer (some ⟨P, 0, none⟩), .int .u8 (ae : Int)] w fun e w' => e = .returned (Value.agg (acells (adA ae l r)).toArray) ∧ NowS w w' g bv l (adN ae l r) := by
  have hf := frame_any ae hae
  by_cases h0 : ae = 0
  · subst h0; exact address_16_ok 0 zeroA hf hp h
  by_cases h1 : ae = 1
  · subst h1; exact address_12_ok 1 mapA hf hp h
  by_cases h2 : ae = 2
  · subst h2; exact address_0_ok 2 zeroA hf hp h
  by_cases h3 : ae = 3
  · subst h3; exact address_8_ok 3 llA hf hp h
  · have e1 : frA ae = zeroA := by simp [frA, h1, h3]
    have e2 : frN ae = 0 := by simp [frN, h0, h1, h3]
    have e3 : frB ae = false := by simp [frB]; omega
    have e4 : adR ae r = r.bad := by simp [adR, e3]
    unfold adA adN
    rw [e1, e2, e4]
    rw [e1, e2, e3] at hf
    exact address_0_no ae zeroA hf hp h
end Go.Proofs.Ytaleclmccmeglaa
