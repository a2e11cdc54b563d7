/-
  The contracts of id, frame and address of package packet.
-/
import Derived.Test.YtaleclmccmeglaaPs
namespace Go.Proofs.Ytaleclmccmeglaa
open Go.RowKit
set_option linter.unusedSimpArgs false
set_option maxRecDepth 20000
variable {bv : Option Addr}

theorem bcells_splice (l b : List UInt8) (off : Nat) : bcells (splice l off b) = splice (bcells l) off (bcells b) := by
  simp [bcells, splice]
/-- Bytes that are laid over an address, an id, from a place on. -/
def spA (a : Ad) (off : Nat) (b : List UInt8) : Ad := if h : off + b.length ≤ 16 then ⟨splice a.l off b, by rw [length_splice _ _ _ (by rw [a.len]; exact h)]; exact a.len⟩ else a
def spI (a : Id8) (off : Nat) (b : List UInt8) : Id8 := if h : off + b.length ≤ 8 then ⟨splice a.l off b, by rw [length_splice _ _ _ (by rw [a.len]; exact h)]; exact a.len⟩ else a
theorem acells_spA (a : Ad) (off : Nat) (b : List UInt8) (h : off + b.length ≤ 16) : acells (spA a off b) = splice (acells a) off (bcells b) := by
  unfold spA
  rw [dif_pos h]
  exact bcells_splice _ _ _
theorem icells_spI (a : Id8) (off : Nat) (b : List UInt8) (h : off + b.length ≤ 8) : icells (spI a off b) = splice (icells a) off (bcells b) := by
  unfold spI
  rw [dif_pos h]
  exact bcells_splice _ _ _
theorem tkB_le (l : List UInt8) (p : Nat) (y : Int) (k : Nat) : (tkB l p y k).length ≤ k := by
  unfold tkB; split <;> simp; omega
/-- The id that is read. -/
def idF (l : List UInt8) (r : RS) : Id8 := spI zeroI 0 (tkB l r.p r.y 8)
theorem bytes_r {w : World} {g : Nat} {l : List UInt8} {r : RS} (k : Nat) (h : RdS w g bv l r) : Calls Try.prog 39 #[.pointer (some ⟨g, 0, none⟩), .int .i64 (k : Int)] w fun e w' => ∃ n a c, Hid (n = (tkB l r.p r.y k).length) ∧ n ≤ k ∧ e = .returned (.slice a n c) ∧ Src w' a n c (bcells (tkB l r.p r.y k)) ∧ NowS w w' g bv l (r.adv l k) := by
  refine (bytes_own g l r.p r.y k w h).mono ?_
  rintro e w' ⟨a, c, rfl, hown, hn⟩
  obtain ⟨_, _, hv, hs, _⟩ := Src.ofOwn hown
  cases hv
  exact ⟨_, a, c, (rfl : _ = _), tkB_le _ _ _ _, rfl, hs, hn⟩
/-- A source of bytes as step_copy_splice wants it. -/
theorem Src.pos {w : World} {a : Option Addr} {n c : Nat} {xs : List Value} (h : Src w a n c xs) (h0 : 0 < xs.length) : ∃ ad, a = some ad ∧ ∀ j v, xs[j]? = some v → w.cell? (ad.add j) = some v := by
  cases a with
  | none => have := (h.bare rfl).1; have := h.len; omega
  | some ad => exact ⟨ad, rfl, h.cell ad rfl⟩

theorem NowS.after {w w0 w1 : World} {g : Nat} {l : List UInt8} {r : RS} (hb : Below w.heap.size w w0) (hn : NowS w0 w1 g bv l r) : NowS w w1 g bv l r := ⟨Now.rd hn, grownBy_trans (grownBy_below _ hb) hn.grown⟩

theorem id_any {w : World} {P g : Nat} {l : List UInt8} {r : RS} (hp : Pg w P g) (h : RdS w g bv l r) :
    Calls Try.prog 75 #[.pointer (some ⟨P, 0, none⟩)] w fun e w' => e = .returned (.agg (icells (idF l r)).toArray) ∧ NowS w w' g bv l (r.adv l 8) := by
  have HP := hp
  go_enter Try.func75, Try.ntmps75
  go_wp2_with (first
    | (have k := rA; refine alG infoIz (by rfl) rfl ?_; intro gB wB b1 b2 b3 rB)
    | (refine alG infoIz (by rfl) rfl ?_; intro gA wA a1 a2 a3 rA))
  have hpB := (hp.below a3).below b3
  have hrB := (h.below a3).below b3
  have rA' := rA.below b3 a2
  have hsz : w.heap.size ≤ gB := Nat.le_trans a3.size b1
  have hne : gA ≠ gB := by omega
  have hBB := bt (bt a3 b3) (bd wB)
  have hgB : gB ≠ g := by have := h.lt; omega
  have hgA : gA ≠ g := by have := h.lt; omega
  have hPB : P < gB := by have := hp.lt; omega
  clear a3 b3 rA k
  refine wp_region_noPanic ?_
  refine wp_region_held_drew (S := fun W => W.cell? ⟨P, 11, none⟩ = some (.pointer (some ⟨g, 0, none⟩))) (by kernel_rfl) ((hpB.below (bd _)).c) (fun hHeld => ?_)
  refine take_lit (i := 0) (v := ?_) rfl (by kernel_rfl) (by kernel_rfl) (by kernel_rfl) (fun _ _ _ h => h) (Or.inl ⟨by rfl, ?_⟩) (by assumption) ?_
  rotate_left
  · (intro w hSw; (try dsimp only at hSw); go_simp <;> with_reducible rfl)
  try simp only [Act.put, List.setIfInBounds_toArray, List.set_cons_zero, List.set_cons_succ]
  refine take_lit (i := 1) (v := ?_) rfl (by kernel_rfl) (by kernel_rfl) (by kernel_rfl) (fun _ _ _ h => h) (Or.inl ⟨by rfl, ?_⟩) (by assumption) ?_
  rotate_left
  · (intro w hSw; (try dsimp only at hSw); go_simp <;> with_reducible rfl)
  try simp only [Act.put, List.setIfInBounds_toArray, List.set_cons_zero, List.set_cons_succ]
  refine take_lit (i := 2) (v := ?_) rfl (by kernel_rfl) (by kernel_rfl) (by kernel_rfl) (fun _ _ _ h => h) (Or.inl ⟨by rfl, ?_⟩) (by assumption) ?_
  rotate_left
  · (intro w hSw; (try dsimp only at hSw); go_simp <;> with_reducible rfl)
  try simp only [Act.put, List.setIfInBounds_toArray, List.set_cons_zero, List.set_cons_succ]
  refine take_lit (i := 3) (v := ?_) rfl (by kernel_rfl) (by kernel_rfl) (by kernel_rfl) (fun _ _ _ h => h) (Or.inl ⟨by rfl, ?_⟩) (by assumption) ?_
  rotate_left
  · (intro w hSw; (try dsimp only at hSw); go_simp <;> with_reducible rfl)
  try simp only [Act.put, List.setIfInBounds_toArray, List.set_cons_zero, List.set_cons_succ]
  refine take_lit (i := 4) (v := ?_) rfl (by kernel_rfl) (by kernel_rfl) (by kernel_rfl) (fun _ _ _ h => h) (Or.inl ⟨by rfl, ?_⟩) (by assumption) ?_
  rotate_left
  · (intro w hSw; (try dsimp only at hSw); go_simp <;> with_reducible rfl)
  try simp only [Act.put, List.setIfInBounds_toArray, List.set_cons_zero, List.set_cons_succ]
  refine wpAnyH_ready (rs := [5]) (by kernel_rfl) (by simp) ?_
  refine cons_lit rfl (fun K hK => ?_) ?_
  · go_simp
    refine (bytes_r 8 (hrB.below (bd _))).mono ?_
    rintro e w1 ⟨n, a1, c1, hn, hn8, rfl, s1, hn1⟩
    have rB1 := (rB.below (bd _) b2).nowS hn1 hgB
    have rA1 := (rA'.below (bd _) (by omega)).nowS hn1 hgA
    refine hK.out _ _ ?_ (fun hHeld => ?_)
    · exact ((hpB.below (bd _)).now hn1).c
    clear hK K
    try simp only [Act.put, List.setIfInBounds_toArray, List.set_cons_zero, List.set_cons_succ]
    refine wpAnyH_ready (rs := [6]) (by kernel_rfl) (by simp) ?_
    refine cons_lit rfl (fun K hK => ?_) ?_
    · skip
      refine step_copy_splice rfl (.tmp 4) (.tmp 9) 24 24 rfl 5 Try.underlying24 (by kernel_rfl) _ _ _ _ _ _ rfl rfl gB 0 (icells zeroI) 37 rB1 (bcells (tkB l r.p r.y 8)) (by rw [bcells_length]; exact hn.out.symm.trans (Nat.min_eq_left hn8).symm) (fun h0 => ⟨rfl, s1.pos h0⟩) (by rw [bcells_length, icells_len, Nat.zero_add]; exact tkB_le l r.p r.y 8) (bcells_one _) gB w1 (Below.refl _ _) (Nat.le_refl _) ?_
      intro w2 HG2 hB2
      refine hK.out _ _ ?_ (fun hHeld => ?_)
      · exact (hB2.cell (p := ⟨P, 11, none⟩) hPB).trans ‹_›
      clear hK K
      try simp only [Act.put, List.setIfInBounds_toArray, List.set_cons_zero, List.set_cons_succ]
      refine wpAnyH_done (by kernel_rfl) ?_ _
      refine NoPanic.normal ?_
      have rB2 : Row w2 gB 37 (icells (idF l r)) := by unfold idF; rw [icells_spI _ _ _ (by rw [Nat.zero_add]; exact tkB_le l r.p r.y 8)]; exact HG2.out
      have rA2 : Row w2 gA 37 (icells zeroI) := rA1.below hB2 (by omega)
      have N2 : NowS w w2 g bv l (r.adv l 8) := NowS.low h (hn1.after hBB) hB2 hsz
      clear HG2 hB2 rA1 rB1 hn1 s1 hHeld
      go_wp2_with (first
        | (refine stI0 (.tmp 2) (.tmp 11) (by rfl) rfl gA (idF l r) _ (icells_len _) rfl rfl rA2 ?_; intro w3 hg3 r3)
        | (refine ldI (.tmp 3) (by rfl) rfl gB 0 (idF l r) rfl rB2.range ?_))
      exact bodyPost_ret (retC rfl _ _ 0 rfl (lvI r3)) rfl ⟨rfl, N2.fresh h hg3 (by omega)⟩
    exact AllReadyH.nil
  exact AllReadyH.nil

/-- An address in which what is not told of an AE stands, the place from which on the rest is told, whether there is such an AE. -/
def frA (ae : Nat) : Ad := if ae = 1 then mapA else if ae = 3 then llA else zeroA
def frN (ae : Nat) : Nat := if ae = 0 then 16 else if ae = 1 then 12 else if ae = 3 then 8 else 0
def frB (ae : Nat) : Bool := decide (ae ≤ 3)
theorem retCTT {P : Program} {fn : Func} {p u v : Tmp} {ty : TypeId} {x : Value} {w : World} (h : fn.results = #[.cell p ty, .tmp u, .tmp v]) (tmps : Array Value) (b o : Nat) (hp : tmps.getD p undef = .pointer (some ⟨b, o, none⟩))
    (hl : (loadVar ty ⟨b, o, none⟩).run P w = .ok x w) : (results fn tmps).run P w = .ok (.tuple #[x, tmps.getD u undef, tmps.getD v undef]) w := by
  simp only [results, h]
  rw [Array.getD_eq_getD_getElem?] at hp
  simp [Sem.run_bind, hp, asAddr, hl, Result.andThen]
theorem frame_any (ae : Nat) (hae : ae < 256) (w : World) :
    Calls Try.prog 95 #[.int .u8 (ae : Int)] w fun e w' => e = .returned (.tuple #[(Value.agg (acells (frA ae)).toArray), .int .i64 ((frN ae : Nat) : Int), .bool (frB ae)]) ∧ Below w.heap.size w w' := by
  have hAny := any_any 4
  rw [show anyP 4 = ⟨mapA, 96⟩ from rfl] at hAny
  have hfA := run_fieldA ⟨mapA, 96⟩
  by_cases h0 : ae = 0
  · subst h0
    go_enter Try.func95, Try.ntmps95
    go_wp2_with (first
      | (refine stA0 (.tmp 2) (.tmp 8) (by rfl) rfl gA zeroA _ (acells_len _) rfl rfl rA ?_; intro w3 hg3 r3)
      | (refine bdG [] (by rfl) rfl (bdA0 _) ?_)
      | (refine alG infoAz (by rfl) rfl ?_; intro gA wA a1 a2 a3 rA))
    exact bodyPost_ret (retCTT rfl _ _ 0 rfl (lvA r3.range)) rfl ⟨rfl, a3.grown hg3 a3.size (fun k hk => by cases hk; exact a1)⟩
  by_cases h1 : ae = 1
  · subst h1
    clear h0
    go_enter Try.func95, Try.ntmps95
    go_wp2_with (first
      | (refine stA0 (.tmp 2) (.tmp 12) (by rfl) rfl gA mapA _ (acells_len _) rfl rfl rA1 ?_; intro w3 hg3 r3)
      | (go_at_call 71; refine (hAny _).mono ?_; rintro e w1 ⟨rfl, hB1⟩; have rA1 := rA.below hB1 a2; have a4 := bt a3 hB1)
      | (refine alG infoAz (by rfl) rfl ?_; intro gA wA a1 a2 a3 rA))
    exact bodyPost_ret (retCTT rfl _ _ 0 rfl (lvA r3.range)) rfl ⟨rfl, a4.grown hg3 a4.size (fun k hk => by cases hk; exact a1)⟩
  by_cases h2 : ae = 2
  · subst h2
    clear h0 h1
    go_enter Try.func95, Try.ntmps95
    go_wp2_with (first
      | (refine stA0 (.tmp 2) (.tmp 15) (by rfl) rfl gA zeroA _ (acells_len _) rfl rfl rA ?_; intro w3 hg3 r3)
      | (refine bdG [] (by rfl) rfl (bdA0 _) ?_)
      | (refine alG infoAz (by rfl) rfl ?_; intro gA wA a1 a2 a3 rA))
    exact bodyPost_ret (retCTT rfl _ _ 0 rfl (lvA r3.range)) rfl ⟨rfl, a3.grown hg3 a3.size (fun k hk => by cases hk; exact a1)⟩
  by_cases h3 : ae = 3
  · subst h3
    clear h0 h1 h2
    go_enter Try.func95, Try.ntmps95
    go_wp2_with (first
      | (refine stA0 (.tmp 2) (.tmp 18) (by rfl) rfl gA llA _ (acells_len _) rfl rfl rA ?_; intro w3 hg3 r3)
      | (refine bdG [(0, .const (.int .u8 254)), (1, .const (.int .u8 128))] (by rfl) rfl (bdLL _) ?_)
      | (refine alG infoAz (by rfl) rfl ?_; intro gA wA a1 a2 a3 rA))
    exact bodyPost_ret (retCTT rfl _ _ 0 rfl (lvA r3.range)) rfl ⟨rfl, a3.grown hg3 a3.size (fun k hk => by cases hk; exact a1)⟩
  · have d0 : ((ae : Int) == 0) = false := by simp; omega
    have d1 : ((ae : Int) == 1) = false := by simp; omega
    have d2 : ((ae : Int) == 2) = false := by simp; omega
    have d3 : ((ae : Int) == 3) = false := by simp; omega
    have E : Hid (frA ae = zeroA ∧ frN ae = 0 ∧ frB ae = false) := by unfold frA frN frB; refine ⟨?_, ?_, ?_⟩ <;> simp [h0, h1, h2, h3]; omega
    clear h0 h1 h2 h3
    go_enter Try.func95, Try.ntmps95
    go_wp2_with (first
      | (refine stA0 (.tmp 2) (.tmp 19) (by rfl) rfl gA zeroA _ (acells_len _) rfl rfl rA ?_; intro w3 hg3 r3)
      | (refine bdG [] (by rfl) rfl (bdA0 _) ?_)
      | (refine alG infoAz (by rfl) rfl ?_; intro gA wA a1 a2 a3 rA))
    refine bodyPost_ret (retCTT rfl _ _ 0 rfl (lvA r3.range)) rfl ⟨?_, a3.grown hg3 a3.size (fun k hk => by cases hk; exact a1)⟩
    rw [E.out.1, E.out.2.1, E.out.2.2]
    rfl
end Go.Proofs.Ytaleclmccmeglaa
