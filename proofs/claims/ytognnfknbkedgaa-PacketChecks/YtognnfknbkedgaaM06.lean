/-
  The contracts of id, frame and address of package packet.
-/
import Derived.Test.YtognnfknbkedgaaM05
namespace Go.Proofs.Ytognnfknbkedgaa
open Go.RowKit
set_option linter.unusedSimpArgs false
set_option maxRecDepth 20000
variable {bv : Option Addr}

theorem bcells_splice (l b : List UInt8) (off : Nat) : bcells (splice l off b) = splice (bcells l) off (bcells b) := by
  simp [bcells, splice]
/-- Bytes that are laid over an address, an id, from a place on. -/
def spA (a : Ad) (off : Nat) (b : List UInt8) : Ad := if h : off + b.length ≤ 16 then ⟨splice a.l off b, by rw [length_splice _ _ _ (by rw [a.len]; exact h)]; exact a.len⟩ else a
def spI (a : Id8) (off : Nat) (b : List UInt8) : Id8 := if h : off + b.length ≤ 8 then ⟨splice a.l off b, by rw [length_splice _ _ _ (by rw [a.len]; exact h)]; exact a.len⟩ else a
theorem acells_spA (a : Ad) (off : Nat) (b : List UInt8) (h : off + b.length ≤ 16) : acells (spA a off b) = splice (acells a) off (bcells b) := by
  unfold spA
  rw [dif_pos h]
  exact bcells_splice _ _ _
theorem icells_spI (a : Id8) (off : Nat) (b : List UInt8) (h : off + b.length ≤ 8) : icells (spI a off b) = splice (icells a) off (bcells b) := by
  unfold spI
  rw [dif_pos h]
  exact bcells_splice _ _ _
theorem tkB_le (l : List UInt8) (p : Nat) (y : Int) (k : Nat) : (tkB l p y k).length ≤ k := by
  unfold tkB; split <;> simp; omega
/-- The id that is read. -/
def idF (l : List UInt8) (r : RS) : Id8 := spI zeroI 0 (tkB l r.p r.y 8)
theorem bytes_r {w : World} {g : Nat} {l : List UInt8} {r : RS} (k : Nat) (h : RdS w g bv l r) : Calls Try.prog 51 #[.pointer (some ⟨g, 0, none⟩), .int .i64 (k : Int)] w fun e w' => ∃ n a c, Hid (n = (tkB l r.p r.y k).length) ∧ n ≤ k ∧ e = .returned (.slice a n c) ∧ Src w' a n c (bcells (tkB l r.p r.y k)) ∧ NowS w w' g bv l (r.adv l k) := by
  refine (bytes_own g l r.p r.y k w h).mono ?_
  rintro e w' ⟨a, c, rfl, hown, hn⟩
  obtain ⟨_, _, hv, hs, _⟩ := Src.ofOwn hown
  cases hv
  exact ⟨_, a, c, (rfl : _ = _), tkB_le _ _ _ _, rfl, hs, hn⟩
/-- A source of bytes as step_copy_splice wants it. -/
theorem Src.pos {w : World} {a : Option Addr} {n c : Nat} {xs : List Value} (h : Src w a n c xs) (h0 : 0 < xs.length) : ∃ ad, a = some ad ∧ ∀ j v, xs[j]? = some v → w.cell? (ad.add j) = some v := by
  cases a with
  | none => have := (h.bare rfl).1; have := h.len; omega
  | some ad => exact ⟨ad, rfl, h.cell ad rfl⟩

theorem NowS.after {w w0 w1 : World} {g : Nat} {l : List UInt8} {r : RS} (hb : Below w.heap.size w w0) (hn : NowS w0 w1 g bv l r) : NowS w w1 g bv l r := ⟨Now.rd hn, grownBy_trans (grownBy_below _ hb) hn.grown⟩

theorem id_any {w : World} {P g : Nat} {l : List UInt8} {r : RS} (hp : Pg w P g) (h : RdS w g bv l r) :
    Calls Try.prog 81 #[.pointer (some ⟨P, 0, none⟩)] w fun e w' => e = .returned (.agg (icells (idF l r)).toArray) ∧ NowS w w' g bv l (r.adv l 8) := by
  have HP := hp
  go_enter Try.func81, Try.ntmps81
  go_wp2_with (first
    | (have k := rA; refine alG infoIz (by rfl) rfl ?_; intro gB wB b1 b2 b3 rB)
    | (refine alG infoIz (by rfl) rfl ?_; intro gA wA a1 a2 a3 rA))
  have hpB := (hp.below a3).below b3
  have hrB := (h.below a3).below b3
  have rA' := rA.below b3 a2
  have hsz : w.heap.size ≤ gB := Nat.le_trans a3.size b1
  have hne : gA ≠ gB := by omega
  have hBB := bt (bt a3 b3) (bd wB)
  have hgB : gB ≠ g := by have := h.lt; omega
  have hgA : gA ≠ g := by have := h.lt; omega
  have hPB : P < gB := by have := hp.lt; omega
  clear a3 b3 rA k
  refine wp_region_noPanic ?_
  refine wp_region_held_drew (S := fun W => W.cell? ⟨P, 11, none⟩ = some (.pointer (some ⟨g, 0, none⟩))) (by kernel_rfl) ((hpB.below (bd _)).c) (fun hHeld => ?_)
  refine tA 0 ?_
  refine tA 1 ?_
  refine tA 2 ?_
  refine tA 3 ?_
  refine tA 4 ?_
  refine r1 5 fun K hK => ?_
  go_simp
  refine (bytes_r 8 (hrB.below (bd _))).mono ?_
  rintro e w1 ⟨n, a1, c1, hn, hn8, rfl, s1, hn1⟩
  have rB1 := (rB.below (bd _) b2).nowS hn1 hgB
  have rA1 := (rA'.below (bd _) (by omega)).nowS hn1 hgA
  refine oK hK (by exact ((hpB.below (bd _)).now hn1).c) fun hHeld => ?_
  clear hK K
  refine r1 6 fun K hK => ?_
  refine step_copy_splice rfl (.tmp 4) (.tmp 9) 40 40 rfl 5 Try.underlying40 (by kernel_rfl) _ _ _ _ _ _ rfl rfl gB 0 (icells zeroI) 24 rB1 (bcells (tkB l r.p r.y 8)) (by rw [bcells_length]; exact hn.out.symm.trans (Nat.min_eq_left hn8).symm) (fun h0 => ⟨rfl, s1.pos h0⟩) (by rw [bcells_length, icells_len, Nat.zero_add]; exact tkB_le l r.p r.y 8) (bcells_one _) gB w1 (Below.refl _ _) (Nat.le_refl _) ?_
  intro w2 HG2 hB2
  refine oK hK (by exact (hB2.cell (p := ⟨P, 11, none⟩) hPB).trans ‹_›) fun hHeld => ?_
  clear hK K
  refine dN ?_
  refine NoPanic.normal ?_
  have rB2 : Row w2 gB 24 (icells (idF l r)) := by unfold idF; rw [icells_spI _ _ _ (by rw [Nat.zero_add]; exact tkB_le l r.p r.y 8)]; exact HG2.out
  have rA2 : Row w2 gA 24 (icells zeroI) := rA1.below hB2 (by omega)
  have N2 : NowS w w2 g bv l (r.adv l 8) := NowS.low h (hn1.after hBB) hB2 hsz
  clear HG2 hB2 rA1 rB1 hn1 s1 hHeld
  go_wp2_with (first
    | (refine stI0 (.tmp 2) (.tmp 11) (by rfl) rfl gA (idF l r) _ (icells_len _) rfl rfl rA2 ?_; intro w3 hg3 r3)
    | (refine ldI (.tmp 3) (by rfl) rfl gB 0 (idF l r) rfl rB2.range ?_))
  exact bodyPost_ret (retC rfl _ _ 0 rfl (lvI r3)) rfl ⟨rfl, N2.fresh h hg3 (by omega)⟩

/-- An address in which what is not told of an AE stands, the place from which on the rest is told, whether there is such an AE. -/
def frA (ae : Nat) : Ad := if ae = 1 then mapA else if ae = 3 then llA else zeroA
def frN (ae : Nat) : Nat := if ae = 0 then 16 else if ae = 1 then 12 else if ae = 3 then 8 else 0
def frB (ae : Nat) : Bool := decide (ae ≤ 3)
theorem retCTT {P : Program} {fn : Func} {p u v : Tmp} {ty : TypeId} {x : Value} {w : World} (h : fn.results = #[.cell p ty, .tmp u, .tmp v]) (tmps : Array Value) (b o : Nat) (hp : tmps.getD p undef = .pointer (some ⟨b, o, none⟩))
    (hl : (loadVar ty ⟨b, o, none⟩).run P w = .ok x w) : (results fn tmps).run P w = .ok (.tuple #[x, tmps.getD u undef, tmps.getD v undef]) w := by
  simp only [results, h]
  rw [Array.getD_eq_getD_getElem?] at hp
  simp [Sem.run_bind, hp, asAddr, hl, Result.andThen]
theorem frame_any (ae : Nat) (hae : ae < 256) (w : World) :
    Calls Try.prog 102 #[.int .u8 (ae : Int)] w fun e w' => e = .returned (.tuple #[(Value.agg (acells (frA ae)).toArray), .int .i64 ((frN ae : Nat) : Int), .bool (frB ae)]) ∧ Below w.heap.size w w' := by
  have hAny := any_any 4
  rw [show anyP 4 = ⟨mapA, 96⟩ from rfl] at hAny
  have hfA := run_fieldA ⟨mapA, 96⟩
  by_cases h0 : ae = 0
  · subst h0
    go_enter Try.func102, Try.ntmps102
    go_wp2_with (first
      | (refine stA0 (.tmp 2) (.tmp 8) (by rfl) rfl gA zeroA _ (acells_len _) rfl rfl rA ?_; intro w3 hg3 r3)
      | (refine bdG [] (by rfl) rfl (bdA0 _) ?_)
      | (refine alG infoAz (by rfl) rfl ?_; intro gA wA a1 a2 a3 rA))
    exact bodyPost_ret (retCTT rfl _ _ 0 rfl (lvA r3.range)) rfl ⟨rfl, a3.grown hg3 a3.size (fun k hk => by cases hk; exact a1)⟩
  by_cases h1 : ae = 1
  · subst h1
    clear h0
    go_enter Try.func102, Try.ntmps102
    go_wp2_with (first
      | (refine stA0 (.tmp 2) (.tmp 12) (by rfl) rfl gA mapA _ (acells_len _) rfl rfl rA1 ?_; intro w3 hg3 r3)
      | (go_at_call 77; refine (hAny _).mono ?_; rintro e w1 ⟨rfl, hB1⟩; have rA1 := rA.below hB1 a2; have a4 := bt a3 hB1)
      | (refine alG infoAz (by rfl) rfl ?_; intro gA wA a1 a2 a3 rA))
    exact bodyPost_ret (retCTT rfl _ _ 0 rfl (lvA r3.range)) rfl ⟨rfl, a4.grown hg3 a4.size (fun k hk => by cases hk; exact a1)⟩
  by_cases h2 : ae = 2
  · subst h2
    clear h0 h1
    go_enter Try.func102, Try.ntmps102
    go_wp2_with (first
      | (refine stA0 (.tmp 2) (.tmp 15) (by rfl) rfl gA zeroA _ (acells_len _) rfl rfl rA ?_; intro w3 hg3 r3)
      | (refine bdG [] (by rfl) rfl (bdA0 _) ?_)
      | (refine alG infoAz (by rfl) rfl ?_; intro gA wA a1 a2 a3 rA))
    exact bodyPost_ret (retCTT rfl _ _ 0 rfl (lvA r3.range)) rfl ⟨rfl, a3.grown hg3 a3.size (fun k hk => by cases hk; exact a1)⟩
  by_cases h3 : ae = 3
  · subst h3
    clear h0 h1 h2
    go_enter Try.func102, Try.ntmps102
    go_wp2_with (first
      | (refine stA0 (.tmp 2) (.tmp 18) (by rfl) rfl gA llA _ (acells_len _) rfl rfl rA ?_; intro w3 hg3 r3)
      | (refine bdG [(0, .const (.int .u8 254)), (1, .const (.int .u8 128))] (by rfl) rfl (bdLL _) ?_)
      | (refine alG infoAz (by rfl) rfl ?_; intro gA wA a1 a2 a3 rA))
    exact bodyPost_ret (retCTT rfl _ _ 0 rfl (lvA r3.range)) rfl ⟨rfl, a3.grown hg3 a3.size (fun k hk => by cases hk; exact a1)⟩
  · have d0 : ((ae : Int) == 0) = false := by simp; omega
    have d1 : ((ae : Int) == 1) = false := by simp; omega
    have d2 : ((ae : Int) == 2) = false := by simp; omega
    have d3 : ((ae : Int) == 3) = false := by simp; omega
    have E : Hid (frA ae = zeroA ∧ frN ae = 0 ∧ frB ae = false) := by unfold frA frN frB; refine ⟨?_, ?_, ?_⟩ <;> simp [h0, h1, h2, h3]; omega
    clear h0 h1 h2 h3
    go_enter Try.func102, Try.ntmps102
    go_wp2_with (first
      | (refine stA0 (.tmp 2) (.tmp 19) (by rfl) rfl gA zeroA _ (acells_len _) rfl rfl rA ?_; intro w3 hg3 r3)
      | (refine bdG [] (by rfl) rfl (bdA0 _) ?_)
      | (refine alG infoAz (by rfl) rfl ?_; intro gA wA a1 a2 a3 rA))
    refine bodyPost_ret (retCTT rfl _ _ 0 rfl (lvA r3.range)) rfl ⟨?_, a3.grown hg3 a3.size (fun k hk => by cases hk; exact a1)⟩
    rw [E.out.1, E.out.2.1, E.out.2.2]
    rfl
end Go.Proofs.Ytognnfknbkedgaa

namespace Go.Proofs.Ytognnfknbkedgaa
open Go.RowKit
set_option linter.unusedSimpArgs false
set_option maxRecDepth 20000
variable {bv : Option Addr}

/-- The address that is read, and the reading behind it. -/
def adR (ae : Nat) (r : RS) : RS := if frB ae then r else r.bad
def adA (ae : Nat) (l : List UInt8) (r : RS) : Ad := spA (frA ae) (frN ae) (tkB l (adR ae r).p (adR ae r).y ((16 - frN ae : Nat) : Int))
def adN (ae : Nat) (l : List UInt8) (r : RS) : RS := (adR ae r).adv l ((16 - frN ae : Nat) : Int)
theorem spA_none (a : Ad) (n : Nat) : spA a n [] = a := by
  unfold spA
  split
  · exact Ad.ext (by simp [splice])
  · rfl
theorem tkB_zero (l : List UInt8) (p : Nat) (y : Int) : tkB l p y 0 = [] := by unfold tkB; split <;> simp

theorem address_16_ok {w : World} {P g : Nat} {l : List UInt8} {r : RS} (ae : Nat) (A0 : Ad) (hf : ∀ W, Calls Try.prog 102 #[.int .u8 (ae : Int)] W fun e w' => e = .returned (.tuple #[(Value.agg (acells A0).toArray), .int .i64 16, .bool true]) ∧ Below W.heap.size W w') (hp : Pg w P g) (h : RdS w g bv l r) :
    Calls Try.prog 80 #[.pointer (some ⟨P, 0, none⟩), .int .u8 (ae : Int)] w fun e w' => e = .returned (Value.agg (acells (spA A0 16 (tkB l r.p r.y 0))).toArray) ∧ NowS w w' g bv l (r.adv l 0) := by
  have hlt := h.lt
  have hPlt := hp.lt
  go_enter Try.func80, Try.ntmps80
  go_wp2_with (first
    | (have kk := b3; refine stA0 (.tmp 5) (.tmp 11) (by rfl) rfl gB A0 _ (acells_len _) rfl rfl rB ?_; intro wC hgC rC; have rA2 := (rA1.below b3 (Nat.lt_of_lt_of_le a2 hB1.size)).grown hgC (by intro e; have := hB1.size; cases e; omega); have bC := (bt a4 b3).grown hgC (bt a4 b3).size (fun k hk => by cases hk; exact Nat.le_trans a4.size b1))
    | (have kk := hB1; refine alG infoAz (by rfl) rfl ?_; intro gB wB b1 b2 b3 rB)
    | (go_at_call 102; refine (hf _).mono ?_; rintro e w1 ⟨rfl, hB1⟩; have rA1 := rA.below hB1 a2; have a4 := bt a3 hB1)
    | (refine alG infoAz (by rfl) rfl ?_; intro gA wA a1 a2 a3 rA))
  have hpB := hp.below bC
  have hrB := h.below bC
  have hN0 : NowS w wC g bv l r := hrB.now.after bC
  have rCd := rC
  have rAd := rA2
  have hsz : w.heap.size ≤ gB := Nat.le_trans a4.size b1
  have hne : gA < gB := by have := hB1.size; omega
  have hgB : gB ≠ g := by omega
  have hgA : gA ≠ g := by omega
  have hPB : P < gB := by omega
  have hBC : gB < wC.heap.size := rCd.lt
  clear a3 b3 rA kk a4 hB1 bC rA1 rB b2
  refine wp_region_noPanic ?_
  refine wp_region_held_drew (S := fun W => W.cell? ⟨P, 11, none⟩ = some (.pointer (some ⟨g, 0, none⟩))) (by kernel_rfl) ((hpB.below (bd _)).c) (fun hHeld => ?_)
  refine tA 0 ?_
  refine tA 1 ?_
  refine tA 2 ?_
  refine tA 3 ?_
  refine tA 4 ?_
  refine tA 5 ?_
  refine tA 6 ?_
  refine tA 7 ?_
  refine r1 8 fun K hK => ?_
  go_simp
  refine (bytes_r 0 (hrB.below (bd _))).mono ?_
  rintro e w1 ⟨n, a1, c1, hn, hn8, rfl, s1, hn1⟩
  have rB1 := (rCd.below (bd _) hBC).nowS hn1 hgB
  have rA1 := (rAd.below (bd _) (by omega)).nowS hn1 hgA
  refine oK hK (by exact ((hpB.below (bd _)).now hn1).c) fun hHeld => ?_
  clear hK K
  refine r1 9 fun K hK => ?_
  refine step_copy_splice rfl (.tmp 19) (.tmp 26) 40 40 rfl 5 Try.underlying40 (by kernel_rfl) _ _ _ _ _ _ rfl rfl gB 0 (acells A0) 26 rB1 (bcells (tkB l r.p r.y 0)) (by rw [bcells_length]; exact hn.out.symm.trans (Nat.min_eq_left hn8).symm) (fun h0 => ⟨rfl, s1.pos h0⟩) (by rw [bcells_length, acells_len]; have t4 : (tkB l r.p r.y 0).length ≤ 0 := tkB_le l r.p r.y 0; omega) (bcells_one _) gB w1 (Below.refl _ _) (Nat.le_refl _) ?_
  intro w2 HG2 hB2
  refine oK hK (by exact (hB2.cell (p := ⟨P, 11, none⟩) hPB).trans ‹_›) fun hHeld => ?_
  clear hK K
  refine dN ?_
  refine NoPanic.normal ?_
  have rB2 : Row w2 gB 26 (acells (spA A0 16 (tkB l r.p r.y 0))) := by rw [tkB_zero, spA_none]; show w2.heap[gB]? = _; have e := HG2.out; rw [tkB_zero] at e; simpa [splice, bcells] using e
  have rA2' : Row w2 gA 26 (acells zeroA) := rA1.below hB2 (by omega)
  have N2 : NowS w w2 g bv l (r.adv l 0) := NowS.low h (hN0.trans (hn1.after (bd _))) hB2 hsz
  clear HG2 hB2 rA1 rB1 hn1 s1 hHeld
  go_wp2_with (first
    | (refine stA0 (.tmp 4) (.tmp 28) (by rfl) rfl gA (spA A0 16 (tkB l r.p r.y 0)) _ (acells_len _) rfl rfl rA2' ?_; intro w3 hg3 r3)
    | (refine ldA (.tmp 5) (by rfl) rfl gB 0 (spA A0 16 (tkB l r.p r.y 0)) rfl rB2.range ?_))
  exact bodyPost_ret (retC rfl _ _ 0 rfl (lvA r3.range)) rfl ⟨rfl, N2.fresh h hg3 (by omega)⟩
theorem address_12_ok {w : World} {P g : Nat} {l : List UInt8} {r : RS} (ae : Nat) (A0 : Ad) (hf : ∀ W, Calls Try.prog 102 #[.int .u8 (ae : Int)] W fun e w' => e = .returned (.tuple #[(Value.agg (acells A0).toArray), .int .i64 12, .bool true]) ∧ Below W.heap.size W w') (hp : Pg w P g) (h : RdS w g bv l r) :
    Calls Try.prog 80 #[.pointer (some ⟨P, 0, none⟩), .int .u8 (ae : Int)] w fun e w' => e = .returned (Value.agg (acells (spA A0 12 (tkB l r.p r.y 4))).toArray) ∧ NowS w w' g bv l (r.adv l 4) := by
  have hlt := h.lt
  have hPlt := hp.lt
  go_enter Try.func80, Try.ntmps80
  go_wp2_with (first
    | (have kk := b3; refine stA0 (.tmp 5) (.tmp 11) (by rfl) rfl gB A0 _ (acells_len _) rfl rfl rB ?_; intro wC hgC rC; have rA2 := (rA1.below b3 (Nat.lt_of_lt_of_le a2 hB1.size)).grown hgC (by intro e; have := hB1.size; cases e; omega); have bC := (bt a4 b3).grown hgC (bt a4 b3).size (fun k hk => by cases hk; exact Nat.le_trans a4.size b1))
    | (have kk := hB1; refine alG infoAz (by rfl) rfl ?_; intro gB wB b1 b2 b3 rB)
    | (go_at_call 102; refine (hf _).mono ?_; rintro e w1 ⟨rfl, hB1⟩; have rA1 := rA.below hB1 a2; have a4 := bt a3 hB1)
    | (refine alG infoAz (by rfl) rfl ?_; intro gA wA a1 a2 a3 rA))
  have hpB := hp.below bC
  have hrB := h.below bC
  have hN0 : NowS w wC g bv l r := hrB.now.after bC
  have rCd := rC
  have rAd := rA2
  have hsz : w.heap.size ≤ gB := Nat.le_trans a4.size b1
  have hne : gA < gB := by have := hB1.size; omega
  have hgB : gB ≠ g := by omega
  have hgA : gA ≠ g := by omega
  have hPB : P < gB := by omega
  have hBC : gB < wC.heap.size := rCd.lt
  clear a3 b3 rA kk a4 hB1 bC rA1 rB b2
  refine wp_region_noPanic ?_
  refine wp_region_held_drew (S := fun W => W.cell? ⟨P, 11, none⟩ = some (.pointer (some ⟨g, 0, none⟩))) (by kernel_rfl) ((hpB.below (bd _)).c) (fun hHeld => ?_)
  refine tA 0 ?_
  refine tA 1 ?_
  refine tA 2 ?_
  refine tA 3 ?_
  refine tA 4 ?_
  refine tA 5 ?_
  refine tA 6 ?_
  refine tA 7 ?_
  refine r1 8 fun K hK => ?_
  go_simp
  refine (bytes_r 4 (hrB.below (bd _))).mono ?_
  rintro e w1 ⟨n, a1, c1, hn, hn8, rfl, s1, hn1⟩
  have rB1 := (rCd.below (bd _) hBC).nowS hn1 hgB
  have rA1 := (rAd.below (bd _) (by omega)).nowS hn1 hgA
  refine oK hK (by exact ((hpB.below (bd _)).now hn1).c) fun hHeld => ?_
  clear hK K
  refine r1 9 fun K hK => ?_
  refine step_copy_splice rfl (.tmp 19) (.tmp 26) 40 40 rfl 5 Try.underlying40 (by kernel_rfl) _ _ _ _ _ _ rfl rfl gB 12 (acells A0) 26 rB1 (bcells (tkB l r.p r.y 4)) (by rw [bcells_length]; exact hn.out.symm.trans (Nat.min_eq_left hn8).symm) (fun h0 => ⟨rfl, s1.pos h0⟩) (by rw [bcells_length, acells_len]; have t4 : (tkB l r.p r.y 4).length ≤ 4 := tkB_le l r.p r.y 4; omega) (bcells_one _) gB w1 (Below.refl _ _) (Nat.le_refl _) ?_
  intro w2 HG2 hB2
  refine oK hK (by exact (hB2.cell (p := ⟨P, 11, none⟩) hPB).trans ‹_›) fun hHeld => ?_
  clear hK K
  refine dN ?_
  refine NoPanic.normal ?_
  have rB2 : Row w2 gB 26 (acells (spA A0 12 (tkB l r.p r.y 4))) := by have t4 : (tkB l r.p r.y 4).length ≤ 4 := tkB_le l r.p r.y 4; rw [acells_spA _ _ _ (by omega)]; exact HG2.out
  have rA2' : Row w2 gA 26 (acells zeroA) := rA1.below hB2 (by omega)
  have N2 : NowS w w2 g bv l (r.adv l 4) := NowS.low h (hN0.trans (hn1.after (bd _))) hB2 hsz
  clear HG2 hB2 rA1 rB1 hn1 s1 hHeld
  go_wp2_with (first
    | (refine stA0 (.tmp 4) (.tmp 28) (by rfl) rfl gA (spA A0 12 (tkB l r.p r.y 4)) _ (acells_len _) rfl rfl rA2' ?_; intro w3 hg3 r3)
    | (refine ldA (.tmp 5) (by rfl) rfl gB 0 (spA A0 12 (tkB l r.p r.y 4)) rfl rB2.range ?_))
  exact bodyPost_ret (retC rfl _ _ 0 rfl (lvA r3.range)) rfl ⟨rfl, N2.fresh h hg3 (by omega)⟩
theorem address_0_ok {w : World} {P g : Nat} {l : List UInt8} {r : RS} (ae : Nat) (A0 : Ad) (hf : ∀ W, Calls Try.prog 102 #[.int .u8 (ae : Int)] W fun e w' => e = .returned (.tuple #[(Value.agg (acells A0).toArray), .int .i64 0, .bool true]) ∧ Below W.heap.size W w') (hp : Pg w P g) (h : RdS w g bv l r) :
    Calls Try.prog 80 #[.pointer (some ⟨P, 0, none⟩), .int .u8 (ae : Int)] w fun e w' => e = .returned (Value.agg (acells (spA A0 0 (tkB l r.p r.y 16))).toArray) ∧ NowS w w' g bv l (r.adv l 16) := by
  have hlt := h.lt
  have hPlt := hp.lt
  go_enter Try.func80, Try.ntmps80
  go_wp2_with (first
    | (have kk := b3; refine stA0 (.tmp 5) (.tmp 11) (by rfl) rfl gB A0 _ (acells_len _) rfl rfl rB ?_; intro wC hgC rC; have rA2 := (rA1.below b3 (Nat.lt_of_lt_of_le a2 hB1.size)).grown hgC (by intro e; have := hB1.size; cases e; omega); have bC := (bt a4 b3).grown hgC (bt a4 b3).size (fun k hk => by cases hk; exact Nat.le_trans a4.size b1))
    | (have kk := hB1; refine alG infoAz (by rfl) rfl ?_; intro gB wB b1 b2 b3 rB)
    | (go_at_call 102; refine (hf _).mono ?_; rintro e w1 ⟨rfl, hB1⟩; have rA1 := rA.below hB1 a2; have a4 := bt a3 hB1)
    | (refine alG infoAz (by rfl) rfl ?_; intro gA wA a1 a2 a3 rA))
  have hpB := hp.below bC
  have hrB := h.below bC
  have hN0 : NowS w wC g bv l r := hrB.now.after bC
  have rCd := rC
  have rAd := rA2
  have hsz : w.heap.size ≤ gB := Nat.le_trans a4.size b1
  have hne : gA < gB := by have := hB1.size; omega
  have hgB : gB ≠ g := by omega
  have hgA : gA ≠ g := by omega
  have hPB : P < gB := by omega
  have hBC : gB < wC.heap.size := rCd.lt
  clear a3 b3 rA kk a4 hB1 bC rA1 rB b2
  refine wp_region_noPanic ?_
  refine wp_region_held_drew (S := fun W => W.cell? ⟨P, 11, none⟩ = some (.pointer (some ⟨g, 0, none⟩))) (by kernel_rfl) ((hpB.below (bd _)).c) (fun hHeld => ?_)
  refine tA 0 ?_
  refine tA 1 ?_
  refine tA 2 ?_
  refine tA 3 ?_
  refine tA 4 ?_
  refine tA 5 ?_
  refine tA 6 ?_
  refine tA 7 ?_
  refine r1 8 fun K hK => ?_
  go_simp
  refine (bytes_r 16 (hrB.below (bd _))).mono ?_
  rintro e w1 ⟨n, a1, c1, hn, hn8, rfl, s1, hn1⟩
  have rB1 := (rCd.below (bd _) hBC).nowS hn1 hgB
  have rA1 := (rAd.below (bd _) (by omega)).nowS hn1 hgA
  refine oK hK (by exact ((hpB.below (bd _)).now hn1).c) fun hHeld => ?_
  clear hK K
  refine r1 9 fun K hK => ?_
  refine step_copy_splice rfl (.tmp 19) (.tmp 26) 40 40 rfl 5 Try.underlying40 (by kernel_rfl) _ _ _ _ _ _ rfl rfl gB 0 (acells A0) 26 rB1 (bcells (tkB l r.p r.y 16)) (by rw [bcells_length]; exact hn.out.symm.trans (Nat.min_eq_left hn8).symm) (fun h0 => ⟨rfl, s1.pos h0⟩) (by rw [bcells_length, acells_len]; have t4 : (tkB l r.p r.y 16).length ≤ 16 := tkB_le l r.p r.y 16; omega) (bcells_one _) gB w1 (Below.refl _ _) (Nat.le_refl _) ?_
  intro w2 HG2 hB2
  refine oK hK (by exact (hB2.cell (p := ⟨P, 11, none⟩) hPB).trans ‹_›) fun hHeld => ?_
  clear hK K
  refine dN ?_
  refine NoPanic.normal ?_
  have rB2 : Row w2 gB 26 (acells (spA A0 0 (tkB l r.p r.y 16))) := by have t4 : (tkB l r.p r.y 16).length ≤ 16 := tkB_le l r.p r.y 16; rw [acells_spA _ _ _ (by omega)]; exact HG2.out
  have rA2' : Row w2 gA 26 (acells zeroA) := rA1.below hB2 (by omega)
  have N2 : NowS w w2 g bv l (r.adv l 16) := NowS.low h (hN0.trans (hn1.after (bd _))) hB2 hsz
  clear HG2 hB2 rA1 rB1 hn1 s1 hHeld
  go_wp2_with (first
    | (refine stA0 (.tmp 4) (.tmp 28) (by rfl) rfl gA (spA A0 0 (tkB l r.p r.y 16)) _ (acells_len _) rfl rfl rA2' ?_; intro w3 hg3 r3)
    | (refine ldA (.tmp 5) (by rfl) rfl gB 0 (spA A0 0 (tkB l r.p r.y 16)) rfl rB2.range ?_))
  exact bodyPost_ret (retC rfl _ _ 0 rfl (lvA r3.range)) rfl ⟨rfl, N2.fresh h hg3 (by omega)⟩
theorem address_8_ok {w : World} {P g : Nat} {l : List UInt8} {r : RS} (ae : Nat) (A0 : Ad) (hf : ∀ W, Calls Try.prog 102 #[.int .u8 (ae : Int)] W fun e w' => e = .returned (.tuple #[(Value.agg (acells A0).toArray), .int .i64 8, .bool true]) ∧ Below W.heap.size W w') (hp : Pg w P g) (h : RdS w g bv l r) :
    Calls Try.prog 80 #[.pointer (some ⟨P, 0, none⟩), .int .u8 (ae : Int)] w fun e w' => e = .returned (Value.agg (acells (spA A0 8 (tkB l r.p r.y 8))).toArray) ∧ NowS w w' g bv l (r.adv l 8) := by
  have hlt := h.lt
  have hPlt := hp.lt
  go_enter Try.func80, Try.ntmps80
  go_wp2_with (first
    | (have kk := b3; refine stA0 (.tmp 5) (.tmp 11) (by rfl) rfl gB A0 _ (acells_len _) rfl rfl rB ?_; intro wC hgC rC; have rA2 := (rA1.below b3 (Nat.lt_of_lt_of_le a2 hB1.size)).grown hgC (by intro e; have := hB1.size; cases e; omega); have bC := (bt a4 b3).grown hgC (bt a4 b3).size (fun k hk => by cases hk; exact Nat.le_trans a4.size b1))
    | (have kk := hB1; refine alG infoAz (by rfl) rfl ?_; intro gB wB b1 b2 b3 rB)
    | (go_at_call 102; refine (hf _).mono ?_; rintro e w1 ⟨rfl, hB1⟩; have rA1 := rA.below hB1 a2; have a4 := bt a3 hB1)
    | (refine alG infoAz (by rfl) rfl ?_; intro gA wA a1 a2 a3 rA))
  have hpB := hp.below bC
  have hrB := h.below bC
  have hN0 : NowS w wC g bv l r := hrB.now.after bC
  have rCd := rC
  have rAd := rA2
  have hsz : w.heap.size ≤ gB := Nat.le_trans a4.size b1
  have hne : gA < gB := by have := hB1.size; omega
  have hgB : gB ≠ g := by omega
  have hgA : gA ≠ g := by omega
  have hPB : P < gB := by omega
  have hBC : gB < wC.heap.size := rCd.lt
  clear a3 b3 rA kk a4 hB1 bC rA1 rB b2
  refine wp_region_noPanic ?_
  refine wp_region_held_drew (S := fun W => W.cell? ⟨P, 11, none⟩ = some (.pointer (some ⟨g, 0, none⟩))) (by kernel_rfl) ((hpB.below (bd _)).c) (fun hHeld => ?_)
  refine tA 0 ?_
  refine tA 1 ?_
  refine tA 2 ?_
  refine tA 3 ?_
  refine tA 4 ?_
  refine tA 5 ?_
  refine tA 6 ?_
  refine tA 7 ?_
  refine r1 8 fun K hK => ?_
  go_simp
  refine (bytes_r 8 (hrB.below (bd _))).mono ?_
  rintro e w1 ⟨n, a1, c1, hn, hn8, rfl, s1, hn1⟩
  have rB1 := (rCd.below (bd _) hBC).nowS hn1 hgB
  have rA1 := (rAd.below (bd _) (by omega)).nowS hn1 hgA
  refine oK hK (by exact ((hpB.below (bd _)).now hn1).c) fun hHeld => ?_
  clear hK K
  refine r1 9 fun K hK => ?_
  refine step_copy_splice rfl (.tmp 19) (.tmp 26) 40 40 rfl 5 Try.underlying40 (by kernel_rfl) _ _ _ _ _ _ rfl rfl gB 8 (acells A0) 26 rB1 (bcells (tkB l r.p r.y 8)) (by rw [bcells_length]; exact hn.out.symm.trans (Nat.min_eq_left hn8).symm) (fun h0 => ⟨rfl, s1.pos h0⟩) (by rw [bcells_length, acells_len]; have t4 : (tkB l r.p r.y 8).length ≤ 8 := tkB_le l r.p r.y 8; omega) (bcells_one _) gB w1 (Below.refl _ _) (Nat.le_refl _) ?_
  intro w2 HG2 hB2
  refine oK hK (by exact (hB2.cell (p := ⟨P, 11, none⟩) hPB).trans ‹_›) fun hHeld => ?_
  clear hK K
  refine dN ?_
  refine NoPanic.normal ?_
  have rB2 : Row w2 gB 26 (acells (spA A0 8 (tkB l r.p r.y 8))) := by have t4 : (tkB l r.p r.y 8).length ≤ 8 := tkB_le l r.p r.y 8; rw [acells_spA _ _ _ (by omega)]; exact HG2.out
  have rA2' : Row w2 gA 26 (acells zeroA) := rA1.below hB2 (by omega)
  have N2 : NowS w w2 g bv l (r.adv l 8) := NowS.low h (hN0.trans (hn1.after (bd _))) hB2 hsz
  clear HG2 hB2 rA1 rB1 hn1 s1 hHeld
  go_wp2_with (first
    | (refine stA0 (.tmp 4) (.tmp 28) (by rfl) rfl gA (spA A0 8 (tkB l r.p r.y 8)) _ (acells_len _) rfl rfl rA2' ?_; intro w3 hg3 r3)
    | (refine ldA (.tmp 5) (by rfl) rfl gB 0 (spA A0 8 (tkB l r.p r.y 8)) rfl rB2.range ?_))
  exact bodyPost_ret (retC rfl _ _ 0 rfl (lvA r3.range)) rfl ⟨rfl, N2.fresh h hg3 (by omega)⟩
theorem address_0_no {w : World} {P g : Nat} {l : List UInt8} {r : RS} (ae : Nat) (A0 : Ad) (hf : ∀ W, Calls Try.prog 102 #[.int .u8 (ae : Int)] W fun e w' => e = .returned (.tuple #[(Value.agg (acells A0).toArray), .int .i64 0, .bool false]) ∧ Below W.heap.size W w') (hp : Pg w P g) (h : RdS w g bv l r) :
    Calls Try.prog 80 #[.pointer (some ⟨P, 0, none⟩), .int .u8 (ae : Int)] w fun e w' => e = .returned (Value.agg (acells (spA A0 0 (tkB l (RS.bad r).p (RS.bad r).y 16))).toArray) ∧ NowS w w' g bv l (r.bad.adv l 16) := by
  have hlt := h.lt
  have hPlt := hp.lt
  obtain ⟨rr, HRR⟩ : ∃ rr, Hid (r.bad = rr) := ⟨_, rfl⟩
  have HB : Hid (∀ W, Pg W P g → RdS W g bv l r → Calls Try.prog 83 #[.pointer (some ⟨P, 0, none⟩)] W fun e w' => e = .returned (.tuple #[]) ∧ NowS W w' g bv l rr) := fun W h1 h2 => by rw [← HRR.out]; exact bad_any h1 h2
  rw [HRR.out]
  go_enter Try.func80, Try.ntmps80
  go_wp2_with (first
    | (go_at_call 83; have kk := bC; refine (HB.out _ (hp.below bC) (h.below bC)).mono ?_; rintro e wD ⟨rfl, hnD⟩)
    | (have kk := b3; refine stA0 (.tmp 5) (.tmp 11) (by rfl) rfl gB A0 _ (acells_len _) rfl rfl rB ?_; intro wC hgC rC; have rA2 := (rA1.below b3 (Nat.lt_of_lt_of_le a2 hB1.size)).grown hgC (by intro e; have := hB1.size; cases e; omega); have bC := (bt a4 b3).grown hgC (bt a4 b3).size (fun k hk => by cases hk; exact Nat.le_trans a4.size b1))
    | (have kk := hB1; refine alG infoAz (by rfl) rfl ?_; intro gB wB b1 b2 b3 rB)
    | (go_at_call 102; refine (hf _).mono ?_; rintro e w1 ⟨rfl, hB1⟩; have rA1 := rA.below hB1 a2; have a4 := bt a3 hB1)
    | (refine alG infoAz (by rfl) rfl ?_; intro gA wA a1 a2 a3 rA))
  have hpB := (hp.below bC).now hnD
  have hrB := hnD.rd
  have hN0 : NowS w wD g bv l rr := hnD.after bC
  have hq1 : gB ≠ g := by have := a4.size; omega
  have hq2 : gA ≠ g := by omega
  have rCd := rC.nowS hnD hq1
  have rAd := rA2.nowS hnD hq2
  have hsz : w.heap.size ≤ gB := Nat.le_trans a4.size b1
  have hne : gA < gB := by have := hB1.size; omega
  have hgB : gB ≠ g := by omega
  have hgA : gA ≠ g := by omega
  have hPB : P < gB := by omega
  have hBC : gB < wD.heap.size := rCd.lt
  clear a3 b3 rA kk a4 hB1 bC rA1 rB b2
  refine wp_region_noPanic ?_
  refine wp_region_held_drew (S := fun W => W.cell? ⟨P, 11, none⟩ = some (.pointer (some ⟨g, 0, none⟩))) (by kernel_rfl) ((hpB.below (bd _)).c) (fun hHeld => ?_)
  refine tA 0 ?_
  refine tA 1 ?_
  refine tA 2 ?_
  refine tA 3 ?_
  refine tA 4 ?_
  refine tA 5 ?_
  refine tA 6 ?_
  refine tA 7 ?_
  refine r1 8 fun K hK => ?_
  go_simp
  refine (bytes_r 16 (hrB.below (bd _))).mono ?_
  rintro e w1 ⟨n, a1, c1, hn, hn8, rfl, s1, hn1⟩
  have rB1 := (rCd.below (bd _) hBC).nowS hn1 hgB
  have rA1 := (rAd.below (bd _) (by omega)).nowS hn1 hgA
  refine oK hK (by exact ((hpB.below (bd _)).now hn1).c) fun hHeld => ?_
  clear hK K
  refine r1 9 fun K hK => ?_
  refine step_copy_splice rfl (.tmp 19) (.tmp 26) 40 40 rfl 5 Try.underlying40 (by kernel_rfl) _ _ _ _ _ _ rfl rfl gB 0 (acells A0) 26 rB1 (bcells (tkB l rr.p rr.y 16)) (by rw [bcells_length]; exact hn.out.symm.trans (Nat.min_eq_left hn8).symm) (fun h0 => ⟨rfl, s1.pos h0⟩) (by rw [bcells_length, acells_len]; have t4 : (tkB l rr.p rr.y 16).length ≤ 16 := tkB_le l rr.p rr.y 16; omega) (bcells_one _) gB w1 (Below.refl _ _) (Nat.le_refl _) ?_
  intro w2 HG2 hB2
  refine oK hK (by exact (hB2.cell (p := ⟨P, 11, none⟩) hPB).trans ‹_›) fun hHeld => ?_
  clear hK K
  refine dN ?_
  refine NoPanic.normal ?_
  have rB2 : Row w2 gB 26 (acells (spA A0 0 (tkB l rr.p rr.y 16))) := by have t4 : (tkB l rr.p rr.y 16).length ≤ 16 := tkB_le l rr.p rr.y 16; rw [acells_spA _ _ _ (by omega)]; exact HG2.out
  have rA2' : Row w2 gA 26 (acells zeroA) := rA1.below hB2 (by omega)
  have N2 : NowS w w2 g bv l (rr.adv l 16) := NowS.low h (hN0.trans (hn1.after (bd _))) hB2 hsz
  clear HG2 hB2 rA1 rB1 hn1 s1 hHeld
  go_wp2_with (first
    | (refine stA0 (.tmp 4) (.tmp 28) (by rfl) rfl gA (spA A0 0 (tkB l rr.p rr.y 16)) _ (acells_len _) rfl rfl rA2' ?_; intro w3 hg3 r3)
    | (refine ldA (.tmp 5) (by rfl) rfl gB 0 (spA A0 0 (tkB l rr.p rr.y 16)) rfl rB2.range ?_))
  exact bodyPost_ret (retC rfl _ _ 0 rfl (lvA r3.range)) rfl ⟨rfl, N2.fresh h hg3 (by omega)⟩
theorem address_any {w : World} {P g : Nat} {l : List UInt8} {r : RS} (ae : Nat) (hae : ae < 256) (hp : Pg w P g) (h : RdS w g bv l r) :
    Calls Try.prog 80 #[.pointer (some ⟨P, 0, none⟩), .int .u8 (ae : Int)] w fun e w' => e = .returned (Value.agg (acells (adA ae l r)).toArray) ∧ NowS w w' g bv l (adN ae l r) := by
  have hf := frame_any ae hae
  by_cases h0 : ae = 0
  · subst h0; exact address_16_ok 0 zeroA hf hp h
  by_cases h1 : ae = 1
  · subst h1; exact address_12_ok 1 mapA hf hp h
  by_cases h2 : ae = 2
  · subst h2; exact address_0_ok 2 zeroA hf hp h
  by_cases h3 : ae = 3
  · subst h3; exact address_8_ok 3 llA hf hp h
  · have e1 : frA ae = zeroA := by simp [frA, h1, h3]
    have e2 : frN ae = 0 := by simp [frN, h0, h1, h3]
    have e3 : frB ae = false := by simp [frB]; omega
    have e4 : adR ae r = r.bad := by simp [adR, e3]
    unfold adA adN
    rw [e1, e2, e4]
    rw [e1, e2, e3] at hf
    exact address_0_no ae zeroA hf hp h
end Go.Proofs.Ytognnfknbkedgaa

namespace Go.Proofs.Ytognnfknbkedgaa
open Go.RowKit
set_option linter.unusedSimpArgs false
set_option maxRecDepth 20000
variable {bv : Option Addr}

/-- What was told once for many: the router, the next hops, the default prefixes. -/
structure St where
  r : Option Id8
  h4 : Option Ad
  h6 : Option Ad
  d1 : Option Ad
  d2 : Option Ad
def pv (o : Option Nat) : Value := .pointer (o.map fun b => ⟨b, 0, none⟩)
def pcs (r h4 h6 d1 d2 R : Option Nat) : List Value := [pv r, pv none, pv none, pv none, pv none, pv h4, pv none, pv h6, pv none, pv d1, pv d2, pv R]
def PA (w : World) : Option Nat → Option Ad → Prop
  | none, none => True
  | some b, some a => Row w b 26 (acells a)
  | _, _ => False
def PI (w : World) : Option Nat → Option Id8 → Prop
  | none, none => True
  | some b, some a => Row w b 24 (icells a)
  | _, _ => False
theorem PA.grown {w w' : World} {row : Option Nat} : ∀ {o : Option Nat} {x : Option Ad}, PA w o x → w.grownBy w' row → (∀ b cs, Row w b 26 cs → some b ≠ row) → PA w' o x
  | none, none, _, _, _ => trivial
  | some _, some _, h, hg, hne => Row.grown h hg (hne _ _ h)
  | none, some _, h, _, _ => h.elim
  | some _, none, h, _, _ => h.elim
theorem PI.grown {w w' : World} {row : Option Nat} : ∀ {o : Option Nat} {x : Option Id8}, PI w o x → w.grownBy w' row → (∀ b cs, Row w b 24 cs → some b ≠ row) → PI w' o x
  | none, none, _, _, _ => trivial
  | some _, some _, h, hg, hne => Row.grown h hg (hne _ _ h)
  | none, some _, h, _, _ => h.elim
  | some _, none, h, _, _ => h.elim
/-- The parser P, its reader R, and what it was told. -/
structure Par (w : World) (P : Nat) (R : Option Nat) (s : St) : Prop where
  ex : ∃ r h4 h6 d1 d2, Row w P 105 (pcs r h4 h6 d1 d2 R) ∧ PI w r s.r ∧ PA w h4 s.h4 ∧ PA w h6 s.h6 ∧ PA w d1 s.d1 ∧ PA w d2 s.d2
theorem Par.grown {w w' : World} {P : Nat} {R : Option Nat} {s : St} {row : Option Nat} (h : Par w P R s) (hg : w.grownBy w' row) (hne : ∀ b t cs, Row w b t cs → t = 105 ∨ t = 26 ∨ t = 24 → some b ≠ row) : Par w' P R s := by
  obtain ⟨r, h4, h6, d1, d2, k0, k1, k2, k3, k4, k5⟩ := h.ex
  have nA : ∀ b cs, Row w b 26 cs → some b ≠ row := fun b cs hr => hne b _ cs hr (.inr (.inl rfl))
  exact ⟨r, h4, h6, d1, d2, k0.grown hg (hne _ _ _ k0 (.inl rfl)), k1.grown hg (fun b cs hr => hne b _ cs hr (.inr (.inr rfl))), k2.grown hg nA, k3.grown hg nA, k4.grown hg nA, k5.grown hg nA⟩
theorem RdS.rowne {w : World} {g b : Nat} {l : List UInt8} {r : RS} {t : TypeId} {cs : List Value} (h : RdS w g bv l r) (hr : Row w b t cs) (ht : t ≠ 121) : b ≠ g := by
  rintro rfl
  obtain ⟨c, hb, _⟩ := Rd.ex h
  unfold Row at hr
  rw [hb] at hr
  cases hr
  exact ht rfl
theorem Par.now {w w' : World} {P g : Nat} {R : Option Nat} {s : St} {l : List UInt8} {r r0 : RS} (h : Par w P R s) (h0 : RdS w g bv l r0) (hn : NowS w w' g bv l r) : Par w' P R s :=
  h.grown hn.grown (fun b t cs hr ht e => by
    refine h0.rowne hr ?_ (Option.some.inj e)
    rcases ht with rfl | rfl | rfl <;> decide)
theorem Par.below {w w' : World} {P : Nat} {R : Option Nat} {s : St} (h : Par w P R s) (hb : Below w.heap.size w w') : Par w' P R s := h.grown (grownBy_below none hb) (fun _ _ _ _ _ => by simp)
theorem Par.fresh {w w' : World} {P k : Nat} {R : Option Nat} {s : St} (h : Par w P R s) (hg : w.grownBy w' (some k)) (hk : ∀ t cs, Row w k t cs → t ≠ 105 ∧ t ≠ 26 ∧ t ≠ 24) : Par w' P R s :=
  h.grown hg (fun b t cs hr ht e => by
    have := Option.some.inj e
    subst this
    obtain ⟨h1, h2, h3⟩ := hk _ _ hr
    rcases ht with rfl | rfl | rfl <;> contradiction)
theorem Par.pg {w : World} {P g : Nat} {s : St} {l : List UInt8} {r : RS} (h : Par w P (some g) s) (h0 : RdS w g bv l r) : Pg w P g := by
  obtain ⟨r, h4, h6, d1, d2, k0, _⟩ := h.ex
  exact ⟨k0.cell 11, h0.rowne k0 (by decide)⟩
theorem Par.lt {w : World} {P : Nat} {R : Option Nat} {s : St} (h : Par w P R s) : P < w.heap.size := by
  obtain ⟨r, h4, h6, d1, d2, k0, _⟩ := h.ex
  exact k0.lt
/-- A pointer of the parser is written anew. -/
theorem Par.setC {w : World} {P j : Nat} {R : Option Nat} {v : Value} {r h4 h6 d1 d2 r' h4' h6' d1' d2' R' : Option Nat} {s' : St} (k0 : Row w P 105 (pcs r h4 h6 d1 d2 R)) (e : (pcs r h4 h6 d1 d2 R).set j v = pcs r' h4' h6' d1' d2' R') (k1 : PI w r' s'.r) (k2 : PA w h4' s'.h4) (k3 : PA w h6' s'.h6) (k4 : PA w d1' s'.d1) (k5 : PA w d2' s'.d2) : Par (w.setCell ⟨P, j, none⟩ v) P R' s' := by
  have hg := grownBy_setCell w P j v
  have q := k0.set j v
  rw [e] at q
  have nA : ∀ b t cs, Row w b t cs → t ≠ 105 → some b ≠ some P := fun b t cs hr ht e => by
    have := Option.some.inj e
    subst this
    unfold Row at hr k0
    rw [hr] at k0
    cases k0
    exact ht rfl
  have nB : ∀ b cs, Row w b 26 cs → some b ≠ some P := fun b cs hr => nA b _ cs hr (by decide)
  exact ⟨r', h4', h6', d1', d2', q, k1.grown hg (fun b cs hr => nA b _ cs hr (by decide)), k2.grown hg nB, k3.grown hg nB, k4.grown hg nB, k5.grown hg nB⟩
theorem Par.setR {w : World} {P g : Nat} {R : Option Nat} {s : St} (h : Par w P R s) : Par (w.setCell ⟨P, 11, none⟩ (.pointer (some ⟨g, 0, none⟩))) P (some g) s := by
  obtain ⟨r, h4, h6, d1, d2, k0, k1, k2, k3, k4, k5⟩ := h.ex
  exact Par.setC k0 (r' := r) (h4' := h4) (h6' := h6) (d1' := d1) (d2' := d2) rfl k1 k2 k3 k4 k5
theorem Par.setRt {w : World} {P b : Nat} {R : Option Nat} {s : St} {i : Id8} (h : Par w P R s) (hr : Row w b 24 (icells i)) : Par (w.setCell ⟨P, 0, none⟩ (.pointer (some ⟨b, 0, none⟩))) P R { s with r := some i } := by
  obtain ⟨r, h4, h6, d1, d2, k0, k1, k2, k3, k4, k5⟩ := h.ex
  exact Par.setC k0 (r' := some b) (h4' := h4) (h6' := h6) (d1' := d1) (d2' := d2) rfl hr k2 k3 k4 k5
theorem Par.setH4 {w : World} {P b : Nat} {R : Option Nat} {s : St} {i : Ad} (h : Par w P R s) (hr : Row w b 26 (acells i)) : Par (w.setCell ⟨P, 5, none⟩ (.pointer (some ⟨b, 0, none⟩))) P R { s with h4 := some i } := by
  obtain ⟨r, h4, h6, d1, d2, k0, k1, k2, k3, k4, k5⟩ := h.ex
  exact Par.setC k0 (r' := r) (h4' := some b) (h6' := h6) (d1' := d1) (d2' := d2) rfl k1 hr k3 k4 k5
theorem Par.setH6 {w : World} {P b : Nat} {R : Option Nat} {s : St} {i : Ad} (h : Par w P R s) (hr : Row w b 26 (acells i)) : Par (w.setCell ⟨P, 7, none⟩ (.pointer (some ⟨b, 0, none⟩))) P R { s with h6 := some i } := by
  obtain ⟨r, h4, h6, d1, d2, k0, k1, k2, k3, k4, k5⟩ := h.ex
  exact Par.setC k0 (r' := r) (h4' := h4) (h6' := some b) (d1' := d1) (d2' := d2) rfl k1 k2 hr k4 k5
theorem Par.setD1 {w : World} {P b : Nat} {R : Option Nat} {s : St} {i : Ad} (h : Par w P R s) (hr : Row w b 26 (acells i)) : Par (w.setCell ⟨P, 9, none⟩ (.pointer (some ⟨b, 0, none⟩))) P R { s with d1 := some i } := by
  obtain ⟨r, h4, h6, d1, d2, k0, k1, k2, k3, k4, k5⟩ := h.ex
  exact Par.setC k0 (r' := r) (h4' := h4) (h6' := h6) (d1' := some b) (d2' := d2) rfl k1 k2 k3 hr k5
theorem Par.setD2 {w : World} {P b : Nat} {R : Option Nat} {s : St} {i : Ad} (h : Par w P R s) (hr : Row w b 26 (acells i)) : Par (w.setCell ⟨P, 10, none⟩ (.pointer (some ⟨b, 0, none⟩))) P R { s with d2 := some i } := by
  obtain ⟨r, h4, h6, d1, d2, k0, k1, k2, k3, k4, k5⟩ := h.ex
  exact Par.setC k0 (r' := r) (h4' := h4) (h6' := h6) (d1' := d1) (d2' := some b) rfl k1 k2 k3 k4 hr
theorem Par.frozen {w : World} {P : Nat} {R : Option Nat} {s : St} (h : Par w P R s) (j : Nat) : w.frozen? ⟨P, j, none⟩ = false := by
  obtain ⟨r, h4, h6, d1, d2, k0, _⟩ := h.ex
  exact k0.frozen j
/-- A pointer that the parser holds, and where it leads. -/
def PtA (w : World) (v : Value) (x : Option Ad) : Prop := (v = .pointer none ∧ x = none) ∨ ∃ b a, v = .pointer (some ⟨b, 0, none⟩) ∧ x = some a ∧ Row w b 26 (acells a)
def PtI (w : World) (v : Value) (x : Option Id8) : Prop := (v = .pointer none ∧ x = none) ∨ ∃ b a, v = .pointer (some ⟨b, 0, none⟩) ∧ x = some a ∧ Row w b 24 (icells a)
theorem PA.pt {w : World} : ∀ {o : Option Nat} {x : Option Ad}, PA w o x → PtA w (pv o) x
  | none, none, _ => .inl ⟨rfl, rfl⟩
  | some b, some a, h => .inr ⟨b, a, rfl, rfl, h⟩
  | none, some _, h => h.elim
  | some _, none, h => h.elim
theorem PI.pt {w : World} : ∀ {o : Option Nat} {x : Option Id8}, PI w o x → PtI w (pv o) x
  | none, none, _ => .inl ⟨rfl, rfl⟩
  | some b, some a, h => .inr ⟨b, a, rfl, rfl, h⟩
  | none, some _, h => h.elim
  | some _, none, h => h.elim
theorem Par.at {w : World} {P : Nat} {R : Option Nat} {s : St} (h : Par w P R s) : (∃ v, w.cell? ⟨P, 0, none⟩ = some v ∧ PtI w v s.r) ∧ (∃ v, w.cell? ⟨P, 5, none⟩ = some v ∧ PtA w v s.h4) ∧ (∃ v, w.cell? ⟨P, 7, none⟩ = some v ∧ PtA w v s.h6) ∧ (∃ v, w.cell? ⟨P, 9, none⟩ = some v ∧ PtA w v s.d1) ∧ (∃ v, w.cell? ⟨P, 10, none⟩ = some v ∧ PtA w v s.d2) := by
  obtain ⟨r, h4, h6, d1, d2, k0, k1, k2, k3, k4, k5⟩ := h.ex
  exact ⟨⟨_, k0.cell 0, k1.pt⟩, ⟨_, k0.cell 5, k2.pt⟩, ⟨_, k0.cell 7, k3.pt⟩, ⟨_, k0.cell 9, k4.pt⟩, ⟨_, k0.cell 10, k5.pt⟩⟩
/-! ### Slices of an address's array -/
section
variable {ops : Array Oper} {op : Oper} {a : Act} {S : World → Prop} {v : Value}
theorem ySl {t : TypeId} (x : Operand) (lo hi mx : Option Operand) (hw : Region.wanted op (yielded ops a.tmps) = true) (ho : op.op = .slice t x lo hi mx) (hv : ∀ w, (Instr.sliceAt t (a.eval x) (lo.map a.eval) (hi.map a.eval) (mx.map a.eval)).run Try.prog w = .ok v w) : YieldsIf Try.prog ops S op v a :=
  .inl ⟨hw, fun w _ => by
    unfold execOp
    simp only [ho, hv, Sem.run_bind, Result.andThen_ok, Sem.run_pure]⟩
end
def adrIf (g lo n : Nat) : Addr := if n = lo then ⟨g, 0, none⟩ else ⟨g, lo, none⟩
theorem adrIf_ne {g lo n : Nat} (h : lo < n) : adrIf g lo n = ⟨g, lo, none⟩ := by unfold adrIf; rw [if_neg (by omega)]
theorem slA2 (g lo hi : Nat) (x y : Int) (hx : x = lo) (hy : y = hi) (h1 : lo ≤ hi) (h2 : hi ≤ 16) (w : World) : (Instr.sliceAt 26 (.pointer (some ⟨g, 0, none⟩)) (some (.int .i64 x)) (some (.int .i64 y)) none).run Try.prog w = .ok (.slice (some (adrIf g lo 16)) (hi - lo) (16 - lo)) w := by
  subst hx hy
  have k1 : (0 : Int) ≤ (lo : Int) := by omega
  have k2 : (lo : Int) ≤ (hi : Int) := by omega
  have k3 : (0 : Int) ≤ (hi : Int) := by omega
  have k4 : (hi : Int) ≤ 16 := by omega
  unfold adrIf
  by_cases h : 16 = lo
  · rw [if_pos h]
    subst h
    obtain rfl : hi = 16 := by omega
    go_simp
  · rw [if_neg h]
    go_simp
theorem slA1 (g lo : Nat) (x : Int) (hx : x = lo) (h1 : lo ≤ 16) (w : World) : (Instr.sliceAt 26 (.pointer (some ⟨g, 0, none⟩)) (some (.int .i64 x)) none none).run Try.prog w = .ok (.slice (some (adrIf g lo 16)) (16 - lo) (16 - lo)) w := by
  subst hx
  have k1 : (0 : Int) ≤ (lo : Int) := by omega
  have k2 : (lo : Int) ≤ 16 := by omega
  unfold adrIf
  by_cases h : 16 = lo
  · rw [if_pos h]
    subst h
    go_simp
  · rw [if_neg h]
    go_simp
end Go.Proofs.Ytognnfknbkedgaa
