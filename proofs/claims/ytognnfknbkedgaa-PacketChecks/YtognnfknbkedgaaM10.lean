/-
  The contracts of keep, noSource and source of package packet.
-/
import Derived.Test.YtognnfknbkedgaaM08
import Derived.Test.YtognnfknbkedgaaM09
import Derived.Test.YtognnfknbkedgaaM07
namespace Go.Proofs.Ytognnfknbkedgaa
open Go.RowKit
set_option linter.unusedSimpArgs false
set_option maxRecDepth 20000
variable {bv : Option Addr}

/-- What an update makes of its address. -/
def kpI (ae : Nat) (a : Ad) : Id8 := if ae = 1 then spI zeroI 4 (a.l.drop 12) else spI zeroI 0 (a.l.drop 8)
def kpD (s : St) (ae : Nat) (a : Ad) : St := if ae = 1 then { s with d1 := some a } else { s with d2 := some a }
def kpS (s : St) (ae fl : Nat) (a : Ad) : St :=
  let s1 := if (bits BinOp.and IntKind.u8 (fl : Int) 128 != 0) then kpD s ae a else s
  if (bits BinOp.and IntKind.u8 (fl : Int) 64 != 0) then { s1 with r := some (kpI ae a) } else s1
theorem keep_any {w : World} {P : Nat} {R : Option Nat} {s : St} (ae fl : Nat) (a : Ad) (hae : ae = 1 ∨ ae = 2) (hpar : Par w P R s) :
    Calls Try.prog 86 #[.pointer (some ⟨P, 0, none⟩), .int .u8 (ae : Int), .int .u8 (fl : Int), (Value.agg (acells a).toArray)] w fun e w' => e = .returned (.tuple #[]) ∧ Par w' P R (kpS s ae fl a) ∧ w.grownBy w' (some P) := by
  unfold kpS
  generalize hb1 : (bits BinOp.and IntKind.u8 (fl : Int) 128 != 0) = b1
  generalize hb2 : (bits BinOp.and IntKind.u8 (fl : Int) 64 != 0) = b2
  have P1 := hpar.below (ba w (.cells (acells a).toArray 26))
  have R1 := Row.new w 26 (acells a)
  have hPl := hpar.lt
  have G1 := grownBy_below (some P) (ba w (.cells (acells a).toArray 26))
  have f9 := P1.frozen 9
  have f10 := P1.frozen 10
  obtain ⟨_, _, _, ⟨v9, c9, _⟩, ⟨v10, c10, _⟩⟩ := P1.at
  have S9 : Hid (Par ((w.alloc (.cells (acells a).toArray 26)).setCell ⟨P, 9, none⟩ (.pointer (some ⟨w.heap.size, 0, none⟩))) P R { s with d1 := some a } ∧ w.grownBy ((w.alloc (.cells (acells a).toArray 26)).setCell ⟨P, 9, none⟩ (.pointer (some ⟨w.heap.size, 0, none⟩))) (some P) ∧ Row ((w.alloc (.cells (acells a).toArray 26)).setCell ⟨P, 9, none⟩ (.pointer (some ⟨w.heap.size, 0, none⟩))) w.heap.size 26 (acells a)) := ⟨P1.setD1 R1, grownBy_trans G1 (grownBy_setCell _ _ _ _), R1.setOther _ _ _ (by omega)⟩
  have S10 : Hid (Par ((w.alloc (.cells (acells a).toArray 26)).setCell ⟨P, 10, none⟩ (.pointer (some ⟨w.heap.size, 0, none⟩))) P R { s with d2 := some a } ∧ w.grownBy ((w.alloc (.cells (acells a).toArray 26)).setCell ⟨P, 10, none⟩ (.pointer (some ⟨w.heap.size, 0, none⟩))) (some P) ∧ Row ((w.alloc (.cells (acells a).toArray 26)).setCell ⟨P, 10, none⟩ (.pointer (some ⟨w.heap.size, 0, none⟩))) w.heap.size 26 (acells a)) := ⟨P1.setD2 R1, grownBy_trans G1 (grownBy_setCell _ _ _ _), R1.setOther _ _ _ (by omega)⟩
  have S0 : Hid (Par (w.alloc (.cells (acells a).toArray 26)) P R s ∧ w.grownBy (w.alloc (.cells (acells a).toArray 26)) (some P) ∧ Row (w.alloc (.cells (acells a).toArray 26)) w.heap.size 26 (acells a)) := ⟨P1, G1, R1⟩
  rw [World.setCell_alloc_past _ _ _ _ hPl] at S9 S10
  clear P1 R1 G1
  rcases hae with rfl | rfl
  · cases b2
    · cases b1
      all_goals
        go_enter Try.func86, Try.ntmps86
        go_wp2
        go_end0
        first
          | exact ⟨rfl, S0.out.1, S0.out.2.1⟩
          | exact ⟨rfl, S9.out.1, S9.out.2.1⟩
          | exact ⟨rfl, S10.out.1, S10.out.2.1⟩
    · cases b1
      · obtain ⟨X1, X2, X3⟩ := S0.out
        clear S0 S9 S10
        go_enter Try.func86, Try.ntmps86
        go_wp2_with (refine alG infoIz (by rfl) rfl ?_; intro gI wI i1 i2 i3 rI)
        have i4 : w.heap.size < gI := by simp at i1; omega
        have bX := i3.trans (bd wI |>.mono i3.size)
        have RI1 := X3.below bX X3.lt
        have rI1 := rI.below (bd wI) rI.lt
        clear rI i3 X3 c9 c10 f9 f10
        refine wp_region_noPanic ?_
        refine wp_region_held_drew (S := fun _ => True) (by kernel_rfl) (trivial) (fun hHeld => ?_)
        refine tA 0 ?_
        refine tA 1 ?_
        refine r1 2 fun K hK => ?_
        refine step_copy_splice rfl (.tmp 23) (.tmp 24) 40 40 rfl 5 Try.underlying40 (by kernel_rfl) _ _ _ _ _ _ rfl rfl gI 4 (icells zeroI) 24 rI1 (bcells (a.l.drop 12)) (by rw [bcells_length, List.length_drop, a.len]; rfl) (fun _ => ⟨rfl, _, rfl, fun j v hv => ?_⟩) (by rw [bcells_length, icells_len, List.length_drop, a.len]; omega) (bcells_one _) gI _ (Below.refl _ _) (Nat.le_refl _) ?_
        · (rw [Addr.add_mid, RI1.cell]; have e : bcells (a.l.drop 12) = (bcells a.l).drop 12 := (by simp [bcells]); rw [e, List.getElem?_drop] at hv; exact hv)
        intro w2 HG2 hB2
        refine oK hK (by trivial) fun hHeld => ?_
        clear hK K
        refine dN ?_
        refine NoPanic.normal ?_
        have r2 : Row w2 gI 24 (icells (kpI 1 a)) := by show Row w2 gI _ (icells (spI zeroI 4 (a.l.drop 12))); rw [icells_spI _ _ _ (by rw [List.length_drop, a.len]; omega)]; exact HG2.out
        have bX2 := bX.trans (hB2.mono i1)
        have P2 := X1.below bX2
        have f0 := P2.frozen 0
        obtain ⟨⟨v0, c0, _⟩, _⟩ := P2.at
        have G2 := grownBy_trans (grownBy_trans X2 (grownBy_below (some P) bX2)) (grownBy_setCell w2 P 0 (.pointer (some ⟨gI, 0, none⟩)))
        have Q2 := P2.setRt r2
        have HQ : Hid (Par _ P R _ ∧ w.grownBy _ (some P)) := ⟨Q2, G2⟩
        clear HG2 hB2 bX bX2 X1 X2 P2 r2 RI1 rI1 Q2 G2 hHeld
        go_wp2
        go_end0
        exact ⟨rfl, HQ.out.1, HQ.out.2⟩
      · obtain ⟨X1, X2, X3⟩ := S9.out
        clear S0 S9 S10
        go_enter Try.func86, Try.ntmps86
        go_wp2_with (refine alG infoIz (by rfl) rfl ?_; intro gI wI i1 i2 i3 rI)
        have i4 : w.heap.size < gI := by simp at i1; omega
        have bX := i3.trans (bd wI |>.mono i3.size)
        have RI1 := X3.below bX X3.lt
        have rI1 := rI.below (bd wI) rI.lt
        clear rI i3 X3 c9 c10 f9 f10
        refine wp_region_noPanic ?_
        refine wp_region_held_drew (S := fun _ => True) (by kernel_rfl) (trivial) (fun hHeld => ?_)
        refine tA 0 ?_
        refine tA 1 ?_
        refine r1 2 fun K hK => ?_
        refine step_copy_splice rfl (.tmp 23) (.tmp 24) 40 40 rfl 5 Try.underlying40 (by kernel_rfl) _ _ _ _ _ _ rfl rfl gI 4 (icells zeroI) 24 rI1 (bcells (a.l.drop 12)) (by rw [bcells_length, List.length_drop, a.len]; rfl) (fun _ => ⟨rfl, _, rfl, fun j v hv => ?_⟩) (by rw [bcells_length, icells_len, List.length_drop, a.len]; omega) (bcells_one _) gI _ (Below.refl _ _) (Nat.le_refl _) ?_
        · (rw [Addr.add_mid, RI1.cell]; have e : bcells (a.l.drop 12) = (bcells a.l).drop 12 := (by simp [bcells]); rw [e, List.getElem?_drop] at hv; exact hv)
        intro w2 HG2 hB2
        refine oK hK (by trivial) fun hHeld => ?_
        clear hK K
        refine dN ?_
        refine NoPanic.normal ?_
        have r2 : Row w2 gI 24 (icells (kpI 1 a)) := by show Row w2 gI _ (icells (spI zeroI 4 (a.l.drop 12))); rw [icells_spI _ _ _ (by rw [List.length_drop, a.len]; omega)]; exact HG2.out
        have bX2 := bX.trans (hB2.mono i1)
        have P2 := X1.below bX2
        have f0 := P2.frozen 0
        obtain ⟨⟨v0, c0, _⟩, _⟩ := P2.at
        have G2 := grownBy_trans (grownBy_trans X2 (grownBy_below (some P) bX2)) (grownBy_setCell w2 P 0 (.pointer (some ⟨gI, 0, none⟩)))
        have Q2 := P2.setRt r2
        have HQ : Hid (Par _ P R _ ∧ w.grownBy _ (some P)) := ⟨Q2, G2⟩
        clear HG2 hB2 bX bX2 X1 X2 P2 r2 RI1 rI1 Q2 G2 hHeld
        go_wp2
        go_end0
        exact ⟨rfl, HQ.out.1, HQ.out.2⟩
  · cases b2
    · cases b1
      all_goals
        go_enter Try.func86, Try.ntmps86
        go_wp2
        go_end0
        first
          | exact ⟨rfl, S0.out.1, S0.out.2.1⟩
          | exact ⟨rfl, S9.out.1, S9.out.2.1⟩
          | exact ⟨rfl, S10.out.1, S10.out.2.1⟩
    · cases b1
      · obtain ⟨X1, X2, X3⟩ := S0.out
        clear S0 S9 S10
        go_enter Try.func86, Try.ntmps86
        go_wp2_with (refine alG infoIz (by rfl) rfl ?_; intro gI wI i1 i2 i3 rI)
        have i4 : w.heap.size < gI := by simp at i1; omega
        have bX := i3.trans (bd wI |>.mono i3.size)
        have RI1 := X3.below bX X3.lt
        have rI1 := rI.below (bd wI) rI.lt
        clear rI i3 X3 c9 c10 f9 f10
        refine wp_region_noPanic ?_
        refine wp_region_held_drew (S := fun _ => True) (by kernel_rfl) (trivial) (fun hHeld => ?_)
        refine tA 0 ?_
        refine tA 1 ?_
        refine r1 2 fun K hK => ?_
        refine step_copy_splice rfl (.tmp 26) (.tmp 27) 40 40 rfl 5 Try.underlying40 (by kernel_rfl) _ _ _ _ _ _ rfl rfl gI 0 (icells zeroI) 24 rI1 (bcells (a.l.drop 8)) (by rw [bcells_length, List.length_drop, a.len]; rfl) (fun _ => ⟨rfl, _, rfl, fun j v hv => ?_⟩) (by rw [bcells_length, icells_len, List.length_drop, a.len]; omega) (bcells_one _) gI _ (Below.refl _ _) (Nat.le_refl _) ?_
        · (rw [Addr.add_mid, RI1.cell]; have e : bcells (a.l.drop 8) = (bcells a.l).drop 8 := (by simp [bcells]); rw [e, List.getElem?_drop] at hv; exact hv)
        intro w2 HG2 hB2
        refine oK hK (by trivial) fun hHeld => ?_
        clear hK K
        refine dN ?_
        refine NoPanic.normal ?_
        have r2 : Row w2 gI 24 (icells (kpI 2 a)) := by show Row w2 gI _ (icells (spI zeroI 0 (a.l.drop 8))); rw [icells_spI _ _ _ (by rw [List.length_drop, a.len]; omega)]; exact HG2.out
        have bX2 := bX.trans (hB2.mono i1)
        have P2 := X1.below bX2
        have f0 := P2.frozen 0
        obtain ⟨⟨v0, c0, _⟩, _⟩ := P2.at
        have G2 := grownBy_trans (grownBy_trans X2 (grownBy_below (some P) bX2)) (grownBy_setCell w2 P 0 (.pointer (some ⟨gI, 0, none⟩)))
        have Q2 := P2.setRt r2
        have HQ : Hid (Par _ P R _ ∧ w.grownBy _ (some P)) := ⟨Q2, G2⟩
        clear HG2 hB2 bX bX2 X1 X2 P2 r2 RI1 rI1 Q2 G2 hHeld
        go_wp2
        go_end0
        exact ⟨rfl, HQ.out.1, HQ.out.2⟩
      · obtain ⟨X1, X2, X3⟩ := S10.out
        clear S0 S9 S10
        go_enter Try.func86, Try.ntmps86
        go_wp2_with (refine alG infoIz (by rfl) rfl ?_; intro gI wI i1 i2 i3 rI)
        have i4 : w.heap.size < gI := by simp at i1; omega
        have bX := i3.trans (bd wI |>.mono i3.size)
        have RI1 := X3.below bX X3.lt
        have rI1 := rI.below (bd wI) rI.lt
        clear rI i3 X3 c9 c10 f9 f10
        refine wp_region_noPanic ?_
        refine wp_region_held_drew (S := fun _ => True) (by kernel_rfl) (trivial) (fun hHeld => ?_)
        refine tA 0 ?_
        refine tA 1 ?_
        refine r1 2 fun K hK => ?_
        refine step_copy_splice rfl (.tmp 26) (.tmp 27) 40 40 rfl 5 Try.underlying40 (by kernel_rfl) _ _ _ _ _ _ rfl rfl gI 0 (icells zeroI) 24 rI1 (bcells (a.l.drop 8)) (by rw [bcells_length, List.length_drop, a.len]; rfl) (fun _ => ⟨rfl, _, rfl, fun j v hv => ?_⟩) (by rw [bcells_length, icells_len, List.length_drop, a.len]; omega) (bcells_one _) gI _ (Below.refl _ _) (Nat.le_refl _) ?_
        · (rw [Addr.add_mid, RI1.cell]; have e : bcells (a.l.drop 8) = (bcells a.l).drop 8 := (by simp [bcells]); rw [e, List.getElem?_drop] at hv; exact hv)
        intro w2 HG2 hB2
        refine oK hK (by trivial) fun hHeld => ?_
        clear hK K
        refine dN ?_
        refine NoPanic.normal ?_
        have r2 : Row w2 gI 24 (icells (kpI 2 a)) := by show Row w2 gI _ (icells (spI zeroI 0 (a.l.drop 8))); rw [icells_spI _ _ _ (by rw [List.length_drop, a.len]; omega)]; exact HG2.out
        have bX2 := bX.trans (hB2.mono i1)
        have P2 := X1.below bX2
        have f0 := P2.frozen 0
        obtain ⟨⟨v0, c0, _⟩, _⟩ := P2.at
        have G2 := grownBy_trans (grownBy_trans X2 (grownBy_below (some P) bX2)) (grownBy_setCell w2 P 0 (.pointer (some ⟨gI, 0, none⟩)))
        have Q2 := P2.setRt r2
        have HQ : Hid (Par _ P R _ ∧ w.grownBy _ (some P)) := ⟨Q2, G2⟩
        clear HG2 hB2 bX bX2 X1 X2 P2 r2 RI1 rI1 Q2 G2 hHeld
        go_wp2
        go_end0
        exact ⟨rfl, HQ.out.1, HQ.out.2⟩
end Go.Proofs.Ytognnfknbkedgaa

namespace Go.Proofs.Ytognnfknbkedgaa
open Go.RowKit
set_option linter.unusedSimpArgs false
set_option maxRecDepth 20000
variable {bv : Option Addr}

/-- Whether a piece of AeAny says something. -/
def nsB (l : List UInt8) (r : RS) : Bool := wiB [128] l r && decide ((wiL [128] l r).length = 0)
theorem noSource_any {w : World} {P g : Nat} {l : List UInt8} {r : RS} (hp : Pg w P g) (h : RdS w g bv l r) (hl : l.length ≤ 100000) :
    Calls Try.prog 84 #[.pointer (some ⟨P, 0, none⟩)] w fun e w' => e = .returned (.bool (nsB l r)) ∧ NowS w w' g bv l (wiR l r) := by
  have hlt := h.lt
  have HW : Hid (∀ W a, Pg W P g → RdS W g bv l r → Src W (some a) 1 1 (bcells [128]) → a.block ≠ g → Calls Try.prog 78 #[.pointer (some ⟨P, 0, none⟩), .slice (some a) 1 1] W fun e w' => ∃ a' c' n, Hid (n = (wiL [128] l r).length) ∧ e = .returned (.tuple #[.slice a' n c', .bool (wiB [128] l r)]) ∧ NowS W w' g bv l (wiR l r)) := fun W a h1 h2 h3 h4 => by
    refine (within_any h1 h2 hl (some a) 1 1 [128] h3 (by decide) (fun _ h => by cases h; exact h4)).mono ?_
    rintro e w' ⟨a', c', ps, rfl, k1, k2, k3, hn⟩
    exact ⟨a', c', _, by show _ = _; rw [← k1]; simp [keys], rfl, hn⟩
  obtain ⟨N, hN⟩ : ∃ N, Hid ((wiL [128] l r).length = N) := ⟨_, rfl⟩
  unfold nsB
  rw [hN.out] at HW ⊢
  generalize wiB [128] l r = b at *
  clear hN
  cases b
  all_goals
    go_enter Try.func84, Try.ntmps84
    go_wp2_with (go_at_call 78; refine (HW.out _ _ (hp.below (ba _ _)) (h.below (ba _ _)) (new_src w #[.int .u8 128]) (show w.heap.size ≠ g by omega)).mono ?_; rintro e w3 ⟨a3, c3, n3, hn3, rfl, hn2⟩)
    go_ret
    have e3 := hn3.out
    subst e3
    refine ⟨?_, hn2.after (ba _ _)⟩
    have e : ((n3 : Int) == 0) = (true && decide (n3 = 0)) := by rw [Bool.eq_iff_iff]; simp
    first
      | rfl
      | (rw [← e]; rfl)

/-- The prefix that a SubSource tells. -/
def soR (l : List UInt8) (r : RS) : RS := if r.val l 1 = 0 then (r.adv l 1).bad else r.adv l 1
def soP (s : St) (ae : Nat) (l : List UInt8) (r : RS) : Pf := pfP s ae (r.val l 1) 0 l (soR l r)
def soN (s : St) (ae : Nat) (l : List UInt8) (r : RS) : RS := pfR s ae (r.val l 1) 0 l (soR l r)
theorem source_any {w : World} {P g : Nat} {l : List UInt8} {r : RS} {s : St} (ae : Nat) (hpar : Par w P (some g) s) (h : RdS w g bv l r) :
    Calls Try.prog 103 #[.pointer (some ⟨P, 0, none⟩), .int .u8 (ae : Int)] w fun e w' => e = .returned (Value.agg (pcells (soP s ae l r)).toArray) ∧ NowS w w' g bv l (soN s ae l r) := by
  have hp := hpar.pg h
  have hlt := h.lt
  have hpl := val1_lt r l
  have HU1 : Hid (∀ W, RdS W g bv l r → Calls Try.prog 47 #[.pointer (some ⟨g, 0, none⟩)] W fun e w' => e = .returned (.int .u8 (r.val l 1)) ∧ NowS W w' g bv l (r.adv l 1)) := fun W h => u8_r h
  unfold soP soN
  obtain ⟨rb, hrb⟩ : ∃ rb, soR l r = rb := ⟨_, rfl⟩
  have hrb0 : Hid ((r.val l 1 = 0 → rb = (r.adv l 1).bad) ∧ (r.val l 1 ≠ 0 → rb = r.adv l 1)) := by
    unfold soR at hrb
    constructor
    · intro h0; rw [if_pos h0] at hrb; exact hrb.symm
    · intro h0; rw [if_neg h0] at hrb; exact hrb.symm
  rw [hrb]
  generalize r.val l 1 = pl at *
  have HP : Hid (∀ W, Par W P (some g) s → RdS W g bv l rb → Calls Try.prog 85 #[.pointer (some ⟨P, 0, none⟩), .int .u8 (ae : Int), .int .i64 (pl : Int), .int .i64 0] W fun e w' => e = .returned (Value.agg (pcells (pfP s ae pl 0 l rb)).toArray) ∧ NowS W w' g bv l (pfR s ae pl 0 l rb)) := fun W h1 h2 => prefix_any ae pl 0 hpl (by decide) h1 h2
  generalize pfP s ae pl 0 l rb = q at *
  generalize pfR s ae pl 0 l rb = rn at *
  clear hrb
  by_cases h0 : pl = 0
  · subst h0
    have e0 := hrb0.out.1 rfl
    subst e0
    clear hrb0
    go_enter Try.func103, Try.ntmps103
    go_wp2_with (first
      | (have kk := hn4; refine stP0 (.tmp 4) (.tmp 19) (by rfl) rfl gA q _ (pcells_len _) rfl rfl (rA.nowS N4 (by omega)) ?_; intro w5 hg5 r5)
      | (go_at_call 85; refine (HP.out _ ((hpar.below a3).now (h.below a3) (hn1.trans hn3)) hn3.rd).mono ?_; rintro e w4 ⟨rfl, hn4⟩; have N4 := (hn1.trans hn3).trans hn4)
      | (go_at_call 83; refine (bad_any ((hp.below a3).now hn1) hn1.rd).mono ?_; rintro e w3 ⟨rfl, hn3⟩)
      | (go_at_call 47; refine (HU1.out _ (h.below a3)).mono ?_; rintro e w1 ⟨rfl, hn1⟩)
      | (refine alG infoPz (by rfl) rfl ?_; intro gA wA a1 a2 a3 rA; have c1 := (hp.below a3).c))
    exact bodyPost_ret (retC rfl _ _ 0 rfl (lvP r5.range)) rfl ⟨rfl, (N4.after a3).fresh h hg5 a1⟩
  · have h0' : ((pl : Int) == 0) = false := by simp; omega
    have e0 := hrb0.out.2 h0
    subst e0
    clear hrb0 h0
    go_enter Try.func103, Try.ntmps103
    go_wp2_with (first
      | (have kk := hn4; refine stP0 (.tmp 4) (.tmp 19) (by rfl) rfl gA q _ (pcells_len _) rfl rfl (rA.nowS N4 (by omega)) ?_; intro w5 hg5 r5)
      | (go_at_call 85; refine (HP.out _ ((hpar.below a3).now (h.below a3) hn1) hn1.rd).mono ?_; rintro e w4 ⟨rfl, hn4⟩; have N4 := hn1.trans hn4)
      | (go_at_call 47; refine (HU1.out _ (h.below a3)).mono ?_; rintro e w1 ⟨rfl, hn1⟩)
      | (refine alG infoPz (by rfl) rfl ?_; intro gA wA a1 a2 a3 rA; have c1 := (hp.below a3).c))
    exact bodyPost_ret (retC rfl _ _ 0 rfl (lvP r5.range)) rfl ⟨rfl, (N4.after a3).fresh h hg5 a1⟩
end Go.Proofs.Ytognnfknbkedgaa

namespace Go.Proofs.Ytognnfknbkedgaa
open Go.RowKit
set_option linter.unusedSimpArgs false
set_option maxRecDepth 20000
variable {bv : Option Addr}

def aqB (l : List UInt8) (r : RS) : Bool := wiB [] l (((r.adv l 2).adv l 2).adv l 2)
def aqK (l : List UInt8) (r : RS) : TK := { zeroK with ty := 2, nonce := (r.adv l 2).val l 2, intv := ((r.adv l 2).adv l 2).val l 2 }
theorem ackReq_any {w : World} {P g : Nat} {l : List UInt8} {r : RS} (hp : Pg w P g) (h : RdS w g bv l r) (hl : l.length ≤ 100000) :
    Calls Try.prog 55 #[.pointer (some ⟨P, 0, none⟩)] w fun e w' => SayR w (aqK l r) (aqB l r) e w' ∧ ∃ r', NowS w w' g bv l r' := by
  have hlt := h.lt
  have HW : Hid (∀ W, Pg W P g → RdS W g bv l (((r.adv l 2).adv l 2).adv l 2) → Calls Try.prog 78 #[.pointer (some ⟨P, 0, none⟩), .slice none 0 0] W fun e w' => ∃ a' c' n, e = .returned (.tuple #[.slice a' n c', .bool (aqB l r)]) ∧ NowS W w' g bv l (wiR l (((r.adv l 2).adv l 2).adv l 2))) := fun W h1 h2 => by
    refine (within_any h1 h2 hl none 0 0 [] (Src.nil _) (by decide) (fun _ h => by cases h)).mono ?_
    rintro e w' ⟨a', c', ps, rfl, _, _, _, hn⟩
    exact ⟨a', c', _, rfl, hn⟩
  have hEK : Hid (aqK l r = (Tl.key { zeroT with ty := 2, nonce := (r.adv l 2).val l 2, intv := ((r.adv l 2).adv l 2).val l 2 })) := rfl
  generalize aqB l r = b at *
  go_enter Try.func55, Try.ntmps55
  go_wp2_with (first
    | (go_at_call 48; refine (u16_r (h.below a3)).mono ?_; rintro e w1 ⟨rfl, hn1⟩)
    | (refine alG infoTz (by rfl) rfl ?_; intro gA wA a1 a2 a3 rA; have c1 := (hp.below a3).c))
  have hgA : gA ≠ g := by omega
  have hN : NowS w w1.drew g bv l (r.adv l 2) := (hn1.after a3).below (bd _)
  have rAc := (rA.nowS hn1 hgA).below (bd _) (rA.nowS hn1 hgA).lt
  clear hn1 a3 rA c1
  refine wp_region_noPanic ?_
  refine wp_region_held_drew (S := fun W => W.cell? ⟨P, 11, none⟩ = some (.pointer (some ⟨g, 0, none⟩))) (by kernel_rfl) ((hp.now hN).c) (fun hHeld => ?_)
  refine tA 0 ?_
  refine tA 1 ?_
  refine tA 2 ?_
  refine tA 3 ?_
  refine tA 5 ?_
  refine tA 6 ?_
  refine tA 7 ?_
  refine tA 8 ?_
  refine rM [4,11] ?_
  refine cL (fun K hK => ?_) ?_
  · skip
    go_simp
    refine (u16_r hN.rd).mono ?_
    rintro e w1 ⟨rfl, hn1⟩
    replace rAc := rAc.nowS hn1 hgA
    try replace rB := rB.nowS hn1 (by omega)
    replace hN := hN.trans hn1
    clear hn1
    refine oK hK (by exact (hp.now hN).c) fun hHeld => ?_
    clear hK K
    refine rM [9,11] ?_
    refine cL (fun K hK => ?_) ?_
    · skip
      go_simp
      refine (u16_r hN.rd).mono ?_
      rintro e w1 ⟨rfl, hn1⟩
      replace rAc := rAc.nowS hn1 hgA
      try replace rB := rB.nowS hn1 (by omega)
      replace hN := hN.trans hn1
      clear hn1
      refine oK hK (by exact (hp.now hN).c) fun hHeld => ?_
      clear hK K
      refine tL 10 rfl (yB [(0, .const (.int .u8 2)), (1, .tmp 16), (2, .tmp 21)] (by rfl) rfl (bdAckReq _ _)) ?_
      refine r1 11 fun K hK => ?_
      refine sAlG infoTz (by rfl) rfl ?_
      intro gB wB b1 b2 b3 rB
      have hgB : w.heap.size ≤ gB := Nat.le_trans hN.size b1
      have hne : gA < gB := Nat.lt_of_lt_of_le rAc.lt b1
      replace rAc := rAc.below b3 rAc.lt
      replace hN := hN.below b3
      clear b1 b2 b3
      refine oK hK (by exact (hp.now hN).c) fun hHeld => ?_
      clear hK K
      refine r1 12 fun K hK => ?_
      refine sStT (.tmp 4) (.tmp 22) (by rfl) rfl gB { zeroT with ty := 2, nonce := (r.adv l 2).val l 2, intv := ((r.adv l 2).adv l 2).val l 2 } _ rfl rfl rB ?_
      intro wC hgC rC
      replace rAc := rAc.grown hgC (fun e => by have := Option.some.inj e; omega)
      replace hN := NowS.fresh h hN hgC hgB
      clear hgC rB
      refine oK hK (by exact (hp.now hN).c) fun hHeld => ?_
      clear hK K
      refine dN ?_
      refine NoPanic.normal ?_
      clear hHeld
      have hpC := hp.now hN
      go_wp2_with (first
        | (have kk := hn2; refine stT (.tmp 2) (.tmp 28) (by rfl) rfl gA { zeroT with ty := 2, nonce := (r.adv l 2).val l 2, intv := ((r.adv l 2).adv l 2).val l 2 } _ rfl rfl rA2 ?_; intro w4 hg4 r4)
        | (have kk := hn2; refine ldT (.tmp 4) (by rfl) rfl gB { zeroT with ty := 2, nonce := (r.adv l 2).val l 2, intv := ((r.adv l 2).adv l 2).val l 2 } rfl rB2 ?_)
        | (go_at_call 78; refine (HW.out _ hpC hN.rd).mono ?_; rintro e w3 ⟨a3, c3, n3, rfl, hn2⟩; have rA2 := rAc.nowS hn2 hgA; have rB2 := rC.nowS hn2 (by omega)))
      exact bodyPost_ret (retCT rfl _ _ 0 rfl (lvT r4)) rfl ⟨⟨{ zeroT with ty := 2, nonce := (r.adv l 2).val l 2, intv := ((r.adv l 2).adv l 2).val l 2 }, rfl, fun _ => hEK.out.symm, Stms.none _ _ _ rfl rfl rfl rfl⟩, _, NowS.fresh h (hN.trans hn2) hg4 a1⟩
    refine cE fun K hK => ?_
    refine sAlG infoTz (by rfl) rfl ?_
    intro gB wB b1 b2 b3 rB
    have hgB : w.heap.size ≤ gB := Nat.le_trans hN.size b1
    have hne : gA < gB := Nat.lt_of_lt_of_le rAc.lt b1
    replace rAc := rAc.below b3 rAc.lt
    replace hN := hN.below b3
    clear b1 b2 b3
    refine oK hK (by exact (hp.now hN).c) fun hHeld => ?_
    clear hK K
    refine r1 9 fun K hK => ?_
    go_simp
    refine (u16_r hN.rd).mono ?_
    rintro e w1 ⟨rfl, hn1⟩
    replace rAc := rAc.nowS hn1 hgA
    try replace rB := rB.nowS hn1 (by omega)
    replace hN := hN.trans hn1
    clear hn1
    refine oK hK (by exact (hp.now hN).c) fun hHeld => ?_
    clear hK K
    refine tL 10 rfl (yB [(0, .const (.int .u8 2)), (1, .tmp 16), (2, .tmp 21)] (by rfl) rfl (bdAckReq _ _)) ?_
    refine r1 12 fun K hK => ?_
    refine sStT (.tmp 4) (.tmp 22) (by rfl) rfl gB { zeroT with ty := 2, nonce := (r.adv l 2).val l 2, intv := ((r.adv l 2).adv l 2).val l 2 } _ rfl rfl rB ?_
    intro wC hgC rC
    replace rAc := rAc.grown hgC (fun e => by have := Option.some.inj e; omega)
    replace hN := NowS.fresh h hN hgC hgB
    clear hgC rB
    refine oK hK (by exact (hp.now hN).c) fun hHeld => ?_
    clear hK K
    refine dN ?_
    refine NoPanic.normal ?_
    clear hHeld
    have hpC := hp.now hN
    go_wp2_with (first
      | (have kk := hn2; refine stT (.tmp 2) (.tmp 28) (by rfl) rfl gA { zeroT with ty := 2, nonce := (r.adv l 2).val l 2, intv := ((r.adv l 2).adv l 2).val l 2 } _ rfl rfl rA2 ?_; intro w4 hg4 r4)
      | (have kk := hn2; refine ldT (.tmp 4) (by rfl) rfl gB { zeroT with ty := 2, nonce := (r.adv l 2).val l 2, intv := ((r.adv l 2).adv l 2).val l 2 } rfl rB2 ?_)
      | (go_at_call 78; refine (HW.out _ hpC hN.rd).mono ?_; rintro e w3 ⟨a3, c3, n3, rfl, hn2⟩; have rA2 := rAc.nowS hn2 hgA; have rB2 := rC.nowS hn2 (by omega)))
    exact bodyPost_ret (retCT rfl _ _ 0 rfl (lvT r4)) rfl ⟨⟨{ zeroT with ty := 2, nonce := (r.adv l 2).val l 2, intv := ((r.adv l 2).adv l 2).val l 2 }, rfl, fun _ => hEK.out.symm, Stms.none _ _ _ rfl rfl rfl rfl⟩, _, NowS.fresh h (hN.trans hn2) hg4 a1⟩
  refine cE fun K hK => ?_
  refine sAlG infoTz (by rfl) rfl ?_
  intro gB wB b1 b2 b3 rB
  have hgB : w.heap.size ≤ gB := Nat.le_trans hN.size b1
  have hne : gA < gB := Nat.lt_of_lt_of_le rAc.lt b1
  replace rAc := rAc.below b3 rAc.lt
  replace hN := hN.below b3
  clear b1 b2 b3
  refine oK hK (by exact (hp.now hN).c) fun hHeld => ?_
  clear hK K
  refine r1 4 fun K hK => ?_
  go_simp
  refine (u16_r hN.rd).mono ?_
  rintro e w1 ⟨rfl, hn1⟩
  replace rAc := rAc.nowS hn1 hgA
  try replace rB := rB.nowS hn1 (by omega)
  replace hN := hN.trans hn1
  clear hn1
  refine oK hK (by exact (hp.now hN).c) fun hHeld => ?_
  clear hK K
  refine r1 9 fun K hK => ?_
  go_simp
  refine (u16_r hN.rd).mono ?_
  rintro e w1 ⟨rfl, hn1⟩
  replace rAc := rAc.nowS hn1 hgA
  try replace rB := rB.nowS hn1 (by omega)
  replace hN := hN.trans hn1
  clear hn1
  refine oK hK (by exact (hp.now hN).c) fun hHeld => ?_
  clear hK K
  refine tL 10 rfl (yB [(0, .const (.int .u8 2)), (1, .tmp 16), (2, .tmp 21)] (by rfl) rfl (bdAckReq _ _)) ?_
  refine r1 12 fun K hK => ?_
  refine sStT (.tmp 4) (.tmp 22) (by rfl) rfl gB { zeroT with ty := 2, nonce := (r.adv l 2).val l 2, intv := ((r.adv l 2).adv l 2).val l 2 } _ rfl rfl rB ?_
  intro wC hgC rC
  replace rAc := rAc.grown hgC (fun e => by have := Option.some.inj e; omega)
  replace hN := NowS.fresh h hN hgC hgB
  clear hgC rB
  refine oK hK (by exact (hp.now hN).c) fun hHeld => ?_
  clear hK K
  refine dN ?_
  refine NoPanic.normal ?_
  clear hHeld
  have hpC := hp.now hN
  go_wp2_with (first
    | (have kk := hn2; refine stT (.tmp 2) (.tmp 28) (by rfl) rfl gA { zeroT with ty := 2, nonce := (r.adv l 2).val l 2, intv := ((r.adv l 2).adv l 2).val l 2 } _ rfl rfl rA2 ?_; intro w4 hg4 r4)
    | (have kk := hn2; refine ldT (.tmp 4) (by rfl) rfl gB { zeroT with ty := 2, nonce := (r.adv l 2).val l 2, intv := ((r.adv l 2).adv l 2).val l 2 } rfl rB2 ?_)
    | (go_at_call 78; refine (HW.out _ hpC hN.rd).mono ?_; rintro e w3 ⟨a3, c3, n3, rfl, hn2⟩; have rA2 := rAc.nowS hn2 hgA; have rB2 := rC.nowS hn2 (by omega)))
  exact bodyPost_ret (retCT rfl _ _ 0 rfl (lvT r4)) rfl ⟨⟨{ zeroT with ty := 2, nonce := (r.adv l 2).val l 2, intv := ((r.adv l 2).adv l 2).val l 2 }, rfl, fun _ => hEK.out.symm, Stms.none _ _ _ rfl rfl rfl rfl⟩, _, NowS.fresh h (hN.trans hn2) hg4 a1⟩
end Go.Proofs.Ytognnfknbkedgaa

namespace Go.Proofs.Ytognnfknbkedgaa
open Go.RowKit
set_option linter.unusedSimpArgs false
set_option maxRecDepth 20000
variable {bv : Option Addr}

/-- The bodies of pieces are no longer than the bytes. -/
theorem spl_le : ∀ (f : Nat) (l : List UInt8), ∀ k ∈ (spl f l).1, k.2.length ≤ l.length
  | 0, _, k, hk => by simp [spl] at hk
  | _ + 1, [], k, hk => by simp [spl] at hk
  | f + 1, t :: r, k, hk => by
    unfold spl at hk
    split at hk
    · rcases List.mem_cons.1 hk with rfl | hk
      · simp
      · have := spl_le f r k hk; simp; omega
    · cases r with
      | nil => simp at hk
      | cons q s =>
        simp only at hk
        split at hk
        · simp at hk
        · rcases List.mem_cons.1 hk with rfl | hk
          · simp; omega
          · have := spl_le f _ k hk
            simp at this ⊢
            omega
theorem wi_le {ts l : List UInt8} {r : RS} {ps : List Pc} (h : keys ps = wiL ts l r) (hl : l.length ≤ 100000) {p : Pc} (hp : p ∈ ps) : p.l.length ≤ 140737488355328 := by
  have k : (p.t, p.l) ∈ wiL ts l r := by rw [← h]; exact List.mem_map.2 ⟨p, hp, rfl⟩
  unfold wiL at k
  split at k
  · have := spl_le _ _ _ (List.mem_filter.1 k).1
    simp at this
    omega
  · cases k
/-- A Tlv with Stamps. -/
def stamped (t : Tl) (a : Option Addr) (n c : Nat) (ls : List UInt32) : Tl := { t with sa := a, sn := n, sc := c, st := ls }
def heB (l : List UInt8) (r : RS) : Bool := wiB [3] l (((r.adv l 2).adv l 2).adv l 2)
def heU (l : List UInt8) (r : RS) : Bool := (bits BinOp.and IntKind.u16 (r.val l 2 : Int) 32768 != 0)
def heK (l : List UInt8) (r : RS) : TK := { zeroK with ty := 4, uni := heU l r, seq := (r.adv l 2).val l 2, intv := ((r.adv l 2).adv l 2).val l 2, st := stF 1 (wiL [3] l (((r.adv l 2).adv l 2).adv l 2)) }
theorem hello_any {w : World} {P g : Nat} {l : List UInt8} {r : RS} (hp : Pg w P g) (h : RdS w g bv l r) (hl : l.length ≤ 100000) :
    Calls Try.prog 57 #[.pointer (some ⟨P, 0, none⟩)] w fun e w' => SayR w (heK l r) (heB l r) e w' ∧ ∃ r', NowS w w' g bv l r' := by
  have hlt := h.lt
  obtain ⟨LS, hLS⟩ : ∃ LS, Hid (stF 1 (wiL [3] l (((r.adv l 2).adv l 2).adv l 2)) = LS) := ⟨_, rfl⟩
  have HW : Hid (∀ W a, Pg W P g → RdS W g bv l (((r.adv l 2).adv l 2).adv l 2) → Src W (some a) 1 1 (bcells [3]) → a.block ≠ g → Calls Try.prog 78 #[.pointer (some ⟨P, 0, none⟩), .slice (some a) 1 1] W fun e w' => ∃ a' c' ps n, Hid (n = ps.length) ∧ e = .returned (.tuple #[.slice a' n c', .bool (heB l r)]) ∧ Hid (n = ps.length ∧ keys ps = wiL [3] l (((r.adv l 2).adv l 2).adv l 2) ∧ ps.length ≤ 100000) ∧ Told W w' a' c' ps ∧ NowS W w' g bv l (wiR l (((r.adv l 2).adv l 2).adv l 2))) := fun W a h1 h2 h3 h4 => by
    refine (within_any h1 h2 hl (some a) 1 1 [3] h3 (by decide) (fun _ h => by cases h; exact h4)).mono ?_
    rintro e w' ⟨a', c', ps, rfl, k1, k2, k3, hn⟩
    exact ⟨a', c', ps, _, (rfl : _ = _), rfl, ⟨rfl, k1, k2⟩, k3, hn⟩
  have HST : Hid (∀ (W W' : World) (a : Option Addr) (c : Nat) {ps : List Pc} {n : Nat}, Told W W' a c ps → Hid (n = ps.length ∧ keys ps = wiL [3] l (((r.adv l 2).adv l 2).adv l 2) ∧ ps.length ≤ 100000) → Calls Try.prog 79 #[.int .i64 1, .slice a n c] W' (Stamped W' LS)) := fun W W' a c ps n told hk => by
    obtain ⟨k0, k1, k2⟩ := hk.out
    subst k0
    have := stamps1 a c ps W' (own_rws told.own told.bods) k2 (fun p hp => wi_le k1 hl hp)
    rw [k1, hLS.out] at this
    exact this
  obtain ⟨uB, hU⟩ : ∃ u, (bits BinOp.and IntKind.u16 (r.val l 2 : Int) 32768 != 0) = u := ⟨_, rfl⟩
  have hEK : Hid (∀ a n c, (stamped { zeroT with ty := 4, uni := uB, seq := (r.adv l 2).val l 2, intv := ((r.adv l 2).adv l 2).val l 2 } a n c LS).key = heK l r) := fun a n c => by
    unfold heK heU
    rw [hLS.out, hU]
    rfl
  generalize heB l r = b at *
  clear hLS
  go_enter Try.func57, Try.ntmps57
  go_wp2_with (first
    | (go_at_call 48; refine (u16_r (h.below a3)).mono ?_; rintro e w1 ⟨rfl, hn1⟩)
    | (refine alG infoTz (by rfl) rfl ?_; intro gA wA a1 a2 a3 rA; have c1 := (hp.below a3).c))
  have hgA : gA ≠ g := by omega
  have hN : NowS w w1.drew g bv l (r.adv l 2) := (hn1.after a3).below (bd _)
  have rAc := (rA.nowS hn1 hgA).below (bd _) (rA.nowS hn1 hgA).lt
  clear hn1 a3 rA c1
  refine wp_region_noPanic ?_
  refine wp_region_held_drew (S := fun W => W.cell? ⟨P, 11, none⟩ = some (.pointer (some ⟨g, 0, none⟩))) (by kernel_rfl) ((hp.now hN).c) (fun hHeld => ?_)
  refine tA 0 ?_
  refine tA 1 ?_
  refine tA 2 ?_
  refine tA 3 ?_
  refine tA 4 ?_
  refine tA 5 ?_
  refine tA 6 ?_
  refine tA 8 ?_
  refine tA 9 ?_
  refine tA 10 ?_
  refine tA 11 ?_
  refine rM [7,14] ?_
  refine cL (fun K hK => ?_) ?_
  · skip
    go_simp
    refine (u16_r hN.rd).mono ?_
    rintro e w1 ⟨rfl, hn1⟩
    replace rAc := rAc.nowS hn1 hgA
    try replace rB := rB.nowS hn1 (by omega)
    replace hN := hN.trans hn1
    clear hn1
    refine oK hK (by exact (hp.now hN).c) fun hHeld => ?_
    clear hK K
    refine rM [12,14] ?_
    refine cL (fun K hK => ?_) ?_
    · skip
      go_simp
      refine (u16_r hN.rd).mono ?_
      rintro e w1 ⟨rfl, hn1⟩
      replace rAc := rAc.nowS hn1 hgA
      try replace rB := rB.nowS hn1 (by omega)
      replace hN := hN.trans hn1
      clear hn1
      refine oK hK (by exact (hp.now hN).c) fun hHeld => ?_
      clear hK K
      refine tL 13 rfl (yB [(0, .const (.int .u8 4)), (7, .tmp 15), (3, .tmp 20), (2, .tmp 25)] (by rfl) rfl (bdHello _ _ _)) ?_
      refine r1 14 fun K hK => ?_
      refine sAlG infoTz (by rfl) rfl ?_
      intro gB wB b1 b2 b3 rB
      have hgB : w.heap.size ≤ gB := Nat.le_trans hN.size b1
      have hne : gA < gB := Nat.lt_of_lt_of_le rAc.lt b1
      replace rAc := rAc.below b3 rAc.lt
      replace hN := hN.below b3
      clear b1 b2 b3
      refine oK hK (by exact (hp.now hN).c) fun hHeld => ?_
      clear hK K
      refine r1 15 fun K hK => ?_
      refine sStT (.tmp 5) (.tmp 26) (by rfl) rfl gB { zeroT with ty := 4, uni := uB, seq := (r.adv l 2).val l 2, intv := ((r.adv l 2).adv l 2).val l 2 } _ rfl rfl rB ?_
      intro wC hgC rC
      replace rAc := rAc.grown hgC (fun e => by have := Option.some.inj e; omega)
      replace hN := NowS.fresh h hN hgC hgB
      clear hgC rB
      refine oK hK (by exact (hp.now hN).c) fun hHeld => ?_
      clear hK K
      refine dN ?_
      refine NoPanic.normal ?_
      clear hHeld
      have hpC := hp.now hN
      have c1 := hpC.c
      have hsz := hN.size
      have cB : wC.cell? ⟨gB, 67, none⟩ = some _ := (rC.cell 67).trans (tcells_get _)
      have fB := rC.frozen 67
      go_wp2_with (first
        | (have kk := b4; refine stT (.tmp 2) (.tmp 36) (by rfl) rfl gA (stamped { zeroT with ty := 4, uni := uB, seq := (r.adv l 2).val l 2, intv := ((r.adv l 2).adv l 2).val l 2 } a4 LS.length c4 LS) _ rfl rfl (rA3.grown (grownBy_setCell w4 gB 67 _) (fun e => by have := Option.some.inj e; omega)) ?_; intro w5 hg5 r5)
        | (have kk := b4; refine ldT (.tmp 5) (by rfl) rfl gB (stamped { zeroT with ty := 4, uni := uB, seq := (r.adv l 2).val l 2, intv := ((r.adv l 2).adv l 2).val l 2 } a4 LS.length c4 LS) rfl (rB3.tSt a4 LS.length c4 LS) ?_)
        | (go_at_call 79; have kk := told; refine (HST.out _ _ _ _ told hk3).mono ?_; rintro e w4 ⟨a4, c4, rfl, own4, b4⟩; have rA3 := rA2.below b4 rA2.lt; have rB3 := rB2.below b4 rB2.lt; have cB3 : w4.cell? ⟨gB, 67, none⟩ = some _ := (rB3.cell 67).trans (tcells_get _); have fB3 := rB3.frozen 67)
        | (go_at_call 78; refine (HW.out _ _ (hpC.below (ba _ _)) (hN.rd.below (ba _ _)) (new_src wC #[.int .u8 3]) (show wC.heap.size ≠ g by have := hN.size; omega)).mono ?_; rintro e w3 ⟨a3, c3, ps, n3, hn3, rfl, hk3, told, hn2⟩; have rA2 := (rAc.alloc (.cells #[.int .u8 3] 5)).nowS hn2 hgA; have rB2 := (rC.alloc (.cells #[.int .u8 3] 5)).nowS hn2 (by omega)))
      have e5 : w4.ownsRow w.heap.size 63 1 (.slice a4 LS.length c4) LS.length (wcells LS) := own_le own4 (by have := hn2.size; simp at this; omega)
      have e6 := own_keep e5 (grownBy_setCell w4 gB 67 (.slice a4 LS.length c4)) (.inl (fun e => own_ne own4 rB3 (by decide) e.symm))
      have rB5 := rB3.tSt a4 LS.length c4 LS
      have rA5 := rA3.grown (grownBy_setCell w4 gB 67 (.slice a4 LS.length c4)) (fun e => by have := Option.some.inj e; omega)
      have e7 := own_keep e6 hg5 (.inl (fun e => own_ne e6 rA5 (by decide) e.symm))
      exact bodyPost_ret (retCT rfl _ _ 0 rfl (lvT r5)) rfl ⟨⟨stamped { zeroT with ty := 4, uni := uB, seq := (r.adv l 2).val l 2, intv := ((r.adv l 2).adv l 2).val l 2 } a4 LS.length c4 LS, rfl, fun _ => hEK.out _ _ _, e7⟩, _, NowS.fresh h (NowS.fresh h (((hN.below (ba wC (.cells #[.int .u8 3] 5))).trans hn2).below b4) (grownBy_setCell w4 gB 67 _) hgB) hg5 a1⟩
    refine cE fun K hK => ?_
    refine sAlG infoTz (by rfl) rfl ?_
    intro gB wB b1 b2 b3 rB
    have hgB : w.heap.size ≤ gB := Nat.le_trans hN.size b1
    have hne : gA < gB := Nat.lt_of_lt_of_le rAc.lt b1
    replace rAc := rAc.below b3 rAc.lt
    replace hN := hN.below b3
    clear b1 b2 b3
    refine oK hK (by exact (hp.now hN).c) fun hHeld => ?_
    clear hK K
    refine r1 12 fun K hK => ?_
    go_simp
    refine (u16_r hN.rd).mono ?_
    rintro e w1 ⟨rfl, hn1⟩
    replace rAc := rAc.nowS hn1 hgA
    try replace rB := rB.nowS hn1 (by omega)
    replace hN := hN.trans hn1
    clear hn1
    refine oK hK (by exact (hp.now hN).c) fun hHeld => ?_
    clear hK K
    refine tL 13 rfl (yB [(0, .const (.int .u8 4)), (7, .tmp 15), (3, .tmp 20), (2, .tmp 25)] (by rfl) rfl (bdHello _ _ _)) ?_
    refine r1 15 fun K hK => ?_
    refine sStT (.tmp 5) (.tmp 26) (by rfl) rfl gB { zeroT with ty := 4, uni := uB, seq := (r.adv l 2).val l 2, intv := ((r.adv l 2).adv l 2).val l 2 } _ rfl rfl rB ?_
    intro wC hgC rC
    replace rAc := rAc.grown hgC (fun e => by have := Option.some.inj e; omega)
    replace hN := NowS.fresh h hN hgC hgB
    clear hgC rB
    refine oK hK (by exact (hp.now hN).c) fun hHeld => ?_
    clear hK K
    refine dN ?_
    refine NoPanic.normal ?_
    clear hHeld
    have hpC := hp.now hN
    have c1 := hpC.c
    have hsz := hN.size
    have cB : wC.cell? ⟨gB, 67, none⟩ = some _ := (rC.cell 67).trans (tcells_get _)
    have fB := rC.frozen 67
    go_wp2_with (first
      | (have kk := b4; refine stT (.tmp 2) (.tmp 36) (by rfl) rfl gA (stamped { zeroT with ty := 4, uni := uB, seq := (r.adv l 2).val l 2, intv := ((r.adv l 2).adv l 2).val l 2 } a4 LS.length c4 LS) _ rfl rfl (rA3.grown (grownBy_setCell w4 gB 67 _) (fun e => by have := Option.some.inj e; omega)) ?_; intro w5 hg5 r5)
      | (have kk := b4; refine ldT (.tmp 5) (by rfl) rfl gB (stamped { zeroT with ty := 4, uni := uB, seq := (r.adv l 2).val l 2, intv := ((r.adv l 2).adv l 2).val l 2 } a4 LS.length c4 LS) rfl (rB3.tSt a4 LS.length c4 LS) ?_)
      | (go_at_call 79; have kk := told; refine (HST.out _ _ _ _ told hk3).mono ?_; rintro e w4 ⟨a4, c4, rfl, own4, b4⟩; have rA3 := rA2.below b4 rA2.lt; have rB3 := rB2.below b4 rB2.lt; have cB3 : w4.cell? ⟨gB, 67, none⟩ = some _ := (rB3.cell 67).trans (tcells_get _); have fB3 := rB3.frozen 67)
      | (go_at_call 78; refine (HW.out _ _ (hpC.below (ba _ _)) (hN.rd.below (ba _ _)) (new_src wC #[.int .u8 3]) (show wC.heap.size ≠ g by have := hN.size; omega)).mono ?_; rintro e w3 ⟨a3, c3, ps, n3, hn3, rfl, hk3, told, hn2⟩; have rA2 := (rAc.alloc (.cells #[.int .u8 3] 5)).nowS hn2 hgA; have rB2 := (rC.alloc (.cells #[.int .u8 3] 5)).nowS hn2 (by omega)))
    have e5 : w4.ownsRow w.heap.size 63 1 (.slice a4 LS.length c4) LS.length (wcells LS) := own_le own4 (by have := hn2.size; simp at this; omega)
    have e6 := own_keep e5 (grownBy_setCell w4 gB 67 (.slice a4 LS.length c4)) (.inl (fun e => own_ne own4 rB3 (by decide) e.symm))
    have rB5 := rB3.tSt a4 LS.length c4 LS
    have rA5 := rA3.grown (grownBy_setCell w4 gB 67 (.slice a4 LS.length c4)) (fun e => by have := Option.some.inj e; omega)
    have e7 := own_keep e6 hg5 (.inl (fun e => own_ne e6 rA5 (by decide) e.symm))
    exact bodyPost_ret (retCT rfl _ _ 0 rfl (lvT r5)) rfl ⟨⟨stamped { zeroT with ty := 4, uni := uB, seq := (r.adv l 2).val l 2, intv := ((r.adv l 2).adv l 2).val l 2 } a4 LS.length c4 LS, rfl, fun _ => hEK.out _ _ _, e7⟩, _, NowS.fresh h (NowS.fresh h (((hN.below (ba wC (.cells #[.int .u8 3] 5))).trans hn2).below b4) (grownBy_setCell w4 gB 67 _) hgB) hg5 a1⟩
  refine cE fun K hK => ?_
  refine sAlG infoTz (by rfl) rfl ?_
  intro gB wB b1 b2 b3 rB
  have hgB : w.heap.size ≤ gB := Nat.le_trans hN.size b1
  have hne : gA < gB := Nat.lt_of_lt_of_le rAc.lt b1
  replace rAc := rAc.below b3 rAc.lt
  replace hN := hN.below b3
  clear b1 b2 b3
  refine oK hK (by exact (hp.now hN).c) fun hHeld => ?_
  clear hK K
  refine r1 7 fun K hK => ?_
  go_simp
  refine (u16_r hN.rd).mono ?_
  rintro e w1 ⟨rfl, hn1⟩
  replace rAc := rAc.nowS hn1 hgA
  try replace rB := rB.nowS hn1 (by omega)
  replace hN := hN.trans hn1
  clear hn1
  refine oK hK (by exact (hp.now hN).c) fun hHeld => ?_
  clear hK K
  refine r1 12 fun K hK => ?_
  go_simp
  refine (u16_r hN.rd).mono ?_
  rintro e w1 ⟨rfl, hn1⟩
  replace rAc := rAc.nowS hn1 hgA
  try replace rB := rB.nowS hn1 (by omega)
  replace hN := hN.trans hn1
  clear hn1
  refine oK hK (by exact (hp.now hN).c) fun hHeld => ?_
  clear hK K
  refine tL 13 rfl (yB [(0, .const (.int .u8 4)), (7, .tmp 15), (3, .tmp 20), (2, .tmp 25)] (by rfl) rfl (bdHello _ _ _)) ?_
  refine r1 15 fun K hK => ?_
  refine sStT (.tmp 5) (.tmp 26) (by rfl) rfl gB { zeroT with ty := 4, uni := uB, seq := (r.adv l 2).val l 2, intv := ((r.adv l 2).adv l 2).val l 2 } _ rfl rfl rB ?_
  intro wC hgC rC
  replace rAc := rAc.grown hgC (fun e => by have := Option.some.inj e; omega)
  replace hN := NowS.fresh h hN hgC hgB
  clear hgC rB
  refine oK hK (by exact (hp.now hN).c) fun hHeld => ?_
  clear hK K
  refine dN ?_
  refine NoPanic.normal ?_
  clear hHeld
  have hpC := hp.now hN
  have c1 := hpC.c
  have hsz := hN.size
  have cB : wC.cell? ⟨gB, 67, none⟩ = some _ := (rC.cell 67).trans (tcells_get _)
  have fB := rC.frozen 67
  go_wp2_with (first
    | (have kk := b4; refine stT (.tmp 2) (.tmp 36) (by rfl) rfl gA (stamped { zeroT with ty := 4, uni := uB, seq := (r.adv l 2).val l 2, intv := ((r.adv l 2).adv l 2).val l 2 } a4 LS.length c4 LS) _ rfl rfl (rA3.grown (grownBy_setCell w4 gB 67 _) (fun e => by have := Option.some.inj e; omega)) ?_; intro w5 hg5 r5)
    | (have kk := b4; refine ldT (.tmp 5) (by rfl) rfl gB (stamped { zeroT with ty := 4, uni := uB, seq := (r.adv l 2).val l 2, intv := ((r.adv l 2).adv l 2).val l 2 } a4 LS.length c4 LS) rfl (rB3.tSt a4 LS.length c4 LS) ?_)
    | (go_at_call 79; have kk := told; refine (HST.out _ _ _ _ told hk3).mono ?_; rintro e w4 ⟨a4, c4, rfl, own4, b4⟩; have rA3 := rA2.below b4 rA2.lt; have rB3 := rB2.below b4 rB2.lt; have cB3 : w4.cell? ⟨gB, 67, none⟩ = some _ := (rB3.cell 67).trans (tcells_get _); have fB3 := rB3.frozen 67)
    | (go_at_call 78; refine (HW.out _ _ (hpC.below (ba _ _)) (hN.rd.below (ba _ _)) (new_src wC #[.int .u8 3]) (show wC.heap.size ≠ g by have := hN.size; omega)).mono ?_; rintro e w3 ⟨a3, c3, ps, n3, hn3, rfl, hk3, told, hn2⟩; have rA2 := (rAc.alloc (.cells #[.int .u8 3] 5)).nowS hn2 hgA; have rB2 := (rC.alloc (.cells #[.int .u8 3] 5)).nowS hn2 (by omega)))
  have e5 : w4.ownsRow w.heap.size 63 1 (.slice a4 LS.length c4) LS.length (wcells LS) := own_le own4 (by have := hn2.size; simp at this; omega)
  have e6 := own_keep e5 (grownBy_setCell w4 gB 67 (.slice a4 LS.length c4)) (.inl (fun e => own_ne own4 rB3 (by decide) e.symm))
  have rB5 := rB3.tSt a4 LS.length c4 LS
  have rA5 := rA3.grown (grownBy_setCell w4 gB 67 (.slice a4 LS.length c4)) (fun e => by have := Option.some.inj e; omega)
  have e7 := own_keep e6 hg5 (.inl (fun e => own_ne e6 rA5 (by decide) e.symm))
  exact bodyPost_ret (retCT rfl _ _ 0 rfl (lvT r5)) rfl ⟨⟨stamped { zeroT with ty := 4, uni := uB, seq := (r.adv l 2).val l 2, intv := ((r.adv l 2).adv l 2).val l 2 } a4 LS.length c4 LS, rfl, fun _ => hEK.out _ _ _, e7⟩, _, NowS.fresh h (NowS.fresh h (((hN.below (ba wC (.cells #[.int .u8 3] 5))).trans hn2).below b4) (grownBy_setCell w4 gB 67 _) hgB) hg5 a1⟩
end Go.Proofs.Ytognnfknbkedgaa
