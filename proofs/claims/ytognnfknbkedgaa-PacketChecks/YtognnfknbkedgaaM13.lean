/-
  The contract of routeReq of package packet.
-/
import Derived.Test.YtognnfknbkedgaaM12
namespace Go.Proofs.Ytognnfknbkedgaa
open Go.RowKit
set_option linter.unusedSimpArgs false
set_option maxRecDepth 20000
variable {bv : Option Addr}

theorem Mv.row {w w' : World} {P g k : Nat} {t : TypeId} {cs : List Value} (h : Mv w w' P g) (hr : Row w k t cs) (h1 : k ≠ P) (h2 : k ≠ g) : Row w' k t cs := (h.block k hr.lt h1 h2).trans hr
theorem Row.kind {w : World} {k : Nat} {t : TypeId} {cs : List Value} (hr : Row w k t cs) (h1 : t ≠ 105) (h2 : t ≠ 26) (h3 : t ≠ 24) : ∀ t' cs', Row w k t' cs' → t' ≠ 105 ∧ t' ≠ 26 ∧ t' ≠ 24 := fun t' cs' hr' => by
  unfold Row at hr hr'
  rw [hr] at hr'
  cases hr'
  exact ⟨h1, h2, h3⟩
section
variable {ops : Array Oper} {rest : List Oper} {op : Oper} {a : Act} {w : World} {Q : Exit → Act → World → Prop}
theorem stQt (x y : Operand) (hw : Region.wanted op (yielded ops a.tmps) = true) (ho : op.op = .store 30 x y) (b : Nat) (t : Tl) (q : Pr) (hx : a.eval x = .pointer (some ⟨b, 33, none⟩)) (hy : a.eval y = (Value.agg (qcells q).toArray)) (hr : Row w b 33 (tcells t))
    (h : ∀ W, w.grownBy W (some b) → Row W b 33 (tcells { t with pr := q }) → wpList Try.prog ops Q rest (a.put op.dst undef) W) : wpList Try.prog ops Q (op :: rest) a w :=
  stQ x y hw ho b 33 q hx hy (hr.thereMid (by rw [tcells_len]; omega)) (h _ (grownBy_setCells b _ _ _) (hr.tPr q))
theorem stIt (x y : Operand) (hw : Region.wanted op (yielded ops a.tmps) = true) (ho : op.op = .store 24 x y) (b : Nat) (t : Tl) (q : Id8) (hx : a.eval x = .pointer (some ⟨b, 9, none⟩)) (hy : a.eval y = .agg (icells q).toArray) (hr : Row w b 33 (tcells t))
    (h : ∀ W, w.grownBy W (some b) → Row W b 33 (tcells { t with id := q }) → wpList Try.prog ops Q rest (a.put op.dst undef) W) : wpList Try.prog ops Q (op :: rest) a w :=
  stI x y hw ho b 9 q hx hy (hr.thereMid (by rw [tcells_len]; omega)) (h _ (grownBy_setCells b _ _ _) (hr.tId q))
end
def rrB (s : St) (l : List UInt8) (r : RS) : Bool := if r.val l 1 = 0 then nsB l ((r.adv l 1).adv l 1) else prB s (r.val l 1) (pfP s (r.val l 1) ((r.adv l 1).val l 1) 0 l ((r.adv l 1).adv l 1)) l (pfR s (r.val l 1) ((r.adv l 1).val l 1) 0 l ((r.adv l 1).adv l 1))
def rrK (s : St) (l : List UInt8) (r : RS) : TK := if r.val l 1 = 0 then { zeroK with ty := 9, all := true } else { zeroK with ty := 9, pr := prQ s (r.val l 1) (pfP s (r.val l 1) ((r.adv l 1).val l 1) 0 l ((r.adv l 1).adv l 1)) l (pfR s (r.val l 1) ((r.adv l 1).val l 1) 0 l ((r.adv l 1).adv l 1)) }
theorem routeReq_0 {w : World} {P g : Nat} {l : List UInt8} {r : RS} {s : St} (hpar : Par w P (some g) s) (h : RdS w g bv l r) (hl : l.length ≤ 100000) (h0 : r.val l 1 = 0) :
    Calls Try.prog 62 #[.pointer (some ⟨P, 0, none⟩)] w fun e w' => SayR w { zeroK with ty := 9, all := true } (nsB l ((r.adv l 1).adv l 1)) e w' ∧ (∃ R, Par w' P R s) ∧ Mv w w' P g := by
  have hp := hpar.pg h
  have hlt := h.lt
  obtain ⟨ae, aeH⟩ : ∃ x, Hid (r.val l 1 = x) := ⟨_, rfl⟩
  obtain ⟨pl, plH⟩ : ∃ x, Hid ((r.adv l 1).val l 1 = x) := ⟨_, rfl⟩
  have hpl : pl < 256 := by have := val1_lt (r.adv l 1) l; rw [plH.out] at this; exact this
  have HU4 : Hid (∀ W, RdS W g bv l r → Calls Try.prog 47 #[.pointer (some ⟨g, 0, none⟩)] W fun e w' => e = .returned (.int .u8 (ae : Int)) ∧ NowS W w' g bv l (r.adv l 1)) := fun W h => by rw [← aeH.out]; exact u8_r h
  have HU9 : Hid (∀ W, RdS W g bv l (r.adv l 1) → Calls Try.prog 47 #[.pointer (some ⟨g, 0, none⟩)] W fun e w' => e = .returned (.int .u8 (pl : Int)) ∧ NowS W w' g bv l ((r.adv l 1).adv l 1)) := fun W h => by rw [← plH.out]; exact u8_r h
  obtain rfl : ae = 0 := aeH.out.symm.trans h0
  have HNS : Hid (∀ W, Pg W P g → RdS W g bv l ((r.adv l 1).adv l 1) → Calls Try.prog 84 #[.pointer (some ⟨P, 0, none⟩)] W fun e w' => e = .returned (.bool (nsB l ((r.adv l 1).adv l 1))) ∧ NowS W w' g bv l (wiR l ((r.adv l 1).adv l 1))) := fun W h1 h2 => noSource_any h1 h2 hl
  generalize nsB l ((r.adv l 1).adv l 1) = b at *
  clear h0 aeH plH
  go_enter Try.func62, Try.ntmps62
  go_wp2_with (refine alG infoTz (by rfl) rfl ?_; intro gA wA a1 a2 a3 rA)
  have hgA : gA ≠ g := by omega
  have hN : NowS w wA.drew g bv l r := ((h.below a3).now.after a3).below (bd _)
  have rAc := rA.below (bd _) rA.lt
  clear a3 rA
  refine wp_region_noPanic ?_
  refine wp_region_held_drew (S := fun W => W.cell? ⟨P, 11, none⟩ = some (.pointer (some ⟨g, 0, none⟩))) (by kernel_rfl) ((hp.now hN).c) (fun hHeld => ?_)
  refine tA 0 ?_
  refine tA 1 ?_
  refine tA 2 ?_
  refine tA 3 ?_
  refine tA 5 ?_
  refine tA 6 ?_
  refine tA 7 ?_
  refine tA 8 ?_
  refine r1 4 fun K hK => ?_
  go_simp
  refine (HU4.out _ hN.rd).mono ?_
  rintro e w1 ⟨rfl, hn1⟩
  replace rAc := rAc.nowS hn1 hgA
  replace hN := hN.trans hn1
  clear hn1
  refine oK hK (by exact (hp.now hN).c) fun hHeld => ?_
  clear hK K
  refine r1 9 fun K hK => ?_
  go_simp
  refine (HU9.out _ hN.rd).mono ?_
  rintro e w1 ⟨rfl, hn1⟩
  replace rAc := rAc.nowS hn1 hgA
  replace hN := hN.trans hn1
  clear hn1
  refine oK hK (by exact (hp.now hN).c) fun hHeld => ?_
  clear hK K
  refine tA 10 ?_
  refine tA 11 ?_
  refine tA 12 ?_
  refine dN ?_
  refine NoPanic.normal ?_
  clear hHeld HU4 HU9
  go_wp2_with (first
    | (have kk := rB; refine stT (.tmp 6) (.tmp 21) (by rfl) rfl gB { zeroT with ty := 9, all := true } _ rfl rfl rB ?_; intro wC hgC rC; have rAC := (rAc.below b3 rAc.lt).grown hgC (fun e => by have := Option.some.inj e; have := rAc.lt; omega); have cB : wC.cell? ⟨gB, 8, none⟩ = some (.bool true) := rC.cell 8)
    | (refine alG infoTz (by rfl) rfl ?_; intro gB wB b1 b2 b3 rB))
  have hgB : w.heap.size ≤ gB := Nat.le_trans hN.size b1
  have hAB : gA < gB := Nat.lt_of_lt_of_le rAc.lt b1
  have N1 : NowS w wC.drew g bv l ((r.adv l 1).adv l 1) := (NowS.fresh h (hN.below b3) hgC hgB).below (bd _)
  have rA1 := rAC.below (bd _) rAC.lt
  have rB1 := rC.below (bd _) rC.lt
  clear hgC b3 rB hN rAc rAC rC b1 b2
  refine wp_region_noPanic ?_
  refine wp_region_held_drew (S := fun W => Row W gB 33 (tcells { zeroT with ty := 9, all := true })) (by kernel_rfl) (rB1) (fun hHeld => ?_)
  refine tL 0 rfl (yT { zeroT with ty := 9, all := true } (fun W hW => hW) (by rfl) rfl rfl) ?_
  refine tA 1 ?_
  refine r1 2 fun K hK => ?_
  go_simp
  refine (HNS.out _ (hp.now N1) N1.rd).mono ?_
  rintro e w4 ⟨rfl, hn4⟩
  have rA4 := rA1.nowS hn4 hgA
  have rB4 := rB1.nowS hn4 (by omega)
  have N4 := N1.trans hn4
  refine oK hK (by exact rB4) fun hHeld => ?_
  clear hK K
  refine r1 3 fun K hK => ?_
  refine sStT (.tmp 2) (.tmp 24) (by rfl) rfl gA { zeroT with ty := 9, all := true } _ rfl rfl rA4 ?_
  intro w5 hg5 r5
  have rB5 := rB4.grown hg5 (fun e => by have := Option.some.inj e; omega)
  refine oK hK (by exact rB5) fun hHeld => ?_
  clear hK K
  refine tA 4 ?_
  refine dN ?_
  refine NoPanic.normal ?_
  go_wp2
  have N5 := NowS.fresh h N4 hg5 a1
  exact bodyPost_ret (retCT rfl _ _ 0 rfl (lvT r5)) rfl ⟨⟨{ zeroT with ty := 9, all := true }, rfl, fun _ => rfl, Stms.none _ _ _ rfl rfl rfl rfl⟩, ⟨_, hpar.now h N5⟩, Mv.ofNow N5⟩
theorem routeReq_1 {w : World} {P g : Nat} {l : List UInt8} {r : RS} {s : St} (hpar : Par w P (some g) s) (h : RdS w g bv l r) (hl : l.length ≤ 100000) (h0 : r.val l 1 ≠ 0) :
    Calls Try.prog 62 #[.pointer (some ⟨P, 0, none⟩)] w fun e w' => SayR w { zeroK with ty := 9, pr := prQ s (r.val l 1) (pfP s (r.val l 1) ((r.adv l 1).val l 1) 0 l ((r.adv l 1).adv l 1)) l (pfR s (r.val l 1) ((r.adv l 1).val l 1) 0 l ((r.adv l 1).adv l 1)) } (prB s (r.val l 1) (pfP s (r.val l 1) ((r.adv l 1).val l 1) 0 l ((r.adv l 1).adv l 1)) l (pfR s (r.val l 1) ((r.adv l 1).val l 1) 0 l ((r.adv l 1).adv l 1))) e w' ∧ (∃ R, Par w' P R s) ∧ Mv w w' P g := by
  have hp := hpar.pg h
  have hlt := h.lt
  obtain ⟨ae, aeH⟩ : ∃ x, Hid (r.val l 1 = x) := ⟨_, rfl⟩
  obtain ⟨pl, plH⟩ : ∃ x, Hid ((r.adv l 1).val l 1 = x) := ⟨_, rfl⟩
  have hpl : pl < 256 := by have := val1_lt (r.adv l 1) l; rw [plH.out] at this; exact this
  have HU4 : Hid (∀ W, RdS W g bv l r → Calls Try.prog 47 #[.pointer (some ⟨g, 0, none⟩)] W fun e w' => e = .returned (.int .u8 (ae : Int)) ∧ NowS W w' g bv l (r.adv l 1)) := fun W h => by rw [← aeH.out]; exact u8_r h
  have HU9 : Hid (∀ W, RdS W g bv l (r.adv l 1) → Calls Try.prog 47 #[.pointer (some ⟨g, 0, none⟩)] W fun e w' => e = .returned (.int .u8 (pl : Int)) ∧ NowS W w' g bv l ((r.adv l 1).adv l 1)) := fun W h => by rw [← plH.out]; exact u8_r h
  have hae : ((ae : Int) == 0) = false := by rw [aeH.out] at h0; simp; omega
  rw [aeH.out, plH.out]
  obtain ⟨dst, hd⟩ : ∃ d, pfP s ae pl 0 l ((r.adv l 1).adv l 1) = d := ⟨_, rfl⟩
  obtain ⟨rn, hr⟩ : ∃ d, pfR s ae pl 0 l ((r.adv l 1).adv l 1) = d := ⟨_, rfl⟩
  have HP : Hid (∀ W, Par W P (some g) s → RdS W g bv l ((r.adv l 1).adv l 1) → Calls Try.prog 85 #[.pointer (some ⟨P, 0, none⟩), .int .u8 (ae : Int), .int .i64 (pl : Int), .int .i64 0] W fun e w' => e = .returned (Value.agg (pcells dst).toArray) ∧ NowS W w' g bv l rn) := fun W h1 h2 => by rw [← hd, ← hr]; exact prefix_any ae pl 0 hpl (by decide) h1 h2
  rw [hd, hr]
  obtain ⟨q, hq⟩ : ∃ q, prQ s ae dst l rn = q := ⟨_, rfl⟩
  obtain ⟨b, hb⟩ : ∃ q, prB s ae dst l rn = q := ⟨_, rfl⟩
  have HQ : Hid (∀ W, Par W P (some g) s → RdS W g bv l rn → Calls Try.prog 87 #[.pointer (some ⟨P, 0, none⟩), .int .u8 (ae : Int), (Value.agg (pcells dst).toArray)] W (Paired W P g s q b)) := fun W h1 h2 => by rw [← hq, ← hb]; exact pair_any ae dst hl h1 h2
  rw [hq, hb]
  clear h0 aeH plH hd hr hq hb
  go_enter Try.func62, Try.ntmps62
  go_wp2_with (refine alG infoTz (by rfl) rfl ?_; intro gA wA a1 a2 a3 rA)
  have hgA : gA ≠ g := by omega
  have hN : NowS w wA.drew g bv l r := ((h.below a3).now.after a3).below (bd _)
  have rAc := rA.below (bd _) rA.lt
  clear a3 rA
  refine wp_region_noPanic ?_
  refine wp_region_held_drew (S := fun W => W.cell? ⟨P, 11, none⟩ = some (.pointer (some ⟨g, 0, none⟩))) (by kernel_rfl) ((hp.now hN).c) (fun hHeld => ?_)
  refine tA 0 ?_
  refine tA 1 ?_
  refine tA 2 ?_
  refine tA 3 ?_
  refine tA 5 ?_
  refine tA 6 ?_
  refine tA 7 ?_
  refine tA 8 ?_
  refine r1 4 fun K hK => ?_
  go_simp
  refine (HU4.out _ hN.rd).mono ?_
  rintro e w1 ⟨rfl, hn1⟩
  replace rAc := rAc.nowS hn1 hgA
  replace hN := hN.trans hn1
  clear hn1
  refine oK hK (by exact (hp.now hN).c) fun hHeld => ?_
  clear hK K
  refine r1 9 fun K hK => ?_
  go_simp
  refine (HU9.out _ hN.rd).mono ?_
  rintro e w1 ⟨rfl, hn1⟩
  replace rAc := rAc.nowS hn1 hgA
  replace hN := hN.trans hn1
  clear hn1
  refine oK hK (by exact (hp.now hN).c) fun hHeld => ?_
  clear hK K
  refine tA 10 ?_
  refine tA 11 ?_
  refine tA 12 ?_
  refine dN ?_
  refine NoPanic.normal ?_
  clear hHeld HU4 HU9
  go_wp2_with (first
    | (have kk := rB7; refine stT (.tmp 2) (.tmp 38) (by rfl) rfl gA { zeroT with ty := 9, pr := q } _ rfl rfl rA7 ?_; intro w8 hg8 r8)
    | (have kk := rB7; refine ldT (.tmp 6) (by rfl) rfl gB { zeroT with ty := 9, pr := q } rfl rB7 ?_)
    | (have kk := m6; refine stQt (.tmp 37) (.tmp 35) (by rfl) rfl gB { zeroT with ty := 9 } q rfl rfl rB6 ?_; intro w7 hg7 rB7; have rA7 := rA6.grown hg7 (fun e => by have := Option.some.inj e; omega))
    | (go_at_call 87; have kk := hn5; refine (HQ.out _ (hpar.now h N5) N5.rd).mono ?_; rintro e w6 ⟨rfl, ⟨R6, P6⟩, m6⟩; have rA6 := m6.row (rAC.nowS hn5 hgA) (by omega) hgA; have rB6 := m6.row (rC.nowS hn5 (by omega)) (by omega) (by omega))
    | (go_at_call 85; have kk := rC; refine (HP.out _ (hpar.now h N4) N4.rd).mono ?_; rintro e w5 ⟨rfl, hn5⟩; have N5 := N4.trans hn5)
    | (have kk := rB; refine stT (.tmp 6) (.tmp 21) (by rfl) rfl gB { zeroT with ty := 9 } _ rfl rfl rB ?_; intro wC hgC rC; have rAC := (rAc.below b3 rAc.lt).grown hgC (fun e => by have := Option.some.inj e; have := rAc.lt; omega); have cB : wC.cell? ⟨gB, 8, none⟩ = some (.bool false) := rC.cell 8; have hgB : w.heap.size ≤ gB := Nat.le_trans hN.size b1; have hAB : gA < gB := Nat.lt_of_lt_of_le rAc.lt b1; have hPl := hpar.lt; have N4 := NowS.fresh h (hN.below b3) hgC hgB)
    | (refine alG infoTz (by rfl) rfl ?_; intro gB wB b1 b2 b3 rB))
  have P7 := P6.fresh hg7 (rB6.kind (by decide) (by decide) (by decide))
  have P8 := P7.fresh hg8 (rA7.kind (by decide) (by decide) (by decide))
  exact bodyPost_ret (retCT rfl _ _ 0 rfl (lvT r8)) rfl ⟨⟨{ zeroT with ty := 9, pr := q }, rfl, fun _ => rfl, Stms.none _ _ _ rfl rfl rfl rfl⟩, ⟨_, P8⟩, (((Mv.ofNow N5).trans m6).fresh hg7 hgB).fresh hg8 a1⟩
end Go.Proofs.Ytognnfknbkedgaa

namespace Go.Proofs.Ytognnfknbkedgaa
open Go.RowKit
set_option linter.unusedSimpArgs false
set_option maxRecDepth 20000
variable {bv : Option Addr}

/-- At the end this frame for some x, and a world of which PP is known; no panic. -/
def MeetsE {α : Type} (F : α → Act) (PP : α → World → Prop) : Exit → Act → World → Prop
  | .normal, a, w => ∃ x, a = F x ∧ PP x w
  | _, _, _ => False
theorem region_ex {α : Type} {P : Program} {c : Code} {Q : Exit → Act → World → Prop} {a : Act} {w : World} {PP : α → World → Prop} (F : α → Act) (h1 : Code.wp P c (MeetsE F PP) a w) (h2 : ∀ x W, PP x W → Q .normal (F x) W) : Code.wp P c Q a w :=
  Code.wp_mono (fun e b v h => by
    cases e with
    | normal => obtain ⟨x, rfl, h⟩ := h; exact h2 x v h
    | _ => exact (h : False).elim) h1
theorem Row.rId {w : World} {g : Nat} {t : Tl} (hr : Row w g 33 (tcells t)) : w.rangeAt g 9 (icells t.id) := by
  have h := rangeAt_right hr.range (k := 9) rfl
  rw [Nat.zero_add] at h
  exact rangeAt_left h
def sqR (l : List UInt8) (r : RS) : RS := if (decide ((((r.adv l 1).adv l 1).adv l 2).val l 1 = 0) || decide ((idF l (((((r.adv l 1).adv l 1).adv l 2).adv l 1).adv l 1)).l = zeroI.l)) then ((((((r.adv l 1).adv l 1).adv l 2).adv l 1).adv l 1).adv l 8).bad else ((((((r.adv l 1).adv l 1).adv l 2).adv l 1).adv l 1).adv l 8)
def sqB (s : St) (l : List UInt8) (r : RS) : Bool := prB s (r.val l 1) (pfP s (r.val l 1) ((r.adv l 1).val l 1) 0 l (sqR l r)) l (pfR s (r.val l 1) ((r.adv l 1).val l 1) 0 l (sqR l r))
def sqK (s : St) (l : List UInt8) (r : RS) : TK := { zeroK with ty := 10, seq := ((r.adv l 1).adv l 1).val l 2, hops := (((r.adv l 1).adv l 1).adv l 2).val l 1, id := idF l (((((r.adv l 1).adv l 1).adv l 2).adv l 1).adv l 1), pr := prQ s (r.val l 1) (pfP s (r.val l 1) ((r.adv l 1).val l 1) 0 l (sqR l r)) l (pfR s (r.val l 1) ((r.adv l 1).val l 1) 0 l (sqR l r)) }
set_option maxHeartbeats 2000000 in
theorem seqnoReq_any {w : World} {P g : Nat} {l : List UInt8} {r : RS} {s : St} (hpar : Par w P (some g) s) (h : RdS w g bv l r) (hl : l.length ≤ 100000) :
    Calls Try.prog 63 #[.pointer (some ⟨P, 0, none⟩)] w fun e w' => SayR w (sqK s l r) (sqB s l r) e w' ∧ (∃ R, Par w' P R s) ∧ Mv w w' P g := by
  have hp := hpar.pg h
  have hlt := h.lt
  have hPl := hpar.lt
  unfold sqK sqB
  obtain ⟨r7, h7⟩ : ∃ x, sqR l r = x := ⟨_, rfl⟩
  rw [h7]
  obtain ⟨ae, aeH⟩ : ∃ x, Hid (r.val l 1 = x) := ⟨_, rfl⟩
  obtain ⟨pl, plH⟩ : ∃ x, Hid ((r.adv l 1).val l 1 = x) := ⟨_, rfl⟩
  obtain ⟨sq, sqH⟩ : ∃ x, Hid (((r.adv l 1).adv l 1).val l 2 = x) := ⟨_, rfl⟩
  obtain ⟨hp0, hp0H⟩ : ∃ x, Hid ((((r.adv l 1).adv l 1).adv l 2).val l 1 = x) := ⟨_, rfl⟩
  have hpl : pl < 256 := by have := val1_lt (r.adv l 1) l; rw [plH.out] at this; exact this
  have ypl : IntKind.i64.wrap (pl : Int) = (pl : Int) := by rw [IntKind.wrap_i64]; omega
  have HU4 : Hid (∀ W, RdS W g bv l r → Calls Try.prog 47 #[.pointer (some ⟨g, 0, none⟩)] W fun e w' => e = .returned (.int .u8 (ae : Int)) ∧ NowS W w' g bv l (r.adv l 1)) := fun W h => by rw [← aeH.out]; exact u8_r h
  have HU9 : Hid (∀ W, RdS W g bv l (r.adv l 1) → Calls Try.prog 47 #[.pointer (some ⟨g, 0, none⟩)] W fun e w' => e = .returned (.int .u8 (pl : Int)) ∧ NowS W w' g bv l ((r.adv l 1).adv l 1)) := fun W h => by rw [← plH.out]; exact u8_r h
  have HU4b : Hid (∀ W, RdS W g bv l ((r.adv l 1).adv l 1) → Calls Try.prog 48 #[.pointer (some ⟨g, 0, none⟩)] W fun e w' => e = .returned (.int .u16 (sq : Int)) ∧ NowS W w' g bv l (((r.adv l 1).adv l 1).adv l 2)) := fun W h => by rw [← sqH.out]; exact u16_r h
  have HU9b : Hid (∀ W, RdS W g bv l (((r.adv l 1).adv l 1).adv l 2) → Calls Try.prog 47 #[.pointer (some ⟨g, 0, none⟩)] W fun e w' => e = .returned (.int .u8 (hp0 : Int)) ∧ NowS W w' g bv l ((((r.adv l 1).adv l 1).adv l 2).adv l 1)) := fun W h => by rw [← hp0H.out]; exact u8_r h
  obtain ⟨i, hi⟩ : ∃ i, idF l (((((r.adv l 1).adv l 1).adv l 2).adv l 1).adv l 1) = i := ⟨_, rfl⟩
  have HI : Hid (∀ W, Pg W P g → RdS W g bv l (((((r.adv l 1).adv l 1).adv l 2).adv l 1).adv l 1) → Calls Try.prog 81 #[.pointer (some ⟨P, 0, none⟩)] W fun e w' => e = .returned (.agg (icells i).toArray) ∧ NowS W w' g bv l ((((((r.adv l 1).adv l 1).adv l 2).adv l 1).adv l 1).adv l 8)) := fun W h1 h2 => by rw [← hi]; exact id_any h1 h2
  have E7 : Hid (r7 = if decide (hp0 = 0) || decide (i.l = zeroI.l) then ((((((r.adv l 1).adv l 1).adv l 2).adv l 1).adv l 1).adv l 8).bad else ((((((r.adv l 1).adv l 1).adv l 2).adv l 1).adv l 1).adv l 8)) := by show _ = _; rw [← h7, ← hi, ← hp0H.out]; rfl
  have e0 : ∀ w, (Op.equalIn (9998 + 2) 24 (.agg (icells i).toArray) (.agg #[.int .u8 0, .int .u8 0, .int .u8 0, .int .u8 0, .int .u8 0, .int .u8 0, .int .u8 0, .int .u8 0])).run Try.prog w = .ok (decide (i.l = zeroI.l)) w := fun w => eqI 9998 i zeroI w
  obtain ⟨b2, hb2⟩ : ∃ b, decide (i.l = zeroI.l) = b := ⟨_, rfl⟩
  rw [hb2] at e0 E7
  rw [aeH.out, plH.out, sqH.out, hp0H.out, hi]
  obtain ⟨dst, hd⟩ : ∃ d, pfP s ae pl 0 l r7 = d := ⟨_, rfl⟩
  obtain ⟨rn, hr⟩ : ∃ d, pfR s ae pl 0 l r7 = d := ⟨_, rfl⟩
  have HP : Hid (∀ W, Par W P (some g) s → RdS W g bv l r7 → Calls Try.prog 85 #[.pointer (some ⟨P, 0, none⟩), .int .u8 (ae : Int), .int .i64 (pl : Int), .int .i64 0] W fun e w' => e = .returned (Value.agg (pcells dst).toArray) ∧ NowS W w' g bv l rn) := fun W h1 h2 => by rw [← hd, ← hr]; exact prefix_any ae pl 0 hpl (by decide) h1 h2
  rw [hd, hr]
  obtain ⟨q, hq⟩ : ∃ q, prQ s ae dst l rn = q := ⟨_, rfl⟩
  obtain ⟨b, hb⟩ : ∃ q, prB s ae dst l rn = q := ⟨_, rfl⟩
  have HQ : Hid (∀ W, Par W P (some g) s → RdS W g bv l rn → Calls Try.prog 87 #[.pointer (some ⟨P, 0, none⟩), .int .u8 (ae : Int), (Value.agg (pcells dst).toArray)] W (Paired W P g s q b)) := fun W h1 h2 => by rw [← hq, ← hb]; exact pair_any ae dst hl h1 h2
  rw [hq, hb]
  clear aeH plH sqH hp0H hd hr hq hb h7 hi hb2
  go_enter Try.func63, Try.ntmps63
  go_wp2_with (refine alG infoTz (by rfl) rfl ?_; intro gA wA a1 a2 a3 rA)
  have hgA : gA ≠ g := by omega
  have hN : NowS w wA.drew g bv l r := ((h.below a3).now.after a3).below (bd _)
  have rAc := rA.below (bd _) rA.lt
  clear a3 rA
  refine wp_region_noPanic ?_
  refine wp_region_held_drew (S := fun W => W.cell? ⟨P, 11, none⟩ = some (.pointer (some ⟨g, 0, none⟩))) (by kernel_rfl) ((hp.now hN).c) (fun hHeld => ?_)
  refine tA 0 ?_
  refine tA 1 ?_
  refine tA 2 ?_
  refine tA 3 ?_
  refine tA 5 ?_
  refine tA 6 ?_
  refine tA 7 ?_
  refine tA 8 ?_
  refine r1 4 fun K hK => ?_
  go_simp
  refine (HU4.out _ hN.rd).mono ?_
  rintro e w1 ⟨rfl, hn1⟩
  replace rAc := rAc.nowS hn1 hgA
  replace hN := hN.trans hn1
  clear hn1
  refine oK hK (by exact (hp.now hN).c) fun hHeld => ?_
  clear hK K
  refine r1 9 fun K hK => ?_
  go_simp
  refine (HU9.out _ hN.rd).mono ?_
  rintro e w1 ⟨rfl, hn1⟩
  replace rAc := rAc.nowS hn1 hgA
  replace hN := hN.trans hn1
  clear hn1
  refine oK hK (by exact (hp.now hN).c) fun hHeld => ?_
  clear hK K
  refine tA 10 ?_
  refine tA 11 ?_
  refine tA 12 ?_
  refine dN ?_
  refine NoPanic.normal ?_
  go_wp2
  clear hHeld HU4 HU9
  replace hN := hN.below (bd _)
  replace rAc := rAc.below (bd _) rAc.lt
  apply region_ex (PP := fun gB W => Row W gB 33 (tcells { zeroT with ty := 10, seq := sq, hops := hp0 }) ∧ Row W gA 33 (tcells zeroT) ∧ NowS w W g bv l ((((r.adv l 1).adv l 1).adv l 2).adv l 1) ∧ w.heap.size ≤ gB ∧ gA < gB)
  case h1 =>
    refine wp_region_held_drew (S := fun W => W.cell? ⟨P, 11, none⟩ = some (.pointer (some ⟨g, 0, none⟩))) (by kernel_rfl) ((hp.now hN).c) (fun hHeld => ?_)
    refine tA 0 ?_
    refine tA 1 ?_
    refine tA 2 ?_
    refine tA 3 ?_
    refine tA 5 ?_
    refine tA 6 ?_
    refine tA 7 ?_
    refine tA 8 ?_
    refine rM [4,11] ?_
    refine cL (fun K hK => ?_) ?_
    · skip
      go_simp
      refine (HU4b.out _ hN.rd).mono ?_
      rintro e w1 ⟨rfl, hn1⟩
      replace rAc := rAc.nowS hn1 hgA
      try replace rB := rB.nowS hn1 (by omega)
      replace hN := hN.trans hn1
      clear hn1
      refine oK hK (by exact (hp.now hN).c) fun hHeld => ?_
      clear hK K
      refine rM [9,11] ?_
      refine cL (fun K hK => ?_) ?_
      · skip
        go_simp
        refine (HU9b.out _ hN.rd).mono ?_
        rintro e w1 ⟨rfl, hn1⟩
        replace rAc := rAc.nowS hn1 hgA
        try replace rB := rB.nowS hn1 (by omega)
        replace hN := hN.trans hn1
        clear hn1
        refine oK hK (by exact (hp.now hN).c) fun hHeld => ?_
        clear hK K
        refine tL 10 rfl (yB [(0, .const (.int .u8 10)), (3, .tmp 23), (6, .tmp 28)] (by rfl) rfl (bdSreq _ _)) ?_
        refine r1 11 fun K hK => ?_
        refine sAlG infoTz (by rfl) rfl ?_
        intro gB wB b1 b2 b3 rB
        have hgB : w.heap.size ≤ gB := Nat.le_trans hN.size b1
        have hne : gA < gB := Nat.lt_of_lt_of_le rAc.lt b1
        replace rAc := rAc.below b3 rAc.lt
        replace hN := hN.below b3
        clear b1 b2 b3
        refine oK hK (by exact (hp.now hN).c) fun hHeld => ?_
        clear hK K
        refine r1 12 fun K hK => ?_
        refine sStT (.tmp 6) (.tmp 29) (by rfl) rfl gB { zeroT with ty := 10, seq := sq, hops := hp0 } _ rfl rfl rB ?_
        intro wC hgC rC
        replace rAc := rAc.grown hgC (fun e => by have := Option.some.inj e; omega)
        replace hN := NowS.fresh h hN hgC hgB
        refine oK hK (by exact (hp.now hN).c) fun hHeld => ?_
        clear hK K
        refine dN ?_
        exact ⟨gB, rfl, rC, rAc, hN, hgB, hne⟩
      refine cE fun K hK => ?_
      refine sAlG infoTz (by rfl) rfl ?_
      intro gB wB b1 b2 b3 rB
      have hgB : w.heap.size ≤ gB := Nat.le_trans hN.size b1
      have hne : gA < gB := Nat.lt_of_lt_of_le rAc.lt b1
      replace rAc := rAc.below b3 rAc.lt
      replace hN := hN.below b3
      clear b1 b2 b3
      refine oK hK (by exact (hp.now hN).c) fun hHeld => ?_
      clear hK K
      refine r1 9 fun K hK => ?_
      go_simp
      refine (HU9b.out _ hN.rd).mono ?_
      rintro e w1 ⟨rfl, hn1⟩
      replace rAc := rAc.nowS hn1 hgA
      try replace rB := rB.nowS hn1 (by omega)
      replace hN := hN.trans hn1
      clear hn1
      refine oK hK (by exact (hp.now hN).c) fun hHeld => ?_
      clear hK K
      refine tL 10 rfl (yB [(0, .const (.int .u8 10)), (3, .tmp 23), (6, .tmp 28)] (by rfl) rfl (bdSreq _ _)) ?_
      refine r1 12 fun K hK => ?_
      refine sStT (.tmp 6) (.tmp 29) (by rfl) rfl gB { zeroT with ty := 10, seq := sq, hops := hp0 } _ rfl rfl rB ?_
      intro wC hgC rC
      replace rAc := rAc.grown hgC (fun e => by have := Option.some.inj e; omega)
      replace hN := NowS.fresh h hN hgC hgB
      refine oK hK (by exact (hp.now hN).c) fun hHeld => ?_
      clear hK K
      refine dN ?_
      exact ⟨gB, rfl, rC, rAc, hN, hgB, hne⟩
    refine cE fun K hK => ?_
    refine sAlG infoTz (by rfl) rfl ?_
    intro gB wB b1 b2 b3 rB
    have hgB : w.heap.size ≤ gB := Nat.le_trans hN.size b1
    have hne : gA < gB := Nat.lt_of_lt_of_le rAc.lt b1
    replace rAc := rAc.below b3 rAc.lt
    replace hN := hN.below b3
    clear b1 b2 b3
    refine oK hK (by exact (hp.now hN).c) fun hHeld => ?_
    clear hK K
    refine r1 4 fun K hK => ?_
    go_simp
    refine (HU4b.out _ hN.rd).mono ?_
    rintro e w1 ⟨rfl, hn1⟩
    replace rAc := rAc.nowS hn1 hgA
    try replace rB := rB.nowS hn1 (by omega)
    replace hN := hN.trans hn1
    clear hn1
    refine oK hK (by exact (hp.now hN).c) fun hHeld => ?_
    clear hK K
    refine r1 9 fun K hK => ?_
    go_simp
    refine (HU9b.out _ hN.rd).mono ?_
    rintro e w1 ⟨rfl, hn1⟩
    replace rAc := rAc.nowS hn1 hgA
    try replace rB := rB.nowS hn1 (by omega)
    replace hN := hN.trans hn1
    clear hn1
    refine oK hK (by exact (hp.now hN).c) fun hHeld => ?_
    clear hK K
    refine tL 10 rfl (yB [(0, .const (.int .u8 10)), (3, .tmp 23), (6, .tmp 28)] (by rfl) rfl (bdSreq _ _)) ?_
    refine r1 12 fun K hK => ?_
    refine sStT (.tmp 6) (.tmp 29) (by rfl) rfl gB { zeroT with ty := 10, seq := sq, hops := hp0 } _ rfl rfl rB ?_
    intro wC hgC rC
    replace rAc := rAc.grown hgC (fun e => by have := Option.some.inj e; omega)
    replace hN := NowS.fresh h hN hgC hgB
    refine oK hK (by exact (hp.now hN).c) fun hHeld => ?_
    clear hK K
    refine dN ?_
    exact ⟨gB, rfl, rC, rAc, hN, hgB, hne⟩
  case h2 =>
  clear hN rAc HU4b HU9b
  rintro gB wC ⟨rC, rAC, hN, hgB, hAB⟩
  have cR := (hp.now hN).c
  by_cases q0 : hp0 = 0
  · have q0' : ((hp0 : Int) == 0) = true := by simp [q0]
    obtain rfl : r7 = ((((((r.adv l 1).adv l 1).adv l 2).adv l 1).adv l 1).adv l 8).bad := by rw [E7.out]; simp [q0]
    clear E7 q0
    go_wp2_with (first
      | (have kk := rB7; refine stT (.tmp 2) (.tmp 60) (by rfl) rfl gA { zeroT with ty := 10, seq := sq, hops := hp0, id := i, pr := q } _ rfl rfl rA7 ?_; intro w8 hg8 r8)
      | (have kk := rB7; refine ldT (.tmp 6) (by rfl) rfl gB { zeroT with ty := 10, seq := sq, hops := hp0, id := i, pr := q } rfl rB7 ?_)
      | (have kk := m6; refine stQt (.tmp 59) (.tmp 57) (by rfl) rfl gB { zeroT with ty := 10, seq := sq, hops := hp0, id := i } q rfl rfl rB6 ?_; intro w7 hg7 rB7; have rA7 := rA6.grown hg7 (fun e => by have := Option.some.inj e; omega))
      | (go_at_call 87; have kk := hn5; refine (HQ.out _ (hpar.now h N5) N5.rd).mono ?_; rintro e w6 ⟨rfl, ⟨R6, P6⟩, m6⟩; have rA6 := m6.row (rAE.nowS hn5 hgA) (by omega) hgA; have rB6 := m6.row (rBE.nowS hn5 (by omega)) (by omega) (by omega))
      | (go_at_call 85; have kk := NE; refine (HP.out _ (hpar.now h NE) NE.rd).mono ?_; rintro e w5 ⟨rfl, hn5⟩; have N5 := NE.trans hn5)
      | (go_at_call 83; have kk := rI; refine (bad_any (hp.now N3) N3.rd).mono ?_; rintro e wE ⟨rfl, hnE⟩; have NE := N3.trans hnE; have rAE := rA3.nowS hnE hgA; have rBE := rI.nowS hnE (by omega))
      | (refine ldI (.tmp 42) (by rfl) rfl gB 9 i rfl rI.rId ?_)
      | (have kk := hnI; refine stIt (.tmp 37) (.tmp 36) (by rfl) rfl gB { zeroT with ty := 10, seq := sq, hops := hp0 } i rfl rfl rB2 ?_; intro w3 hg3 rI; have rA3 := rA2.grown hg3 (fun e => by have := Option.some.inj e; omega); have N3 := NowS.fresh h (N1.trans hnI) hg3 hgB; have cH : w3.cell? ⟨gB, 6, none⟩ = some (.int .u8 (hp0 : Int)) := rI.cell 6)
      | (go_at_call 81; have kk := hn1; refine (HI.out _ (hp.now N1) N1.rd).mono ?_; rintro e w2 ⟨rfl, hnI⟩; have rA2 := (rAC.nowS hn1 hgA).nowS hnI hgA; have rB2 := (rC.nowS hn1 (by omega)).nowS hnI (by omega))
      | (go_at_call 47; refine (u8_r hN.rd).mono ?_; rintro e w1 ⟨rfl, hn1⟩; have N1 := hN.trans hn1))
    have P7 := P6.fresh hg7 (rB6.kind (by decide) (by decide) (by decide))
    have P8 := P7.fresh hg8 (rA7.kind (by decide) (by decide) (by decide))
    exact bodyPost_ret (retCT rfl _ _ 0 rfl (lvT r8)) rfl ⟨⟨{ zeroT with ty := 10, seq := sq, hops := hp0, id := i, pr := q }, rfl, fun _ => rfl, Stms.none _ _ _ rfl rfl rfl rfl⟩, ⟨_, P8⟩, (((Mv.ofNow N5).trans m6).fresh hg7 hgB).fresh hg8 a1⟩
  · have q0' : ((hp0 : Int) == 0) = false := by simp; omega
    cases b2
    · obtain rfl : r7 = ((((((r.adv l 1).adv l 1).adv l 2).adv l 1).adv l 1).adv l 8) := by rw [E7.out]; simp [q0]
      clear E7 q0
      go_wp2_with (first
        | (have kk := rB7; refine stT (.tmp 2) (.tmp 60) (by rfl) rfl gA { zeroT with ty := 10, seq := sq, hops := hp0, id := i, pr := q } _ rfl rfl rA7 ?_; intro w8 hg8 r8)
        | (have kk := rB7; refine ldT (.tmp 6) (by rfl) rfl gB { zeroT with ty := 10, seq := sq, hops := hp0, id := i, pr := q } rfl rB7 ?_)
        | (have kk := m6; refine stQt (.tmp 59) (.tmp 57) (by rfl) rfl gB { zeroT with ty := 10, seq := sq, hops := hp0, id := i } q rfl rfl rB6 ?_; intro w7 hg7 rB7; have rA7 := rA6.grown hg7 (fun e => by have := Option.some.inj e; omega))
        | (go_at_call 87; have kk := hn5; refine (HQ.out _ (hpar.now h N5) N5.rd).mono ?_; rintro e w6 ⟨rfl, ⟨R6, P6⟩, m6⟩; have rA6 := m6.row (rAE.nowS hn5 hgA) (by omega) hgA; have rB6 := m6.row (rBE.nowS hn5 (by omega)) (by omega) (by omega))
        | (go_at_call 85; have kk := NE; refine (HP.out _ (hpar.now h NE) NE.rd).mono ?_; rintro e w5 ⟨rfl, hn5⟩; have N5 := NE.trans hn5)
        | (refine ldI (.tmp 42) (by rfl) rfl gB 9 i rfl rI.rId ?_)
        | (have kk := hnI; refine stIt (.tmp 37) (.tmp 36) (by rfl) rfl gB { zeroT with ty := 10, seq := sq, hops := hp0 } i rfl rfl rB2 ?_; intro w3 hg3 rI; have rA3 := rA2.grown hg3 (fun e => by have := Option.some.inj e; omega); have N3 := NowS.fresh h (N1.trans hnI) hg3 hgB; have cH : w3.cell? ⟨gB, 6, none⟩ = some (.int .u8 (hp0 : Int)) := rI.cell 6; have NE := N3; have rAE := rA3; have rBE := rI)
        | (go_at_call 81; have kk := hn1; refine (HI.out _ (hp.now N1) N1.rd).mono ?_; rintro e w2 ⟨rfl, hnI⟩; have rA2 := (rAC.nowS hn1 hgA).nowS hnI hgA; have rB2 := (rC.nowS hn1 (by omega)).nowS hnI (by omega))
        | (go_at_call 47; refine (u8_r hN.rd).mono ?_; rintro e w1 ⟨rfl, hn1⟩; have N1 := hN.trans hn1))
      have P7 := P6.fresh hg7 (rB6.kind (by decide) (by decide) (by decide))
      have P8 := P7.fresh hg8 (rA7.kind (by decide) (by decide) (by decide))
      exact bodyPost_ret (retCT rfl _ _ 0 rfl (lvT r8)) rfl ⟨⟨{ zeroT with ty := 10, seq := sq, hops := hp0, id := i, pr := q }, rfl, fun _ => rfl, Stms.none _ _ _ rfl rfl rfl rfl⟩, ⟨_, P8⟩, (((Mv.ofNow N5).trans m6).fresh hg7 hgB).fresh hg8 a1⟩
    · obtain rfl : r7 = ((((((r.adv l 1).adv l 1).adv l 2).adv l 1).adv l 1).adv l 8).bad := by rw [E7.out]; simp
      clear E7 q0
      go_wp2_with (first
        | (have kk := rB7; refine stT (.tmp 2) (.tmp 60) (by rfl) rfl gA { zeroT with ty := 10, seq := sq, hops := hp0, id := i, pr := q } _ rfl rfl rA7 ?_; intro w8 hg8 r8)
        | (have kk := rB7; refine ldT (.tmp 6) (by rfl) rfl gB { zeroT with ty := 10, seq := sq, hops := hp0, id := i, pr := q } rfl rB7 ?_)
        | (have kk := m6; refine stQt (.tmp 59) (.tmp 57) (by rfl) rfl gB { zeroT with ty := 10, seq := sq, hops := hp0, id := i } q rfl rfl rB6 ?_; intro w7 hg7 rB7; have rA7 := rA6.grown hg7 (fun e => by have := Option.some.inj e; omega))
        | (go_at_call 87; have kk := hn5; refine (HQ.out _ (hpar.now h N5) N5.rd).mono ?_; rintro e w6 ⟨rfl, ⟨R6, P6⟩, m6⟩; have rA6 := m6.row (rAE.nowS hn5 hgA) (by omega) hgA; have rB6 := m6.row (rBE.nowS hn5 (by omega)) (by omega) (by omega))
        | (go_at_call 85; have kk := NE; refine (HP.out _ (hpar.now h NE) NE.rd).mono ?_; rintro e w5 ⟨rfl, hn5⟩; have N5 := NE.trans hn5)
        | (go_at_call 83; have kk := rI; refine (bad_any (hp.now N3) N3.rd).mono ?_; rintro e wE ⟨rfl, hnE⟩; have NE := N3.trans hnE; have rAE := rA3.nowS hnE hgA; have rBE := rI.nowS hnE (by omega))
        | (refine ldI (.tmp 42) (by rfl) rfl gB 9 i rfl rI.rId ?_)
        | (have kk := hnI; refine stIt (.tmp 37) (.tmp 36) (by rfl) rfl gB { zeroT with ty := 10, seq := sq, hops := hp0 } i rfl rfl rB2 ?_; intro w3 hg3 rI; have rA3 := rA2.grown hg3 (fun e => by have := Option.some.inj e; omega); have N3 := NowS.fresh h (N1.trans hnI) hg3 hgB; have cH : w3.cell? ⟨gB, 6, none⟩ = some (.int .u8 (hp0 : Int)) := rI.cell 6)
        | (go_at_call 81; have kk := hn1; refine (HI.out _ (hp.now N1) N1.rd).mono ?_; rintro e w2 ⟨rfl, hnI⟩; have rA2 := (rAC.nowS hn1 hgA).nowS hnI hgA; have rB2 := (rC.nowS hn1 (by omega)).nowS hnI (by omega))
        | (go_at_call 47; refine (u8_r hN.rd).mono ?_; rintro e w1 ⟨rfl, hn1⟩; have N1 := hN.trans hn1))
      have P7 := P6.fresh hg7 (rB6.kind (by decide) (by decide) (by decide))
      have P8 := P7.fresh hg8 (rA7.kind (by decide) (by decide) (by decide))
      exact bodyPost_ret (retCT rfl _ _ 0 rfl (lvT r8)) rfl ⟨⟨{ zeroT with ty := 10, seq := sq, hops := hp0, id := i, pr := q }, rfl, fun _ => rfl, Stms.none _ _ _ rfl rfl rfl rfl⟩, ⟨_, P8⟩, (((Mv.ofNow N5).trans m6).fresh hg7 hgB).fresh hg8 a1⟩
end Go.Proofs.Ytognnfknbkedgaa
