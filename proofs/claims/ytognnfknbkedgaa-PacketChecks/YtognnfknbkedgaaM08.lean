/-
  The contracts of nobody, routerId and nextHop of package packet.
-/
import Derived.Test.YtognnfknbkedgaaM07
namespace Go.Proofs.Ytognnfknbkedgaa
open Go.RowKit
set_option linter.unusedSimpArgs false
set_option maxRecDepth 20000
variable {bv : Option Addr}

/-- Nothing that was there has turned but the parser and its reader. -/
structure Mv (w w' : World) (P g : Nat) : Prop where
  os : w'.os = w.os
  tape : w'.tape = w.tape
  output : w'.output = w.output
  size : w.heap.size ≤ w'.heap.size
  block : ∀ k, k < w.heap.size → k ≠ P → k ≠ g → w'.heap[k]? = w.heap[k]?
theorem Mv.refl (w : World) (P g : Nat) : Mv w w P g := ⟨rfl, rfl, rfl, Nat.le_refl _, fun _ _ _ _ => rfl⟩
theorem Mv.ofG {w w' : World} {P g : Nat} (h : w.grownBy w' (some g)) : Mv w w' P g := ⟨h.os, h.tape, h.output, h.size, fun k hk _ h2 => h.block k hk (fun e => h2 (Option.some.inj e))⟩
theorem Mv.ofP {w w' : World} {P g : Nat} (h : w.grownBy w' (some P)) : Mv w w' P g := ⟨h.os, h.tape, h.output, h.size, fun k hk h1 _ => h.block k hk (fun e => h1 (Option.some.inj e))⟩
theorem Mv.ofNow {w w' : World} {P g : Nat} {l : List UInt8} {r : RS} (h : NowS w w' g bv l r) : Mv w w' P g := Mv.ofG h.grown
theorem Mv.ofB {w w' : World} {P g : Nat} (h : Below w.heap.size w w') : Mv w w' P g := ⟨h.os, h.tape, h.output, h.size, fun k hk _ _ => h.block k hk⟩
theorem Mv.trans {a b c : World} {P g : Nat} (h : Mv a b P g) (k : Mv b c P g) : Mv a c P g := ⟨k.os.trans h.os, k.tape.trans h.tape, k.output.trans h.output, Nat.le_trans h.size k.size, fun i hi h1 h2 => (k.block i (Nat.lt_of_lt_of_le hi h.size) h1 h2).trans (h.block i hi h1 h2)⟩
theorem Mv.fresh {w w1 w2 : World} {P g k : Nat} (h : Mv w w1 P g) (hg : w1.grownBy w2 (some k)) (hk : w.heap.size ≤ k) : Mv w w2 P g := ⟨hg.os.trans h.os, hg.tape.trans h.tape, hg.output.trans h.output, Nat.le_trans h.size hg.size, fun i hi h1 h2 => (hg.block i (Nat.lt_of_lt_of_le hi h.size) (fun e => by have := Option.some.inj e; omega)).trans (h.block i hi h1 h2)⟩
theorem Mv.setP {w w1 : World} {P g : Nat} (h : Mv w w1 P g) (j : Nat) (v : Value) : Mv w (w1.setCell ⟨P, j, none⟩ v) P g := h.trans (Mv.ofP (grownBy_setCell w1 P j v))
/-- A reader that is new: then only the parser has turned. -/
theorem Mv.low {w w1 w2 : World} {P g : Nat} (h : Mv w1 w2 P g) (hb : Below w.heap.size w w1) (hg : w.heap.size ≤ g) : w.grownBy w2 (some P) :=
  ⟨h.os.trans hb.os, h.tape.trans hb.tape, h.output.trans hb.output, Nat.le_trans hb.size h.size, fun k hk hne => (h.block k (Nat.lt_of_lt_of_le hk hb.size) (fun e => hne (by rw [e])) (fun e => by omega)).trans (hb.block k hk)⟩

theorem nobody_any (i : Id8) (w : World) : Calls Try.prog 70 #[.agg (icells i).toArray] w (Gives w (.bool (nobB i))) := by
  have e0 : ∀ w, (Op.equalIn (9998 + 2) 24 (.agg (icells i).toArray) (.agg #[.int .u8 0, .int .u8 0, .int .u8 0, .int .u8 0, .int .u8 0, .int .u8 0, .int .u8 0, .int .u8 0])).run Try.prog w = .ok (decide (i.l = zeroI.l)) w := fun w => eqI 9998 i zeroI w
  have e1 : ∀ w, (Op.equalIn (9998 + 2) 24 (.agg (icells i).toArray) (.agg #[.int .u8 255, .int .u8 255, .int .u8 255, .int .u8 255, .int .u8 255, .int .u8 255, .int .u8 255, .int .u8 255])).run Try.prog w = .ok (decide (i.l = fullI.l)) w := fun w => eqI 9998 i fullI w
  have R := Row.new w 24 (icells i)
  unfold nobB
  generalize decide (i.l = zeroI.l) = b0 at *
  generalize decide (i.l = fullI.l) = b1 at *
  cases b0
  all_goals
    go_enter Try.func70, Try.ntmps70
    go_wp2_with (refine ldI (.tmp 1) (by rfl) rfl w.heap.size 0 i rfl R.range ?_)
    go_ret
    exact ⟨rfl, ba _ _⟩

/-- What a TypeRouterId makes. -/
def riS (s : St) (l : List UInt8) (r : RS) : St := if (((r.adv l 2).adv l 8).y == 0) && !(nobB (idF l (r.adv l 2))) then { s with r := some (idF l (r.adv l 2)) } else s
theorem routerId_any {w : World} {P g : Nat} {l : List UInt8} {r : RS} {s : St} (hpar : Par w P (some g) s) (h : RdS w g bv l r) :
    Calls Try.prog 59 #[.pointer (some ⟨P, 0, none⟩)] w fun e w' => e = .returned (.tuple #[]) ∧ Par w' P (some g) (riS s l r) ∧ Mv w w' P g := by
  have hp := hpar.pg h
  have hlt := h.lt
  have H0 := h
  have c0 := hp.c
  unfold riS
  obtain ⟨i, hi⟩ : ∃ i, idF l (r.adv l 2) = i := ⟨_, rfl⟩
  have HI : Hid (∀ W, Pg W P g → RdS W g bv l (r.adv l 2) → Calls Try.prog 81 #[.pointer (some ⟨P, 0, none⟩)] W fun e w' => e = .returned (.agg (icells i).toArray) ∧ NowS W w' g bv l ((r.adv l 2).adv l 8)) := fun W h1 h2 => by rw [← hi]; exact id_any h1 h2
  have HN := nobody_any i
  rw [hi]
  obtain ⟨b1, hb1⟩ : ∃ b, (((r.adv l 2).adv l 8).y == 0) = b := ⟨_, rfl⟩
  have HW : Hid (∀ W, Pg W P g → RdS W g bv l ((r.adv l 2).adv l 8) → Calls Try.prog 82 #[.pointer (some ⟨P, 0, none⟩)] W fun e w' => e = .returned (.bool b1) ∧ NowS W w' g bv l ((r.adv l 2).adv l 8)) := fun W h1 h2 => by rw [← hb1]; exact well_any h1 h2
  rw [hb1]
  generalize nobB i = b2 at *
  clear hi hb1
  cases b1
  · go_enter Try.func59, Try.ntmps59
    go_wp2_with (first
      | (go_at_call 82; have kk := rB; refine (HW.out _ (hp.now N3) N3.rd).mono ?_; rintro e w4 ⟨rfl, hn4⟩)
      | (have kk := rA; refine stI0 (.tmp 2) (.tmp 9) (by rfl) rfl gA i _ (icells_len _) rfl rfl rA ?_; intro w3 hg3 rB; have N3 : NowS w w3 g bv l ((r.adv l 2).adv l 8) := NowS.fresh h ((hn1.trans hn2).below a3) hg3 (by have := hn1.size; have := hn2.size; omega))
      | (have kk := hn2; refine alG infoIz (by rfl) rfl ?_; intro gA wA a1 a2 a3 rA)
      | (go_at_call 81; refine (HI.out _ (hp.now hn1) hn1.rd).mono ?_; rintro e w2 ⟨rfl, hn2⟩)
      | (go_at_call 48; refine (u16_r h).mono ?_; rintro e w1 ⟨rfl, hn1⟩))
    go_end0
    exact ⟨rfl, hpar.now H0 (N3.trans hn4), Mv.ofNow (N3.trans hn4)⟩
  · cases b2
    · go_enter Try.func59, Try.ntmps59
      go_wp2_with (first
        | (refine ldI (.tmp 2) (by rfl) rfl gA 0 i rfl rC.range ?_)
        | (go_at_call 70; refine (HN _).mono ?_; rintro e w5 ⟨rfl, hb5⟩; have rD := rC.below hb5 rC.lt; have P5 := (hpar.now h (N3.trans hn4)).below hb5; have f5 := P5.frozen 0; obtain ⟨⟨v5, c5, _⟩, _⟩ := P5.at)
        | (go_at_call 82; have kk := rB; refine (HW.out _ (hp.now N3) N3.rd).mono ?_; rintro e w4 ⟨rfl, hn4⟩; have rC := rB.nowS hn4 (by have := hn1.size; have := hn2.size; omega))
        | (have kk := rA; refine stI0 (.tmp 2) (.tmp 9) (by rfl) rfl gA i _ (icells_len _) rfl rfl rA ?_; intro w3 hg3 rB; have N3 : NowS w w3 g bv l ((r.adv l 2).adv l 8) := NowS.fresh h ((hn1.trans hn2).below a3) hg3 (by have := hn1.size; have := hn2.size; omega))
        | (have kk := hn2; refine alG infoIz (by rfl) rfl ?_; intro gA wA a1 a2 a3 rA)
        | (go_at_call 81; refine (HI.out _ (hp.now hn1) hn1.rd).mono ?_; rintro e w2 ⟨rfl, hn2⟩)
        | (go_at_call 48; refine (u16_r h).mono ?_; rintro e w1 ⟨rfl, hn1⟩))
      go_end0
      exact ⟨rfl, P5.setRt rD, ((Mv.ofNow (N3.trans hn4)).trans (Mv.ofB hb5)).setP _ _⟩
    · go_enter Try.func59, Try.ntmps59
      go_wp2_with (first
        | (refine ldI (.tmp 2) (by rfl) rfl gA 0 i rfl rC.range ?_)
        | (go_at_call 70; refine (HN _).mono ?_; rintro e w5 ⟨rfl, hb5⟩)
        | (go_at_call 82; have kk := rB; refine (HW.out _ (hp.now N3) N3.rd).mono ?_; rintro e w4 ⟨rfl, hn4⟩; have rC := rB.nowS hn4 (by have := hn1.size; have := hn2.size; omega))
        | (have kk := rA; refine stI0 (.tmp 2) (.tmp 9) (by rfl) rfl gA i _ (icells_len _) rfl rfl rA ?_; intro w3 hg3 rB; have N3 : NowS w w3 g bv l ((r.adv l 2).adv l 8) := NowS.fresh h ((hn1.trans hn2).below a3) hg3 (by have := hn1.size; have := hn2.size; omega))
        | (have kk := hn2; refine alG infoIz (by rfl) rfl ?_; intro gA wA a1 a2 a3 rA)
        | (go_at_call 81; refine (HI.out _ (hp.now hn1) hn1.rd).mono ?_; rintro e w2 ⟨rfl, hn2⟩)
        | (go_at_call 48; refine (u16_r h).mono ?_; rintro e w1 ⟨rfl, hn1⟩))
      go_end0
      exact ⟨rfl, (hpar.now H0 (N3.trans hn4)).below hb5, (Mv.ofNow (N3.trans hn4)).trans (Mv.ofB hb5)⟩

/-- What a TypeNextHop makes. -/
def nhR (l : List UInt8) (r : RS) : RS := if r.val l 1 = 0 then ((r.adv l 1).adv l 1).bad else (r.adv l 1).adv l 1
def setHop (s : St) (f : Int) (a : Ad) : St := if f = 4 then { s with h4 := some a } else { s with h6 := some a }
def nhS (s : St) (l : List UInt8) (r : RS) : St := if (adN (r.val l 1) l (nhR l r)).y = 0 then setHop s (famA (adA (r.val l 1) l (nhR l r))) (adA (r.val l 1) l (nhR l r)) else s
theorem fam_or (a : Ad) : famA a = 4 ∨ famA a = 6 := by unfold famA; split <;> simp
theorem nextHop_any {w : World} {P g : Nat} {l : List UInt8} {r : RS} {s : St} (hpar : Par w P (some g) s) (h : RdS w g bv l r) :
    Calls Try.prog 60 #[.pointer (some ⟨P, 0, none⟩)] w fun e w' => e = .returned (.tuple #[]) ∧ Par w' P (some g) (nhS s l r) ∧ Mv w w' P g := by
  have hp := hpar.pg h
  have hlt := h.lt
  have H0 := h
  have c0 := hp.c
  have hae := val1_lt r l
  have HU1 : Hid (Calls Try.prog 47 #[.pointer (some ⟨g, 0, none⟩)] w fun e w' => e = .returned (.int .u8 (r.val l 1)) ∧ NowS w w' g bv l (r.adv l 1)) := u8_r h
  obtain ⟨rb, hrb⟩ : ∃ rb, nhR l r = rb := ⟨_, rfl⟩
  have hrb0 : Hid ((r.val l 1 = 0 → rb = ((r.adv l 1).adv l 1).bad) ∧ (r.val l 1 ≠ 0 → rb = (r.adv l 1).adv l 1)) := by
    unfold nhR at hrb
    constructor
    · intro h0; rw [if_pos h0] at hrb; exact hrb.symm
    · intro h0; rw [if_neg h0] at hrb; exact hrb.symm
  unfold nhS
  rw [hrb]
  generalize r.val l 1 = ae at *
  obtain ⟨A, hA⟩ : ∃ A, adA ae l rb = A := ⟨_, rfl⟩
  obtain ⟨rn, hrn⟩ : ∃ A, adN ae l rb = A := ⟨_, rfl⟩
  have HA : Hid (∀ W, Pg W P g → RdS W g bv l rb → Calls Try.prog 80 #[.pointer (some ⟨P, 0, none⟩), .int .u8 (ae : Int)] W fun e w' => e = .returned (Value.agg (acells A).toArray) ∧ NowS W w' g bv l rn) := fun W h1 h2 => by rw [← hA, ← hrn]; exact address_any ae hae h1 h2
  rw [hA, hrn]
  have HF := fam_any A
  have hf := fam_or A
  generalize famA A = f at *
  have HW : Hid (∀ W, Pg W P g → RdS W g bv l rn → Calls Try.prog 82 #[.pointer (some ⟨P, 0, none⟩)] W fun e w' => e = .returned (.bool (rn.y == 0)) ∧ NowS W w' g bv l rn) := fun W h1 h2 => well_any h1 h2
  clear hrb hA hrn
  -- the road to the address, with or without 'bad'
  have road : ∀ (K : Prop), True := fun _ => trivial
  clear road
  by_cases hy : rn.y = 0
  · have hy' : (rn.y == 0) = true := by simpa using hy
    rw [hy'] at HW
    rw [if_pos hy]
    clear hy hy'
    by_cases h0 : ae = 0
    · subst h0
      have e0 := hrb0.out.1 rfl
      subst e0
      clear hrb0
      go_enter Try.func60, Try.ntmps60
      go_wp2_with (first
        | (go_at_call 82; have kk := rB; refine (HW.out _ (hp.now N5) N5.rd).mono ?_; rintro e w6 ⟨rfl, hn6⟩; have rC := rB.nowS hn6 (by omega))
        | (have kk := rA; refine stA0 (.tmp 3) (.tmp 20) (by rfl) rfl gA A _ (acells_len _) rfl rfl rA ?_; intro w5 hg5 rB; have hsz : w.heap.size ≤ gA := (Nat.le_trans hN4.size a1); have N5 : NowS w w5 g bv l rn := NowS.fresh h (hN4.below a3) hg5 hsz)
        | (have kk := hN4; refine alG infoAz (by rfl) rfl ?_; intro gA wA a1 a2 a3 rA)
        | (go_at_call 80; have kk := hN; refine (HA.out _ (hp.now hN) hN.rd).mono ?_; rintro e w4 ⟨rfl, hn4⟩; have hN4 := hN.trans hn4)
        | (go_at_call 83; refine (bad_any (hp.now (hn1.trans hn2)) hn2.rd).mono ?_; rintro e w3 ⟨rfl, hn3⟩; have hN := (hn1.trans hn2).trans hn3)
        | (go_at_call 47; have kk := hn1; refine (u8_r hn1.rd).mono ?_; rintro e w2 ⟨rfl, hn2⟩)
        | (go_at_call 47; refine HU1.out.mono ?_; rintro e w1 ⟨rfl, hn1⟩; have c1 := (hp.now hn1).c))
      have N6 := N5.trans hn6
      have P6 := hpar.now H0 N6
      have rD := rC.below (bd w6) rC.lt
      have P7 := P6.below (bd w6)
      have M7 : Mv w w6.drew P g := (Mv.ofNow N6).trans (Mv.ofB (bd _))
      have hPA : P ≠ gA := by have := hp.lt; omega
      rcases hf with rfl | rfl
      all_goals
        refine wp_region_noPanic ?_
        refine wp_region_held_drew (S := fun W => Row W gA 26 (acells A)) (by kernel_rfl) (rD) (fun hHeld => ?_)
        refine tA 0 ?_
        refine tL 1 rfl (yA A (fun W hW => hW.range) (by rfl) rfl rfl) ?_
        refine tA 3 ?_
        refine tA 4 ?_
        refine tA 5 ?_
        refine r1 2 fun K hK => ?_
        go_simp
        refine (HF _).mono ?_
        rintro e w8 ⟨rfl, hb8⟩
        have P8 := P7.below hb8
        have r8 := rD.below hb8 rD.lt
        have M8 := M7.trans (Mv.ofB hb8)
        obtain ⟨_, ⟨v4, c4, _⟩, ⟨v6, c6, _⟩, _⟩ := P8.at
        have f4 := P8.frozen 5
        have f6 := P8.frozen 7
        refine oK hK (by exact r8) fun hHeld => ?_
        clear hK K
        refine tA 6 ?_
        refine r1 7 fun K hK => ?_
        go_simp
        refine oK hK (by exact r8.setOther _ _ _ hPA) fun hHeld => ?_
        clear hK K
        refine dN ?_
        refine NoPanic.normal ?_
        go_wp2
        go_end0
        exact ⟨rfl, by first | exact P8.setH4 r8 | exact P8.setH6 r8, M8.setP _ _⟩
    · have h0' : ((ae : Int) == 0) = false := by simp; omega
      have e0 := hrb0.out.2 h0
      subst e0
      clear hrb0 h0
      go_enter Try.func60, Try.ntmps60
      go_wp2_with (first
        | (go_at_call 82; have kk := rB; refine (HW.out _ (hp.now N5) N5.rd).mono ?_; rintro e w6 ⟨rfl, hn6⟩; have rC := rB.nowS hn6 (by omega))
        | (have kk := rA; refine stA0 (.tmp 3) (.tmp 20) (by rfl) rfl gA A _ (acells_len _) rfl rfl rA ?_; intro w5 hg5 rB; have hsz : w.heap.size ≤ gA := (Nat.le_trans hN4.size a1); have N5 : NowS w w5 g bv l rn := NowS.fresh h (hN4.below a3) hg5 hsz)
        | (have kk := hN4; refine alG infoAz (by rfl) rfl ?_; intro gA wA a1 a2 a3 rA)
        | (go_at_call 80; have kk := hN; refine (HA.out _ (hp.now hN) hN.rd).mono ?_; rintro e w4 ⟨rfl, hn4⟩; have hN4 := hN.trans hn4)
        | (go_at_call 47; have kk := hn1; refine (u8_r hn1.rd).mono ?_; rintro e w2 ⟨rfl, hn2⟩; have hN := hn1.trans hn2)
        | (go_at_call 47; refine HU1.out.mono ?_; rintro e w1 ⟨rfl, hn1⟩; have c1 := (hp.now hn1).c))
      have N6 := N5.trans hn6
      have P6 := hpar.now H0 N6
      have rD := rC.below (bd w6) rC.lt
      have P7 := P6.below (bd w6)
      have M7 : Mv w w6.drew P g := (Mv.ofNow N6).trans (Mv.ofB (bd _))
      have hPA : P ≠ gA := by have := hp.lt; omega
      rcases hf with rfl | rfl
      all_goals
        refine wp_region_noPanic ?_
        refine wp_region_held_drew (S := fun W => Row W gA 26 (acells A)) (by kernel_rfl) (rD) (fun hHeld => ?_)
        refine tA 0 ?_
        refine tL 1 rfl (yA A (fun W hW => hW.range) (by rfl) rfl rfl) ?_
        refine tA 3 ?_
        refine tA 4 ?_
        refine tA 5 ?_
        refine r1 2 fun K hK => ?_
        go_simp
        refine (HF _).mono ?_
        rintro e w8 ⟨rfl, hb8⟩
        have P8 := P7.below hb8
        have r8 := rD.below hb8 rD.lt
        have M8 := M7.trans (Mv.ofB hb8)
        obtain ⟨_, ⟨v4, c4, _⟩, ⟨v6, c6, _⟩, _⟩ := P8.at
        have f4 := P8.frozen 5
        have f6 := P8.frozen 7
        refine oK hK (by exact r8) fun hHeld => ?_
        clear hK K
        refine tA 6 ?_
        refine r1 7 fun K hK => ?_
        go_simp
        refine oK hK (by exact r8.setOther _ _ _ hPA) fun hHeld => ?_
        clear hK K
        refine dN ?_
        refine NoPanic.normal ?_
        go_wp2
        go_end0
        exact ⟨rfl, by first | exact P8.setH4 r8 | exact P8.setH6 r8, M8.setP _ _⟩
  · have hy' : (rn.y == 0) = false := by simpa using hy
    rw [hy'] at HW
    rw [if_neg hy]
    clear hy hy'
    by_cases h0 : ae = 0
    · subst h0
      have e0 := hrb0.out.1 rfl
      subst e0
      clear hrb0
      go_enter Try.func60, Try.ntmps60
      go_wp2_with (first
        | (go_at_call 82; have kk := rB; refine (HW.out _ (hp.now N5) N5.rd).mono ?_; rintro e w6 ⟨rfl, hn6⟩; have rC := rB.nowS hn6 (by omega))
        | (have kk := rA; refine stA0 (.tmp 3) (.tmp 20) (by rfl) rfl gA A _ (acells_len _) rfl rfl rA ?_; intro w5 hg5 rB; have hsz : w.heap.size ≤ gA := (Nat.le_trans hN4.size a1); have N5 : NowS w w5 g bv l rn := NowS.fresh h (hN4.below a3) hg5 hsz)
        | (have kk := hN4; refine alG infoAz (by rfl) rfl ?_; intro gA wA a1 a2 a3 rA)
        | (go_at_call 80; have kk := hN; refine (HA.out _ (hp.now hN) hN.rd).mono ?_; rintro e w4 ⟨rfl, hn4⟩; have hN4 := hN.trans hn4)
        | (go_at_call 83; refine (bad_any (hp.now (hn1.trans hn2)) hn2.rd).mono ?_; rintro e w3 ⟨rfl, hn3⟩; have hN := (hn1.trans hn2).trans hn3)
        | (go_at_call 47; have kk := hn1; refine (u8_r hn1.rd).mono ?_; rintro e w2 ⟨rfl, hn2⟩)
        | (go_at_call 47; refine HU1.out.mono ?_; rintro e w1 ⟨rfl, hn1⟩; have c1 := (hp.now hn1).c))
      go_end0
      exact ⟨rfl, hpar.now H0 (N5.trans hn6), Mv.ofNow (N5.trans hn6)⟩
    · have h0' : ((ae : Int) == 0) = false := by simp; omega
      have e0 := hrb0.out.2 h0
      subst e0
      clear hrb0 h0
      go_enter Try.func60, Try.ntmps60
      go_wp2_with (first
        | (go_at_call 82; have kk := rB; refine (HW.out _ (hp.now N5) N5.rd).mono ?_; rintro e w6 ⟨rfl, hn6⟩; have rC := rB.nowS hn6 (by omega))
        | (have kk := rA; refine stA0 (.tmp 3) (.tmp 20) (by rfl) rfl gA A _ (acells_len _) rfl rfl rA ?_; intro w5 hg5 rB; have hsz : w.heap.size ≤ gA := (Nat.le_trans hN4.size a1); have N5 : NowS w w5 g bv l rn := NowS.fresh h (hN4.below a3) hg5 hsz)
        | (have kk := hN4; refine alG infoAz (by rfl) rfl ?_; intro gA wA a1 a2 a3 rA)
        | (go_at_call 80; have kk := hN; refine (HA.out _ (hp.now hN) hN.rd).mono ?_; rintro e w4 ⟨rfl, hn4⟩; have hN4 := hN.trans hn4)
        | (go_at_call 47; have kk := hn1; refine (u8_r hn1.rd).mono ?_; rintro e w2 ⟨rfl, hn2⟩; have hN := hn1.trans hn2)
        | (go_at_call 47; refine HU1.out.mono ?_; rintro e w1 ⟨rfl, hn1⟩; have c1 := (hp.now hn1).c))
      go_end0
      exact ⟨rfl, hpar.now H0 (N5.trans hn6), Mv.ofNow (N5.trans hn6)⟩
end Go.Proofs.Ytognnfknbkedgaa
