/-
  The contract of update of package packet.
-/
import Derived.Test.YtognnfknbkedgaaM13
namespace Go.Proofs.Ytognnfknbkedgaa
open Go.RowKit
set_option linter.unusedSimpArgs false
set_option maxRecDepth 20000
variable {bv : Option Addr}

/-- The reading behind an update's numbers, of AeAny. -/
def uaR (l : List UInt8) (r : RS) : RS := if (decide ((((r.adv l 1).adv l 1).val l 1) ≠ 0) || (decide (((((r.adv l 1).adv l 1).adv l 1).val l 1) ≠ 0) || decide ((((((((r.adv l 1).adv l 1).adv l 1).adv l 1).adv l 2).adv l 2).val l 2) ≠ 65535))) then (((((((r.adv l 1).adv l 1).adv l 1).adv l 1).adv l 2).adv l 2).adv l 2).bad else (((((((r.adv l 1).adv l 1).adv l 1).adv l 1).adv l 2).adv l 2).adv l 2)
set_option maxHeartbeats 2000000 in
theorem update_0 {w : World} {P g : Nat} {l : List UInt8} {r : RS} {s : St} (hpar : Par w P (some g) s) (h : RdS w g bv l r) (hl : l.length ≤ 100000) (h0 : r.val l 1 = 0) :
    Calls Try.prog 61 #[.pointer (some ⟨P, 0, none⟩)] w fun e w' => SayR w { zeroK with ty := 8, intv := (((((r.adv l 1).adv l 1).adv l 1).adv l 1).val l 2), seq := ((((((r.adv l 1).adv l 1).adv l 1).adv l 1).adv l 2).val l 2), met := (((((((r.adv l 1).adv l 1).adv l 1).adv l 1).adv l 2).adv l 2).val l 2), all := true } (nsB l (uaR l r)) e w' ∧ (∃ R, Par w' P R s) ∧ Mv w w' P g := by
  have hp := hpar.pg h
  have hlt := h.lt
  have hPl := hpar.lt
  obtain ⟨ae, aeH⟩ : ∃ x, Hid ((r.val l 1) = x) := ⟨_, rfl⟩
  obtain ⟨fl, flH⟩ : ∃ x, Hid (((r.adv l 1).val l 1) = x) := ⟨_, rfl⟩
  obtain ⟨pl, plH⟩ : ∃ x, Hid ((((r.adv l 1).adv l 1).val l 1) = x) := ⟨_, rfl⟩
  obtain ⟨om, omH⟩ : ∃ x, Hid (((((r.adv l 1).adv l 1).adv l 1).val l 1) = x) := ⟨_, rfl⟩
  obtain ⟨iv, ivH⟩ : ∃ x, Hid ((((((r.adv l 1).adv l 1).adv l 1).adv l 1).val l 2) = x) := ⟨_, rfl⟩
  obtain ⟨sq, sqH⟩ : ∃ x, Hid (((((((r.adv l 1).adv l 1).adv l 1).adv l 1).adv l 2).val l 2) = x) := ⟨_, rfl⟩
  obtain ⟨mt, mtH⟩ : ∃ x, Hid ((((((((r.adv l 1).adv l 1).adv l 1).adv l 1).adv l 2).adv l 2).val l 2) = x) := ⟨_, rfl⟩
  have hpl : pl < 256 := by have := val1_lt ((r.adv l 1).adv l 1) l; rw [plH.out] at this; exact this
  have hom : om < 256 := by have := val1_lt (((r.adv l 1).adv l 1).adv l 1) l; rw [omH.out] at this; exact this
  have ypl : IntKind.i64.wrap (pl : Int) = (pl : Int) := by rw [IntKind.wrap_i64]; omega
  have yom : IntKind.i64.wrap (om : Int) = (om : Int) := by rw [IntKind.wrap_i64]; omega
  have HU4 : Hid (∀ W, RdS W g bv l r → Calls Try.prog 47 #[.pointer (some ⟨g, 0, none⟩)] W fun e w' => e = .returned (.int .u8 (ae : Int)) ∧ NowS W w' g bv l (r.adv l 1)) := fun W h => by rw [← aeH.out]; exact u8_r h
  have HU9 : Hid (∀ W, RdS W g bv l (r.adv l 1) → Calls Try.prog 47 #[.pointer (some ⟨g, 0, none⟩)] W fun e w' => e = .returned (.int .u8 (fl : Int)) ∧ NowS W w' g bv l ((r.adv l 1).adv l 1)) := fun W h => by rw [← flH.out]; exact u8_r h
  have HU14 : Hid (∀ W, RdS W g bv l ((r.adv l 1).adv l 1) → Calls Try.prog 47 #[.pointer (some ⟨g, 0, none⟩)] W fun e w' => e = .returned (.int .u8 (pl : Int)) ∧ NowS W w' g bv l (((r.adv l 1).adv l 1).adv l 1)) := fun W h => by rw [← plH.out]; exact u8_r h
  have HU20 : Hid (∀ W, RdS W g bv l (((r.adv l 1).adv l 1).adv l 1) → Calls Try.prog 47 #[.pointer (some ⟨g, 0, none⟩)] W fun e w' => e = .returned (.int .u8 (om : Int)) ∧ NowS W w' g bv l ((((r.adv l 1).adv l 1).adv l 1).adv l 1)) := fun W h => by rw [← omH.out]; exact u8_r h
  have HU4b : Hid (∀ W, RdS W g bv l ((((r.adv l 1).adv l 1).adv l 1).adv l 1) → Calls Try.prog 48 #[.pointer (some ⟨g, 0, none⟩)] W fun e w' => e = .returned (.int .u16 (iv : Int)) ∧ NowS W w' g bv l (((((r.adv l 1).adv l 1).adv l 1).adv l 1).adv l 2)) := fun W h => by rw [← ivH.out]; exact u16_r h
  have HU9b : Hid (∀ W, RdS W g bv l (((((r.adv l 1).adv l 1).adv l 1).adv l 1).adv l 2) → Calls Try.prog 48 #[.pointer (some ⟨g, 0, none⟩)] W fun e w' => e = .returned (.int .u16 (sq : Int)) ∧ NowS W w' g bv l ((((((r.adv l 1).adv l 1).adv l 1).adv l 1).adv l 2).adv l 2)) := fun W h => by rw [← sqH.out]; exact u16_r h
  have HU14b : Hid (∀ W, RdS W g bv l ((((((r.adv l 1).adv l 1).adv l 1).adv l 1).adv l 2).adv l 2) → Calls Try.prog 48 #[.pointer (some ⟨g, 0, none⟩)] W fun e w' => e = .returned (.int .u16 (mt : Int)) ∧ NowS W w' g bv l (((((((r.adv l 1).adv l 1).adv l 1).adv l 1).adv l 2).adv l 2).adv l 2)) := fun W h => by rw [← mtH.out]; exact u16_r h
  have E8 : Hid (uaR l r = if decide (pl ≠ 0) || (decide (om ≠ 0) || decide (mt ≠ 65535)) then (((((((r.adv l 1).adv l 1).adv l 1).adv l 1).adv l 2).adv l 2).adv l 2).bad else (((((((r.adv l 1).adv l 1).adv l 1).adv l 1).adv l 2).adv l 2).adv l 2)) := by show _ = _; unfold uaR; rw [plH.out, omH.out, mtH.out]
  rw [ivH.out, sqH.out, mtH.out]
  obtain ⟨r8, h8⟩ : ∃ x, uaR l r = x := ⟨_, rfl⟩
  rw [h8] at E8 ⊢
  obtain rfl : ae = 0 := aeH.out.symm.trans h0
  have HNS : Hid (∀ W, Pg W P g → RdS W g bv l r8 → Calls Try.prog 84 #[.pointer (some ⟨P, 0, none⟩)] W fun e w' => e = .returned (.bool (nsB l r8)) ∧ NowS W w' g bv l (wiR l r8)) := fun W h1 h2 => noSource_any h1 h2 hl
  generalize nsB l r8 = b at *
  clear h0 h8 aeH flH plH omH ivH sqH mtH
  go_enter Try.func61, Try.ntmps61
  go_wp2_with (refine alG infoTz (by rfl) rfl ?_; intro gA wA a1 a2 a3 rA)
  have hgA : gA ≠ g := by omega
  have hN : NowS w wA.drew g bv l r := ((h.below a3).now.after a3).below (bd _)
  have rAc := rA.below (bd _) rA.lt
  clear a3 rA
  refine wp_region_noPanic ?_
  refine wp_region_held_drew (S := fun W => W.cell? ⟨P, 11, none⟩ = some (.pointer (some ⟨g, 0, none⟩))) (by kernel_rfl) ((hp.now hN).c) (fun hHeld => ?_)
  refine tA 0 ?_
  refine tA 1 ?_
  refine tA 2 ?_
  refine tA 3 ?_
  refine tA 5 ?_
  refine tA 6 ?_
  refine tA 7 ?_
  refine tA 8 ?_
  refine tA 10 ?_
  refine tA 11 ?_
  refine tA 12 ?_
  refine tA 13 ?_
  refine tA 16 ?_
  refine tA 17 ?_
  refine tA 18 ?_
  refine tA 19 ?_
  refine r1 4 fun K hK => ?_
  go_simp
  refine (HU4.out _ hN.rd).mono ?_
  rintro e w1 ⟨rfl, hn1⟩
  replace rAc := rAc.nowS hn1 hgA
  replace hN := hN.trans hn1
  clear hn1
  refine oK hK (by exact (hp.now hN).c) fun hHeld => ?_
  clear hK K
  refine r1 9 fun K hK => ?_
  go_simp
  refine (HU9.out _ hN.rd).mono ?_
  rintro e w1 ⟨rfl, hn1⟩
  replace rAc := rAc.nowS hn1 hgA
  replace hN := hN.trans hn1
  clear hn1
  refine oK hK (by exact (hp.now hN).c) fun hHeld => ?_
  clear hK K
  refine r1 14 fun K hK => ?_
  go_simp
  refine (HU14.out _ hN.rd).mono ?_
  rintro e w1 ⟨rfl, hn1⟩
  replace rAc := rAc.nowS hn1 hgA
  replace hN := hN.trans hn1
  clear hn1
  refine oK hK (by exact (hp.now hN).c) fun hHeld => ?_
  clear hK K
  refine tA 15 ?_
  refine r1 20 fun K hK => ?_
  go_simp
  refine (HU20.out _ hN.rd).mono ?_
  rintro e w1 ⟨rfl, hn1⟩
  replace rAc := rAc.nowS hn1 hgA
  replace hN := hN.trans hn1
  clear hn1
  refine oK hK (by exact (hp.now hN).c) fun hHeld => ?_
  clear hK K
  refine tA 21 ?_
  refine tA 22 ?_
  refine tA 23 ?_
  refine tA 24 ?_
  refine tA 25 ?_
  refine dN ?_
  refine NoPanic.normal ?_
  go_wp2
  clear hHeld HU4 HU9 HU14 HU20
  replace hN := hN.below (bd _)
  replace rAc := rAc.below (bd _) rAc.lt
  apply region_ex (PP := fun gB W => Row W gB 33 (tcells { zeroT with ty := 8, intv := iv, seq := sq, met := mt }) ∧ Row W gA 33 (tcells zeroT) ∧ NowS w W g bv l (((((((r.adv l 1).adv l 1).adv l 1).adv l 1).adv l 2).adv l 2).adv l 2) ∧ w.heap.size ≤ gB ∧ gA < gB)
  case h1 =>
    refine wp_region_held_drew (S := fun W => W.cell? ⟨P, 11, none⟩ = some (.pointer (some ⟨g, 0, none⟩))) (by kernel_rfl) ((hp.now hN).c) (fun hHeld => ?_)
    refine tA 0 ?_
    refine tA 1 ?_
    refine tA 2 ?_
    refine tA 3 ?_
    refine tA 5 ?_
    refine tA 6 ?_
    refine tA 7 ?_
    refine tA 8 ?_
    refine tA 10 ?_
    refine tA 11 ?_
    refine tA 12 ?_
    refine tA 13 ?_
    refine rM [4,16] ?_
    refine cL (fun K hK => ?_) ?_
    · skip
      go_simp
      refine (HU4b.out _ hN.rd).mono ?_
      rintro e w1 ⟨rfl, hn1⟩
      replace rAc := rAc.nowS hn1 hgA
      try replace rB := rB.nowS hn1 (by omega)
      replace hN := hN.trans hn1
      clear hn1
      refine oK hK (by exact (hp.now hN).c) fun hHeld => ?_
      clear hK K
      refine rM [9,16] ?_
      refine cL (fun K hK => ?_) ?_
      · skip
        go_simp
        refine (HU9b.out _ hN.rd).mono ?_
        rintro e w1 ⟨rfl, hn1⟩
        replace rAc := rAc.nowS hn1 hgA
        try replace rB := rB.nowS hn1 (by omega)
        replace hN := hN.trans hn1
        clear hn1
        refine oK hK (by exact (hp.now hN).c) fun hHeld => ?_
        clear hK K
        refine rM [14,16] ?_
        refine cL (fun K hK => ?_) ?_
        · skip
          go_simp
          refine (HU14b.out _ hN.rd).mono ?_
          rintro e w1 ⟨rfl, hn1⟩
          replace rAc := rAc.nowS hn1 hgA
          try replace rB := rB.nowS hn1 (by omega)
          replace hN := hN.trans hn1
          clear hn1
          refine oK hK (by exact (hp.now hN).c) fun hHeld => ?_
          clear hK K
          refine tL 15 rfl (yB [(0, .const (.int .u8 8)), (2, .tmp 38), (3, .tmp 43), (5, .tmp 48)] (by rfl) rfl (bdUpd _ _ _)) ?_
          refine r1 16 fun K hK => ?_
          refine sAlG infoTz (by rfl) rfl ?_
          intro gB wB b1 b2 b3 rB
          have hgB : w.heap.size ≤ gB := Nat.le_trans hN.size b1
          have hne : gA < gB := Nat.lt_of_lt_of_le rAc.lt b1
          replace rAc := rAc.below b3 rAc.lt
          replace hN := hN.below b3
          clear b1 b2 b3
          refine oK hK (by exact (hp.now hN).c) fun hHeld => ?_
          clear hK K
          refine r1 17 fun K hK => ?_
          refine sStT (.tmp 8) (.tmp 49) (by rfl) rfl gB { zeroT with ty := 8, intv := iv, seq := sq, met := mt } _ rfl rfl rB ?_
          intro wC hgC rC
          replace rAc := rAc.grown hgC (fun e => by have := Option.some.inj e; omega)
          replace hN := NowS.fresh h hN hgC hgB
          refine oK hK (by exact (hp.now hN).c) fun hHeld => ?_
          clear hK K
          refine dN ?_
          exact ⟨gB, rfl, rC, rAc, hN, hgB, hne⟩
        refine cE fun K hK => ?_
        refine sAlG infoTz (by rfl) rfl ?_
        intro gB wB b1 b2 b3 rB
        have hgB : w.heap.size ≤ gB := Nat.le_trans hN.size b1
        have hne : gA < gB := Nat.lt_of_lt_of_le rAc.lt b1
        replace rAc := rAc.below b3 rAc.lt
        replace hN := hN.below b3
        clear b1 b2 b3
        refine oK hK (by exact (hp.now hN).c) fun hHeld => ?_
        clear hK K
        refine r1 14 fun K hK => ?_
        go_simp
        refine (HU14b.out _ hN.rd).mono ?_
        rintro e w1 ⟨rfl, hn1⟩
        replace rAc := rAc.nowS hn1 hgA
        try replace rB := rB.nowS hn1 (by omega)
        replace hN := hN.trans hn1
        clear hn1
        refine oK hK (by exact (hp.now hN).c) fun hHeld => ?_
        clear hK K
        refine tL 15 rfl (yB [(0, .const (.int .u8 8)), (2, .tmp 38), (3, .tmp 43), (5, .tmp 48)] (by rfl) rfl (bdUpd _ _ _)) ?_
        refine r1 17 fun K hK => ?_
        refine sStT (.tmp 8) (.tmp 49) (by rfl) rfl gB { zeroT with ty := 8, intv := iv, seq := sq, met := mt } _ rfl rfl rB ?_
        intro wC hgC rC
        replace rAc := rAc.grown hgC (fun e => by have := Option.some.inj e; omega)
        replace hN := NowS.fresh h hN hgC hgB
        refine oK hK (by exact (hp.now hN).c) fun hHeld => ?_
        clear hK K
        refine dN ?_
        exact ⟨gB, rfl, rC, rAc, hN, hgB, hne⟩
      refine cE fun K hK => ?_
      refine sAlG infoTz (by rfl) rfl ?_
      intro gB wB b1 b2 b3 rB
      have hgB : w.heap.size ≤ gB := Nat.le_trans hN.size b1
      have hne : gA < gB := Nat.lt_of_lt_of_le rAc.lt b1
      replace rAc := rAc.below b3 rAc.lt
      replace hN := hN.below b3
      clear b1 b2 b3
      refine oK hK (by exact (hp.now hN).c) fun hHeld => ?_
      clear hK K
      refine r1 9 fun K hK => ?_
      go_simp
      refine (HU9b.out _ hN.rd).mono ?_
      rintro e w1 ⟨rfl, hn1⟩
      replace rAc := rAc.nowS hn1 hgA
      try replace rB := rB.nowS hn1 (by omega)
      replace hN := hN.trans hn1
      clear hn1
      refine oK hK (by exact (hp.now hN).c) fun hHeld => ?_
      clear hK K
      refine r1 14 fun K hK => ?_
      go_simp
      refine (HU14b.out _ hN.rd).mono ?_
      rintro e w1 ⟨rfl, hn1⟩
      replace rAc := rAc.nowS hn1 hgA
      try replace rB := rB.nowS hn1 (by omega)
      replace hN := hN.trans hn1
      clear hn1
      refine oK hK (by exact (hp.now hN).c) fun hHeld => ?_
      clear hK K
      refine tL 15 rfl (yB [(0, .const (.int .u8 8)), (2, .tmp 38), (3, .tmp 43), (5, .tmp 48)] (by rfl) rfl (bdUpd _ _ _)) ?_
      refine r1 17 fun K hK => ?_
      refine sStT (.tmp 8) (.tmp 49) (by rfl) rfl gB { zeroT with ty := 8, intv := iv, seq := sq, met := mt } _ rfl rfl rB ?_
      intro wC hgC rC
      replace rAc := rAc.grown hgC (fun e => by have := Option.some.inj e; omega)
      replace hN := NowS.fresh h hN hgC hgB
      refine oK hK (by exact (hp.now hN).c) fun hHeld => ?_
      clear hK K
      refine dN ?_
      exact ⟨gB, rfl, rC, rAc, hN, hgB, hne⟩
    refine cE fun K hK => ?_
    refine sAlG infoTz (by rfl) rfl ?_
    intro gB wB b1 b2 b3 rB
    have hgB : w.heap.size ≤ gB := Nat.le_trans hN.size b1
    have hne : gA < gB := Nat.lt_of_lt_of_le rAc.lt b1
    replace rAc := rAc.below b3 rAc.lt
    replace hN := hN.below b3
    clear b1 b2 b3
    refine oK hK (by exact (hp.now hN).c) fun hHeld => ?_
    clear hK K
    refine r1 4 fun K hK => ?_
    go_simp
    refine (HU4b.out _ hN.rd).mono ?_
    rintro e w1 ⟨rfl, hn1⟩
    replace rAc := rAc.nowS hn1 hgA
    try replace rB := rB.nowS hn1 (by omega)
    replace hN := hN.trans hn1
    clear hn1
    refine oK hK (by exact (hp.now hN).c) fun hHeld => ?_
    clear hK K
    refine r1 9 fun K hK => ?_
    go_simp
    refine (HU9b.out _ hN.rd).mono ?_
    rintro e w1 ⟨rfl, hn1⟩
    replace rAc := rAc.nowS hn1 hgA
    try replace rB := rB.nowS hn1 (by omega)
    replace hN := hN.trans hn1
    clear hn1
    refine oK hK (by exact (hp.now hN).c) fun hHeld => ?_
    clear hK K
    refine r1 14 fun K hK => ?_
    go_simp
    refine (HU14b.out _ hN.rd).mono ?_
    rintro e w1 ⟨rfl, hn1⟩
    replace rAc := rAc.nowS hn1 hgA
    try replace rB := rB.nowS hn1 (by omega)
    replace hN := hN.trans hn1
    clear hn1
    refine oK hK (by exact (hp.now hN).c) fun hHeld => ?_
    clear hK K
    refine tL 15 rfl (yB [(0, .const (.int .u8 8)), (2, .tmp 38), (3, .tmp 43), (5, .tmp 48)] (by rfl) rfl (bdUpd _ _ _)) ?_
    refine r1 17 fun K hK => ?_
    refine sStT (.tmp 8) (.tmp 49) (by rfl) rfl gB { zeroT with ty := 8, intv := iv, seq := sq, met := mt } _ rfl rfl rB ?_
    intro wC hgC rC
    replace rAc := rAc.grown hgC (fun e => by have := Option.some.inj e; omega)
    replace hN := NowS.fresh h hN hgC hgB
    refine oK hK (by exact (hp.now hN).c) fun hHeld => ?_
    clear hK K
    refine dN ?_
    exact ⟨gB, rfl, rC, rAc, hN, hgB, hne⟩
  case h2 =>
  clear hN rAc HU4b HU9b HU14b
  rintro gB wC ⟨rC, rAC, hN, hgB, hAB⟩
  have cR := (hp.now hN).c
  have hgB2 : gB ≠ g := by omega
  have c5 : wC.cell? ⟨gB, 5, none⟩ = some (.int .u16 (mt : Int)) := rC.cell 5
  by_cases q1 : pl = 0
  · have q1' : ((pl : Int) != 0) = false := by simp [q1]
    by_cases q2 : om = 0
    · have q2' : ((om : Int) != 0) = false := by simp [q2]
      by_cases q3 : mt = 65535
      · have q3' : ((mt : Int) != 65535) = false := by simp [q3]
        obtain rfl : r8 = (((((((r.adv l 1).adv l 1).adv l 1).adv l 1).adv l 2).adv l 2).adv l 2) := by rw [E8.out]; simp [q1, q2, q3]
        clear E8 q1 q2 q3
        have NE := hN
        have rAE := rAC
        have rBE := rC
        have c8 : wC.cell? ⟨gB, 8, none⟩ = some (.bool false) := rBE.cell 8
        have f8 := rBE.frozen 8
        go_wp2
        have hqq : NowS w ((wC.setCell ⟨gB, 8, none⟩ (.bool true)).drew) g bv l (((((((r.adv l 1).adv l 1).adv l 1).adv l 1).adv l 2).adv l 2).adv l 2) := (NowS.fresh h NE (grownBy_setCell wC gB 8 (.bool true)) hgB).below (bd _)
        have rA1 : Row ((wC.setCell ⟨gB, 8, none⟩ (.bool true)).drew) gA 33 (tcells zeroT) := (rAE.setOther gB 8 (.bool true) (by omega)).drew
        have rB1 : Row ((wC.setCell ⟨gB, 8, none⟩ (.bool true)).drew) gB 33 (tcells { zeroT with ty := 8, intv := iv, seq := sq, met := mt, all := true }) := (rBE.tAll true).drew
        refine wp_region_noPanic ?_
        refine wp_region_held_drew (S := fun W => Row W gB 33 (tcells { zeroT with ty := 8, intv := iv, seq := sq, met := mt, all := true })) (by kernel_rfl) (rB1) (fun hHeld => ?_)
        refine tL 0 rfl (yT { zeroT with ty := 8, intv := iv, seq := sq, met := mt, all := true } (fun W hW => hW) (by rfl) rfl rfl) ?_
        refine tA 1 ?_
        refine r1 2 fun K hK => ?_
        go_simp
        refine (HNS.out _ (hp.now hqq) hqq.rd).mono ?_
        rintro e w4 ⟨rfl, hn4⟩
        have rA4 := rA1.nowS hn4 hgA
        have rB4 := rB1.nowS hn4 hgB2
        have N4 := hqq.trans hn4
        refine oK hK (by exact rB4) fun hHeld => ?_
        clear hK K
        refine r1 3 fun K hK => ?_
        refine sStT (.tmp 2) (.tmp 66) (by rfl) rfl gA { zeroT with ty := 8, intv := iv, seq := sq, met := mt, all := true } _ rfl rfl rA4 ?_
        intro w5 hg5 r5
        have rB5 := rB4.grown hg5 (fun e => by have := Option.some.inj e; omega)
        refine oK hK (by exact rB5) fun hHeld => ?_
        clear hK K
        refine tA 4 ?_
        refine dN ?_
        refine NoPanic.normal ?_
        go_wp2
        have N5 := NowS.fresh h N4 hg5 a1
        exact bodyPost_ret (retCT rfl _ _ 0 rfl (lvT r5)) rfl ⟨⟨{ zeroT with ty := 8, intv := iv, seq := sq, met := mt, all := true }, rfl, fun _ => rfl, Stms.none _ _ _ rfl rfl rfl rfl⟩, ⟨_, hpar.now h N5⟩, Mv.ofNow N5⟩
      · have q3' : ((mt : Int) != 65535) = true := by simp; omega
        obtain rfl : r8 = (((((((r.adv l 1).adv l 1).adv l 1).adv l 1).adv l 2).adv l 2).adv l 2).bad := by rw [E8.out]; simp [q3]
        clear E8 q1 q2 q3
        go_wp2_with (go_at_call 83; refine (bad_any (hp.now hN) hN.rd).mono ?_; rintro e wE ⟨rfl, hnE⟩; have NE := hN.trans hnE; have rAE := rAC.nowS hnE hgA; have rBE := rC.nowS hnE hgB2; have c8 : wE.cell? ⟨gB, 8, none⟩ = some (.bool false) := rBE.cell 8; have f8 := rBE.frozen 8)
        have hqq : NowS w ((wE.setCell ⟨gB, 8, none⟩ (.bool true)).drew) g bv l (((((((r.adv l 1).adv l 1).adv l 1).adv l 1).adv l 2).adv l 2).adv l 2).bad := (NowS.fresh h NE (grownBy_setCell wE gB 8 (.bool true)) hgB).below (bd _)
        have rA1 : Row ((wE.setCell ⟨gB, 8, none⟩ (.bool true)).drew) gA 33 (tcells zeroT) := (rAE.setOther gB 8 (.bool true) (by omega)).drew
        have rB1 : Row ((wE.setCell ⟨gB, 8, none⟩ (.bool true)).drew) gB 33 (tcells { zeroT with ty := 8, intv := iv, seq := sq, met := mt, all := true }) := (rBE.tAll true).drew
        refine wp_region_noPanic ?_
        refine wp_region_held_drew (S := fun W => Row W gB 33 (tcells { zeroT with ty := 8, intv := iv, seq := sq, met := mt, all := true })) (by kernel_rfl) (rB1) (fun hHeld => ?_)
        refine tL 0 rfl (yT { zeroT with ty := 8, intv := iv, seq := sq, met := mt, all := true } (fun W hW => hW) (by rfl) rfl rfl) ?_
        refine tA 1 ?_
        refine r1 2 fun K hK => ?_
        go_simp
        refine (HNS.out _ (hp.now hqq) hqq.rd).mono ?_
        rintro e w4 ⟨rfl, hn4⟩
        have rA4 := rA1.nowS hn4 hgA
        have rB4 := rB1.nowS hn4 hgB2
        have N4 := hqq.trans hn4
        refine oK hK (by exact rB4) fun hHeld => ?_
        clear hK K
        refine r1 3 fun K hK => ?_
        refine sStT (.tmp 2) (.tmp 66) (by rfl) rfl gA { zeroT with ty := 8, intv := iv, seq := sq, met := mt, all := true } _ rfl rfl rA4 ?_
        intro w5 hg5 r5
        have rB5 := rB4.grown hg5 (fun e => by have := Option.some.inj e; omega)
        refine oK hK (by exact rB5) fun hHeld => ?_
        clear hK K
        refine tA 4 ?_
        refine dN ?_
        refine NoPanic.normal ?_
        go_wp2
        have N5 := NowS.fresh h N4 hg5 a1
        exact bodyPost_ret (retCT rfl _ _ 0 rfl (lvT r5)) rfl ⟨⟨{ zeroT with ty := 8, intv := iv, seq := sq, met := mt, all := true }, rfl, fun _ => rfl, Stms.none _ _ _ rfl rfl rfl rfl⟩, ⟨_, hpar.now h N5⟩, Mv.ofNow N5⟩
    · have q2' : ((om : Int) != 0) = true := by simp; omega
      obtain rfl : r8 = (((((((r.adv l 1).adv l 1).adv l 1).adv l 1).adv l 2).adv l 2).adv l 2).bad := by rw [E8.out]; simp [q2]
      clear E8 q1 q2
      go_wp2_with (go_at_call 83; refine (bad_any (hp.now hN) hN.rd).mono ?_; rintro e wE ⟨rfl, hnE⟩; have NE := hN.trans hnE; have rAE := rAC.nowS hnE hgA; have rBE := rC.nowS hnE hgB2; have c8 : wE.cell? ⟨gB, 8, none⟩ = some (.bool false) := rBE.cell 8; have f8 := rBE.frozen 8)
      have hqq : NowS w ((wE.setCell ⟨gB, 8, none⟩ (.bool true)).drew) g bv l (((((((r.adv l 1).adv l 1).adv l 1).adv l 1).adv l 2).adv l 2).adv l 2).bad := (NowS.fresh h NE (grownBy_setCell wE gB 8 (.bool true)) hgB).below (bd _)
      have rA1 : Row ((wE.setCell ⟨gB, 8, none⟩ (.bool true)).drew) gA 33 (tcells zeroT) := (rAE.setOther gB 8 (.bool true) (by omega)).drew
      have rB1 : Row ((wE.setCell ⟨gB, 8, none⟩ (.bool true)).drew) gB 33 (tcells { zeroT with ty := 8, intv := iv, seq := sq, met := mt, all := true }) := (rBE.tAll true).drew
      refine wp_region_noPanic ?_
      refine wp_region_held_drew (S := fun W => Row W gB 33 (tcells { zeroT with ty := 8, intv := iv, seq := sq, met := mt, all := true })) (by kernel_rfl) (rB1) (fun hHeld => ?_)
      refine tL 0 rfl (yT { zeroT with ty := 8, intv := iv, seq := sq, met := mt, all := true } (fun W hW => hW) (by rfl) rfl rfl) ?_
      refine tA 1 ?_
      refine r1 2 fun K hK => ?_
      go_simp
      refine (HNS.out _ (hp.now hqq) hqq.rd).mono ?_
      rintro e w4 ⟨rfl, hn4⟩
      have rA4 := rA1.nowS hn4 hgA
      have rB4 := rB1.nowS hn4 hgB2
      have N4 := hqq.trans hn4
      refine oK hK (by exact rB4) fun hHeld => ?_
      clear hK K
      refine r1 3 fun K hK => ?_
      refine sStT (.tmp 2) (.tmp 66) (by rfl) rfl gA { zeroT with ty := 8, intv := iv, seq := sq, met := mt, all := true } _ rfl rfl rA4 ?_
      intro w5 hg5 r5
      have rB5 := rB4.grown hg5 (fun e => by have := Option.some.inj e; omega)
      refine oK hK (by exact rB5) fun hHeld => ?_
      clear hK K
      refine tA 4 ?_
      refine dN ?_
      refine NoPanic.normal ?_
      go_wp2
      have N5 := NowS.fresh h N4 hg5 a1
      exact bodyPost_ret (retCT rfl _ _ 0 rfl (lvT r5)) rfl ⟨⟨{ zeroT with ty := 8, intv := iv, seq := sq, met := mt, all := true }, rfl, fun _ => rfl, Stms.none _ _ _ rfl rfl rfl rfl⟩, ⟨_, hpar.now h N5⟩, Mv.ofNow N5⟩
  · have q1' : ((pl : Int) != 0) = true := by simp; omega
    obtain rfl : r8 = (((((((r.adv l 1).adv l 1).adv l 1).adv l 1).adv l 2).adv l 2).adv l 2).bad := by rw [E8.out]; simp [q1]
    clear E8 q1
    go_wp2_with (go_at_call 83; refine (bad_any (hp.now hN) hN.rd).mono ?_; rintro e wE ⟨rfl, hnE⟩; have NE := hN.trans hnE; have rAE := rAC.nowS hnE hgA; have rBE := rC.nowS hnE hgB2; have c8 : wE.cell? ⟨gB, 8, none⟩ = some (.bool false) := rBE.cell 8; have f8 := rBE.frozen 8)
    have hqq : NowS w ((wE.setCell ⟨gB, 8, none⟩ (.bool true)).drew) g bv l (((((((r.adv l 1).adv l 1).adv l 1).adv l 1).adv l 2).adv l 2).adv l 2).bad := (NowS.fresh h NE (grownBy_setCell wE gB 8 (.bool true)) hgB).below (bd _)
    have rA1 : Row ((wE.setCell ⟨gB, 8, none⟩ (.bool true)).drew) gA 33 (tcells zeroT) := (rAE.setOther gB 8 (.bool true) (by omega)).drew
    have rB1 : Row ((wE.setCell ⟨gB, 8, none⟩ (.bool true)).drew) gB 33 (tcells { zeroT with ty := 8, intv := iv, seq := sq, met := mt, all := true }) := (rBE.tAll true).drew
    refine wp_region_noPanic ?_
    refine wp_region_held_drew (S := fun W => Row W gB 33 (tcells { zeroT with ty := 8, intv := iv, seq := sq, met := mt, all := true })) (by kernel_rfl) (rB1) (fun hHeld => ?_)
    refine tL 0 rfl (yT { zeroT with ty := 8, intv := iv, seq := sq, met := mt, all := true } (fun W hW => hW) (by rfl) rfl rfl) ?_
    refine tA 1 ?_
    refine r1 2 fun K hK => ?_
    go_simp
    refine (HNS.out _ (hp.now hqq) hqq.rd).mono ?_
    rintro e w4 ⟨rfl, hn4⟩
    have rA4 := rA1.nowS hn4 hgA
    have rB4 := rB1.nowS hn4 hgB2
    have N4 := hqq.trans hn4
    refine oK hK (by exact rB4) fun hHeld => ?_
    clear hK K
    refine r1 3 fun K hK => ?_
    refine sStT (.tmp 2) (.tmp 66) (by rfl) rfl gA { zeroT with ty := 8, intv := iv, seq := sq, met := mt, all := true } _ rfl rfl rA4 ?_
    intro w5 hg5 r5
    have rB5 := rB4.grown hg5 (fun e => by have := Option.some.inj e; omega)
    refine oK hK (by exact rB5) fun hHeld => ?_
    clear hK K
    refine tA 4 ?_
    refine dN ?_
    refine NoPanic.normal ?_
    go_wp2
    have N5 := NowS.fresh h N4 hg5 a1
    exact bodyPost_ret (retCT rfl _ _ 0 rfl (lvT r5)) rfl ⟨⟨{ zeroT with ty := 8, intv := iv, seq := sq, met := mt, all := true }, rfl, fun _ => rfl, Stms.none _ _ _ rfl rfl rfl rfl⟩, ⟨_, hpar.now h N5⟩, Mv.ofNow N5⟩
end Go.Proofs.Ytognnfknbkedgaa
