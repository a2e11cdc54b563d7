/-
  The contract of update of package packet.
-/
import Derived.Test.YtdibjgcokebfbaaGreatM17
namespace Go.Proofs.YtdibjgcokebfbaaGreat
open Go.RowKit
set_option linter.unusedSimpArgs false
set_option maxRecDepth 20000
variable {bv : Option Addr}

theorem Row.type {w : World} {g : Nat} {t t' : TypeId} {cs cs' : List Value} (h : Row w g t cs) (h' : Row w g t' cs') : t = t' := by
  unfold Row at h h'
  rw [h] at h'
  have e := Option.some.inj h'
  injection e
set_option maxHeartbeats 4000000 in
theorem update_y_rest {w : World} {P g : Nat} {l : List UInt8} {r : RS} {s : St} (hpar : Par w P (some g) s) (h : RdS w g bv l r) {ae fl pl om iv sq mt : Nat} {dst : Pf} {rn : RS} {s1 : St} {q : Pr} {f : Int} {ok : Bool} {K0 : TK}
    (aeH : Hid ((r.val l 1) = ae)) (flH : Hid (((r.adv l 1).val l 1) = fl)) (plH : Hid ((((r.adv l 1).adv l 1).val l 1) = pl)) (omH : Hid (((((r.adv l 1).adv l 1).adv l 1).val l 1) = om)) (ivH : Hid ((((((r.adv l 1).adv l 1).adv l 1).adv l 1).val l 2) = iv)) (sqH : Hid (((((((r.adv l 1).adv l 1).adv l 1).adv l 1).adv l 2).val l 2) = sq)) (mtH : Hid ((((((((r.adv l 1).adv l 1).adv l 1).adv l 1).adv l 2).adv l 2).val l 2) = mt))
    (hae : ((ae : Int) == 0) = false)
    (HP : Hid (∀ W, Par W P (some g) s → RdS W g bv l (((((((r.adv l 1).adv l 1).adv l 1).adv l 1).adv l 2).adv l 2).adv l 2) → Calls Tryz.prog 116 #[.pointer (some ⟨P, 0, none⟩), .int .u8 (ae : Int), .int .i64 (pl : Int), .int .i64 (om : Int)] W fun e w' => e = .returned (Value.agg (pcells dst).toArray) ∧ NowS W w' g bv l rn))
    (HW : Hid (∀ W, Pg W P g → RdS W g bv l rn → Calls Tryz.prog 112 #[.pointer (some ⟨P, 0, none⟩)] W fun e w' => e = .returned (.bool true) ∧ NowS W w' g bv l rn))
    (HK : Hid (∀ W, Par W P (some g) s → Calls Tryz.prog 117 #[.pointer (some ⟨P, 0, none⟩), .int .u8 (ae : Int), .int .u8 (fl : Int), (Value.agg (acells dst.a).toArray)] W fun e w' => e = .returned (.tuple #[]) ∧ Par w' P (some g) s1 ∧ W.grownBy w' (some P)))
    (HQ : Hid (∀ W, Par W P (some g) s1 → RdS W g bv l rn → Calls Tryz.prog 118 #[.pointer (some ⟨P, 0, none⟩), .int .u8 (ae : Int), (Value.agg (pcells dst).toArray)] W (Paired W P g s1 q true)))
    (hmt : ((mt : Int) == 65535) = false) (HFM : Hid (∀ W, Calls Tryz.prog 48 #[(Value.agg (pcells dst).toArray)] W (Gives W (.int .i64 f)))) (hf : f = 4 ∨ f = 6) (OKE : Hid (ok = upOk s1 f)) (HKE : Hid (K0 = { (Tl.key { zeroT with ty := 8, intv := iv, seq := sq, met := mt, pr := q }) with id := (s1.r).getD zeroI, ad := (upHop s1 f).getD zeroA })) :
    Calls Tryz.prog 81 #[.pointer (some ⟨P, 0, none⟩)] w fun e w' => SayR w K0 ok e w' ∧ (∃ R, Par w' P R s1) ∧ Mv w w' P g := by
  have hp := hpar.pg h
  have hlt := h.lt
  have hPl := hpar.lt
  have hpl : pl < 256 := by have := val1_lt ((r.adv l 1).adv l 1) l; rw [plH.out] at this; exact this
  have hom : om < 256 := by have := val1_lt (((r.adv l 1).adv l 1).adv l 1) l; rw [omH.out] at this; exact this
  have ypl : IntKind.i64.wrap (pl : Int) = (pl : Int) := by rw [IntKind.wrap_i64]; omega
  have yom : IntKind.i64.wrap (om : Int) = (om : Int) := by rw [IntKind.wrap_i64]; omega
  have HU4 : Hid (∀ W, RdS W g bv l r → Calls Tryz.prog 68 #[.pointer (some ⟨g, 0, none⟩)] W fun e w' => e = .returned (.int .u8 (ae : Int)) ∧ NowS W w' g bv l (r.adv l 1)) := fun W h => by rw [← aeH.out]; exact u8_r h
  have HU9 : Hid (∀ W, RdS W g bv l (r.adv l 1) → Calls Tryz.prog 68 #[.pointer (some ⟨g, 0, none⟩)] W fun e w' => e = .returned (.int .u8 (fl : Int)) ∧ NowS W w' g bv l ((r.adv l 1).adv l 1)) := fun W h => by rw [← flH.out]; exact u8_r h
  have HU14 : Hid (∀ W, RdS W g bv l ((r.adv l 1).adv l 1) → Calls Tryz.prog 68 #[.pointer (some ⟨g, 0, none⟩)] W fun e w' => e = .returned (.int .u8 (pl : Int)) ∧ NowS W w' g bv l (((r.adv l 1).adv l 1).adv l 1)) := fun W h => by rw [← plH.out]; exact u8_r h
  have HU20 : Hid (∀ W, RdS W g bv l (((r.adv l 1).adv l 1).adv l 1) → Calls Tryz.prog 68 #[.pointer (some ⟨g, 0, none⟩)] W fun e w' => e = .returned (.int .u8 (om : Int)) ∧ NowS W w' g bv l ((((r.adv l 1).adv l 1).adv l 1).adv l 1)) := fun W h => by rw [← omH.out]; exact u8_r h
  have HU4b : Hid (∀ W, RdS W g bv l ((((r.adv l 1).adv l 1).adv l 1).adv l 1) → Calls Tryz.prog 69 #[.pointer (some ⟨g, 0, none⟩)] W fun e w' => e = .returned (.int .u16 (iv : Int)) ∧ NowS W w' g bv l (((((r.adv l 1).adv l 1).adv l 1).adv l 1).adv l 2)) := fun W h => by rw [← ivH.out]; exact u16_r h
  have HU9b : Hid (∀ W, RdS W g bv l (((((r.adv l 1).adv l 1).adv l 1).adv l 1).adv l 2) → Calls Tryz.prog 69 #[.pointer (some ⟨g, 0, none⟩)] W fun e w' => e = .returned (.int .u16 (sq : Int)) ∧ NowS W w' g bv l ((((((r.adv l 1).adv l 1).adv l 1).adv l 1).adv l 2).adv l 2)) := fun W h => by rw [← sqH.out]; exact u16_r h
  have HU14b : Hid (∀ W, RdS W g bv l ((((((r.adv l 1).adv l 1).adv l 1).adv l 1).adv l 2).adv l 2) → Calls Tryz.prog 69 #[.pointer (some ⟨g, 0, none⟩)] W fun e w' => e = .returned (.int .u16 (mt : Int)) ∧ NowS W w' g bv l (((((((r.adv l 1).adv l 1).adv l 1).adv l 1).adv l 2).adv l 2).adv l 2)) := fun W h => by rw [← mtH.out]; exact u16_r h
  clear aeH flH plH omH ivH sqH mtH
  go_enter Tryz.func81, Tryz.ntmps81
  go_wp2_with (refine alG infoTz (by rfl) rfl ?_; intro gA wA a1 a2 a3 rA)
  have hgA : gA ≠ g := by omega
  have hN : NowS w wA.drew g bv l r := ((h.below a3).now.after a3).below (bd _)
  have rAc := rA.below (bd _) rA.lt
  clear a3 rA
  refine wp_region_noPanic ?_
  refine wp_region_held_drew (S := fun W => W.cell? ⟨P, 11, none⟩ = some (.pointer (some ⟨g, 0, none⟩))) (by kernel_rfl) ((hp.now hN).c) (fun hHeld => ?_)
  refine tA 0 ?_
  refine tA 1 ?_
  refine tA 2 ?_
  refine tA 3 ?_
  refine tA 5 ?_
  refine tA 6 ?_
  refine tA 7 ?_
  refine tA 8 ?_
  refine tA 10 ?_
  refine tA 11 ?_
  refine tA 12 ?_
  refine tA 13 ?_
  refine tA 16 ?_
  refine tA 17 ?_
  refine tA 18 ?_
  refine tA 19 ?_
  refine r1 4 fun K hK => ?_
  go_simp
  refine (HU4.out _ hN.rd).mono ?_
  rintro e w1 ⟨rfl, hn1⟩
  replace rAc := rAc.nowS hn1 hgA
  replace hN := hN.trans hn1
  clear hn1
  refine oK hK (by exact (hp.now hN).c) fun hHeld => ?_
  clear hK K
  refine r1 9 fun K hK => ?_
  go_simp
  refine (HU9.out _ hN.rd).mono ?_
  rintro e w1 ⟨rfl, hn1⟩
  replace rAc := rAc.nowS hn1 hgA
  replace hN := hN.trans hn1
  clear hn1
  refine oK hK (by exact (hp.now hN).c) fun hHeld => ?_
  clear hK K
  refine r1 14 fun K hK => ?_
  go_simp
  refine (HU14.out _ hN.rd).mono ?_
  rintro e w1 ⟨rfl, hn1⟩
  replace rAc := rAc.nowS hn1 hgA
  replace hN := hN.trans hn1
  clear hn1
  refine oK hK (by exact (hp.now hN).c) fun hHeld => ?_
  clear hK K
  refine tA 15 ?_
  refine r1 20 fun K hK => ?_
  go_simp
  refine (HU20.out _ hN.rd).mono ?_
  rintro e w1 ⟨rfl, hn1⟩
  replace rAc := rAc.nowS hn1 hgA
  replace hN := hN.trans hn1
  clear hn1
  refine oK hK (by exact (hp.now hN).c) fun hHeld => ?_
  clear hK K
  refine tA 21 ?_
  refine tA 22 ?_
  refine tA 23 ?_
  refine tA 24 ?_
  refine tA 25 ?_
  refine dN ?_
  refine NoPanic.normal ?_
  go_wp2
  clear hHeld HU4 HU9 HU14 HU20
  replace hN := hN.below (bd _)
  replace rAc := rAc.below (bd _) rAc.lt
  apply region_ex (PP := fun gB W => Row W gB 45 (tcells { zeroT with ty := 8, intv := iv, seq := sq, met := mt }) ∧ Row W gA 45 (tcells zeroT) ∧ NowS w W g bv l (((((((r.adv l 1).adv l 1).adv l 1).adv l 1).adv l 2).adv l 2).adv l 2) ∧ w.heap.size ≤ gB ∧ gA < gB)
  case h1 =>
    refine wp_region_held_drew (S := fun W => W.cell? ⟨P, 11, none⟩ = some (.pointer (some ⟨g, 0, none⟩))) (by kernel_rfl) ((hp.now hN).c) (fun hHeld => ?_)
    refine tA 0 ?_
    refine tA 1 ?_
    refine tA 2 ?_
    refine tA 3 ?_
    refine tA 5 ?_
    refine tA 6 ?_
    refine tA 7 ?_
    refine tA 8 ?_
    refine tA 10 ?_
    refine tA 11 ?_
    refine tA 12 ?_
    refine tA 13 ?_
    refine rM [4,16] ?_
    refine cL (fun K hK => ?_) ?_
    · skip
      go_simp
      refine (HU4b.out _ hN.rd).mono ?_
      rintro e w1 ⟨rfl, hn1⟩
      replace rAc := rAc.nowS hn1 hgA
      try replace rB := rB.nowS hn1 (by omega)
      replace hN := hN.trans hn1
      clear hn1
      refine oK hK (by exact (hp.now hN).c) fun hHeld => ?_
      clear hK K
      refine rM [9,16] ?_
      refine cL (fun K hK => ?_) ?_
      · skip
        go_simp
        refine (HU9b.out _ hN.rd).mono ?_
        rintro e w1 ⟨rfl, hn1⟩
        replace rAc := rAc.nowS hn1 hgA
        try replace rB := rB.nowS hn1 (by omega)
        replace hN := hN.trans hn1
        clear hn1
        refine oK hK (by exact (hp.now hN).c) fun hHeld => ?_
        clear hK K
        refine rM [14,16] ?_
        refine cL (fun K hK => ?_) ?_
        · skip
          go_simp
          refine (HU14b.out _ hN.rd).mono ?_
          rintro e w1 ⟨rfl, hn1⟩
          replace rAc := rAc.nowS hn1 hgA
          try replace rB := rB.nowS hn1 (by omega)
          replace hN := hN.trans hn1
          clear hn1
          refine oK hK (by exact (hp.now hN).c) fun hHeld => ?_
          clear hK K
          refine tL 15 rfl (yB [(0, .const (.int .u8 8)), (2, .tmp 38), (3, .tmp 43), (5, .tmp 48)] (by rfl) rfl (bdUpd _ _ _)) ?_
          refine r1 16 fun K hK => ?_
          refine sAlG infoTz (by rfl) rfl ?_
          intro gB wB b1 b2 b3 rB
          have hgB : w.heap.size ≤ gB := Nat.le_trans hN.size b1
          have hne : gA < gB := Nat.lt_of_lt_of_le rAc.lt b1
          replace rAc := rAc.below b3 rAc.lt
          replace hN := hN.below b3
          clear b1 b2 b3
          refine oK hK (by exact (hp.now hN).c) fun hHeld => ?_
          clear hK K
          refine r1 17 fun K hK => ?_
          refine sStT (.tmp 8) (.tmp 49) (by rfl) rfl gB { zeroT with ty := 8, intv := iv, seq := sq, met := mt } _ rfl rfl rB ?_
          intro wC hgC rC
          replace rAc := rAc.grown hgC (fun e => by have := Option.some.inj e; omega)
          replace hN := NowS.fresh h hN hgC hgB
          refine oK hK (by exact (hp.now hN).c) fun hHeld => ?_
          clear hK K
          refine dN ?_
          exact ⟨gB, rfl, rC, rAc, hN, hgB, hne⟩
        refine cE fun K hK => ?_
        refine sAlG infoTz (by rfl) rfl ?_
        intro gB wB b1 b2 b3 rB
        have hgB : w.heap.size ≤ gB := Nat.le_trans hN.size b1
        have hne : gA < gB := Nat.lt_of_lt_of_le rAc.lt b1
        replace rAc := rAc.below b3 rAc.lt
        replace hN := hN.below b3
        clear b1 b2 b3
        refine oK hK (by exact (hp.now hN).c) fun hHeld => ?_
        clear hK K
        refine r1 14 fun K hK => ?_
        go_simp
        refine (HU14b.out _ hN.rd).mono ?_
        rintro e w1 ⟨rfl, hn1⟩
        replace rAc := rAc.nowS hn1 hgA
        try replace rB := rB.nowS hn1 (by omega)
        replace hN := hN.trans hn1
        clear hn1
        refine oK hK (by exact (hp.now hN).c) fun hHeld => ?_
        clear hK K
        refine tL 15 rfl (yB [(0, .const (.int .u8 8)), (2, .tmp 38), (3, .tmp 43), (5, .tmp 48)] (by rfl) rfl (bdUpd _ _ _)) ?_
        refine r1 17 fun K hK => ?_
        refine sStT (.tmp 8) (.tmp 49) (by rfl) rfl gB { zeroT with ty := 8, intv := iv, seq := sq, met := mt } _ rfl rfl rB ?_
        intro wC hgC rC
        replace rAc := rAc.grown hgC (fun e => by have := Option.some.inj e; omega)
        replace hN := NowS.fresh h hN hgC hgB
        refine oK hK (by exact (hp.now hN).c) fun hHeld => ?_
        clear hK K
        refine dN ?_
        exact ⟨gB, rfl, rC, rAc, hN, hgB, hne⟩
      refine cE fun K hK => ?_
      refine sAlG infoTz (by rfl) rfl ?_
      intro gB wB b1 b2 b3 rB
      have hgB : w.heap.size ≤ gB := Nat.le_trans hN.size b1
      have hne : gA < gB := Nat.lt_of_lt_of_le rAc.lt b1
      replace rAc := rAc.below b3 rAc.lt
      replace hN := hN.below b3
      clear b1 b2 b3
      refine oK hK (by exact (hp.now hN).c) fun hHeld => ?_
      clear hK K
      refine r1 9 fun K hK => ?_
      go_simp
      refine (HU9b.out _ hN.rd).mono ?_
      rintro e w1 ⟨rfl, hn1⟩
      replace rAc := rAc.nowS hn1 hgA
      try replace rB := rB.nowS hn1 (by omega)
      replace hN := hN.trans hn1
      clear hn1
      refine oK hK (by exact (hp.now hN).c) fun hHeld => ?_
      clear hK K
      refine r1 14 fun K hK => ?_
      go_simp
      refine (HU14b.out _ hN.rd).mono ?_
      rintro e w1 ⟨rfl, hn1⟩
      replace rAc := rAc.nowS hn1 hgA
      try replace rB := rB.nowS hn1 (by omega)
      replace hN := hN.trans hn1
      clear hn1
      refine oK hK (by exact (hp.now hN).c) fun hHeld => ?_
      clear hK K
      refine tL 15 rfl (yB [(0, .const (.int .u8 8)), (2, .tmp 38), (3, .tmp 43), (5, .tmp 48)] (by rfl) rfl (bdUpd _ _ _)) ?_
      refine r1 17 fun K hK => ?_
      refine sStT (.tmp 8) (.tmp 49) (by rfl) rfl gB { zeroT with ty := 8, intv := iv, seq := sq, met := mt } _ rfl rfl rB ?_
      intro wC hgC rC
      replace rAc := rAc.grown hgC (fun e => by have := Option.some.inj e; omega)
      replace hN := NowS.fresh h hN hgC hgB
      refine oK hK (by exact (hp.now hN).c) fun hHeld => ?_
      clear hK K
      refine dN ?_
      exact ⟨gB, rfl, rC, rAc, hN, hgB, hne⟩
    refine cE fun K hK => ?_
    refine sAlG infoTz (by rfl) rfl ?_
    intro gB wB b1 b2 b3 rB
    have hgB : w.heap.size ≤ gB := Nat.le_trans hN.size b1
    have hne : gA < gB := Nat.lt_of_lt_of_le rAc.lt b1
    replace rAc := rAc.below b3 rAc.lt
    replace hN := hN.below b3
    clear b1 b2 b3
    refine oK hK (by exact (hp.now hN).c) fun hHeld => ?_
    clear hK K
    refine r1 4 fun K hK => ?_
    go_simp
    refine (HU4b.out _ hN.rd).mono ?_
    rintro e w1 ⟨rfl, hn1⟩
    replace rAc := rAc.nowS hn1 hgA
    try replace rB := rB.nowS hn1 (by omega)
    replace hN := hN.trans hn1
    clear hn1
    refine oK hK (by exact (hp.now hN).c) fun hHeld => ?_
    clear hK K
    refine r1 9 fun K hK => ?_
    go_simp
    refine (HU9b.out _ hN.rd).mono ?_
    rintro e w1 ⟨rfl, hn1⟩
    replace rAc := rAc.nowS hn1 hgA
    try replace rB := rB.nowS hn1 (by omega)
    replace hN := hN.trans hn1
    clear hn1
    refine oK hK (by exact (hp.now hN).c) fun hHeld => ?_
    clear hK K
    refine r1 14 fun K hK => ?_
    go_simp
    refine (HU14b.out _ hN.rd).mono ?_
    rintro e w1 ⟨rfl, hn1⟩
    replace rAc := rAc.nowS hn1 hgA
    try replace rB := rB.nowS hn1 (by omega)
    replace hN := hN.trans hn1
    clear hn1
    refine oK hK (by exact (hp.now hN).c) fun hHeld => ?_
    clear hK K
    refine tL 15 rfl (yB [(0, .const (.int .u8 8)), (2, .tmp 38), (3, .tmp 43), (5, .tmp 48)] (by rfl) rfl (bdUpd _ _ _)) ?_
    refine r1 17 fun K hK => ?_
    refine sStT (.tmp 8) (.tmp 49) (by rfl) rfl gB { zeroT with ty := 8, intv := iv, seq := sq, met := mt } _ rfl rfl rB ?_
    intro wC hgC rC
    replace rAc := rAc.grown hgC (fun e => by have := Option.some.inj e; omega)
    replace hN := NowS.fresh h hN hgC hgB
    refine oK hK (by exact (hp.now hN).c) fun hHeld => ?_
    clear hK K
    refine dN ?_
    exact ⟨gB, rfl, rC, rAc, hN, hgB, hne⟩
  case h2 =>
  clear hN rAc HU4b HU9b HU14b
  rintro gB wC ⟨rC, rAC, hN, hgB, hAB⟩
  have cR := (hp.now hN).c
  have hgB2 : gB ≠ g := by omega
  have c5 : wC.cell? ⟨gB, 5, none⟩ = some (.int .u16 (mt : Int)) := rC.cell 5
  go_wp2_with (first
    | (have kk := m6; refine stQt (.tmp 89) (.tmp 87) (by rfl) rfl gB { zeroT with ty := 8, intv := iv, seq := sq, met := mt } q rfl rfl rB6 ?_; intro w7 hg7 rB7; have rA7 := rA6.grown hg7 (fun e => by have := Option.some.inj e; omega); have rD7 := rD6.grown hg7 (fun e => by have := Option.some.inj e; omega); have c57 : w7.cell? ⟨gB, 5, none⟩ = some (.int .u16 (mt : Int)) := rB7.cell 5; have P7 := P6.fresh hg7 (rB6.kind (by decide) (by decide) (by decide)); have M7 := (M5.trans m6).fresh hg7 hgB)
    | (go_at_call 118; have kk := P5; refine (HQ.out _ P5 R5).mono ?_; rintro e w6 ⟨rfl, ⟨RR, P6⟩, m6⟩; have rA6 := m6.row rA5 (by omega) hgA; have rB6 := m6.row rB5 (by omega) hgB2; have rD6 := m6.row rD5 (by omega) (by omega))
    | (have kk := P5; refine ldP (.tmp 9) (by rfl) rfl gD 0 dst rfl rD5.range ?_)
    | (go_at_call 117; have kk := hn4; refine (HK.out _ PK).mono ?_; rintro e w5 ⟨rfl, P5, hgK⟩; have rA5 := rA4.grown hgK (fun e => by have := Option.some.inj e; omega); have rB5 := rB4.grown hgK (fun e => by have := Option.some.inj e; omega); have rD5 := rD4.grown hgK (fun e => by have := Option.some.inj e; omega); have R5 : RdS w5 g bv l rn := rd_far N4.rd hgK (fun e => hp.ne e.symm) (PK.bytes N4.rd); have M5 : Mv w w5 P g := (Mv.ofNow N4).trans (Mv.ofP hgK))
    | (have kk := hn4; refine ldA (.tmp 79) (by rfl) rfl gD 0 dst.a rfl (LP.a (show LP w4 gD 0 dst from rD4.range)) ?_)
    | (go_at_call 112; have kk := rD3; refine (HW.out _ (hp.now N3) N3.rd).mono ?_; rintro e w4 ⟨rfl, hn4⟩; have N4 := N3.trans hn4; have rA4 := rA3.nowS hn4 hgA; have rB4 := rB3.nowS hn4 hgB2; have rD4 := rD3.nowS hn4 (by omega); have PK := hpar.now h N4)
    | (have kk := rD; refine stP0 (.tmp 9) (.tmp 73) (by rfl) rfl gD dst _ (pcells_len _) rfl rfl rD ?_; intro w3 hg3 rD3; have hgD : w.heap.size ≤ gD := Nat.le_trans N2.size d1; have hBD : gB < gD := Nat.lt_of_lt_of_le (rC.nowS hn2 hgB2).lt d1; have rA3 := ((rAC.nowS hn2 hgA).below d3 (rAC.nowS hn2 hgA).lt).grown hg3 (fun e => by have := Option.some.inj e; omega); have rB3 := ((rC.nowS hn2 hgB2).below d3 (rC.nowS hn2 hgB2).lt).grown hg3 (fun e => by have := Option.some.inj e; omega); have N3 := NowS.fresh h (N2.below d3) hg3 hgD)
    | (have kk := N2; refine alG infoPz (by rfl) rfl ?_; intro gD wD d1 d2 d3 rD)
    | (go_at_call 116; refine (HP.out _ (hpar.now h hN) hN.rd).mono ?_; rintro e w2 ⟨rfl, hn2⟩; have N2 := hN.trans hn2))
  have hPD : P ≠ gD := by omega
  have P9 := P7.below (bd w7)
  have M9 := M7.trans (Mv.ofB (bd w7))
  have rA9 := rA7.below (bd w7) rA7.lt
  have rB9 := rB7.below (bd w7) rB7.lt
  have rD9 := rD7.below (bd w7) rD7.lt
  clear c57 rA7 rB7 rD7 P7 M7 m6 P6 rA6 rB6 rD6 hg7
  obtain ⟨⟨v0, c0, p0⟩, ⟨v5, cc5, p5⟩, ⟨v7, c7, p7⟩, _⟩ := P9.at
  rcases hf with rfl | rfl
  · have hEQ : upHop s1 4 = s1.h4 := rfl
    rcases p5 with ⟨rfl, eh⟩ | ⟨bh, H, rfl, eh, rh⟩
    · obtain rfl : ok = false := by rw [OKE.out]; unfold upOk; rw [hEQ, eh]
      refine wp_region_noPanic ?_
      refine wp_region_held_drew (S := fun W => Row W gD 40 (pcells dst) ∧ W.cell? ⟨P, 5, none⟩ = some (.pointer none)) (by kernel_rfl) (⟨rD9, cc5⟩) (fun hHeld => ?_)
      refine tA 0 ?_
      refine tL 1 rfl (yP dst (fun W hW => hW.1.range) (by rfl) rfl rfl) ?_
      refine tA 3 ?_
      refine tA 4 ?_
      refine tA 5 ?_
      refine r1 2 fun K hK => ?_
      go_simp
      refine (HFM.out _).mono ?_
      rintro e w10 ⟨rfl, hb10⟩
      have rDa := rD9.below hb10 rD9.lt
      have cva := (hb10.cell (p := ⟨P, 5, none⟩) P9.lt).trans cc5
      refine oK hK (by exact ⟨rDa, cva⟩) fun hHeld => ?_
      clear hK K
      refine tA 6 ?_
      refine tA 7 ?_
      refine tA 8 ?_
      refine dN ?_
      refine NoPanic.normal ?_
      have P10 := P9.below hb10
      have M10 := M9.trans (Mv.ofB hb10)
      have rA10 := rA9.below hb10 rA9.lt
      have rB10 := rB9.below hb10 rB9.lt
      have c010 := (hb10.cell (p := ⟨P, 0, none⟩) P9.lt).trans c0
      clear hHeld
      have rAx := rA10
      have rBx := rB10
      have Px := P10
      have Mx := M10
      go_wp2_with (first
        | (have kk := rB10; refine stT (.tmp 2) (.tmp 127) (by rfl) rfl gA { zeroT with ty := 8, intv := iv, seq := sq, met := mt, pr := q } _ rfl rfl rAx ?_; intro w8 hg8 r8)
        | (have kk := rB10; refine ldT (.tmp 8) (by rfl) rfl gB { zeroT with ty := 8, intv := iv, seq := sq, met := mt, pr := q } rfl rBx ?_))
      have P8 := Px.fresh hg8 (rAx.kind (by decide) (by decide) (by decide))
      exact bodyPost_ret (retCT rfl _ _ 0 rfl (lvT r8)) rfl ⟨⟨{ zeroT with ty := 8, intv := iv, seq := sq, met := mt, pr := q }, rfl, (fun e => by cases e), Stms.none _ _ _ rfl rfl rfl rfl⟩, ⟨_, P8⟩, Mx.fresh hg8 a1⟩
    · rcases p0 with ⟨rfl, ei⟩ | ⟨bi, i, rfl, ei, ri⟩
      · obtain rfl : ok = false := by rw [OKE.out]; unfold upOk; rw [hEQ, eh, ei]
        refine wp_region_noPanic ?_
        refine wp_region_held_drew (S := fun W => Row W gD 40 (pcells dst) ∧ W.cell? ⟨P, 5, none⟩ = some (.pointer (some ⟨bh, 0, none⟩))) (by kernel_rfl) (⟨rD9, cc5⟩) (fun hHeld => ?_)
        refine tA 0 ?_
        refine tL 1 rfl (yP dst (fun W hW => hW.1.range) (by rfl) rfl rfl) ?_
        refine tA 3 ?_
        refine tA 4 ?_
        refine tA 5 ?_
        refine r1 2 fun K hK => ?_
        go_simp
        refine (HFM.out _).mono ?_
        rintro e w10 ⟨rfl, hb10⟩
        have rDa := rD9.below hb10 rD9.lt
        have cva := (hb10.cell (p := ⟨P, 5, none⟩) P9.lt).trans cc5
        refine oK hK (by exact ⟨rDa, cva⟩) fun hHeld => ?_
        clear hK K
        refine tA 6 ?_
        refine tA 7 ?_
        refine tA 8 ?_
        refine dN ?_
        refine NoPanic.normal ?_
        have P10 := P9.below hb10
        have M10 := M9.trans (Mv.ofB hb10)
        have rA10 := rA9.below hb10 rA9.lt
        have rB10 := rB9.below hb10 rB9.lt
        have c010 := (hb10.cell (p := ⟨P, 0, none⟩) P9.lt).trans c0
        clear hHeld
        have rAx := rA10
        have rBx := rB10
        have Px := P10
        have Mx := M10
        go_wp2_with (first
          | (have kk := rB10; refine stT (.tmp 2) (.tmp 127) (by rfl) rfl gA { zeroT with ty := 8, intv := iv, seq := sq, met := mt, pr := q } _ rfl rfl rAx ?_; intro w8 hg8 r8)
          | (have kk := rB10; refine ldT (.tmp 8) (by rfl) rfl gB { zeroT with ty := 8, intv := iv, seq := sq, met := mt, pr := q } rfl rBx ?_))
        have P8 := Px.fresh hg8 (rAx.kind (by decide) (by decide) (by decide))
        exact bodyPost_ret (retCT rfl _ _ 0 rfl (lvT r8)) rfl ⟨⟨{ zeroT with ty := 8, intv := iv, seq := sq, met := mt, pr := q }, rfl, (fun e => by cases e), Stms.none _ _ _ rfl rfl rfl rfl⟩, ⟨_, P8⟩, Mx.fresh hg8 a1⟩
      · have HNB : Hid (∀ W, Calls Tryz.prog 113 #[.agg (icells i).toArray] W (Gives W (.bool (!ok)))) := by
          have e : (!ok) = nobB i := by rw [OKE.out]; unfold upOk; rw [hEQ, eh, ei]; simp
          rw [e]
          exact fun W => nobody_any i W
        have HKF : Hid (Tl.key { zeroT with ty := 8, intv := iv, seq := sq, met := mt, pr := q, id := i, ad := H } = K0) := by
          show _ = _
          have := HKE.out
          rw [this, ei, hEQ, eh]
          rfl
        clear OKE HKE ei eh hEQ
        cases ok
        · have hno : (!false) = true := rfl
          rw [hno] at HNB
          refine wp_region_noPanic ?_
          refine wp_region_held_drew (S := fun W => Row W gD 40 (pcells dst) ∧ W.cell? ⟨P, 5, none⟩ = some (.pointer (some ⟨bh, 0, none⟩))) (by kernel_rfl) (⟨rD9, cc5⟩) (fun hHeld => ?_)
          refine tA 0 ?_
          refine tL 1 rfl (yP dst (fun W hW => hW.1.range) (by rfl) rfl rfl) ?_
          refine tA 3 ?_
          refine tA 4 ?_
          refine tA 5 ?_
          refine r1 2 fun K hK => ?_
          go_simp
          refine (HFM.out _).mono ?_
          rintro e w10 ⟨rfl, hb10⟩
          have rDa := rD9.below hb10 rD9.lt
          have cva := (hb10.cell (p := ⟨P, 5, none⟩) P9.lt).trans cc5
          refine oK hK (by exact ⟨rDa, cva⟩) fun hHeld => ?_
          clear hK K
          refine tA 6 ?_
          refine tA 7 ?_
          refine tA 8 ?_
          refine dN ?_
          refine NoPanic.normal ?_
          have P10 := P9.below hb10
          have M10 := M9.trans (Mv.ofB hb10)
          have rA10 := rA9.below hb10 rA9.lt
          have rB10 := rB9.below hb10 rB9.lt
          have c010 := (hb10.cell (p := ⟨P, 0, none⟩) P9.lt).trans c0
          clear hHeld
          have ri10 := ri.below hb10 ri.lt
          go_wp2_with (first
            | (have kk := rB10; refine stT (.tmp 2) (.tmp 127) (by rfl) rfl gA { zeroT with ty := 8, intv := iv, seq := sq, met := mt, pr := q } _ rfl rfl rAx ?_; intro w8 hg8 r8)
            | (have kk := rB10; refine ldT (.tmp 8) (by rfl) rfl gB { zeroT with ty := 8, intv := iv, seq := sq, met := mt, pr := q } rfl rBx ?_)
            | (go_at_call 113; refine (HNB.out _).mono ?_; rintro e w11 ⟨rfl, hb11⟩; have rAx := rA10.below hb11 rA10.lt; have rBx := rB10.below hb11 rB10.lt; have Px := P10.below hb11; have Mx := M10.trans (Mv.ofB hb11))
            | (refine ldI (.tmp 123) (by rfl) rfl bi 0 i rfl ri10.range ?_))
          have P8 := Px.fresh hg8 (rAx.kind (by decide) (by decide) (by decide))
          exact bodyPost_ret (retCT rfl _ _ 0 rfl (lvT r8)) rfl ⟨⟨{ zeroT with ty := 8, intv := iv, seq := sq, met := mt, pr := q }, rfl, (fun e => by cases e), Stms.none _ _ _ rfl rfl rfl rfl⟩, ⟨_, P8⟩, Mx.fresh hg8 a1⟩
        · have hno : (!true) = false := rfl
          rw [hno] at HNB
          refine wp_region_noPanic ?_
          refine wp_region_held_drew (S := fun W => Row W gD 40 (pcells dst) ∧ W.cell? ⟨P, 5, none⟩ = some (.pointer (some ⟨bh, 0, none⟩))) (by kernel_rfl) (⟨rD9, cc5⟩) (fun hHeld => ?_)
          refine tA 0 ?_
          refine tL 1 rfl (yP dst (fun W hW => hW.1.range) (by rfl) rfl rfl) ?_
          refine tA 3 ?_
          refine tA 4 ?_
          refine tA 5 ?_
          refine r1 2 fun K hK => ?_
          go_simp
          refine (HFM.out _).mono ?_
          rintro e w10 ⟨rfl, hb10⟩
          have rDa := rD9.below hb10 rD9.lt
          have cva := (hb10.cell (p := ⟨P, 5, none⟩) P9.lt).trans cc5
          refine oK hK (by exact ⟨rDa, cva⟩) fun hHeld => ?_
          clear hK K
          refine tA 6 ?_
          refine tA 7 ?_
          refine tA 8 ?_
          refine dN ?_
          refine NoPanic.normal ?_
          have P10 := P9.below hb10
          have M10 := M9.trans (Mv.ofB hb10)
          have rA10 := rA9.below hb10 rA9.lt
          have rB10 := rB9.below hb10 rB9.lt
          have c010 := (hb10.cell (p := ⟨P, 0, none⟩) P9.lt).trans c0
          clear hHeld
          have ri10 := ri.below hb10 ri.lt
          have rh10 := rh.below hb10 rh.lt
          go_wp2_with (first
            | (go_at_call 113; refine (HNB.out _).mono ?_; rintro e w11 ⟨rfl, hb11⟩; have rAx := rA10.below hb11 rA10.lt; have rBx := rB10.below hb11 rB10.lt; have Px := P10.below hb11; have Mx := M10.trans (Mv.ofB hb11))
            | (refine ldI (.tmp 123) (by rfl) rfl bi 0 i rfl ri10.range ?_))
          have rAy := rAx.below (bd w11) rAx.lt
          have rBy := rBx.below (bd w11) rBx.lt
          have Py := Px.below (bd w11)
          have My := Mx.trans (Mv.ofB (bd w11))
          have riy := (ri10.below hb11 ri10.lt).below (bd w11) (ri10.below hb11 ri10.lt).lt
          have rhy := (rh10.below hb11 rh10.lt).below (bd w11) (rh10.below hb11 rh10.lt).lt
          have c0y := (((hb11.cell (p := ⟨P, 0, none⟩) P10.lt).trans c010))
          have c0z : w11.drew.cell? ⟨P, 0, none⟩ = some (.pointer (some ⟨bi, 0, none⟩)) := c0y
          have hbi : bi ≠ gB := fun e => absurd (Row.type (e ▸ riy) rBy) (by decide)
          have hbh : bh ≠ gB := fun e => absurd (Row.type (e ▸ rhy) rBy) (by decide)
          have hPB : P ≠ gB := by omega
          clear rAx rBx Px Mx ri10 rh10 c010 rA10 rB10 P10 M10
          refine wp_region_noPanic ?_
          refine wp_region_held_drew (S := fun W => Row W bi 38 (icells i) ∧ Row W bh 23 (acells H) ∧ W.cell? ⟨P, 0, none⟩ = some (.pointer (some ⟨bi, 0, none⟩))) (by kernel_rfl) (⟨riy, rhy, c0z⟩) (fun hHeld => ?_)
          refine tA 0 ?_
          refine tA 1 ?_
          refine tA 2 ?_
          refine tA 3 ?_
          refine tA 4 ?_
          refine tA 5 ?_
          refine tL 6 rfl (yI i (fun W hW => hW.1.range) (by rfl) rfl rfl) ?_
          refine tA 7 ?_
          refine tA 8 ?_
          refine tL 9 rfl (yA H (fun W hW => hW.2.1.range) (by rfl) rfl rfl) ?_
          refine tA 10 ?_
          refine r1 11 fun K hK => ?_
          refine sStIt (.tmp 138) (.tmp 134) (by rfl) rfl gB { zeroT with ty := 8, intv := iv, seq := sq, met := mt, pr := q } i rfl rfl rBy ?_
          intro w12 hg12 rB12
          have S12 : Row w12 bi 38 (icells i) ∧ Row w12 bh 23 (acells H) ∧ w12.cell? ⟨P, 0, none⟩ = some (.pointer (some ⟨bi, 0, none⟩)) := ⟨riy.grown hg12 (fun e => hbi (Option.some.inj e)), rhy.grown hg12 (fun e => hbh (Option.some.inj e)), hg12.cell c0z (fun e => hPB (Option.some.inj e))⟩
          have rA12 := rAy.grown hg12 (fun e => by have := Option.some.inj e; omega)
          have P12 := Py.fresh hg12 (rBy.kind (by decide) (by decide) (by decide))
          have M12 := My.fresh hg12 hgB
          refine oK hK (by exact S12) fun hHeld => ?_
          clear hK K
          refine tA 12 ?_
          refine r1 13 fun K hK => ?_
          refine sStAt (.tmp 139) (.tmp 137) (by rfl) rfl gB { zeroT with ty := 8, intv := iv, seq := sq, met := mt, pr := q, id := i } H rfl rfl rB12 ?_
          intro w13 hg13 rB13
          have S13 : Row w13 bi 38 (icells i) ∧ Row w13 bh 23 (acells H) ∧ w13.cell? ⟨P, 0, none⟩ = some (.pointer (some ⟨bi, 0, none⟩)) := ⟨S12.1.grown hg13 (fun e => hbi (Option.some.inj e)), S12.2.1.grown hg13 (fun e => hbh (Option.some.inj e)), hg13.cell S12.2.2 (fun e => hPB (Option.some.inj e))⟩
          have rA13 := rA12.grown hg13 (fun e => by have := Option.some.inj e; omega)
          have P13 := P12.fresh hg13 (rB12.kind (by decide) (by decide) (by decide))
          have M13 := M12.fresh hg13 hgB
          refine oK hK (by exact S13) fun hHeld => ?_
          clear hK K
          refine dN ?_
          refine NoPanic.normal ?_
          clear S12 S13 hHeld
          go_wp2_with (first
            | (have kk := rB13; refine stT (.tmp 2) (.tmp 140) (by rfl) rfl gA { zeroT with ty := 8, intv := iv, seq := sq, met := mt, pr := q, id := i, ad := H } _ rfl rfl rA13 ?_; intro w8 hg8 r8)
            | (have kk := rB13; refine ldT (.tmp 8) (by rfl) rfl gB { zeroT with ty := 8, intv := iv, seq := sq, met := mt, pr := q, id := i, ad := H } rfl rB13 ?_))
          have P8 := P13.fresh hg8 (rA13.kind (by decide) (by decide) (by decide))
          exact bodyPost_ret (retCT rfl _ _ 0 rfl (lvT r8)) rfl ⟨⟨{ zeroT with ty := 8, intv := iv, seq := sq, met := mt, pr := q, id := i, ad := H }, rfl, (fun _ => HKF.out), Stms.none _ _ _ rfl rfl rfl rfl⟩, ⟨_, P8⟩, M13.fresh hg8 a1⟩
  · have hEQ : upHop s1 6 = s1.h6 := rfl
    rcases p7 with ⟨rfl, eh⟩ | ⟨bh, H, rfl, eh, rh⟩
    · obtain rfl : ok = false := by rw [OKE.out]; unfold upOk; rw [hEQ, eh]
      refine wp_region_noPanic ?_
      refine wp_region_held_drew (S := fun W => Row W gD 40 (pcells dst) ∧ W.cell? ⟨P, 7, none⟩ = some (.pointer none)) (by kernel_rfl) (⟨rD9, c7⟩) (fun hHeld => ?_)
      refine tA 0 ?_
      refine tL 1 rfl (yP dst (fun W hW => hW.1.range) (by rfl) rfl rfl) ?_
      refine tA 3 ?_
      refine tA 4 ?_
      refine tA 5 ?_
      refine r1 2 fun K hK => ?_
      go_simp
      refine (HFM.out _).mono ?_
      rintro e w10 ⟨rfl, hb10⟩
      have rDa := rD9.below hb10 rD9.lt
      have cva := (hb10.cell (p := ⟨P, 7, none⟩) P9.lt).trans c7
      refine oK hK (by exact ⟨rDa, cva⟩) fun hHeld => ?_
      clear hK K
      refine tA 6 ?_
      refine tA 7 ?_
      refine tA 8 ?_
      refine dN ?_
      refine NoPanic.normal ?_
      have P10 := P9.below hb10
      have M10 := M9.trans (Mv.ofB hb10)
      have rA10 := rA9.below hb10 rA9.lt
      have rB10 := rB9.below hb10 rB9.lt
      have c010 := (hb10.cell (p := ⟨P, 0, none⟩) P9.lt).trans c0
      clear hHeld
      have rAx := rA10
      have rBx := rB10
      have Px := P10
      have Mx := M10
      go_wp2_with (first
        | (have kk := rB10; refine stT (.tmp 2) (.tmp 127) (by rfl) rfl gA { zeroT with ty := 8, intv := iv, seq := sq, met := mt, pr := q } _ rfl rfl rAx ?_; intro w8 hg8 r8)
        | (have kk := rB10; refine ldT (.tmp 8) (by rfl) rfl gB { zeroT with ty := 8, intv := iv, seq := sq, met := mt, pr := q } rfl rBx ?_))
      have P8 := Px.fresh hg8 (rAx.kind (by decide) (by decide) (by decide))
      exact bodyPost_ret (retCT rfl _ _ 0 rfl (lvT r8)) rfl ⟨⟨{ zeroT with ty := 8, intv := iv, seq := sq, met := mt, pr := q }, rfl, (fun e => by cases e), Stms.none _ _ _ rfl rfl rfl rfl⟩, ⟨_, P8⟩, Mx.fresh hg8 a1⟩
    · rcases p0 with ⟨rfl, ei⟩ | ⟨bi, i, rfl, ei, ri⟩
      · obtain rfl : ok = false := by rw [OKE.out]; unfold upOk; rw [hEQ, eh, ei]
        refine wp_region_noPanic ?_
        refine wp_region_held_drew (S := fun W => Row W gD 40 (pcells dst) ∧ W.cell? ⟨P, 7, none⟩ = some (.pointer (some ⟨bh, 0, none⟩))) (by kernel_rfl) (⟨rD9, c7⟩) (fun hHeld => ?_)
        refine tA 0 ?_
        refine tL 1 rfl (yP dst (fun W hW => hW.1.range) (by rfl) rfl rfl) ?_
        refine tA 3 ?_
        refine tA 4 ?_
        refine tA 5 ?_
        refine r1 2 fun K hK => ?_
        go_simp
        refine (HFM.out _).mono ?_
        rintro e w10 ⟨rfl, hb10⟩
        have rDa := rD9.below hb10 rD9.lt
        have cva := (hb10.cell (p := ⟨P, 7, none⟩) P9.lt).trans c7
        refine oK hK (by exact ⟨rDa, cva⟩) fun hHeld => ?_
        clear hK K
        refine tA 6 ?_
        refine tA 7 ?_
        refine tA 8 ?_
        refine dN ?_
        refine NoPanic.normal ?_
        have P10 := P9.below hb10
        have M10 := M9.trans (Mv.ofB hb10)
        have rA10 := rA9.below hb10 rA9.lt
        have rB10 := rB9.below hb10 rB9.lt
        have c010 := (hb10.cell (p := ⟨P, 0, none⟩) P9.lt).trans c0
        clear hHeld
        have rAx := rA10
        have rBx := rB10
        have Px := P10
        have Mx := M10
        go_wp2_with (first
          | (have kk := rB10; refine stT (.tmp 2) (.tmp 127) (by rfl) rfl gA { zeroT with ty := 8, intv := iv, seq := sq, met := mt, pr := q } _ rfl rfl rAx ?_; intro w8 hg8 r8)
          | (have kk := rB10; refine ldT (.tmp 8) (by rfl) rfl gB { zeroT with ty := 8, intv := iv, seq := sq, met := mt, pr := q } rfl rBx ?_))
        have P8 := Px.fresh hg8 (rAx.kind (by decide) (by decide) (by decide))
        exact bodyPost_ret (retCT rfl _ _ 0 rfl (lvT r8)) rfl ⟨⟨{ zeroT with ty := 8, intv := iv, seq := sq, met := mt, pr := q }, rfl, (fun e => by cases e), Stms.none _ _ _ rfl rfl rfl rfl⟩, ⟨_, P8⟩, Mx.fresh hg8 a1⟩
      · have HNB : Hid (∀ W, Calls Tryz.prog 113 #[.agg (icells i).toArray] W (Gives W (.bool (!ok)))) := by
          have e : (!ok) = nobB i := by rw [OKE.out]; unfold upOk; rw [hEQ, eh, ei]; simp
          rw [e]
          exact fun W => nobody_any i W
        have HKF : Hid (Tl.key { zeroT with ty := 8, intv := iv, seq := sq, met := mt, pr := q, id := i, ad := H } = K0) := by
          show _ = _
          have := HKE.out
          rw [this, ei, hEQ, eh]
          rfl
        clear OKE HKE ei eh hEQ
        cases ok
        · have hno : (!false) = true := rfl
          rw [hno] at HNB
          refine wp_region_noPanic ?_
          refine wp_region_held_drew (S := fun W => Row W gD 40 (pcells dst) ∧ W.cell? ⟨P, 7, none⟩ = some (.pointer (some ⟨bh, 0, none⟩))) (by kernel_rfl) (⟨rD9, c7⟩) (fun hHeld => ?_)
          refine tA 0 ?_
          refine tL 1 rfl (yP dst (fun W hW => hW.1.range) (by rfl) rfl rfl) ?_
          refine tA 3 ?_
          refine tA 4 ?_
          refine tA 5 ?_
          refine r1 2 fun K hK => ?_
          go_simp
          refine (HFM.out _).mono ?_
          rintro e w10 ⟨rfl, hb10⟩
          have rDa := rD9.below hb10 rD9.lt
          have cva := (hb10.cell (p := ⟨P, 7, none⟩) P9.lt).trans c7
          refine oK hK (by exact ⟨rDa, cva⟩) fun hHeld => ?_
          clear hK K
          refine tA 6 ?_
          refine tA 7 ?_
          refine tA 8 ?_
          refine dN ?_
          refine NoPanic.normal ?_
          have P10 := P9.below hb10
          have M10 := M9.trans (Mv.ofB hb10)
          have rA10 := rA9.below hb10 rA9.lt
          have rB10 := rB9.below hb10 rB9.lt
          have c010 := (hb10.cell (p := ⟨P, 0, none⟩) P9.lt).trans c0
          clear hHeld
          have ri10 := ri.below hb10 ri.lt
          go_wp2_with (first
            | (have kk := rB10; refine stT (.tmp 2) (.tmp 127) (by rfl) rfl gA { zeroT with ty := 8, intv := iv, seq := sq, met := mt, pr := q } _ rfl rfl rAx ?_; intro w8 hg8 r8)
            | (have kk := rB10; refine ldT (.tmp 8) (by rfl) rfl gB { zeroT with ty := 8, intv := iv, seq := sq, met := mt, pr := q } rfl rBx ?_)
            | (go_at_call 113; refine (HNB.out _).mono ?_; rintro e w11 ⟨rfl, hb11⟩; have rAx := rA10.below hb11 rA10.lt; have rBx := rB10.below hb11 rB10.lt; have Px := P10.below hb11; have Mx := M10.trans (Mv.ofB hb11))
            | (refine ldI (.tmp 123) (by rfl) rfl bi 0 i rfl ri10.range ?_))
          have P8 := Px.fresh hg8 (rAx.kind (by decide) (by decide) (by decide))
          exact bodyPost_ret (retCT rfl _ _ 0 rfl (lvT r8)) rfl ⟨⟨{ zeroT with ty := 8, intv := iv, seq := sq, met := mt, pr := q }, rfl, (fun e => by cases e), Stms.none _ _ _ rfl rfl rfl rfl⟩, ⟨_, P8⟩, Mx.fresh hg8 a1⟩
        · have hno : (!true) = false := rfl
          rw [hno] at HNB
          refine wp_region_noPanic ?_
          refine wp_region_held_drew (S := fun W => Row W gD 40 (pcells dst) ∧ W.cell? ⟨P, 7, none⟩ = some (.pointer (some ⟨bh, 0, none⟩))) (by kernel_rfl) (⟨rD9, c7⟩) (fun hHeld => ?_)
          refine tA 0 ?_
          refine tL 1 rfl (yP dst (fun W hW => hW.1.range) (by rfl) rfl rfl) ?_
          refine tA 3 ?_
          refine tA 4 ?_
          refine tA 5 ?_
          refine r1 2 fun K hK => ?_
          go_simp
          refine (HFM.out _).mono ?_
          rintro e w10 ⟨rfl, hb10⟩
          have rDa := rD9.below hb10 rD9.lt
          have cva := (hb10.cell (p := ⟨P, 7, none⟩) P9.lt).trans c7
          refine oK hK (by exact ⟨rDa, cva⟩) fun hHeld => ?_
          clear hK K
          refine tA 6 ?_
          refine tA 7 ?_
          refine tA 8 ?_
          refine dN ?_
          refine NoPanic.normal ?_
          have P10 := P9.below hb10
          have M10 := M9.trans (Mv.ofB hb10)
          have rA10 := rA9.below hb10 rA9.lt
          have rB10 := rB9.below hb10 rB9.lt
          have c010 := (hb10.cell (p := ⟨P, 0, none⟩) P9.lt).trans c0
          clear hHeld
          have ri10 := ri.below hb10 ri.lt
          have rh10 := rh.below hb10 rh.lt
          go_wp2_with (first
            | (go_at_call 113; refine (HNB.out _).mono ?_; rintro e w11 ⟨rfl, hb11⟩; have rAx := rA10.below hb11 rA10.lt; have rBx := rB10.below hb11 rB10.lt; have Px := P10.below hb11; have Mx := M10.trans (Mv.ofB hb11))
            | (refine ldI (.tmp 123) (by rfl) rfl bi 0 i rfl ri10.range ?_))
          have rAy := rAx.below (bd w11) rAx.lt
          have rBy := rBx.below (bd w11) rBx.lt
          have Py := Px.below (bd w11)
          have My := Mx.trans (Mv.ofB (bd w11))
          have riy := (ri10.below hb11 ri10.lt).below (bd w11) (ri10.below hb11 ri10.lt).lt
          have rhy := (rh10.below hb11 rh10.lt).below (bd w11) (rh10.below hb11 rh10.lt).lt
          have c0y := (((hb11.cell (p := ⟨P, 0, none⟩) P10.lt).trans c010))
          have c0z : w11.drew.cell? ⟨P, 0, none⟩ = some (.pointer (some ⟨bi, 0, none⟩)) := c0y
          have hbi : bi ≠ gB := fun e => absurd (Row.type (e ▸ riy) rBy) (by decide)
          have hbh : bh ≠ gB := fun e => absurd (Row.type (e ▸ rhy) rBy) (by decide)
          have hPB : P ≠ gB := by omega
          clear rAx rBx Px Mx ri10 rh10 c010 rA10 rB10 P10 M10
          refine wp_region_noPanic ?_
          refine wp_region_held_drew (S := fun W => Row W bi 38 (icells i) ∧ Row W bh 23 (acells H) ∧ W.cell? ⟨P, 0, none⟩ = some (.pointer (some ⟨bi, 0, none⟩))) (by kernel_rfl) (⟨riy, rhy, c0z⟩) (fun hHeld => ?_)
          refine tA 0 ?_
          refine tA 1 ?_
          refine tA 2 ?_
          refine tA 3 ?_
          refine tA 4 ?_
          refine tA 5 ?_
          refine tL 6 rfl (yI i (fun W hW => hW.1.range) (by rfl) rfl rfl) ?_
          refine tA 7 ?_
          refine tA 8 ?_
          refine tL 9 rfl (yA H (fun W hW => hW.2.1.range) (by rfl) rfl rfl) ?_
          refine tA 10 ?_
          refine r1 11 fun K hK => ?_
          refine sStIt (.tmp 138) (.tmp 134) (by rfl) rfl gB { zeroT with ty := 8, intv := iv, seq := sq, met := mt, pr := q } i rfl rfl rBy ?_
          intro w12 hg12 rB12
          have S12 : Row w12 bi 38 (icells i) ∧ Row w12 bh 23 (acells H) ∧ w12.cell? ⟨P, 0, none⟩ = some (.pointer (some ⟨bi, 0, none⟩)) := ⟨riy.grown hg12 (fun e => hbi (Option.some.inj e)), rhy.grown hg12 (fun e => hbh (Option.some.inj e)), hg12.cell c0z (fun e => hPB (Option.some.inj e))⟩
          have rA12 := rAy.grown hg12 (fun e => by have := Option.some.inj e; omega)
          have P12 := Py.fresh hg12 (rBy.kind (by decide) (by decide) (by decide))
          have M12 := My.fresh hg12 hgB
          refine oK hK (by exact S12) fun hHeld => ?_
          clear hK K
          refine tA 12 ?_
          refine r1 13 fun K hK => ?_
          refine sStAt (.tmp 139) (.tmp 137) (by rfl) rfl gB { zeroT with ty := 8, intv := iv, seq := sq, met := mt, pr := q, id := i } H rfl rfl rB12 ?_
          intro w13 hg13 rB13
          have S13 : Row w13 bi 38 (icells i) ∧ Row w13 bh 23 (acells H) ∧ w13.cell? ⟨P, 0, none⟩ = some (.pointer (some ⟨bi, 0, none⟩)) := ⟨S12.1.grown hg13 (fun e => hbi (Option.some.inj e)), S12.2.1.grown hg13 (fun e => hbh (Option.some.inj e)), hg13.cell S12.2.2 (fun e => hPB (Option.some.inj e))⟩
          have rA13 := rA12.grown hg13 (fun e => by have := Option.some.inj e; omega)
          have P13 := P12.fresh hg13 (rB12.kind (by decide) (by decide) (by decide))
          have M13 := M12.fresh hg13 hgB
          refine oK hK (by exact S13) fun hHeld => ?_
          clear hK K
          refine dN ?_
          refine NoPanic.normal ?_
          clear S12 S13 hHeld
          go_wp2_with (first
            | (have kk := rB13; refine stT (.tmp 2) (.tmp 140) (by rfl) rfl gA { zeroT with ty := 8, intv := iv, seq := sq, met := mt, pr := q, id := i, ad := H } _ rfl rfl rA13 ?_; intro w8 hg8 r8)
            | (have kk := rB13; refine ldT (.tmp 8) (by rfl) rfl gB { zeroT with ty := 8, intv := iv, seq := sq, met := mt, pr := q, id := i, ad := H } rfl rB13 ?_))
          have P8 := P13.fresh hg8 (rA13.kind (by decide) (by decide) (by decide))
          exact bodyPost_ret (retCT rfl _ _ 0 rfl (lvT r8)) rfl ⟨⟨{ zeroT with ty := 8, intv := iv, seq := sq, met := mt, pr := q, id := i, ad := H }, rfl, (fun _ => HKF.out), Stms.none _ _ _ rfl rfl rfl rfl⟩, ⟨_, P8⟩, M13.fresh hg8 a1⟩
end Go.Proofs.YtdibjgcokebfbaaGreat

namespace Go.Proofs.YtdibjgcokebfbaaGreat
open Go.RowKit
set_option linter.unusedSimpArgs false
set_option maxRecDepth 20000
variable {bv : Option Addr}

theorem famP_or (p : Pf) : famP p = 4 ∨ famP p = 6 := by unfold famP; split <;> simp
end Go.Proofs.YtdibjgcokebfbaaGreat
