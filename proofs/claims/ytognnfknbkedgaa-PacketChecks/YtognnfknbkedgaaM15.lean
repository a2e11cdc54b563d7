/-
  The contract of update of package packet.
-/
import Derived.Test.YtognnfknbkedgaaM14
namespace Go.Proofs.Ytognnfknbkedgaa
open Go.RowKit
set_option linter.unusedSimpArgs false
set_option maxRecDepth 20000
variable {bv : Option Addr}

/-- What an update's address makes of the parser. -/
def upS (s : St) (l : List UInt8) (r : RS) : St := if (r.val l 1) = 0 then s else if (pfR s (r.val l 1) (((r.adv l 1).adv l 1).val l 1) ((((r.adv l 1).adv l 1).adv l 1).val l 1) l (((((((r.adv l 1).adv l 1).adv l 1).adv l 1).adv l 2).adv l 2).adv l 2)).y = 0 then kpS s (r.val l 1) ((r.adv l 1).val l 1) (pfP s (r.val l 1) (((r.adv l 1).adv l 1).val l 1) ((((r.adv l 1).adv l 1).adv l 1).val l 1) l (((((((r.adv l 1).adv l 1).adv l 1).adv l 1).adv l 2).adv l 2).adv l 2)).a else s
def upHop (s : St) (f : Int) : Option Ad := if f = 4 then s.h4 else s.h6
/-- Whether there are a next hop and a router for an update below Infinity. -/
def upOk (s : St) (f : Int) : Bool := match upHop s f, s.r with
  | some _, some i => !nobB i
  | _, _ => false
def upB (s : St) (l : List UInt8) (r : RS) : Bool := if (r.val l 1) = 0 then nsB l (uaR l r) else prB (upS s l r) (r.val l 1) (pfP s (r.val l 1) (((r.adv l 1).adv l 1).val l 1) ((((r.adv l 1).adv l 1).adv l 1).val l 1) l (((((((r.adv l 1).adv l 1).adv l 1).adv l 1).adv l 2).adv l 2).adv l 2)) l (pfR s (r.val l 1) (((r.adv l 1).adv l 1).val l 1) ((((r.adv l 1).adv l 1).adv l 1).val l 1) l (((((((r.adv l 1).adv l 1).adv l 1).adv l 1).adv l 2).adv l 2).adv l 2)) && (decide ((((((((r.adv l 1).adv l 1).adv l 1).adv l 1).adv l 2).adv l 2).val l 2) = 65535) || upOk (upS s l r) (famP (pfP s (r.val l 1) (((r.adv l 1).adv l 1).val l 1) ((((r.adv l 1).adv l 1).adv l 1).val l 1) l (((((((r.adv l 1).adv l 1).adv l 1).adv l 1).adv l 2).adv l 2).adv l 2))))
def upK (s : St) (l : List UInt8) (r : RS) : TK := if (r.val l 1) = 0 then { zeroK with ty := 8, intv := (((((r.adv l 1).adv l 1).adv l 1).adv l 1).val l 2), seq := ((((((r.adv l 1).adv l 1).adv l 1).adv l 1).adv l 2).val l 2), met := (((((((r.adv l 1).adv l 1).adv l 1).adv l 1).adv l 2).adv l 2).val l 2), all := true } else
  if (((((((r.adv l 1).adv l 1).adv l 1).adv l 1).adv l 2).adv l 2).val l 2) = 65535 then { zeroK with ty := 8, intv := (((((r.adv l 1).adv l 1).adv l 1).adv l 1).val l 2), seq := ((((((r.adv l 1).adv l 1).adv l 1).adv l 1).adv l 2).val l 2), met := (((((((r.adv l 1).adv l 1).adv l 1).adv l 1).adv l 2).adv l 2).val l 2), pr := prQ (upS s l r) (r.val l 1) (pfP s (r.val l 1) (((r.adv l 1).adv l 1).val l 1) ((((r.adv l 1).adv l 1).adv l 1).val l 1) l (((((((r.adv l 1).adv l 1).adv l 1).adv l 1).adv l 2).adv l 2).adv l 2)) l (pfR s (r.val l 1) (((r.adv l 1).adv l 1).val l 1) ((((r.adv l 1).adv l 1).adv l 1).val l 1) l (((((((r.adv l 1).adv l 1).adv l 1).adv l 1).adv l 2).adv l 2).adv l 2)) }
  else { zeroK with ty := 8, intv := (((((r.adv l 1).adv l 1).adv l 1).adv l 1).val l 2), seq := ((((((r.adv l 1).adv l 1).adv l 1).adv l 1).adv l 2).val l 2), met := (((((((r.adv l 1).adv l 1).adv l 1).adv l 1).adv l 2).adv l 2).val l 2), pr := prQ (upS s l r) (r.val l 1) (pfP s (r.val l 1) (((r.adv l 1).adv l 1).val l 1) ((((r.adv l 1).adv l 1).adv l 1).val l 1) l (((((((r.adv l 1).adv l 1).adv l 1).adv l 1).adv l 2).adv l 2).adv l 2)) l (pfR s (r.val l 1) (((r.adv l 1).adv l 1).val l 1) ((((r.adv l 1).adv l 1).adv l 1).val l 1) l (((((((r.adv l 1).adv l 1).adv l 1).adv l 1).adv l 2).adv l 2).adv l 2)), id := ((upS s l r).r).getD zeroI, ad := (upHop (upS s l r) (famP (pfP s (r.val l 1) (((r.adv l 1).adv l 1).val l 1) ((((r.adv l 1).adv l 1).adv l 1).val l 1) l (((((((r.adv l 1).adv l 1).adv l 1).adv l 1).adv l 2).adv l 2).adv l 2)))).getD zeroA }
theorem bad_y (r : RS) : r.bad.y ≠ 0 := by
  unfold RS.bad
  simp only
  split
  · decide
  · assumption
theorem pfR_ae {s : St} {ae pl om : Nat} {l : List UInt8} {r : RS} (h : (pfR s ae pl om l r).y = 0) : ae = 1 ∨ ae = 2 := by
  unfold pfR at h
  split at h
  · exact absurd h (bad_y r)
  · rename_i hx
    unfold pfX at hx
    simp at hx
    omega
theorem Par.bytes {w : World} {P g : Nat} {R : Option Nat} {s : St} {l : List UInt8} {r : RS} (h : Par w P R s) (hr : RdS w g bv l r) : ∀ ad, bv = some ad → l ≠ [] → ad.block ≠ P := by
  intro ad had hl e
  obtain ⟨c, _, _, hs⟩ := Rd.ex hr
  obtain ⟨x, h4, h6, d1, d2, k0, _⟩ := h.ex
  match l, hl with
  | b :: m, _ =>
    have h1 := hs.cell ad had 0 (.int .u8 b.toNat) rfl
    rw [Addr.add_zero'] at h1
    obtain ⟨bk, o, sp⟩ := ad
    cases sp with
    | some y => have := World.cell?_spot h1; simp at this
    | none =>
      simp only at e
      subst e
      rw [k0.cell] at h1
      have : ∀ v ∈ pcs x h4 h6 d1 d2 R, ∃ q, v = .pointer q := by
        intro v hv
        simp [pcs, pv] at hv
        rcases hv with rfl | rfl | rfl | rfl | rfl | rfl | rfl | rfl | rfl | rfl | rfl | rfl <;> exact ⟨_, rfl⟩
      obtain ⟨q, hq⟩ := this _ (List.mem_of_getElem? h1)
      cases hq
section
variable {ops : Array Oper} {op : Oper} {a : Act} {w : World} {Q : Exit → Act → World → Prop} {K : Act → World → Prop} {E : Prop}
theorem sStIt (x y : Operand) (hw : Region.wanted op (yielded ops a.tmps) = true) (ho : op.op = .store 24 x y) (b : Nat) (t : Tl) (q : Id8) (hx : a.eval x = .pointer (some ⟨b, 9, none⟩)) (hy : a.eval y = .agg (icells q).toArray) (hr : Row w b 33 (tcells t))
    (h : ∀ W, w.grownBy W (some b) → Row W b 33 (tcells { t with id := q }) → K (a.put op.dst undef) W) : if Region.wanted op (yielded ops a.tmps) = true then Oper.wp Try.prog op a w K Q else E := by
  rw [if_pos hw]
  exact wp_store_mid _ x y ho b 9 _ hx hy (by simpa [icells_len] using hr.thereMid (o := 9) (n := 8) (by rw [tcells_len]; omega)) (by rw [infoI]; simp [icells_len]) (all_oneCell_toArray (icells_one q)) (h _ (grownBy_setCells b _ _ _) (by simpa using hr.tId q))
theorem sStAt (x y : Operand) (hw : Region.wanted op (yielded ops a.tmps) = true) (ho : op.op = .store 26 x y) (b : Nat) (t : Tl) (q : Ad) (hx : a.eval x = .pointer (some ⟨b, 17, none⟩)) (hy : a.eval y = (Value.agg (acells q).toArray)) (hr : Row w b 33 (tcells t))
    (h : ∀ W, w.grownBy W (some b) → Row W b 33 (tcells { t with ad := q }) → K (a.put op.dst undef) W) : if Region.wanted op (yielded ops a.tmps) = true then Oper.wp Try.prog op a w K Q else E := by
  rw [if_pos hw]
  exact wp_store_mid _ x y ho b 17 _ hx hy (by simpa [acells_len] using hr.thereMid (o := 17) (n := 16) (by rw [tcells_len]; omega)) (by rw [infoA]; simp [acells_len]) (all_oneCell_toArray (acells_one q)) (h _ (grownBy_setCells b _ _ _) (by simpa using hr.tAd q))
end
set_option maxHeartbeats 4000000 in
theorem update_y_no {w : World} {P g : Nat} {l : List UInt8} {r : RS} {s : St} (hpar : Par w P (some g) s) (h : RdS w g bv l r) {ae fl pl om iv sq mt : Nat} {dst : Pf} {rn : RS} {s1 : St} {q : Pr} {K0 : TK}
    (aeH : Hid ((r.val l 1) = ae)) (flH : Hid (((r.adv l 1).val l 1) = fl)) (plH : Hid ((((r.adv l 1).adv l 1).val l 1) = pl)) (omH : Hid (((((r.adv l 1).adv l 1).adv l 1).val l 1) = om)) (ivH : Hid ((((((r.adv l 1).adv l 1).adv l 1).adv l 1).val l 2) = iv)) (sqH : Hid (((((((r.adv l 1).adv l 1).adv l 1).adv l 1).adv l 2).val l 2) = sq)) (mtH : Hid ((((((((r.adv l 1).adv l 1).adv l 1).adv l 1).adv l 2).adv l 2).val l 2) = mt))
    (hae : ((ae : Int) == 0) = false)
    (HP : Hid (∀ W, Par W P (some g) s → RdS W g bv l (((((((r.adv l 1).adv l 1).adv l 1).adv l 1).adv l 2).adv l 2).adv l 2) → Calls Try.prog 85 #[.pointer (some ⟨P, 0, none⟩), .int .u8 (ae : Int), .int .i64 (pl : Int), .int .i64 (om : Int)] W fun e w' => e = .returned (Value.agg (pcells dst).toArray) ∧ NowS W w' g bv l rn))
    (HW : Hid (∀ W, Pg W P g → RdS W g bv l rn → Calls Try.prog 82 #[.pointer (some ⟨P, 0, none⟩)] W fun e w' => e = .returned (.bool true) ∧ NowS W w' g bv l rn))
    (HK : Hid (∀ W, Par W P (some g) s → Calls Try.prog 86 #[.pointer (some ⟨P, 0, none⟩), .int .u8 (ae : Int), .int .u8 (fl : Int), (Value.agg (acells dst.a).toArray)] W fun e w' => e = .returned (.tuple #[]) ∧ Par w' P (some g) s1 ∧ W.grownBy w' (some P)))
    (HQ : Hid (∀ W, Par W P (some g) s1 → RdS W g bv l rn → Calls Try.prog 87 #[.pointer (some ⟨P, 0, none⟩), .int .u8 (ae : Int), (Value.agg (pcells dst).toArray)] W (Paired W P g s1 q false))) :
    Calls Try.prog 61 #[.pointer (some ⟨P, 0, none⟩)] w fun e w' => SayR w K0 false e w' ∧ (∃ R, Par w' P R s1) ∧ Mv w w' P g := by
  have hp := hpar.pg h
  have hlt := h.lt
  have hPl := hpar.lt
  have hpl : pl < 256 := by have := val1_lt ((r.adv l 1).adv l 1) l; rw [plH.out] at this; exact this
  have hom : om < 256 := by have := val1_lt (((r.adv l 1).adv l 1).adv l 1) l; rw [omH.out] at this; exact this
  have ypl : IntKind.i64.wrap (pl : Int) = (pl : Int) := by rw [IntKind.wrap_i64]; omega
  have yom : IntKind.i64.wrap (om : Int) = (om : Int) := by rw [IntKind.wrap_i64]; omega
  have HU4 : Hid (∀ W, RdS W g bv l r → Calls Try.prog 47 #[.pointer (some ⟨g, 0, none⟩)] W fun e w' => e = .returned (.int .u8 (ae : Int)) ∧ NowS W w' g bv l (r.adv l 1)) := fun W h => by rw [← aeH.out]; exact u8_r h
  have HU9 : Hid (∀ W, RdS W g bv l (r.adv l 1) → Calls Try.prog 47 #[.pointer (some ⟨g, 0, none⟩)] W fun e w' => e = .returned (.int .u8 (fl : Int)) ∧ NowS W w' g bv l ((r.adv l 1).adv l 1)) := fun W h => by rw [← flH.out]; exact u8_r h
  have HU14 : Hid (∀ W, RdS W g bv l ((r.adv l 1).adv l 1) → Calls Try.prog 47 #[.pointer (some ⟨g, 0, none⟩)] W fun e w' => e = .returned (.int .u8 (pl : Int)) ∧ NowS W w' g bv l (((r.adv l 1).adv l 1).adv l 1)) := fun W h => by rw [← plH.out]; exact u8_r h
  have HU20 : Hid (∀ W, RdS W g bv l (((r.adv l 1).adv l 1).adv l 1) → Calls Try.prog 47 #[.pointer (some ⟨g, 0, none⟩)] W fun e w' => e = .returned (.int .u8 (om : Int)) ∧ NowS W w' g bv l ((((r.adv l 1).adv l 1).adv l 1).adv l 1)) := fun W h => by rw [← omH.out]; exact u8_r h
  have HU4b : Hid (∀ W, RdS W g bv l ((((r.adv l 1).adv l 1).adv l 1).adv l 1) → Calls Try.prog 48 #[.pointer (some ⟨g, 0, none⟩)] W fun e w' => e = .returned (.int .u16 (iv : Int)) ∧ NowS W w' g bv l (((((r.adv l 1).adv l 1).adv l 1).adv l 1).adv l 2)) := fun W h => by rw [← ivH.out]; exact u16_r h
  have HU9b : Hid (∀ W, RdS W g bv l (((((r.adv l 1).adv l 1).adv l 1).adv l 1).adv l 2) → Calls Try.prog 48 #[.pointer (some ⟨g, 0, none⟩)] W fun e w' => e = .returned (.int .u16 (sq : Int)) ∧ NowS W w' g bv l ((((((r.adv l 1).adv l 1).adv l 1).adv l 1).adv l 2).adv l 2)) := fun W h => by rw [← sqH.out]; exact u16_r h
  have HU14b : Hid (∀ W, RdS W g bv l ((((((r.adv l 1).adv l 1).adv l 1).adv l 1).adv l 2).adv l 2) → Calls Try.prog 48 #[.pointer (some ⟨g, 0, none⟩)] W fun e w' => e = .returned (.int .u16 (mt : Int)) ∧ NowS W w' g bv l (((((((r.adv l 1).adv l 1).adv l 1).adv l 1).adv l 2).adv l 2).adv l 2)) := fun W h => by rw [← mtH.out]; exact u16_r h
  clear aeH flH plH omH ivH sqH mtH
  go_enter Try.func61, Try.ntmps61
  go_wp2_with (refine alG infoTz (by rfl) rfl ?_; intro gA wA a1 a2 a3 rA)
  have hgA : gA ≠ g := by omega
  have hN : NowS w wA.drew g bv l r := ((h.below a3).now.after a3).below (bd _)
  have rAc := rA.below (bd _) rA.lt
  clear a3 rA
  refine wp_region_noPanic ?_
  refine wp_region_held_drew (S := fun W => W.cell? ⟨P, 11, none⟩ = some (.pointer (some ⟨g, 0, none⟩))) (by kernel_rfl) ((hp.now hN).c) (fun hHeld => ?_)
  refine tA 0 ?_
  refine tA 1 ?_
  refine tA 2 ?_
  refine tA 3 ?_
  refine tA 5 ?_
  refine tA 6 ?_
  refine tA 7 ?_
  refine tA 8 ?_
  refine tA 10 ?_
  refine tA 11 ?_
  refine tA 12 ?_
  refine tA 13 ?_
  refine tA 16 ?_
  refine tA 17 ?_
  refine tA 18 ?_
  refine tA 19 ?_
  refine r1 4 fun K hK => ?_
  go_simp
  refine (HU4.out _ hN.rd).mono ?_
  rintro e w1 ⟨rfl, hn1⟩
  replace rAc := rAc.nowS hn1 hgA
  replace hN := hN.trans hn1
  clear hn1
  refine oK hK (by exact (hp.now hN).c) fun hHeld => ?_
  clear hK K
  refine r1 9 fun K hK => ?_
  go_simp
  refine (HU9.out _ hN.rd).mono ?_
  rintro e w1 ⟨rfl, hn1⟩
  replace rAc := rAc.nowS hn1 hgA
  replace hN := hN.trans hn1
  clear hn1
  refine oK hK (by exact (hp.now hN).c) fun hHeld => ?_
  clear hK K
  refine r1 14 fun K hK => ?_
  go_simp
  refine (HU14.out _ hN.rd).mono ?_
  rintro e w1 ⟨rfl, hn1⟩
  replace rAc := rAc.nowS hn1 hgA
  replace hN := hN.trans hn1
  clear hn1
  refine oK hK (by exact (hp.now hN).c) fun hHeld => ?_
  clear hK K
  refine tA 15 ?_
  refine r1 20 fun K hK => ?_
  go_simp
  refine (HU20.out _ hN.rd).mono ?_
  rintro e w1 ⟨rfl, hn1⟩
  replace rAc := rAc.nowS hn1 hgA
  replace hN := hN.trans hn1
  clear hn1
  refine oK hK (by exact (hp.now hN).c) fun hHeld => ?_
  clear hK K
  refine tA 21 ?_
  refine tA 22 ?_
  refine tA 23 ?_
  refine tA 24 ?_
  refine tA 25 ?_
  refine dN ?_
  refine NoPanic.normal ?_
  go_wp2
  clear hHeld HU4 HU9 HU14 HU20
  replace hN := hN.below (bd _)
  replace rAc := rAc.below (bd _) rAc.lt
  apply region_ex (PP := fun gB W => Row W gB 33 (tcells { zeroT with ty := 8, intv := iv, seq := sq, met := mt }) ∧ Row W gA 33 (tcells zeroT) ∧ NowS w W g bv l (((((((r.adv l 1).adv l 1).adv l 1).adv l 1).adv l 2).adv l 2).adv l 2) ∧ w.heap.size ≤ gB ∧ gA < gB)
  case h1 =>
    refine wp_region_held_drew (S := fun W => W.cell? ⟨P, 11, none⟩ = some (.pointer (some ⟨g, 0, none⟩))) (by kernel_rfl) ((hp.now hN).c) (fun hHeld => ?_)
    refine tA 0 ?_
    refine tA 1 ?_
    refine tA 2 ?_
    refine tA 3 ?_
    refine tA 5 ?_
    refine tA 6 ?_
    refine tA 7 ?_
    refine tA 8 ?_
    refine tA 10 ?_
    refine tA 11 ?_
    refine tA 12 ?_
    refine tA 13 ?_
    refine rM [4,16] ?_
    refine cL (fun K hK => ?_) ?_
    · skip
      go_simp
      refine (HU4b.out _ hN.rd).mono ?_
      rintro e w1 ⟨rfl, hn1⟩
      replace rAc := rAc.nowS hn1 hgA
      try replace rB := rB.nowS hn1 (by omega)
      replace hN := hN.trans hn1
      clear hn1
      refine oK hK (by exact (hp.now hN).c) fun hHeld => ?_
      clear hK K
      refine rM [9,16] ?_
      refine cL (fun K hK => ?_) ?_
      · skip
        go_simp
        refine (HU9b.out _ hN.rd).mono ?_
        rintro e w1 ⟨rfl, hn1⟩
        replace rAc := rAc.nowS hn1 hgA
        try replace rB := rB.nowS hn1 (by omega)
        replace hN := hN.trans hn1
        clear hn1
        refine oK hK (by exact (hp.now hN).c) fun hHeld => ?_
        clear hK K
        refine rM [14,16] ?_
        refine cL (fun K hK => ?_) ?_
        · skip
          go_simp
          refine (HU14b.out _ hN.rd).mono ?_
          rintro e w1 ⟨rfl, hn1⟩
          replace rAc := rAc.nowS hn1 hgA
          try replace rB := rB.nowS hn1 (by omega)
          replace hN := hN.trans hn1
          clear hn1
          refine oK hK (by exact (hp.now hN).c) fun hHeld => ?_
          clear hK K
          refine tL 15 rfl (yB [(0, .const (.int .u8 8)), (2, .tmp 38), (3, .tmp 43), (5, .tmp 48)] (by rfl) rfl (bdUpd _ _ _)) ?_
          refine r1 16 fun K hK => ?_
          refine sAlG infoTz (by rfl) rfl ?_
          intro gB wB b1 b2 b3 rB
          have hgB : w.heap.size ≤ gB := Nat.le_trans hN.size b1
          have hne : gA < gB := Nat.lt_of_lt_of_le rAc.lt b1
          replace rAc := rAc.below b3 rAc.lt
          replace hN := hN.below b3
          clear b1 b2 b3
          refine oK hK (by exact (hp.now hN).c) fun hHeld => ?_
          clear hK K
          refine r1 17 fun K hK => ?_
          refine sStT (.tmp 8) (.tmp 49) (by rfl) rfl gB { zeroT with ty := 8, intv := iv, seq := sq, met := mt } _ rfl rfl rB ?_
          intro wC hgC rC
          replace rAc := rAc.grown hgC (fun e => by have := Option.some.inj e; omega)
          replace hN := NowS.fresh h hN hgC hgB
          refine oK hK (by exact (hp.now hN).c) fun hHeld => ?_
          clear hK K
          refine dN ?_
          exact ⟨gB, rfl, rC, rAc, hN, hgB, hne⟩
        refine cE fun K hK => ?_
        refine sAlG infoTz (by rfl) rfl ?_
        intro gB wB b1 b2 b3 rB
        have hgB : w.heap.size ≤ gB := Nat.le_trans hN.size b1
        have hne : gA < gB := Nat.lt_of_lt_of_le rAc.lt b1
        replace rAc := rAc.below b3 rAc.lt
        replace hN := hN.below b3
        clear b1 b2 b3
        refine oK hK (by exact (hp.now hN).c) fun hHeld => ?_
        clear hK K
        refine r1 14 fun K hK => ?_
        go_simp
        refine (HU14b.out _ hN.rd).mono ?_
        rintro e w1 ⟨rfl, hn1⟩
        replace rAc := rAc.nowS hn1 hgA
        try replace rB := rB.nowS hn1 (by omega)
        replace hN := hN.trans hn1
        clear hn1
        refine oK hK (by exact (hp.now hN).c) fun hHeld => ?_
        clear hK K
        refine tL 15 rfl (yB [(0, .const (.int .u8 8)), (2, .tmp 38), (3, .tmp 43), (5, .tmp 48)] (by rfl) rfl (bdUpd _ _ _)) ?_
        refine r1 17 fun K hK => ?_
        refine sStT (.tmp 8) (.tmp 49) (by rfl) rfl gB { zeroT with ty := 8, intv := iv, seq := sq, met := mt } _ rfl rfl rB ?_
        intro wC hgC rC
        replace rAc := rAc.grown hgC (fun e => by have := Option.some.inj e; omega)
        replace hN := NowS.fresh h hN hgC hgB
        refine oK hK (by exact (hp.now hN).c) fun hHeld => ?_
        clear hK K
        refine dN ?_
        exact ⟨gB, rfl, rC, rAc, hN, hgB, hne⟩
      refine cE fun K hK => ?_
      refine sAlG infoTz (by rfl) rfl ?_
      intro gB wB b1 b2 b3 rB
      have hgB : w.heap.size ≤ gB := Nat.le_trans hN.size b1
      have hne : gA < gB := Nat.lt_of_lt_of_le rAc.lt b1
      replace rAc := rAc.below b3 rAc.lt
      replace hN := hN.below b3
      clear b1 b2 b3
      refine oK hK (by exact (hp.now hN).c) fun hHeld => ?_
      clear hK K
      refine r1 9 fun K hK => ?_
      go_simp
      refine (HU9b.out _ hN.rd).mono ?_
      rintro e w1 ⟨rfl, hn1⟩
      replace rAc := rAc.nowS hn1 hgA
      try replace rB := rB.nowS hn1 (by omega)
      replace hN := hN.trans hn1
      clear hn1
      refine oK hK (by exact (hp.now hN).c) fun hHeld => ?_
      clear hK K
      refine r1 14 fun K hK => ?_
      go_simp
      refine (HU14b.out _ hN.rd).mono ?_
      rintro e w1 ⟨rfl, hn1⟩
      replace rAc := rAc.nowS hn1 hgA
      try replace rB := rB.nowS hn1 (by omega)
      replace hN := hN.trans hn1
      clear hn1
      refine oK hK (by exact (hp.now hN).c) fun hHeld => ?_
      clear hK K
      refine tL 15 rfl (yB [(0, .const (.int .u8 8)), (2, .tmp 38), (3, .tmp 43), (5, .tmp 48)] (by rfl) rfl (bdUpd _ _ _)) ?_
      refine r1 17 fun K hK => ?_
      refine sStT (.tmp 8) (.tmp 49) (by rfl) rfl gB { zeroT with ty := 8, intv := iv, seq := sq, met := mt } _ rfl rfl rB ?_
      intro wC hgC rC
      replace rAc := rAc.grown hgC (fun e => by have := Option.some.inj e; omega)
      replace hN := NowS.fresh h hN hgC hgB
      refine oK hK (by exact (hp.now hN).c) fun hHeld => ?_
      clear hK K
      refine dN ?_
      exact ⟨gB, rfl, rC, rAc, hN, hgB, hne⟩
    refine cE fun K hK => ?_
    refine sAlG infoTz (by rfl) rfl ?_
    intro gB wB b1 b2 b3 rB
    have hgB : w.heap.size ≤ gB := Nat.le_trans hN.size b1
    have hne : gA < gB := Nat.lt_of_lt_of_le rAc.lt b1
    replace rAc := rAc.below b3 rAc.lt
    replace hN := hN.below b3
    clear b1 b2 b3
    refine oK hK (by exact (hp.now hN).c) fun hHeld => ?_
    clear hK K
    refine r1 4 fun K hK => ?_
    go_simp
    refine (HU4b.out _ hN.rd).mono ?_
    rintro e w1 ⟨rfl, hn1⟩
    replace rAc := rAc.nowS hn1 hgA
    try replace rB := rB.nowS hn1 (by omega)
    replace hN := hN.trans hn1
    clear hn1
    refine oK hK (by exact (hp.now hN).c) fun hHeld => ?_
    clear hK K
    refine r1 9 fun K hK => ?_
    go_simp
    refine (HU9b.out _ hN.rd).mono ?_
    rintro e w1 ⟨rfl, hn1⟩
    replace rAc := rAc.nowS hn1 hgA
    try replace rB := rB.nowS hn1 (by omega)
    replace hN := hN.trans hn1
    clear hn1
    refine oK hK (by exact (hp.now hN).c) fun hHeld => ?_
    clear hK K
    refine r1 14 fun K hK => ?_
    go_simp
    refine (HU14b.out _ hN.rd).mono ?_
    rintro e w1 ⟨rfl, hn1⟩
    replace rAc := rAc.nowS hn1 hgA
    try replace rB := rB.nowS hn1 (by omega)
    replace hN := hN.trans hn1
    clear hn1
    refine oK hK (by exact (hp.now hN).c) fun hHeld => ?_
    clear hK K
    refine tL 15 rfl (yB [(0, .const (.int .u8 8)), (2, .tmp 38), (3, .tmp 43), (5, .tmp 48)] (by rfl) rfl (bdUpd _ _ _)) ?_
    refine r1 17 fun K hK => ?_
    refine sStT (.tmp 8) (.tmp 49) (by rfl) rfl gB { zeroT with ty := 8, intv := iv, seq := sq, met := mt } _ rfl rfl rB ?_
    intro wC hgC rC
    replace rAc := rAc.grown hgC (fun e => by have := Option.some.inj e; omega)
    replace hN := NowS.fresh h hN hgC hgB
    refine oK hK (by exact (hp.now hN).c) fun hHeld => ?_
    clear hK K
    refine dN ?_
    exact ⟨gB, rfl, rC, rAc, hN, hgB, hne⟩
  case h2 =>
  clear hN rAc HU4b HU9b HU14b
  rintro gB wC ⟨rC, rAC, hN, hgB, hAB⟩
  have cR := (hp.now hN).c
  have hgB2 : gB ≠ g := by omega
  have c5 : wC.cell? ⟨gB, 5, none⟩ = some (.int .u16 (mt : Int)) := rC.cell 5
  go_wp2_with (first
    | (have kk := rB7; refine stT (.tmp 2) (.tmp 97) (by rfl) rfl gA { zeroT with ty := 8, intv := iv, seq := sq, met := mt, pr := q } _ rfl rfl rA7 ?_; intro w8 hg8 r8)
    | (have kk := rB7; refine ldT (.tmp 8) (by rfl) rfl gB { zeroT with ty := 8, intv := iv, seq := sq, met := mt, pr := q } rfl rB7 ?_)
    | (have kk := m6; refine stQt (.tmp 89) (.tmp 87) (by rfl) rfl gB { zeroT with ty := 8, intv := iv, seq := sq, met := mt } q rfl rfl rB6 ?_; intro w7 hg7 rB7; have rA7 := rA6.grown hg7 (fun e => by have := Option.some.inj e; omega); have rD7 := rD6.grown hg7 (fun e => by have := Option.some.inj e; omega); have c57 : w7.cell? ⟨gB, 5, none⟩ = some (.int .u16 (mt : Int)) := rB7.cell 5; have P7 := P6.fresh hg7 (rB6.kind (by decide) (by decide) (by decide)); have M7 := (M5.trans m6).fresh hg7 hgB)
    | (go_at_call 87; have kk := P5; refine (HQ.out _ P5 R5).mono ?_; rintro e w6 ⟨rfl, ⟨RR, P6⟩, m6⟩; have rA6 := m6.row rA5 (by omega) hgA; have rB6 := m6.row rB5 (by omega) hgB2; have rD6 := m6.row rD5 (by omega) (by omega))
    | (have kk := P5; refine ldP (.tmp 9) (by rfl) rfl gD 0 dst rfl rD5.range ?_)
    | (go_at_call 86; have kk := hn4; refine (HK.out _ PK).mono ?_; rintro e w5 ⟨rfl, P5, hgK⟩; have rA5 := rA4.grown hgK (fun e => by have := Option.some.inj e; omega); have rB5 := rB4.grown hgK (fun e => by have := Option.some.inj e; omega); have rD5 := rD4.grown hgK (fun e => by have := Option.some.inj e; omega); have R5 : RdS w5 g bv l rn := rd_far N4.rd hgK (fun e => hp.ne e.symm) (PK.bytes N4.rd); have M5 : Mv w w5 P g := (Mv.ofNow N4).trans (Mv.ofP hgK))
    | (have kk := hn4; refine ldA (.tmp 79) (by rfl) rfl gD 0 dst.a rfl (LP.a (show LP w4 gD 0 dst from rD4.range)) ?_)
    | (go_at_call 82; have kk := rD3; refine (HW.out _ (hp.now N3) N3.rd).mono ?_; rintro e w4 ⟨rfl, hn4⟩; have N4 := N3.trans hn4; have rA4 := rA3.nowS hn4 hgA; have rB4 := rB3.nowS hn4 hgB2; have rD4 := rD3.nowS hn4 (by omega); have PK := hpar.now h N4)
    | (have kk := rD; refine stP0 (.tmp 9) (.tmp 73) (by rfl) rfl gD dst _ (pcells_len _) rfl rfl rD ?_; intro w3 hg3 rD3; have hgD : w.heap.size ≤ gD := Nat.le_trans N2.size d1; have hBD : gB < gD := Nat.lt_of_lt_of_le (rC.nowS hn2 hgB2).lt d1; have rA3 := ((rAC.nowS hn2 hgA).below d3 (rAC.nowS hn2 hgA).lt).grown hg3 (fun e => by have := Option.some.inj e; omega); have rB3 := ((rC.nowS hn2 hgB2).below d3 (rC.nowS hn2 hgB2).lt).grown hg3 (fun e => by have := Option.some.inj e; omega); have N3 := NowS.fresh h (N2.below d3) hg3 hgD)
    | (have kk := N2; refine alG infoPz (by rfl) rfl ?_; intro gD wD d1 d2 d3 rD)
    | (go_at_call 85; refine (HP.out _ (hpar.now h hN) hN.rd).mono ?_; rintro e w2 ⟨rfl, hn2⟩; have N2 := hN.trans hn2))
  have P8 := P7.fresh hg8 (rA7.kind (by decide) (by decide) (by decide))
  exact bodyPost_ret (retCT rfl _ _ 0 rfl (lvT r8)) rfl ⟨⟨{ zeroT with ty := 8, intv := iv, seq := sq, met := mt, pr := q }, rfl, (fun e => by cases e), Stms.none _ _ _ rfl rfl rfl rfl⟩, ⟨_, P8⟩, M7.fresh hg8 a1⟩
set_option maxHeartbeats 4000000 in
theorem update_y_inf {w : World} {P g : Nat} {l : List UInt8} {r : RS} {s : St} (hpar : Par w P (some g) s) (h : RdS w g bv l r) {ae fl pl om iv sq mt : Nat} {dst : Pf} {rn : RS} {s1 : St} {q : Pr} {K0 : TK}
    (aeH : Hid ((r.val l 1) = ae)) (flH : Hid (((r.adv l 1).val l 1) = fl)) (plH : Hid ((((r.adv l 1).adv l 1).val l 1) = pl)) (omH : Hid (((((r.adv l 1).adv l 1).adv l 1).val l 1) = om)) (ivH : Hid ((((((r.adv l 1).adv l 1).adv l 1).adv l 1).val l 2) = iv)) (sqH : Hid (((((((r.adv l 1).adv l 1).adv l 1).adv l 1).adv l 2).val l 2) = sq)) (mtH : Hid ((((((((r.adv l 1).adv l 1).adv l 1).adv l 1).adv l 2).adv l 2).val l 2) = mt))
    (hae : ((ae : Int) == 0) = false)
    (HP : Hid (∀ W, Par W P (some g) s → RdS W g bv l (((((((r.adv l 1).adv l 1).adv l 1).adv l 1).adv l 2).adv l 2).adv l 2) → Calls Try.prog 85 #[.pointer (some ⟨P, 0, none⟩), .int .u8 (ae : Int), .int .i64 (pl : Int), .int .i64 (om : Int)] W fun e w' => e = .returned (Value.agg (pcells dst).toArray) ∧ NowS W w' g bv l rn))
    (HW : Hid (∀ W, Pg W P g → RdS W g bv l rn → Calls Try.prog 82 #[.pointer (some ⟨P, 0, none⟩)] W fun e w' => e = .returned (.bool true) ∧ NowS W w' g bv l rn))
    (HK : Hid (∀ W, Par W P (some g) s → Calls Try.prog 86 #[.pointer (some ⟨P, 0, none⟩), .int .u8 (ae : Int), .int .u8 (fl : Int), (Value.agg (acells dst.a).toArray)] W fun e w' => e = .returned (.tuple #[]) ∧ Par w' P (some g) s1 ∧ W.grownBy w' (some P)))
    (HQ : Hid (∀ W, Par W P (some g) s1 → RdS W g bv l rn → Calls Try.prog 87 #[.pointer (some ⟨P, 0, none⟩), .int .u8 (ae : Int), (Value.agg (pcells dst).toArray)] W (Paired W P g s1 q true)))
    (hmt : ((mt : Int) == 65535) = true) (HKE : Hid (Tl.key { zeroT with ty := 8, intv := iv, seq := sq, met := mt, pr := q } = K0)) :
    Calls Try.prog 61 #[.pointer (some ⟨P, 0, none⟩)] w fun e w' => SayR w K0 true e w' ∧ (∃ R, Par w' P R s1) ∧ Mv w w' P g := by
  have hp := hpar.pg h
  have hlt := h.lt
  have hPl := hpar.lt
  have hpl : pl < 256 := by have := val1_lt ((r.adv l 1).adv l 1) l; rw [plH.out] at this; exact this
  have hom : om < 256 := by have := val1_lt (((r.adv l 1).adv l 1).adv l 1) l; rw [omH.out] at this; exact this
  have ypl : IntKind.i64.wrap (pl : Int) = (pl : Int) := by rw [IntKind.wrap_i64]; omega
  have yom : IntKind.i64.wrap (om : Int) = (om : Int) := by rw [IntKind.wrap_i64]; omega
  have HU4 : Hid (∀ W, RdS W g bv l r → Calls Try.prog 47 #[.pointer (some ⟨g, 0, none⟩)] W fun e w' => e = .returned (.int .u8 (ae : Int)) ∧ NowS W w' g bv l (r.adv l 1)) := fun W h => by rw [← aeH.out]; exact u8_r h
  have HU9 : Hid (∀ W, RdS W g bv l (r.adv l 1) → Calls Try.prog 47 #[.pointer (some ⟨g, 0, none⟩)] W fun e w' => e = .returned (.int .u8 (fl : Int)) ∧ NowS W w' g bv l ((r.adv l 1).adv l 1)) := fun W h => by rw [← flH.out]; exact u8_r h
  have HU14 : Hid (∀ W, RdS W g bv l ((r.adv l 1).adv l 1) → Calls Try.prog 47 #[.pointer (some ⟨g, 0, none⟩)] W fun e w' => e = .returned (.int .u8 (pl : Int)) ∧ NowS W w' g bv l (((r.adv l 1).adv l 1).adv l 1)) := fun W h => by rw [← plH.out]; exact u8_r h
  have HU20 : Hid (∀ W, RdS W g bv l (((r.adv l 1).adv l 1).adv l 1) → Calls Try.prog 47 #[.pointer (some ⟨g, 0, none⟩)] W fun e w' => e = .returned (.int .u8 (om : Int)) ∧ NowS W w' g bv l ((((r.adv l 1).adv l 1).adv l 1).adv l 1)) := fun W h => by rw [← omH.out]; exact u8_r h
  have HU4b : Hid (∀ W, RdS W g bv l ((((r.adv l 1).adv l 1).adv l 1).adv l 1) → Calls Try.prog 48 #[.pointer (some ⟨g, 0, none⟩)] W fun e w' => e = .returned (.int .u16 (iv : Int)) ∧ NowS W w' g bv l (((((r.adv l 1).adv l 1).adv l 1).adv l 1).adv l 2)) := fun W h => by rw [← ivH.out]; exact u16_r h
  have HU9b : Hid (∀ W, RdS W g bv l (((((r.adv l 1).adv l 1).adv l 1).adv l 1).adv l 2) → Calls Try.prog 48 #[.pointer (some ⟨g, 0, none⟩)] W fun e w' => e = .returned (.int .u16 (sq : Int)) ∧ NowS W w' g bv l ((((((r.adv l 1).adv l 1).adv l 1).adv l 1).adv l 2).adv l 2)) := fun W h => by rw [← sqH.out]; exact u16_r h
  have HU14b : Hid (∀ W, RdS W g bv l ((((((r.adv l 1).adv l 1).adv l 1).adv l 1).adv l 2).adv l 2) → Calls Try.prog 48 #[.pointer (some ⟨g, 0, none⟩)] W fun e w' => e = .returned (.int .u16 (mt : Int)) ∧ NowS W w' g bv l (((((((r.adv l 1).adv l 1).adv l 1).adv l 1).adv l 2).adv l 2).adv l 2)) := fun W h => by rw [← mtH.out]; exact u16_r h
  clear aeH flH plH omH ivH sqH mtH
  go_enter Try.func61, Try.ntmps61
  go_wp2_with (refine alG infoTz (by rfl) rfl ?_; intro gA wA a1 a2 a3 rA)
  have hgA : gA ≠ g := by omega
  have hN : NowS w wA.drew g bv l r := ((h.below a3).now.after a3).below (bd _)
  have rAc := rA.below (bd _) rA.lt
  clear a3 rA
  refine wp_region_noPanic ?_
  refine wp_region_held_drew (S := fun W => W.cell? ⟨P, 11, none⟩ = some (.pointer (some ⟨g, 0, none⟩))) (by kernel_rfl) ((hp.now hN).c) (fun hHeld => ?_)
  refine tA 0 ?_
  refine tA 1 ?_
  refine tA 2 ?_
  refine tA 3 ?_
  refine tA 5 ?_
  refine tA 6 ?_
  refine tA 7 ?_
  refine tA 8 ?_
  refine tA 10 ?_
  refine tA 11 ?_
  refine tA 12 ?_
  refine tA 13 ?_
  refine tA 16 ?_
  refine tA 17 ?_
  refine tA 18 ?_
  refine tA 19 ?_
  refine r1 4 fun K hK => ?_
  go_simp
  refine (HU4.out _ hN.rd).mono ?_
  rintro e w1 ⟨rfl, hn1⟩
  replace rAc := rAc.nowS hn1 hgA
  replace hN := hN.trans hn1
  clear hn1
  refine oK hK (by exact (hp.now hN).c) fun hHeld => ?_
  clear hK K
  refine r1 9 fun K hK => ?_
  go_simp
  refine (HU9.out _ hN.rd).mono ?_
  rintro e w1 ⟨rfl, hn1⟩
  replace rAc := rAc.nowS hn1 hgA
  replace hN := hN.trans hn1
  clear hn1
  refine oK hK (by exact (hp.now hN).c) fun hHeld => ?_
  clear hK K
  refine r1 14 fun K hK => ?_
  go_simp
  refine (HU14.out _ hN.rd).mono ?_
  rintro e w1 ⟨rfl, hn1⟩
  replace rAc := rAc.nowS hn1 hgA
  replace hN := hN.trans hn1
  clear hn1
  refine oK hK (by exact (hp.now hN).c) fun hHeld => ?_
  clear hK K
  refine tA 15 ?_
  refine r1 20 fun K hK => ?_
  go_simp
  refine (HU20.out _ hN.rd).mono ?_
  rintro e w1 ⟨rfl, hn1⟩
  replace rAc := rAc.nowS hn1 hgA
  replace hN := hN.trans hn1
  clear hn1
  refine oK hK (by exact (hp.now hN).c) fun hHeld => ?_
  clear hK K
  refine tA 21 ?_
  refine tA 22 ?_
  refine tA 23 ?_
  refine tA 24 ?_
  refine tA 25 ?_
  refine dN ?_
  refine NoPanic.normal ?_
  go_wp2
  clear hHeld HU4 HU9 HU14 HU20
  replace hN := hN.below (bd _)
  replace rAc := rAc.below (bd _) rAc.lt
  apply region_ex (PP := fun gB W => Row W gB 33 (tcells { zeroT with ty := 8, intv := iv, seq := sq, met := mt }) ∧ Row W gA 33 (tcells zeroT) ∧ NowS w W g bv l (((((((r.adv l 1).adv l 1).adv l 1).adv l 1).adv l 2).adv l 2).adv l 2) ∧ w.heap.size ≤ gB ∧ gA < gB)
  case h1 =>
    refine wp_region_held_drew (S := fun W => W.cell? ⟨P, 11, none⟩ = some (.pointer (some ⟨g, 0, none⟩))) (by kernel_rfl) ((hp.now hN).c) (fun hHeld => ?_)
    refine tA 0 ?_
    refine tA 1 ?_
    refine tA 2 ?_
    refine tA 3 ?_
    refine tA 5 ?_
    refine tA 6 ?_
    refine tA 7 ?_
    refine tA 8 ?_
    refine tA 10 ?_
    refine tA 11 ?_
    refine tA 12 ?_
    refine tA 13 ?_
    refine rM [4,16] ?_
    refine cL (fun K hK => ?_) ?_
    · skip
      go_simp
      refine (HU4b.out _ hN.rd).mono ?_
      rintro e w1 ⟨rfl, hn1⟩
      replace rAc := rAc.nowS hn1 hgA
      try replace rB := rB.nowS hn1 (by omega)
      replace hN := hN.trans hn1
      clear hn1
      refine oK hK (by exact (hp.now hN).c) fun hHeld => ?_
      clear hK K
      refine rM [9,16] ?_
      refine cL (fun K hK => ?_) ?_
      · skip
        go_simp
        refine (HU9b.out _ hN.rd).mono ?_
        rintro e w1 ⟨rfl, hn1⟩
        replace rAc := rAc.nowS hn1 hgA
        try replace rB := rB.nowS hn1 (by omega)
        replace hN := hN.trans hn1
        clear hn1
        refine oK hK (by exact (hp.now hN).c) fun hHeld => ?_
        clear hK K
        refine rM [14,16] ?_
        refine cL (fun K hK => ?_) ?_
        · skip
          go_simp
          refine (HU14b.out _ hN.rd).mono ?_
          rintro e w1 ⟨rfl, hn1⟩
          replace rAc := rAc.nowS hn1 hgA
          try replace rB := rB.nowS hn1 (by omega)
          replace hN := hN.trans hn1
          clear hn1
          refine oK hK (by exact (hp.now hN).c) fun hHeld => ?_
          clear hK K
          refine tL 15 rfl (yB [(0, .const (.int .u8 8)), (2, .tmp 38), (3, .tmp 43), (5, .tmp 48)] (by rfl) rfl (bdUpd _ _ _)) ?_
          refine r1 16 fun K hK => ?_
          refine sAlG infoTz (by rfl) rfl ?_
          intro gB wB b1 b2 b3 rB
          have hgB : w.heap.size ≤ gB := Nat.le_trans hN.size b1
          have hne : gA < gB := Nat.lt_of_lt_of_le rAc.lt b1
          replace rAc := rAc.below b3 rAc.lt
          replace hN := hN.below b3
          clear b1 b2 b3
          refine oK hK (by exact (hp.now hN).c) fun hHeld => ?_
          clear hK K
          refine r1 17 fun K hK => ?_
          refine sStT (.tmp 8) (.tmp 49) (by rfl) rfl gB { zeroT with ty := 8, intv := iv, seq := sq, met := mt } _ rfl rfl rB ?_
          intro wC hgC rC
          replace rAc := rAc.grown hgC (fun e => by have := Option.some.inj e; omega)
          replace hN := NowS.fresh h hN hgC hgB
          refine oK hK (by exact (hp.now hN).c) fun hHeld => ?_
          clear hK K
          refine dN ?_
          exact ⟨gB, rfl, rC, rAc, hN, hgB, hne⟩
        refine cE fun K hK => ?_
        refine sAlG infoTz (by rfl) rfl ?_
        intro gB wB b1 b2 b3 rB
        have hgB : w.heap.size ≤ gB := Nat.le_trans hN.size b1
        have hne : gA < gB := Nat.lt_of_lt_of_le rAc.lt b1
        replace rAc := rAc.below b3 rAc.lt
        replace hN := hN.below b3
        clear b1 b2 b3
        refine oK hK (by exact (hp.now hN).c) fun hHeld => ?_
        clear hK K
        refine r1 14 fun K hK => ?_
        go_simp
        refine (HU14b.out _ hN.rd).mono ?_
        rintro e w1 ⟨rfl, hn1⟩
        replace rAc := rAc.nowS hn1 hgA
        try replace rB := rB.nowS hn1 (by omega)
        replace hN := hN.trans hn1
        clear hn1
        refine oK hK (by exact (hp.now hN).c) fun hHeld => ?_
        clear hK K
        refine tL 15 rfl (yB [(0, .const (.int .u8 8)), (2, .tmp 38), (3, .tmp 43), (5, .tmp 48)] (by rfl) rfl (bdUpd _ _ _)) ?_
        refine r1 17 fun K hK => ?_
        refine sStT (.tmp 8) (.tmp 49) (by rfl) rfl gB { zeroT with ty := 8, intv := iv, seq := sq, met := mt } _ rfl rfl rB ?_
        intro wC hgC rC
        replace rAc := rAc.grown hgC (fun e => by have := Option.some.inj e; omega)
        replace hN := NowS.fresh h hN hgC hgB
        refine oK hK (by exact (hp.now hN).c) fun hHeld => ?_
        clear hK K
        refine dN ?_
        exact ⟨gB, rfl, rC, rAc, hN, hgB, hne⟩
      refine cE fun K hK => ?_
      refine sAlG infoTz (by rfl) rfl ?_
      intro gB wB b1 b2 b3 rB
      have hgB : w.heap.size ≤ gB := Nat.le_trans hN.size b1
      have hne : gA < gB := Nat.lt_of_lt_of_le rAc.lt b1
      replace rAc := rAc.below b3 rAc.lt
      replace hN := hN.below b3
      clear b1 b2 b3
      refine oK hK (by exact (hp.now hN).c) fun hHeld => ?_
      clear hK K
      refine r1 9 fun K hK => ?_
      go_simp
      refine (HU9b.out _ hN.rd).mono ?_
      rintro e w1 ⟨rfl, hn1⟩
      replace rAc := rAc.nowS hn1 hgA
      try replace rB := rB.nowS hn1 (by omega)
      replace hN := hN.trans hn1
      clear hn1
      refine oK hK (by exact (hp.now hN).c) fun hHeld => ?_
      clear hK K
      refine r1 14 fun K hK => ?_
      go_simp
      refine (HU14b.out _ hN.rd).mono ?_
      rintro e w1 ⟨rfl, hn1⟩
      replace rAc := rAc.nowS hn1 hgA
      try replace rB := rB.nowS hn1 (by omega)
      replace hN := hN.trans hn1
      clear hn1
      refine oK hK (by exact (hp.now hN).c) fun hHeld => ?_
      clear hK K
      refine tL 15 rfl (yB [(0, .const (.int .u8 8)), (2, .tmp 38), (3, .tmp 43), (5, .tmp 48)] (by rfl) rfl (bdUpd _ _ _)) ?_
      refine r1 17 fun K hK => ?_
      refine sStT (.tmp 8) (.tmp 49) (by rfl) rfl gB { zeroT with ty := 8, intv := iv, seq := sq, met := mt } _ rfl rfl rB ?_
      intro wC hgC rC
      replace rAc := rAc.grown hgC (fun e => by have := Option.some.inj e; omega)
      replace hN := NowS.fresh h hN hgC hgB
      refine oK hK (by exact (hp.now hN).c) fun hHeld => ?_
      clear hK K
      refine dN ?_
      exact ⟨gB, rfl, rC, rAc, hN, hgB, hne⟩
    refine cE fun K hK => ?_
    refine sAlG infoTz (by rfl) rfl ?_
    intro gB wB b1 b2 b3 rB
    have hgB : w.heap.size ≤ gB := Nat.le_trans hN.size b1
    have hne : gA < gB := Nat.lt_of_lt_of_le rAc.lt b1
    replace rAc := rAc.below b3 rAc.lt
    replace hN := hN.below b3
    clear b1 b2 b3
    refine oK hK (by exact (hp.now hN).c) fun hHeld => ?_
    clear hK K
    refine r1 4 fun K hK => ?_
    go_simp
    refine (HU4b.out _ hN.rd).mono ?_
    rintro e w1 ⟨rfl, hn1⟩
    replace rAc := rAc.nowS hn1 hgA
    try replace rB := rB.nowS hn1 (by omega)
    replace hN := hN.trans hn1
    clear hn1
    refine oK hK (by exact (hp.now hN).c) fun hHeld => ?_
    clear hK K
    refine r1 9 fun K hK => ?_
    go_simp
    refine (HU9b.out _ hN.rd).mono ?_
    rintro e w1 ⟨rfl, hn1⟩
    replace rAc := rAc.nowS hn1 hgA
    try replace rB := rB.nowS hn1 (by omega)
    replace hN := hN.trans hn1
    clear hn1
    refine oK hK (by exact (hp.now hN).c) fun hHeld => ?_
    clear hK K
    refine r1 14 fun K hK => ?_
    go_simp
    refine (HU14b.out _ hN.rd).mono ?_
    rintro e w1 ⟨rfl, hn1⟩
    replace rAc := rAc.nowS hn1 hgA
    try replace rB := rB.nowS hn1 (by omega)
    replace hN := hN.trans hn1
    clear hn1
    refine oK hK (by exact (hp.now hN).c) fun hHeld => ?_
    clear hK K
    refine tL 15 rfl (yB [(0, .const (.int .u8 8)), (2, .tmp 38), (3, .tmp 43), (5, .tmp 48)] (by rfl) rfl (bdUpd _ _ _)) ?_
    refine r1 17 fun K hK => ?_
    refine sStT (.tmp 8) (.tmp 49) (by rfl) rfl gB { zeroT with ty := 8, intv := iv, seq := sq, met := mt } _ rfl rfl rB ?_
    intro wC hgC rC
    replace rAc := rAc.grown hgC (fun e => by have := Option.some.inj e; omega)
    replace hN := NowS.fresh h hN hgC hgB
    refine oK hK (by exact (hp.now hN).c) fun hHeld => ?_
    clear hK K
    refine dN ?_
    exact ⟨gB, rfl, rC, rAc, hN, hgB, hne⟩
  case h2 =>
  clear hN rAc HU4b HU9b HU14b
  rintro gB wC ⟨rC, rAC, hN, hgB, hAB⟩
  have cR := (hp.now hN).c
  have hgB2 : gB ≠ g := by omega
  have c5 : wC.cell? ⟨gB, 5, none⟩ = some (.int .u16 (mt : Int)) := rC.cell 5
  go_wp2_with (first
    | (have kk := rB7; refine stT (.tmp 2) (.tmp 97) (by rfl) rfl gA { zeroT with ty := 8, intv := iv, seq := sq, met := mt, pr := q } _ rfl rfl rA7 ?_; intro w8 hg8 r8)
    | (have kk := rB7; refine ldT (.tmp 8) (by rfl) rfl gB { zeroT with ty := 8, intv := iv, seq := sq, met := mt, pr := q } rfl rB7 ?_)
    | (have kk := m6; refine stQt (.tmp 89) (.tmp 87) (by rfl) rfl gB { zeroT with ty := 8, intv := iv, seq := sq, met := mt } q rfl rfl rB6 ?_; intro w7 hg7 rB7; have rA7 := rA6.grown hg7 (fun e => by have := Option.some.inj e; omega); have rD7 := rD6.grown hg7 (fun e => by have := Option.some.inj e; omega); have c57 : w7.cell? ⟨gB, 5, none⟩ = some (.int .u16 (mt : Int)) := rB7.cell 5; have P7 := P6.fresh hg7 (rB6.kind (by decide) (by decide) (by decide)); have M7 := (M5.trans m6).fresh hg7 hgB)
    | (go_at_call 87; have kk := P5; refine (HQ.out _ P5 R5).mono ?_; rintro e w6 ⟨rfl, ⟨RR, P6⟩, m6⟩; have rA6 := m6.row rA5 (by omega) hgA; have rB6 := m6.row rB5 (by omega) hgB2; have rD6 := m6.row rD5 (by omega) (by omega))
    | (have kk := P5; refine ldP (.tmp 9) (by rfl) rfl gD 0 dst rfl rD5.range ?_)
    | (go_at_call 86; have kk := hn4; refine (HK.out _ PK).mono ?_; rintro e w5 ⟨rfl, P5, hgK⟩; have rA5 := rA4.grown hgK (fun e => by have := Option.some.inj e; omega); have rB5 := rB4.grown hgK (fun e => by have := Option.some.inj e; omega); have rD5 := rD4.grown hgK (fun e => by have := Option.some.inj e; omega); have R5 : RdS w5 g bv l rn := rd_far N4.rd hgK (fun e => hp.ne e.symm) (PK.bytes N4.rd); have M5 : Mv w w5 P g := (Mv.ofNow N4).trans (Mv.ofP hgK))
    | (have kk := hn4; refine ldA (.tmp 79) (by rfl) rfl gD 0 dst.a rfl (LP.a (show LP w4 gD 0 dst from rD4.range)) ?_)
    | (go_at_call 82; have kk := rD3; refine (HW.out _ (hp.now N3) N3.rd).mono ?_; rintro e w4 ⟨rfl, hn4⟩; have N4 := N3.trans hn4; have rA4 := rA3.nowS hn4 hgA; have rB4 := rB3.nowS hn4 hgB2; have rD4 := rD3.nowS hn4 (by omega); have PK := hpar.now h N4)
    | (have kk := rD; refine stP0 (.tmp 9) (.tmp 73) (by rfl) rfl gD dst _ (pcells_len _) rfl rfl rD ?_; intro w3 hg3 rD3; have hgD : w.heap.size ≤ gD := Nat.le_trans N2.size d1; have hBD : gB < gD := Nat.lt_of_lt_of_le (rC.nowS hn2 hgB2).lt d1; have rA3 := ((rAC.nowS hn2 hgA).below d3 (rAC.nowS hn2 hgA).lt).grown hg3 (fun e => by have := Option.some.inj e; omega); have rB3 := ((rC.nowS hn2 hgB2).below d3 (rC.nowS hn2 hgB2).lt).grown hg3 (fun e => by have := Option.some.inj e; omega); have N3 := NowS.fresh h (N2.below d3) hg3 hgD)
    | (have kk := N2; refine alG infoPz (by rfl) rfl ?_; intro gD wD d1 d2 d3 rD)
    | (go_at_call 85; refine (HP.out _ (hpar.now h hN) hN.rd).mono ?_; rintro e w2 ⟨rfl, hn2⟩; have N2 := hN.trans hn2))
  have P8 := P7.fresh hg8 (rA7.kind (by decide) (by decide) (by decide))
  exact bodyPost_ret (retCT rfl _ _ 0 rfl (lvT r8)) rfl ⟨⟨{ zeroT with ty := 8, intv := iv, seq := sq, met := mt, pr := q }, rfl, (fun _ => HKE.out), Stms.none _ _ _ rfl rfl rfl rfl⟩, ⟨_, P8⟩, M7.fresh hg8 a1⟩
set_option maxHeartbeats 4000000 in
theorem update_n_no {w : World} {P g : Nat} {l : List UInt8} {r : RS} {s : St} (hpar : Par w P (some g) s) (h : RdS w g bv l r) {ae fl pl om iv sq mt : Nat} {dst : Pf} {rn : RS} {s1 : St} {q : Pr} {K0 : TK}
    (aeH : Hid ((r.val l 1) = ae)) (flH : Hid (((r.adv l 1).val l 1) = fl)) (plH : Hid ((((r.adv l 1).adv l 1).val l 1) = pl)) (omH : Hid (((((r.adv l 1).adv l 1).adv l 1).val l 1) = om)) (ivH : Hid ((((((r.adv l 1).adv l 1).adv l 1).adv l 1).val l 2) = iv)) (sqH : Hid (((((((r.adv l 1).adv l 1).adv l 1).adv l 1).adv l 2).val l 2) = sq)) (mtH : Hid ((((((((r.adv l 1).adv l 1).adv l 1).adv l 1).adv l 2).adv l 2).val l 2) = mt))
    (hae : ((ae : Int) == 0) = false)
    (HP : Hid (∀ W, Par W P (some g) s → RdS W g bv l (((((((r.adv l 1).adv l 1).adv l 1).adv l 1).adv l 2).adv l 2).adv l 2) → Calls Try.prog 85 #[.pointer (some ⟨P, 0, none⟩), .int .u8 (ae : Int), .int .i64 (pl : Int), .int .i64 (om : Int)] W fun e w' => e = .returned (Value.agg (pcells dst).toArray) ∧ NowS W w' g bv l rn))
    (HW : Hid (∀ W, Pg W P g → RdS W g bv l rn → Calls Try.prog 82 #[.pointer (some ⟨P, 0, none⟩)] W fun e w' => e = .returned (.bool false) ∧ NowS W w' g bv l rn))
    (hs1 : s1 = s)
    (HQ : Hid (∀ W, Par W P (some g) s1 → RdS W g bv l rn → Calls Try.prog 87 #[.pointer (some ⟨P, 0, none⟩), .int .u8 (ae : Int), (Value.agg (pcells dst).toArray)] W (Paired W P g s1 q false))) :
    Calls Try.prog 61 #[.pointer (some ⟨P, 0, none⟩)] w fun e w' => SayR w K0 false e w' ∧ (∃ R, Par w' P R s1) ∧ Mv w w' P g := by
  have hp := hpar.pg h
  have hlt := h.lt
  have hPl := hpar.lt
  have hpl : pl < 256 := by have := val1_lt ((r.adv l 1).adv l 1) l; rw [plH.out] at this; exact this
  have hom : om < 256 := by have := val1_lt (((r.adv l 1).adv l 1).adv l 1) l; rw [omH.out] at this; exact this
  have ypl : IntKind.i64.wrap (pl : Int) = (pl : Int) := by rw [IntKind.wrap_i64]; omega
  have yom : IntKind.i64.wrap (om : Int) = (om : Int) := by rw [IntKind.wrap_i64]; omega
  have HU4 : Hid (∀ W, RdS W g bv l r → Calls Try.prog 47 #[.pointer (some ⟨g, 0, none⟩)] W fun e w' => e = .returned (.int .u8 (ae : Int)) ∧ NowS W w' g bv l (r.adv l 1)) := fun W h => by rw [← aeH.out]; exact u8_r h
  have HU9 : Hid (∀ W, RdS W g bv l (r.adv l 1) → Calls Try.prog 47 #[.pointer (some ⟨g, 0, none⟩)] W fun e w' => e = .returned (.int .u8 (fl : Int)) ∧ NowS W w' g bv l ((r.adv l 1).adv l 1)) := fun W h => by rw [← flH.out]; exact u8_r h
  have HU14 : Hid (∀ W, RdS W g bv l ((r.adv l 1).adv l 1) → Calls Try.prog 47 #[.pointer (some ⟨g, 0, none⟩)] W fun e w' => e = .returned (.int .u8 (pl : Int)) ∧ NowS W w' g bv l (((r.adv l 1).adv l 1).adv l 1)) := fun W h => by rw [← plH.out]; exact u8_r h
  have HU20 : Hid (∀ W, RdS W g bv l (((r.adv l 1).adv l 1).adv l 1) → Calls Try.prog 47 #[.pointer (some ⟨g, 0, none⟩)] W fun e w' => e = .returned (.int .u8 (om : Int)) ∧ NowS W w' g bv l ((((r.adv l 1).adv l 1).adv l 1).adv l 1)) := fun W h => by rw [← omH.out]; exact u8_r h
  have HU4b : Hid (∀ W, RdS W g bv l ((((r.adv l 1).adv l 1).adv l 1).adv l 1) → Calls Try.prog 48 #[.pointer (some ⟨g, 0, none⟩)] W fun e w' => e = .returned (.int .u16 (iv : Int)) ∧ NowS W w' g bv l (((((r.adv l 1).adv l 1).adv l 1).adv l 1).adv l 2)) := fun W h => by rw [← ivH.out]; exact u16_r h
  have HU9b : Hid (∀ W, RdS W g bv l (((((r.adv l 1).adv l 1).adv l 1).adv l 1).adv l 2) → Calls Try.prog 48 #[.pointer (some ⟨g, 0, none⟩)] W fun e w' => e = .returned (.int .u16 (sq : Int)) ∧ NowS W w' g bv l ((((((r.adv l 1).adv l 1).adv l 1).adv l 1).adv l 2).adv l 2)) := fun W h => by rw [← sqH.out]; exact u16_r h
  have HU14b : Hid (∀ W, RdS W g bv l ((((((r.adv l 1).adv l 1).adv l 1).adv l 1).adv l 2).adv l 2) → Calls Try.prog 48 #[.pointer (some ⟨g, 0, none⟩)] W fun e w' => e = .returned (.int .u16 (mt : Int)) ∧ NowS W w' g bv l (((((((r.adv l 1).adv l 1).adv l 1).adv l 1).adv l 2).adv l 2).adv l 2)) := fun W h => by rw [← mtH.out]; exact u16_r h
  subst hs1
  clear aeH flH plH omH ivH sqH mtH
  go_enter Try.func61, Try.ntmps61
  go_wp2_with (refine alG infoTz (by rfl) rfl ?_; intro gA wA a1 a2 a3 rA)
  have hgA : gA ≠ g := by omega
  have hN : NowS w wA.drew g bv l r := ((h.below a3).now.after a3).below (bd _)
  have rAc := rA.below (bd _) rA.lt
  clear a3 rA
  refine wp_region_noPanic ?_
  refine wp_region_held_drew (S := fun W => W.cell? ⟨P, 11, none⟩ = some (.pointer (some ⟨g, 0, none⟩))) (by kernel_rfl) ((hp.now hN).c) (fun hHeld => ?_)
  refine tA 0 ?_
  refine tA 1 ?_
  refine tA 2 ?_
  refine tA 3 ?_
  refine tA 5 ?_
  refine tA 6 ?_
  refine tA 7 ?_
  refine tA 8 ?_
  refine tA 10 ?_
  refine tA 11 ?_
  refine tA 12 ?_
  refine tA 13 ?_
  refine tA 16 ?_
  refine tA 17 ?_
  refine tA 18 ?_
  refine tA 19 ?_
  refine r1 4 fun K hK => ?_
  go_simp
  refine (HU4.out _ hN.rd).mono ?_
  rintro e w1 ⟨rfl, hn1⟩
  replace rAc := rAc.nowS hn1 hgA
  replace hN := hN.trans hn1
  clear hn1
  refine oK hK (by exact (hp.now hN).c) fun hHeld => ?_
  clear hK K
  refine r1 9 fun K hK => ?_
  go_simp
  refine (HU9.out _ hN.rd).mono ?_
  rintro e w1 ⟨rfl, hn1⟩
  replace rAc := rAc.nowS hn1 hgA
  replace hN := hN.trans hn1
  clear hn1
  refine oK hK (by exact (hp.now hN).c) fun hHeld => ?_
  clear hK K
  refine r1 14 fun K hK => ?_
  go_simp
  refine (HU14.out _ hN.rd).mono ?_
  rintro e w1 ⟨rfl, hn1⟩
  replace rAc := rAc.nowS hn1 hgA
  replace hN := hN.trans hn1
  clear hn1
  refine oK hK (by exact (hp.now hN).c) fun hHeld => ?_
  clear hK K
  refine tA 15 ?_
  refine r1 20 fun K hK => ?_
  go_simp
  refine (HU20.out _ hN.rd).mono ?_
  rintro e w1 ⟨rfl, hn1⟩
  replace rAc := rAc.nowS hn1 hgA
  replace hN := hN.trans hn1
  clear hn1
  refine oK hK (by exact (hp.now hN).c) fun hHeld => ?_
  clear hK K
  refine tA 21 ?_
  refine tA 22 ?_
  refine tA 23 ?_
  refine tA 24 ?_
  refine tA 25 ?_
  refine dN ?_
  refine NoPanic.normal ?_
  go_wp2
  clear hHeld HU4 HU9 HU14 HU20
  replace hN := hN.below (bd _)
  replace rAc := rAc.below (bd _) rAc.lt
  apply region_ex (PP := fun gB W => Row W gB 33 (tcells { zeroT with ty := 8, intv := iv, seq := sq, met := mt }) ∧ Row W gA 33 (tcells zeroT) ∧ NowS w W g bv l (((((((r.adv l 1).adv l 1).adv l 1).adv l 1).adv l 2).adv l 2).adv l 2) ∧ w.heap.size ≤ gB ∧ gA < gB)
  case h1 =>
    refine wp_region_held_drew (S := fun W => W.cell? ⟨P, 11, none⟩ = some (.pointer (some ⟨g, 0, none⟩))) (by kernel_rfl) ((hp.now hN).c) (fun hHeld => ?_)
    refine tA 0 ?_
    refine tA 1 ?_
    refine tA 2 ?_
    refine tA 3 ?_
    refine tA 5 ?_
    refine tA 6 ?_
    refine tA 7 ?_
    refine tA 8 ?_
    refine tA 10 ?_
    refine tA 11 ?_
    refine tA 12 ?_
    refine tA 13 ?_
    refine rM [4,16] ?_
    refine cL (fun K hK => ?_) ?_
    · skip
      go_simp
      refine (HU4b.out _ hN.rd).mono ?_
      rintro e w1 ⟨rfl, hn1⟩
      replace rAc := rAc.nowS hn1 hgA
      try replace rB := rB.nowS hn1 (by omega)
      replace hN := hN.trans hn1
      clear hn1
      refine oK hK (by exact (hp.now hN).c) fun hHeld => ?_
      clear hK K
      refine rM [9,16] ?_
      refine cL (fun K hK => ?_) ?_
      · skip
        go_simp
        refine (HU9b.out _ hN.rd).mono ?_
        rintro e w1 ⟨rfl, hn1⟩
        replace rAc := rAc.nowS hn1 hgA
        try replace rB := rB.nowS hn1 (by omega)
        replace hN := hN.trans hn1
        clear hn1
        refine oK hK (by exact (hp.now hN).c) fun hHeld => ?_
        clear hK K
        refine rM [14,16] ?_
        refine cL (fun K hK => ?_) ?_
        · skip
          go_simp
          refine (HU14b.out _ hN.rd).mono ?_
          rintro e w1 ⟨rfl, hn1⟩
          replace rAc := rAc.nowS hn1 hgA
          try replace rB := rB.nowS hn1 (by omega)
          replace hN := hN.trans hn1
          clear hn1
          refine oK hK (by exact (hp.now hN).c) fun hHeld => ?_
          clear hK K
          refine tL 15 rfl (yB [(0, .const (.int .u8 8)), (2, .tmp 38), (3, .tmp 43), (5, .tmp 48)] (by rfl) rfl (bdUpd _ _ _)) ?_
          refine r1 16 fun K hK => ?_
          refine sAlG infoTz (by rfl) rfl ?_
          intro gB wB b1 b2 b3 rB
          have hgB : w.heap.size ≤ gB := Nat.le_trans hN.size b1
          have hne : gA < gB := Nat.lt_of_lt_of_le rAc.lt b1
          replace rAc := rAc.below b3 rAc.lt
          replace hN := hN.below b3
          clear b1 b2 b3
          refine oK hK (by exact (hp.now hN).c) fun hHeld => ?_
          clear hK K
          refine r1 17 fun K hK => ?_
          refine sStT (.tmp 8) (.tmp 49) (by rfl) rfl gB { zeroT with ty := 8, intv := iv, seq := sq, met := mt } _ rfl rfl rB ?_
          intro wC hgC rC
          replace rAc := rAc.grown hgC (fun e => by have := Option.some.inj e; omega)
          replace hN := NowS.fresh h hN hgC hgB
          refine oK hK (by exact (hp.now hN).c) fun hHeld => ?_
          clear hK K
          refine dN ?_
          exact ⟨gB, rfl, rC, rAc, hN, hgB, hne⟩
        refine cE fun K hK => ?_
        refine sAlG infoTz (by rfl) rfl ?_
        intro gB wB b1 b2 b3 rB
        have hgB : w.heap.size ≤ gB := Nat.le_trans hN.size b1
        have hne : gA < gB := Nat.lt_of_lt_of_le rAc.lt b1
        replace rAc := rAc.below b3 rAc.lt
        replace hN := hN.below b3
        clear b1 b2 b3
        refine oK hK (by exact (hp.now hN).c) fun hHeld => ?_
        clear hK K
        refine r1 14 fun K hK => ?_
        go_simp
        refine (HU14b.out _ hN.rd).mono ?_
        rintro e w1 ⟨rfl, hn1⟩
        replace rAc := rAc.nowS hn1 hgA
        try replace rB := rB.nowS hn1 (by omega)
        replace hN := hN.trans hn1
        clear hn1
        refine oK hK (by exact (hp.now hN).c) fun hHeld => ?_
        clear hK K
        refine tL 15 rfl (yB [(0, .const (.int .u8 8)), (2, .tmp 38), (3, .tmp 43), (5, .tmp 48)] (by rfl) rfl (bdUpd _ _ _)) ?_
        refine r1 17 fun K hK => ?_
        refine sStT (.tmp 8) (.tmp 49) (by rfl) rfl gB { zeroT with ty := 8, intv := iv, seq := sq, met := mt } _ rfl rfl rB ?_
        intro wC hgC rC
        replace rAc := rAc.grown hgC (fun e => by have := Option.some.inj e; omega)
        replace hN := NowS.fresh h hN hgC hgB
        refine oK hK (by exact (hp.now hN).c) fun hHeld => ?_
        clear hK K
        refine dN ?_
        exact ⟨gB, rfl, rC, rAc, hN, hgB, hne⟩
      refine cE fun K hK => ?_
      refine sAlG infoTz (by rfl) rfl ?_
      intro gB wB b1 b2 b3 rB
      have hgB : w.heap.size ≤ gB := Nat.le_trans hN.size b1
      have hne : gA < gB := Nat.lt_of_lt_of_le rAc.lt b1
      replace rAc := rAc.below b3 rAc.lt
      replace hN := hN.below b3
      clear b1 b2 b3
      refine oK hK (by exact (hp.now hN).c) fun hHeld => ?_
      clear hK K
      refine r1 9 fun K hK => ?_
      go_simp
      refine (HU9b.out _ hN.rd).mono ?_
      rintro e w1 ⟨rfl, hn1⟩
      replace rAc := rAc.nowS hn1 hgA
      try replace rB := rB.nowS hn1 (by omega)
      replace hN := hN.trans hn1
      clear hn1
      refine oK hK (by exact (hp.now hN).c) fun hHeld => ?_
      clear hK K
      refine r1 14 fun K hK => ?_
      go_simp
      refine (HU14b.out _ hN.rd).mono ?_
      rintro e w1 ⟨rfl, hn1⟩
      replace rAc := rAc.nowS hn1 hgA
      try replace rB := rB.nowS hn1 (by omega)
      replace hN := hN.trans hn1
      clear hn1
      refine oK hK (by exact (hp.now hN).c) fun hHeld => ?_
      clear hK K
      refine tL 15 rfl (yB [(0, .const (.int .u8 8)), (2, .tmp 38), (3, .tmp 43), (5, .tmp 48)] (by rfl) rfl (bdUpd _ _ _)) ?_
      refine r1 17 fun K hK => ?_
      refine sStT (.tmp 8) (.tmp 49) (by rfl) rfl gB { zeroT with ty := 8, intv := iv, seq := sq, met := mt } _ rfl rfl rB ?_
      intro wC hgC rC
      replace rAc := rAc.grown hgC (fun e => by have := Option.some.inj e; omega)
      replace hN := NowS.fresh h hN hgC hgB
      refine oK hK (by exact (hp.now hN).c) fun hHeld => ?_
      clear hK K
      refine dN ?_
      exact ⟨gB, rfl, rC, rAc, hN, hgB, hne⟩
    refine cE fun K hK => ?_
    refine sAlG infoTz (by rfl) rfl ?_
    intro gB wB b1 b2 b3 rB
    have hgB : w.heap.size ≤ gB := Nat.le_trans hN.size b1
    have hne : gA < gB := Nat.lt_of_lt_of_le rAc.lt b1
    replace rAc := rAc.below b3 rAc.lt
    replace hN := hN.below b3
    clear b1 b2 b3
    refine oK hK (by exact (hp.now hN).c) fun hHeld => ?_
    clear hK K
    refine r1 4 fun K hK => ?_
    go_simp
    refine (HU4b.out _ hN.rd).mono ?_
    rintro e w1 ⟨rfl, hn1⟩
    replace rAc := rAc.nowS hn1 hgA
    try replace rB := rB.nowS hn1 (by omega)
    replace hN := hN.trans hn1
    clear hn1
    refine oK hK (by exact (hp.now hN).c) fun hHeld => ?_
    clear hK K
    refine r1 9 fun K hK => ?_
    go_simp
    refine (HU9b.out _ hN.rd).mono ?_
    rintro e w1 ⟨rfl, hn1⟩
    replace rAc := rAc.nowS hn1 hgA
    try replace rB := rB.nowS hn1 (by omega)
    replace hN := hN.trans hn1
    clear hn1
    refine oK hK (by exact (hp.now hN).c) fun hHeld => ?_
    clear hK K
    refine r1 14 fun K hK => ?_
    go_simp
    refine (HU14b.out _ hN.rd).mono ?_
    rintro e w1 ⟨rfl, hn1⟩
    replace rAc := rAc.nowS hn1 hgA
    try replace rB := rB.nowS hn1 (by omega)
    replace hN := hN.trans hn1
    clear hn1
    refine oK hK (by exact (hp.now hN).c) fun hHeld => ?_
    clear hK K
    refine tL 15 rfl (yB [(0, .const (.int .u8 8)), (2, .tmp 38), (3, .tmp 43), (5, .tmp 48)] (by rfl) rfl (bdUpd _ _ _)) ?_
    refine r1 17 fun K hK => ?_
    refine sStT (.tmp 8) (.tmp 49) (by rfl) rfl gB { zeroT with ty := 8, intv := iv, seq := sq, met := mt } _ rfl rfl rB ?_
    intro wC hgC rC
    replace rAc := rAc.grown hgC (fun e => by have := Option.some.inj e; omega)
    replace hN := NowS.fresh h hN hgC hgB
    refine oK hK (by exact (hp.now hN).c) fun hHeld => ?_
    clear hK K
    refine dN ?_
    exact ⟨gB, rfl, rC, rAc, hN, hgB, hne⟩
  case h2 =>
  clear hN rAc HU4b HU9b HU14b
  rintro gB wC ⟨rC, rAC, hN, hgB, hAB⟩
  have cR := (hp.now hN).c
  have hgB2 : gB ≠ g := by omega
  have c5 : wC.cell? ⟨gB, 5, none⟩ = some (.int .u16 (mt : Int)) := rC.cell 5
  go_wp2_with (first
    | (have kk := rB7; refine stT (.tmp 2) (.tmp 97) (by rfl) rfl gA { zeroT with ty := 8, intv := iv, seq := sq, met := mt, pr := q } _ rfl rfl rA7 ?_; intro w8 hg8 r8)
    | (have kk := rB7; refine ldT (.tmp 8) (by rfl) rfl gB { zeroT with ty := 8, intv := iv, seq := sq, met := mt, pr := q } rfl rB7 ?_)
    | (have kk := m6; refine stQt (.tmp 89) (.tmp 87) (by rfl) rfl gB { zeroT with ty := 8, intv := iv, seq := sq, met := mt } q rfl rfl rB6 ?_; intro w7 hg7 rB7; have rA7 := rA6.grown hg7 (fun e => by have := Option.some.inj e; omega); have rD7 := rD6.grown hg7 (fun e => by have := Option.some.inj e; omega); have c57 : w7.cell? ⟨gB, 5, none⟩ = some (.int .u16 (mt : Int)) := rB7.cell 5; have P7 := P6.fresh hg7 (rB6.kind (by decide) (by decide) (by decide)); have M7 := (M5.trans m6).fresh hg7 hgB)
    | (go_at_call 87; have kk := P5; refine (HQ.out _ P5 R5).mono ?_; rintro e w6 ⟨rfl, ⟨RR, P6⟩, m6⟩; have rA6 := m6.row rA5 (by omega) hgA; have rB6 := m6.row rB5 (by omega) hgB2; have rD6 := m6.row rD5 (by omega) (by omega))
    | (have kk := P5; refine ldP (.tmp 9) (by rfl) rfl gD 0 dst rfl rD5.range ?_)
    | (go_at_call 82; have kk := rD3; refine (HW.out _ (hp.now N3) N3.rd).mono ?_; rintro e w4 ⟨rfl, hn4⟩; have N4 := N3.trans hn4; have rA4 := rA3.nowS hn4 hgA; have rB4 := rB3.nowS hn4 hgB2; have rD4 := rD3.nowS hn4 (by omega); have PK := hpar.now h N4; have P5 := PK; have R5 := N4.rd; have rA5 := rA4; have rB5 := rB4; have rD5 := rD4; have M5 : Mv w w4 P g := Mv.ofNow N4)
    | (have kk := rD; refine stP0 (.tmp 9) (.tmp 73) (by rfl) rfl gD dst _ (pcells_len _) rfl rfl rD ?_; intro w3 hg3 rD3; have hgD : w.heap.size ≤ gD := Nat.le_trans N2.size d1; have hBD : gB < gD := Nat.lt_of_lt_of_le (rC.nowS hn2 hgB2).lt d1; have rA3 := ((rAC.nowS hn2 hgA).below d3 (rAC.nowS hn2 hgA).lt).grown hg3 (fun e => by have := Option.some.inj e; omega); have rB3 := ((rC.nowS hn2 hgB2).below d3 (rC.nowS hn2 hgB2).lt).grown hg3 (fun e => by have := Option.some.inj e; omega); have N3 := NowS.fresh h (N2.below d3) hg3 hgD)
    | (have kk := N2; refine alG infoPz (by rfl) rfl ?_; intro gD wD d1 d2 d3 rD)
    | (go_at_call 85; refine (HP.out _ (hpar.now h hN) hN.rd).mono ?_; rintro e w2 ⟨rfl, hn2⟩; have N2 := hN.trans hn2))
  have P8 := P7.fresh hg8 (rA7.kind (by decide) (by decide) (by decide))
  exact bodyPost_ret (retCT rfl _ _ 0 rfl (lvT r8)) rfl ⟨⟨{ zeroT with ty := 8, intv := iv, seq := sq, met := mt, pr := q }, rfl, (fun e => by cases e), Stms.none _ _ _ rfl rfl rfl rfl⟩, ⟨_, P8⟩, M7.fresh hg8 a1⟩
set_option maxHeartbeats 4000000 in
theorem update_n_inf {w : World} {P g : Nat} {l : List UInt8} {r : RS} {s : St} (hpar : Par w P (some g) s) (h : RdS w g bv l r) {ae fl pl om iv sq mt : Nat} {dst : Pf} {rn : RS} {s1 : St} {q : Pr} {K0 : TK}
    (aeH : Hid ((r.val l 1) = ae)) (flH : Hid (((r.adv l 1).val l 1) = fl)) (plH : Hid ((((r.adv l 1).adv l 1).val l 1) = pl)) (omH : Hid (((((r.adv l 1).adv l 1).adv l 1).val l 1) = om)) (ivH : Hid ((((((r.adv l 1).adv l 1).adv l 1).adv l 1).val l 2) = iv)) (sqH : Hid (((((((r.adv l 1).adv l 1).adv l 1).adv l 1).adv l 2).val l 2) = sq)) (mtH : Hid ((((((((r.adv l 1).adv l 1).adv l 1).adv l 1).adv l 2).adv l 2).val l 2) = mt))
    (hae : ((ae : Int) == 0) = false)
    (HP : Hid (∀ W, Par W P (some g) s → RdS W g bv l (((((((r.adv l 1).adv l 1).adv l 1).adv l 1).adv l 2).adv l 2).adv l 2) → Calls Try.prog 85 #[.pointer (some ⟨P, 0, none⟩), .int .u8 (ae : Int), .int .i64 (pl : Int), .int .i64 (om : Int)] W fun e w' => e = .returned (Value.agg (pcells dst).toArray) ∧ NowS W w' g bv l rn))
    (HW : Hid (∀ W, Pg W P g → RdS W g bv l rn → Calls Try.prog 82 #[.pointer (some ⟨P, 0, none⟩)] W fun e w' => e = .returned (.bool false) ∧ NowS W w' g bv l rn))
    (hs1 : s1 = s)
    (HQ : Hid (∀ W, Par W P (some g) s1 → RdS W g bv l rn → Calls Try.prog 87 #[.pointer (some ⟨P, 0, none⟩), .int .u8 (ae : Int), (Value.agg (pcells dst).toArray)] W (Paired W P g s1 q true)))
    (hmt : ((mt : Int) == 65535) = true) (HKE : Hid (Tl.key { zeroT with ty := 8, intv := iv, seq := sq, met := mt, pr := q } = K0)) :
    Calls Try.prog 61 #[.pointer (some ⟨P, 0, none⟩)] w fun e w' => SayR w K0 true e w' ∧ (∃ R, Par w' P R s1) ∧ Mv w w' P g := by
  have hp := hpar.pg h
  have hlt := h.lt
  have hPl := hpar.lt
  have hpl : pl < 256 := by have := val1_lt ((r.adv l 1).adv l 1) l; rw [plH.out] at this; exact this
  have hom : om < 256 := by have := val1_lt (((r.adv l 1).adv l 1).adv l 1) l; rw [omH.out] at this; exact this
  have ypl : IntKind.i64.wrap (pl : Int) = (pl : Int) := by rw [IntKind.wrap_i64]; omega
  have yom : IntKind.i64.wrap (om : Int) = (om : Int) := by rw [IntKind.wrap_i64]; omega
  have HU4 : Hid (∀ W, RdS W g bv l r → Calls Try.prog 47 #[.pointer (some ⟨g, 0, none⟩)] W fun e w' => e = .returned (.int .u8 (ae : Int)) ∧ NowS W w' g bv l (r.adv l 1)) := fun W h => by rw [← aeH.out]; exact u8_r h
  have HU9 : Hid (∀ W, RdS W g bv l (r.adv l 1) → Calls Try.prog 47 #[.pointer (some ⟨g, 0, none⟩)] W fun e w' => e = .returned (.int .u8 (fl : Int)) ∧ NowS W w' g bv l ((r.adv l 1).adv l 1)) := fun W h => by rw [← flH.out]; exact u8_r h
  have HU14 : Hid (∀ W, RdS W g bv l ((r.adv l 1).adv l 1) → Calls Try.prog 47 #[.pointer (some ⟨g, 0, none⟩)] W fun e w' => e = .returned (.int .u8 (pl : Int)) ∧ NowS W w' g bv l (((r.adv l 1).adv l 1).adv l 1)) := fun W h => by rw [← plH.out]; exact u8_r h
  have HU20 : Hid (∀ W, RdS W g bv l (((r.adv l 1).adv l 1).adv l 1) → Calls Try.prog 47 #[.pointer (some ⟨g, 0, none⟩)] W fun e w' => e = .returned (.int .u8 (om : Int)) ∧ NowS W w' g bv l ((((r.adv l 1).adv l 1).adv l 1).adv l 1)) := fun W h => by rw [← omH.out]; exact u8_r h
  have HU4b : Hid (∀ W, RdS W g bv l ((((r.adv l 1).adv l 1).adv l 1).adv l 1) → Calls Try.prog 48 #[.pointer (some ⟨g, 0, none⟩)] W fun e w' => e = .returned (.int .u16 (iv : Int)) ∧ NowS W w' g bv l (((((r.adv l 1).adv l 1).adv l 1).adv l 1).adv l 2)) := fun W h => by rw [← ivH.out]; exact u16_r h
  have HU9b : Hid (∀ W, RdS W g bv l (((((r.adv l 1).adv l 1).adv l 1).adv l 1).adv l 2) → Calls Try.prog 48 #[.pointer (some ⟨g, 0, none⟩)] W fun e w' => e = .returned (.int .u16 (sq : Int)) ∧ NowS W w' g bv l ((((((r.adv l 1).adv l 1).adv l 1).adv l 1).adv l 2).adv l 2)) := fun W h => by rw [← sqH.out]; exact u16_r h
  have HU14b : Hid (∀ W, RdS W g bv l ((((((r.adv l 1).adv l 1).adv l 1).adv l 1).adv l 2).adv l 2) → Calls Try.prog 48 #[.pointer (some ⟨g, 0, none⟩)] W fun e w' => e = .returned (.int .u16 (mt : Int)) ∧ NowS W w' g bv l (((((((r.adv l 1).adv l 1).adv l 1).adv l 1).adv l 2).adv l 2).adv l 2)) := fun W h => by rw [← mtH.out]; exact u16_r h
  subst hs1
  clear aeH flH plH omH ivH sqH mtH
  go_enter Try.func61, Try.ntmps61
  go_wp2_with (refine alG infoTz (by rfl) rfl ?_; intro gA wA a1 a2 a3 rA)
  have hgA : gA ≠ g := by omega
  have hN : NowS w wA.drew g bv l r := ((h.below a3).now.after a3).below (bd _)
  have rAc := rA.below (bd _) rA.lt
  clear a3 rA
  refine wp_region_noPanic ?_
  refine wp_region_held_drew (S := fun W => W.cell? ⟨P, 11, none⟩ = some (.pointer (some ⟨g, 0, none⟩))) (by kernel_rfl) ((hp.now hN).c) (fun hHeld => ?_)
  refine tA 0 ?_
  refine tA 1 ?_
  refine tA 2 ?_
  refine tA 3 ?_
  refine tA 5 ?_
  refine tA 6 ?_
  refine tA 7 ?_
  refine tA 8 ?_
  refine tA 10 ?_
  refine tA 11 ?_
  refine tA 12 ?_
  refine tA 13 ?_
  refine tA 16 ?_
  refine tA 17 ?_
  refine tA 18 ?_
  refine tA 19 ?_
  refine r1 4 fun K hK => ?_
  go_simp
  refine (HU4.out _ hN.rd).mono ?_
  rintro e w1 ⟨rfl, hn1⟩
  replace rAc := rAc.nowS hn1 hgA
  replace hN := hN.trans hn1
  clear hn1
  refine oK hK (by exact (hp.now hN).c) fun hHeld => ?_
  clear hK K
  refine r1 9 fun K hK => ?_
  go_simp
  refine (HU9.out _ hN.rd).mono ?_
  rintro e w1 ⟨rfl, hn1⟩
  replace rAc := rAc.nowS hn1 hgA
  replace hN := hN.trans hn1
  clear hn1
  refine oK hK (by exact (hp.now hN).c) fun hHeld => ?_
  clear hK K
  refine r1 14 fun K hK => ?_
  go_simp
  refine (HU14.out _ hN.rd).mono ?_
  rintro e w1 ⟨rfl, hn1⟩
  replace rAc := rAc.nowS hn1 hgA
  replace hN := hN.trans hn1
  clear hn1
  refine oK hK (by exact (hp.now hN).c) fun hHeld => ?_
  clear hK K
  refine tA 15 ?_
  refine r1 20 fun K hK => ?_
  go_simp
  refine (HU20.out _ hN.rd).mono ?_
  rintro e w1 ⟨rfl, hn1⟩
  replace rAc := rAc.nowS hn1 hgA
  replace hN := hN.trans hn1
  clear hn1
  refine oK hK (by exact (hp.now hN).c) fun hHeld => ?_
  clear hK K
  refine tA 21 ?_
  refine tA 22 ?_
  refine tA 23 ?_
  refine tA 24 ?_
  refine tA 25 ?_
  refine dN ?_
  refine NoPanic.normal ?_
  go_wp2
  clear hHeld HU4 HU9 HU14 HU20
  replace hN := hN.below (bd _)
  replace rAc := rAc.below (bd _) rAc.lt
  apply region_ex (PP := fun gB W => Row W gB 33 (tcells { zeroT with ty := 8, intv := iv, seq := sq, met := mt }) ∧ Row W gA 33 (tcells zeroT) ∧ NowS w W g bv l (((((((r.adv l 1).adv l 1).adv l 1).adv l 1).adv l 2).adv l 2).adv l 2) ∧ w.heap.size ≤ gB ∧ gA < gB)
  case h1 =>
    refine wp_region_held_drew (S := fun W => W.cell? ⟨P, 11, none⟩ = some (.pointer (some ⟨g, 0, none⟩))) (by kernel_rfl) ((hp.now hN).c) (fun hHeld => ?_)
    refine tA 0 ?_
    refine tA 1 ?_
    refine tA 2 ?_
    refine tA 3 ?_
    refine tA 5 ?_
    refine tA 6 ?_
    refine tA 7 ?_
    refine tA 8 ?_
    refine tA 10 ?_
    refine tA 11 ?_
    refine tA 12 ?_
    refine tA 13 ?_
    refine rM [4,16] ?_
    refine cL (fun K hK => ?_) ?_
    · skip
      go_simp
      refine (HU4b.out _ hN.rd).mono ?_
      rintro e w1 ⟨rfl, hn1⟩
      replace rAc := rAc.nowS hn1 hgA
      try replace rB := rB.nowS hn1 (by omega)
      replace hN := hN.trans hn1
      clear hn1
      refine oK hK (by exact (hp.now hN).c) fun hHeld => ?_
      clear hK K
      refine rM [9,16] ?_
      refine cL (fun K hK => ?_) ?_
      · skip
        go_simp
        refine (HU9b.out _ hN.rd).mono ?_
        rintro e w1 ⟨rfl, hn1⟩
        replace rAc := rAc.nowS hn1 hgA
        try replace rB := rB.nowS hn1 (by omega)
        replace hN := hN.trans hn1
        clear hn1
        refine oK hK (by exact (hp.now hN).c) fun hHeld => ?_
        clear hK K
        refine rM [14,16] ?_
        refine cL (fun K hK => ?_) ?_
        · skip
          go_simp
          refine (HU14b.out _ hN.rd).mono ?_
          rintro e w1 ⟨rfl, hn1⟩
          replace rAc := rAc.nowS hn1 hgA
          try replace rB := rB.nowS hn1 (by omega)
          replace hN := hN.trans hn1
          clear hn1
          refine oK hK (by exact (hp.now hN).c) fun hHeld => ?_
          clear hK K
          refine tL 15 rfl (yB [(0, .const (.int .u8 8)), (2, .tmp 38), (3, .tmp 43), (5, .tmp 48)] (by rfl) rfl (bdUpd _ _ _)) ?_
          refine r1 16 fun K hK => ?_
          refine sAlG infoTz (by rfl) rfl ?_
          intro gB wB b1 b2 b3 rB
          have hgB : w.heap.size ≤ gB := Nat.le_trans hN.size b1
          have hne : gA < gB := Nat.lt_of_lt_of_le rAc.lt b1
          replace rAc := rAc.below b3 rAc.lt
          replace hN := hN.below b3
          clear b1 b2 b3
          refine oK hK (by exact (hp.now hN).c) fun hHeld => ?_
          clear hK K
          refine r1 17 fun K hK => ?_
          refine sStT (.tmp 8) (.tmp 49) (by rfl) rfl gB { zeroT with ty := 8, intv := iv, seq := sq, met := mt } _ rfl rfl rB ?_
          intro wC hgC rC
          replace rAc := rAc.grown hgC (fun e => by have := Option.some.inj e; omega)
          replace hN := NowS.fresh h hN hgC hgB
          refine oK hK (by exact (hp.now hN).c) fun hHeld => ?_
          clear hK K
          refine dN ?_
          exact ⟨gB, rfl, rC, rAc, hN, hgB, hne⟩
        refine cE fun K hK => ?_
        refine sAlG infoTz (by rfl) rfl ?_
        intro gB wB b1 b2 b3 rB
        have hgB : w.heap.size ≤ gB := Nat.le_trans hN.size b1
        have hne : gA < gB := Nat.lt_of_lt_of_le rAc.lt b1
        replace rAc := rAc.below b3 rAc.lt
        replace hN := hN.below b3
        clear b1 b2 b3
        refine oK hK (by exact (hp.now hN).c) fun hHeld => ?_
        clear hK K
        refine r1 14 fun K hK => ?_
        go_simp
        refine (HU14b.out _ hN.rd).mono ?_
        rintro e w1 ⟨rfl, hn1⟩
        replace rAc := rAc.nowS hn1 hgA
        try replace rB := rB.nowS hn1 (by omega)
        replace hN := hN.trans hn1
        clear hn1
        refine oK hK (by exact (hp.now hN).c) fun hHeld => ?_
        clear hK K
        refine tL 15 rfl (yB [(0, .const (.int .u8 8)), (2, .tmp 38), (3, .tmp 43), (5, .tmp 48)] (by rfl) rfl (bdUpd _ _ _)) ?_
        refine r1 17 fun K hK => ?_
        refine sStT (.tmp 8) (.tmp 49) (by rfl) rfl gB { zeroT with ty := 8, intv := iv, seq := sq, met := mt } _ rfl rfl rB ?_
        intro wC hgC rC
        replace rAc := rAc.grown hgC (fun e => by have := Option.some.inj e; omega)
        replace hN := NowS.fresh h hN hgC hgB
        refine oK hK (by exact (hp.now hN).c) fun hHeld => ?_
        clear hK K
        refine dN ?_
        exact ⟨gB, rfl, rC, rAc, hN, hgB, hne⟩
      refine cE fun K hK => ?_
      refine sAlG infoTz (by rfl) rfl ?_
      intro gB wB b1 b2 b3 rB
      have hgB : w.heap.size ≤ gB := Nat.le_trans hN.size b1
      have hne : gA < gB := Nat.lt_of_lt_of_le rAc.lt b1
      replace rAc := rAc.below b3 rAc.lt
      replace hN := hN.below b3
      clear b1 b2 b3
      refine oK hK (by exact (hp.now hN).c) fun hHeld => ?_
      clear hK K
      refine r1 9 fun K hK => ?_
      go_simp
      refine (HU9b.out _ hN.rd).mono ?_
      rintro e w1 ⟨rfl, hn1⟩
      replace rAc := rAc.nowS hn1 hgA
      try replace rB := rB.nowS hn1 (by omega)
      replace hN := hN.trans hn1
      clear hn1
      refine oK hK (by exact (hp.now hN).c) fun hHeld => ?_
      clear hK K
      refine r1 14 fun K hK => ?_
      go_simp
      refine (HU14b.out _ hN.rd).mono ?_
      rintro e w1 ⟨rfl, hn1⟩
      replace rAc := rAc.nowS hn1 hgA
      try replace rB := rB.nowS hn1 (by omega)
      replace hN := hN.trans hn1
      clear hn1
      refine oK hK (by exact (hp.now hN).c) fun hHeld => ?_
      clear hK K
      refine tL 15 rfl (yB [(0, .const (.int .u8 8)), (2, .tmp 38), (3, .tmp 43), (5, .tmp 48)] (by rfl) rfl (bdUpd _ _ _)) ?_
      refine r1 17 fun K hK => ?_
      refine sStT (.tmp 8) (.tmp 49) (by rfl) rfl gB { zeroT with ty := 8, intv := iv, seq := sq, met := mt } _ rfl rfl rB ?_
      intro wC hgC rC
      replace rAc := rAc.grown hgC (fun e => by have := Option.some.inj e; omega)
      replace hN := NowS.fresh h hN hgC hgB
      refine oK hK (by exact (hp.now hN).c) fun hHeld => ?_
      clear hK K
      refine dN ?_
      exact ⟨gB, rfl, rC, rAc, hN, hgB, hne⟩
    refine cE fun K hK => ?_
    refine sAlG infoTz (by rfl) rfl ?_
    intro gB wB b1 b2 b3 rB
    have hgB : w.heap.size ≤ gB := Nat.le_trans hN.size b1
    have hne : gA < gB := Nat.lt_of_lt_of_le rAc.lt b1
    replace rAc := rAc.below b3 rAc.lt
    replace hN := hN.below b3
    clear b1 b2 b3
    refine oK hK (by exact (hp.now hN).c) fun hHeld => ?_
    clear hK K
    refine r1 4 fun K hK => ?_
    go_simp
    refine (HU4b.out _ hN.rd).mono ?_
    rintro e w1 ⟨rfl, hn1⟩
    replace rAc := rAc.nowS hn1 hgA
    try replace rB := rB.nowS hn1 (by omega)
    replace hN := hN.trans hn1
    clear hn1
    refine oK hK (by exact (hp.now hN).c) fun hHeld => ?_
    clear hK K
    refine r1 9 fun K hK => ?_
    go_simp
    refine (HU9b.out _ hN.rd).mono ?_
    rintro e w1 ⟨rfl, hn1⟩
    replace rAc := rAc.nowS hn1 hgA
    try replace rB := rB.nowS hn1 (by omega)
    replace hN := hN.trans hn1
    clear hn1
    refine oK hK (by exact (hp.now hN).c) fun hHeld => ?_
    clear hK K
    refine r1 14 fun K hK => ?_
    go_simp
    refine (HU14b.out _ hN.rd).mono ?_
    rintro e w1 ⟨rfl, hn1⟩
    replace rAc := rAc.nowS hn1 hgA
    try replace rB := rB.nowS hn1 (by omega)
    replace hN := hN.trans hn1
    clear hn1
    refine oK hK (by exact (hp.now hN).c) fun hHeld => ?_
    clear hK K
    refine tL 15 rfl (yB [(0, .const (.int .u8 8)), (2, .tmp 38), (3, .tmp 43), (5, .tmp 48)] (by rfl) rfl (bdUpd _ _ _)) ?_
    refine r1 17 fun K hK => ?_
    refine sStT (.tmp 8) (.tmp 49) (by rfl) rfl gB { zeroT with ty := 8, intv := iv, seq := sq, met := mt } _ rfl rfl rB ?_
    intro wC hgC rC
    replace rAc := rAc.grown hgC (fun e => by have := Option.some.inj e; omega)
    replace hN := NowS.fresh h hN hgC hgB
    refine oK hK (by exact (hp.now hN).c) fun hHeld => ?_
    clear hK K
    refine dN ?_
    exact ⟨gB, rfl, rC, rAc, hN, hgB, hne⟩
  case h2 =>
  clear hN rAc HU4b HU9b HU14b
  rintro gB wC ⟨rC, rAC, hN, hgB, hAB⟩
  have cR := (hp.now hN).c
  have hgB2 : gB ≠ g := by omega
  have c5 : wC.cell? ⟨gB, 5, none⟩ = some (.int .u16 (mt : Int)) := rC.cell 5
  go_wp2_with (first
    | (have kk := rB7; refine stT (.tmp 2) (.tmp 97) (by rfl) rfl gA { zeroT with ty := 8, intv := iv, seq := sq, met := mt, pr := q } _ rfl rfl rA7 ?_; intro w8 hg8 r8)
    | (have kk := rB7; refine ldT (.tmp 8) (by rfl) rfl gB { zeroT with ty := 8, intv := iv, seq := sq, met := mt, pr := q } rfl rB7 ?_)
    | (have kk := m6; refine stQt (.tmp 89) (.tmp 87) (by rfl) rfl gB { zeroT with ty := 8, intv := iv, seq := sq, met := mt } q rfl rfl rB6 ?_; intro w7 hg7 rB7; have rA7 := rA6.grown hg7 (fun e => by have := Option.some.inj e; omega); have rD7 := rD6.grown hg7 (fun e => by have := Option.some.inj e; omega); have c57 : w7.cell? ⟨gB, 5, none⟩ = some (.int .u16 (mt : Int)) := rB7.cell 5; have P7 := P6.fresh hg7 (rB6.kind (by decide) (by decide) (by decide)); have M7 := (M5.trans m6).fresh hg7 hgB)
    | (go_at_call 87; have kk := P5; refine (HQ.out _ P5 R5).mono ?_; rintro e w6 ⟨rfl, ⟨RR, P6⟩, m6⟩; have rA6 := m6.row rA5 (by omega) hgA; have rB6 := m6.row rB5 (by omega) hgB2; have rD6 := m6.row rD5 (by omega) (by omega))
    | (have kk := P5; refine ldP (.tmp 9) (by rfl) rfl gD 0 dst rfl rD5.range ?_)
    | (go_at_call 82; have kk := rD3; refine (HW.out _ (hp.now N3) N3.rd).mono ?_; rintro e w4 ⟨rfl, hn4⟩; have N4 := N3.trans hn4; have rA4 := rA3.nowS hn4 hgA; have rB4 := rB3.nowS hn4 hgB2; have rD4 := rD3.nowS hn4 (by omega); have PK := hpar.now h N4; have P5 := PK; have R5 := N4.rd; have rA5 := rA4; have rB5 := rB4; have rD5 := rD4; have M5 : Mv w w4 P g := Mv.ofNow N4)
    | (have kk := rD; refine stP0 (.tmp 9) (.tmp 73) (by rfl) rfl gD dst _ (pcells_len _) rfl rfl rD ?_; intro w3 hg3 rD3; have hgD : w.heap.size ≤ gD := Nat.le_trans N2.size d1; have hBD : gB < gD := Nat.lt_of_lt_of_le (rC.nowS hn2 hgB2).lt d1; have rA3 := ((rAC.nowS hn2 hgA).below d3 (rAC.nowS hn2 hgA).lt).grown hg3 (fun e => by have := Option.some.inj e; omega); have rB3 := ((rC.nowS hn2 hgB2).below d3 (rC.nowS hn2 hgB2).lt).grown hg3 (fun e => by have := Option.some.inj e; omega); have N3 := NowS.fresh h (N2.below d3) hg3 hgD)
    | (have kk := N2; refine alG infoPz (by rfl) rfl ?_; intro gD wD d1 d2 d3 rD)
    | (go_at_call 85; refine (HP.out _ (hpar.now h hN) hN.rd).mono ?_; rintro e w2 ⟨rfl, hn2⟩; have N2 := hN.trans hn2))
  have P8 := P7.fresh hg8 (rA7.kind (by decide) (by decide) (by decide))
  exact bodyPost_ret (retCT rfl _ _ 0 rfl (lvT r8)) rfl ⟨⟨{ zeroT with ty := 8, intv := iv, seq := sq, met := mt, pr := q }, rfl, (fun _ => HKE.out), Stms.none _ _ _ rfl rfl rfl rfl⟩, ⟨_, P8⟩, M7.fresh hg8 a1⟩
end Go.Proofs.Ytognnfknbkedgaa
