/-
  The contract of ihu of package packet.
-/
import Derived.Test.YtognnfknbkedgaaM10
namespace Go.Proofs.Ytognnfknbkedgaa
open Go.RowKit
set_option linter.unusedSimpArgs false
set_option maxRecDepth 20000
variable {bv : Option Addr}

def ihB (l : List UInt8) (r : RS) : Bool := wiB [3] l (adN (r.val l 1) l ((((r.adv l 1).adv l 1).adv l 2).adv l 2))
def ihK (l : List UInt8) (r : RS) : TK := { zeroK with ty := 5, all := decide (r.val l 1 = 0), rx := ((r.adv l 1).adv l 1).val l 2, intv := (((r.adv l 1).adv l 1).adv l 2).val l 2, ad := adA (r.val l 1) l ((((r.adv l 1).adv l 1).adv l 2).adv l 2), st := stF 2 (wiL [3] l (adN (r.val l 1) l ((((r.adv l 1).adv l 1).adv l 2).adv l 2))) }
theorem ihu_any {w : World} {P g : Nat} {l : List UInt8} {r : RS} (hp : Pg w P g) (h : RdS w g bv l r) (hl : l.length ≤ 100000) :
    Calls Try.prog 58 #[.pointer (some ⟨P, 0, none⟩)] w fun e w' => SayR w (ihK l r) (ihB l r) e w' ∧ ∃ r', NowS w w' g bv l r' := by
  have hlt := h.lt
  have hU1 : ∀ W, RdS W g bv l r → Calls Try.prog 47 #[.pointer (some ⟨g, 0, none⟩)] W fun e w' => e = .returned (.int .u8 (r.val l 1)) ∧ NowS W w' g bv l (r.adv l 1) := fun W h => u8_r h
  have hae := val1_lt r l
  unfold ihK ihB
  generalize hV : r.val l 1 = aeV at *
  have HU1 : Hid (∀ W, RdS W g bv l r → Calls Try.prog 47 #[.pointer (some ⟨g, 0, none⟩)] W fun e w' => e = .returned (.int .u8 (aeV : Int)) ∧ NowS W w' g bv l (r.adv l 1)) := hU1
  clear hU1 hV
  obtain ⟨LS, hLS⟩ : ∃ LS, Hid (stF 2 (wiL [3] l (adN aeV l ((((r.adv l 1).adv l 1).adv l 2).adv l 2))) = LS) := ⟨_, rfl⟩
  have HW : Hid (∀ W a, Pg W P g → RdS W g bv l (adN aeV l ((((r.adv l 1).adv l 1).adv l 2).adv l 2)) → Src W (some a) 1 1 (bcells [3]) → a.block ≠ g → Calls Try.prog 78 #[.pointer (some ⟨P, 0, none⟩), .slice (some a) 1 1] W fun e w' => ∃ a' c' ps n, Hid (n = ps.length) ∧ e = .returned (.tuple #[.slice a' n c', .bool (wiB [3] l (adN aeV l ((((r.adv l 1).adv l 1).adv l 2).adv l 2)))]) ∧ Hid (n = ps.length ∧ keys ps = wiL [3] l (adN aeV l ((((r.adv l 1).adv l 1).adv l 2).adv l 2)) ∧ ps.length ≤ 100000) ∧ Told W w' a' c' ps ∧ NowS W w' g bv l (wiR l (adN aeV l ((((r.adv l 1).adv l 1).adv l 2).adv l 2)))) := fun W a h1 h2 h3 h4 => by
    refine (within_any h1 h2 hl (some a) 1 1 [3] h3 (by decide) (fun _ h => by cases h; exact h4)).mono ?_
    rintro e w' ⟨a', c', ps, rfl, k1, k2, k3, hn⟩
    exact ⟨a', c', ps, _, (rfl : _ = _), rfl, ⟨rfl, k1, k2⟩, k3, hn⟩
  have HST : Hid (∀ (W W' : World) (a : Option Addr) (c : Nat) {ps : List Pc} {n : Nat}, Told W W' a c ps → Hid (n = ps.length ∧ keys ps = wiL [3] l (adN aeV l ((((r.adv l 1).adv l 1).adv l 2).adv l 2)) ∧ ps.length ≤ 100000) → Calls Try.prog 79 #[.int .i64 2, .slice a n c] W' (Stamped W' LS)) := fun W W' a c ps n told hk => by
    obtain ⟨k0, k1, k2⟩ := hk.out
    subst k0
    have := stamps2 a c ps W' (own_rws told.own told.bods) k2 (fun p hp => wi_le k1 hl hp)
    rw [k1, hLS.out] at this
    exact this
  obtain ⟨aB, hA⟩ : ∃ u, ((aeV : Int) == 0) = u := ⟨_, rfl⟩
  have hEK : Hid (∀ a n c, (stamped { zeroT with ty := 5, all := aB, rx := ((r.adv l 1).adv l 1).val l 2, intv := (((r.adv l 1).adv l 1).adv l 2).val l 2, ad := adA aeV l ((((r.adv l 1).adv l 1).adv l 2).adv l 2) } a n c LS).key = { zeroK with ty := 5, all := decide (aeV = 0), rx := ((r.adv l 1).adv l 1).val l 2, intv := (((r.adv l 1).adv l 1).adv l 2).val l 2, ad := adA aeV l ((((r.adv l 1).adv l 1).adv l 2).adv l 2), st := stF 2 (wiL [3] l (adN aeV l ((((r.adv l 1).adv l 1).adv l 2).adv l 2))) }) := fun a n c => by
    have e : decide (aeV = 0) = aB := by rw [← hA, Bool.eq_iff_iff]; simp
    rw [hLS.out, e]
    rfl
  generalize hbb : wiB [3] l (adN aeV l ((((r.adv l 1).adv l 1).adv l 2).adv l 2)) = b at *
  clear hLS hbb
  go_enter Try.func58, Try.ntmps58
  go_wp2_with (first
    | (go_at_call 47; have kk := hn1; refine (u8_r hn1.rd).mono ?_; rintro e w2 ⟨rfl, hn2⟩)
    | (go_at_call 47; refine (HU1.out _ (h.below a3)).mono ?_; rintro e w1 ⟨rfl, hn1⟩; have c2 := ((hp.below a3).now hn1).c)
    | (refine alG infoTz (by rfl) rfl ?_; intro gA wA a1 a2 a3 rA; have c1 := (hp.below a3).c))
  have hgA : gA ≠ g := by omega
  have hN : NowS w w2.drew g bv l ((r.adv l 1).adv l 1) := ((hn1.trans hn2).after a3).below (bd _)
  have rAc := ((rA.nowS hn1 hgA).nowS hn2 hgA).below (bd _) ((rA.nowS hn1 hgA).nowS hn2 hgA).lt
  clear hn1 hn2 a3 rA c1 c2 kk
  refine wp_region_noPanic ?_
  refine wp_region_held_drew (S := fun W => W.cell? ⟨P, 11, none⟩ = some (.pointer (some ⟨g, 0, none⟩))) (by kernel_rfl) ((hp.now hN).c) (fun hHeld => ?_)
  refine tA 0 ?_
  refine tA 1 ?_
  refine tA 2 ?_
  refine tA 3 ?_
  refine tA 4 ?_
  refine tA 5 ?_
  refine tA 7 ?_
  refine tA 8 ?_
  refine tA 9 ?_
  refine tA 10 ?_
  refine tA 12 ?_
  refine tA 13 ?_
  refine rM [6,16] ?_
  refine cL (fun K hK => ?_) ?_
  · skip
    go_simp
    refine (u16_r hN.rd).mono ?_
    rintro e w1 ⟨rfl, hn1⟩
    replace rAc := rAc.nowS hn1 hgA
    try replace rB := rB.nowS hn1 (by omega)
    replace hN := hN.trans hn1
    clear hn1
    refine oK hK (by exact (hp.now hN).c) fun hHeld => ?_
    clear hK K
    refine rM [11,16] ?_
    refine cL (fun K hK => ?_) ?_
    · skip
      go_simp
      refine (u16_r hN.rd).mono ?_
      rintro e w1 ⟨rfl, hn1⟩
      replace rAc := rAc.nowS hn1 hgA
      try replace rB := rB.nowS hn1 (by omega)
      replace hN := hN.trans hn1
      clear hn1
      refine oK hK (by exact (hp.now hN).c) fun hHeld => ?_
      clear hK K
      refine rM [14,16] ?_
      refine cL (fun K hK => ?_) ?_
      · skip
        go_simp
        refine (address_any aeV hae (hp.now hN) hN.rd).mono ?_
        rintro e w1 ⟨rfl, hn1⟩
        replace rAc := rAc.nowS hn1 hgA
        try replace rB := rB.nowS hn1 (by omega)
        replace hN := hN.trans hn1
        clear hn1
        refine oK hK (by exact (hp.now hN).c) fun hHeld => ?_
        clear hK K
        refine tL 15 rfl (yB [(0, .const (.int .u8 5)), (8, .tmp 19), (4, .tmp 24), (2, .tmp 29), (10, .tmp 32)] (by rfl) rfl (bdIhu _ _ _ _)) ?_
        refine r1 16 fun K hK => ?_
        refine sAlG infoTz (by rfl) rfl ?_
        intro gB wB b1 b2 b3 rB
        have hgB : w.heap.size ≤ gB := Nat.le_trans hN.size b1
        have hne : gA < gB := Nat.lt_of_lt_of_le rAc.lt b1
        replace rAc := rAc.below b3 rAc.lt
        replace hN := hN.below b3
        clear b1 b2 b3
        refine oK hK (by exact (hp.now hN).c) fun hHeld => ?_
        clear hK K
        refine r1 17 fun K hK => ?_
        refine sStT (.tmp 5) (.tmp 33) (by rfl) rfl gB { zeroT with ty := 5, all := aB, rx := ((r.adv l 1).adv l 1).val l 2, intv := (((r.adv l 1).adv l 1).adv l 2).val l 2, ad := adA aeV l ((((r.adv l 1).adv l 1).adv l 2).adv l 2) } _ rfl rfl rB ?_
        intro wC hgC rC
        replace rAc := rAc.grown hgC (fun e => by have := Option.some.inj e; omega)
        replace hN := NowS.fresh h hN hgC hgB
        clear hgC rB
        refine oK hK (by exact (hp.now hN).c) fun hHeld => ?_
        clear hK K
        refine dN ?_
        refine NoPanic.normal ?_
        clear hHeld
        have hpC := hp.now hN
        have c1 := hpC.c
        have hsz := hN.size
        have cB : wC.cell? ⟨gB, 67, none⟩ = some _ := (rC.cell 67).trans (tcells_get _)
        have fB := rC.frozen 67
        go_wp2_with (first
          | (have kk := b4; refine stT (.tmp 2) (.tmp 43) (by rfl) rfl gA (stamped { zeroT with ty := 5, all := aB, rx := ((r.adv l 1).adv l 1).val l 2, intv := (((r.adv l 1).adv l 1).adv l 2).val l 2, ad := adA aeV l ((((r.adv l 1).adv l 1).adv l 2).adv l 2) } a4 LS.length c4 LS) _ rfl rfl (rA3.grown (grownBy_setCell w4 gB 67 _) (fun e => by have := Option.some.inj e; omega)) ?_; intro w5 hg5 r5)
          | (have kk := b4; refine ldT (.tmp 5) (by rfl) rfl gB (stamped { zeroT with ty := 5, all := aB, rx := ((r.adv l 1).adv l 1).val l 2, intv := (((r.adv l 1).adv l 1).adv l 2).val l 2, ad := adA aeV l ((((r.adv l 1).adv l 1).adv l 2).adv l 2) } a4 LS.length c4 LS) rfl (rB3.tSt a4 LS.length c4 LS) ?_)
          | (go_at_call 79; have kk := told; refine (HST.out _ _ _ _ told hk3).mono ?_; rintro e w4 ⟨a4, c4, rfl, own4, b4⟩; have rA3 := rA2.below b4 rA2.lt; have rB3 := rB2.below b4 rB2.lt; have cB3 : w4.cell? ⟨gB, 67, none⟩ = some _ := (rB3.cell 67).trans (tcells_get _); have fB3 := rB3.frozen 67)
          | (go_at_call 78; refine (HW.out _ _ (hpC.below (ba _ _)) (hN.rd.below (ba _ _)) (new_src wC #[.int .u8 3]) (show wC.heap.size ≠ g by have := hN.size; omega)).mono ?_; rintro e w3 ⟨a3, c3, ps, n3, hn3, rfl, hk3, told, hn2⟩; have rA2 := (rAc.alloc (.cells #[.int .u8 3] 5)).nowS hn2 hgA; have rB2 := (rC.alloc (.cells #[.int .u8 3] 5)).nowS hn2 (by omega)))
        have e5 : w4.ownsRow w.heap.size 63 1 (.slice a4 LS.length c4) LS.length (wcells LS) := own_le own4 (by have := hn2.size; simp at this; omega)
        have e6 := own_keep e5 (grownBy_setCell w4 gB 67 (.slice a4 LS.length c4)) (.inl (fun e => own_ne own4 rB3 (by decide) e.symm))
        have rB5 := rB3.tSt a4 LS.length c4 LS
        have rA5 := rA3.grown (grownBy_setCell w4 gB 67 (.slice a4 LS.length c4)) (fun e => by have := Option.some.inj e; omega)
        have e7 := own_keep e6 hg5 (.inl (fun e => own_ne e6 rA5 (by decide) e.symm))
        exact bodyPost_ret (retCT rfl _ _ 0 rfl (lvT r5)) rfl ⟨⟨stamped { zeroT with ty := 5, all := aB, rx := ((r.adv l 1).adv l 1).val l 2, intv := (((r.adv l 1).adv l 1).adv l 2).val l 2, ad := adA aeV l ((((r.adv l 1).adv l 1).adv l 2).adv l 2) } a4 LS.length c4 LS, rfl, fun _ => hEK.out _ _ _, e7⟩, _, NowS.fresh h (NowS.fresh h (((hN.below (ba wC (.cells #[.int .u8 3] 5))).trans hn2).below b4) (grownBy_setCell w4 gB 67 _) hgB) hg5 a1⟩
      refine cE fun K hK => ?_
      refine sAlG infoTz (by rfl) rfl ?_
      intro gB wB b1 b2 b3 rB
      have hgB : w.heap.size ≤ gB := Nat.le_trans hN.size b1
      have hne : gA < gB := Nat.lt_of_lt_of_le rAc.lt b1
      replace rAc := rAc.below b3 rAc.lt
      replace hN := hN.below b3
      clear b1 b2 b3
      refine oK hK (by exact (hp.now hN).c) fun hHeld => ?_
      clear hK K
      refine r1 14 fun K hK => ?_
      go_simp
      refine (address_any aeV hae (hp.now hN) hN.rd).mono ?_
      rintro e w1 ⟨rfl, hn1⟩
      replace rAc := rAc.nowS hn1 hgA
      try replace rB := rB.nowS hn1 (by omega)
      replace hN := hN.trans hn1
      clear hn1
      refine oK hK (by exact (hp.now hN).c) fun hHeld => ?_
      clear hK K
      refine tL 15 rfl (yB [(0, .const (.int .u8 5)), (8, .tmp 19), (4, .tmp 24), (2, .tmp 29), (10, .tmp 32)] (by rfl) rfl (bdIhu _ _ _ _)) ?_
      refine r1 17 fun K hK => ?_
      refine sStT (.tmp 5) (.tmp 33) (by rfl) rfl gB { zeroT with ty := 5, all := aB, rx := ((r.adv l 1).adv l 1).val l 2, intv := (((r.adv l 1).adv l 1).adv l 2).val l 2, ad := adA aeV l ((((r.adv l 1).adv l 1).adv l 2).adv l 2) } _ rfl rfl rB ?_
      intro wC hgC rC
      replace rAc := rAc.grown hgC (fun e => by have := Option.some.inj e; omega)
      replace hN := NowS.fresh h hN hgC hgB
      clear hgC rB
      refine oK hK (by exact (hp.now hN).c) fun hHeld => ?_
      clear hK K
      refine dN ?_
      refine NoPanic.normal ?_
      clear hHeld
      have hpC := hp.now hN
      have c1 := hpC.c
      have hsz := hN.size
      have cB : wC.cell? ⟨gB, 67, none⟩ = some _ := (rC.cell 67).trans (tcells_get _)
      have fB := rC.frozen 67
      go_wp2_with (first
        | (have kk := b4; refine stT (.tmp 2) (.tmp 43) (by rfl) rfl gA (stamped { zeroT with ty := 5, all := aB, rx := ((r.adv l 1).adv l 1).val l 2, intv := (((r.adv l 1).adv l 1).adv l 2).val l 2, ad := adA aeV l ((((r.adv l 1).adv l 1).adv l 2).adv l 2) } a4 LS.length c4 LS) _ rfl rfl (rA3.grown (grownBy_setCell w4 gB 67 _) (fun e => by have := Option.some.inj e; omega)) ?_; intro w5 hg5 r5)
        | (have kk := b4; refine ldT (.tmp 5) (by rfl) rfl gB (stamped { zeroT with ty := 5, all := aB, rx := ((r.adv l 1).adv l 1).val l 2, intv := (((r.adv l 1).adv l 1).adv l 2).val l 2, ad := adA aeV l ((((r.adv l 1).adv l 1).adv l 2).adv l 2) } a4 LS.length c4 LS) rfl (rB3.tSt a4 LS.length c4 LS) ?_)
        | (go_at_call 79; have kk := told; refine (HST.out _ _ _ _ told hk3).mono ?_; rintro e w4 ⟨a4, c4, rfl, own4, b4⟩; have rA3 := rA2.below b4 rA2.lt; have rB3 := rB2.below b4 rB2.lt; have cB3 : w4.cell? ⟨gB, 67, none⟩ = some _ := (rB3.cell 67).trans (tcells_get _); have fB3 := rB3.frozen 67)
        | (go_at_call 78; refine (HW.out _ _ (hpC.below (ba _ _)) (hN.rd.below (ba _ _)) (new_src wC #[.int .u8 3]) (show wC.heap.size ≠ g by have := hN.size; omega)).mono ?_; rintro e w3 ⟨a3, c3, ps, n3, hn3, rfl, hk3, told, hn2⟩; have rA2 := (rAc.alloc (.cells #[.int .u8 3] 5)).nowS hn2 hgA; have rB2 := (rC.alloc (.cells #[.int .u8 3] 5)).nowS hn2 (by omega)))
      have e5 : w4.ownsRow w.heap.size 63 1 (.slice a4 LS.length c4) LS.length (wcells LS) := own_le own4 (by have := hn2.size; simp at this; omega)
      have e6 := own_keep e5 (grownBy_setCell w4 gB 67 (.slice a4 LS.length c4)) (.inl (fun e => own_ne own4 rB3 (by decide) e.symm))
      have rB5 := rB3.tSt a4 LS.length c4 LS
      have rA5 := rA3.grown (grownBy_setCell w4 gB 67 (.slice a4 LS.length c4)) (fun e => by have := Option.some.inj e; omega)
      have e7 := own_keep e6 hg5 (.inl (fun e => own_ne e6 rA5 (by decide) e.symm))
      exact bodyPost_ret (retCT rfl _ _ 0 rfl (lvT r5)) rfl ⟨⟨stamped { zeroT with ty := 5, all := aB, rx := ((r.adv l 1).adv l 1).val l 2, intv := (((r.adv l 1).adv l 1).adv l 2).val l 2, ad := adA aeV l ((((r.adv l 1).adv l 1).adv l 2).adv l 2) } a4 LS.length c4 LS, rfl, fun _ => hEK.out _ _ _, e7⟩, _, NowS.fresh h (NowS.fresh h (((hN.below (ba wC (.cells #[.int .u8 3] 5))).trans hn2).below b4) (grownBy_setCell w4 gB 67 _) hgB) hg5 a1⟩
    refine cE fun K hK => ?_
    refine sAlG infoTz (by rfl) rfl ?_
    intro gB wB b1 b2 b3 rB
    have hgB : w.heap.size ≤ gB := Nat.le_trans hN.size b1
    have hne : gA < gB := Nat.lt_of_lt_of_le rAc.lt b1
    replace rAc := rAc.below b3 rAc.lt
    replace hN := hN.below b3
    clear b1 b2 b3
    refine oK hK (by exact (hp.now hN).c) fun hHeld => ?_
    clear hK K
    refine r1 11 fun K hK => ?_
    go_simp
    refine (u16_r hN.rd).mono ?_
    rintro e w1 ⟨rfl, hn1⟩
    replace rAc := rAc.nowS hn1 hgA
    try replace rB := rB.nowS hn1 (by omega)
    replace hN := hN.trans hn1
    clear hn1
    refine oK hK (by exact (hp.now hN).c) fun hHeld => ?_
    clear hK K
    refine r1 14 fun K hK => ?_
    go_simp
    refine (address_any aeV hae (hp.now hN) hN.rd).mono ?_
    rintro e w1 ⟨rfl, hn1⟩
    replace rAc := rAc.nowS hn1 hgA
    try replace rB := rB.nowS hn1 (by omega)
    replace hN := hN.trans hn1
    clear hn1
    refine oK hK (by exact (hp.now hN).c) fun hHeld => ?_
    clear hK K
    refine tL 15 rfl (yB [(0, .const (.int .u8 5)), (8, .tmp 19), (4, .tmp 24), (2, .tmp 29), (10, .tmp 32)] (by rfl) rfl (bdIhu _ _ _ _)) ?_
    refine r1 17 fun K hK => ?_
    refine sStT (.tmp 5) (.tmp 33) (by rfl) rfl gB { zeroT with ty := 5, all := aB, rx := ((r.adv l 1).adv l 1).val l 2, intv := (((r.adv l 1).adv l 1).adv l 2).val l 2, ad := adA aeV l ((((r.adv l 1).adv l 1).adv l 2).adv l 2) } _ rfl rfl rB ?_
    intro wC hgC rC
    replace rAc := rAc.grown hgC (fun e => by have := Option.some.inj e; omega)
    replace hN := NowS.fresh h hN hgC hgB
    clear hgC rB
    refine oK hK (by exact (hp.now hN).c) fun hHeld => ?_
    clear hK K
    refine dN ?_
    refine NoPanic.normal ?_
    clear hHeld
    have hpC := hp.now hN
    have c1 := hpC.c
    have hsz := hN.size
    have cB : wC.cell? ⟨gB, 67, none⟩ = some _ := (rC.cell 67).trans (tcells_get _)
    have fB := rC.frozen 67
    go_wp2_with (first
      | (have kk := b4; refine stT (.tmp 2) (.tmp 43) (by rfl) rfl gA (stamped { zeroT with ty := 5, all := aB, rx := ((r.adv l 1).adv l 1).val l 2, intv := (((r.adv l 1).adv l 1).adv l 2).val l 2, ad := adA aeV l ((((r.adv l 1).adv l 1).adv l 2).adv l 2) } a4 LS.length c4 LS) _ rfl rfl (rA3.grown (grownBy_setCell w4 gB 67 _) (fun e => by have := Option.some.inj e; omega)) ?_; intro w5 hg5 r5)
      | (have kk := b4; refine ldT (.tmp 5) (by rfl) rfl gB (stamped { zeroT with ty := 5, all := aB, rx := ((r.adv l 1).adv l 1).val l 2, intv := (((r.adv l 1).adv l 1).adv l 2).val l 2, ad := adA aeV l ((((r.adv l 1).adv l 1).adv l 2).adv l 2) } a4 LS.length c4 LS) rfl (rB3.tSt a4 LS.length c4 LS) ?_)
      | (go_at_call 79; have kk := told; refine (HST.out _ _ _ _ told hk3).mono ?_; rintro e w4 ⟨a4, c4, rfl, own4, b4⟩; have rA3 := rA2.below b4 rA2.lt; have rB3 := rB2.below b4 rB2.lt; have cB3 : w4.cell? ⟨gB, 67, none⟩ = some _ := (rB3.cell 67).trans (tcells_get _); have fB3 := rB3.frozen 67)
      | (go_at_call 78; refine (HW.out _ _ (hpC.below (ba _ _)) (hN.rd.below (ba _ _)) (new_src wC #[.int .u8 3]) (show wC.heap.size ≠ g by have := hN.size; omega)).mono ?_; rintro e w3 ⟨a3, c3, ps, n3, hn3, rfl, hk3, told, hn2⟩; have rA2 := (rAc.alloc (.cells #[.int .u8 3] 5)).nowS hn2 hgA; have rB2 := (rC.alloc (.cells #[.int .u8 3] 5)).nowS hn2 (by omega)))
    have e5 : w4.ownsRow w.heap.size 63 1 (.slice a4 LS.length c4) LS.length (wcells LS) := own_le own4 (by have := hn2.size; simp at this; omega)
    have e6 := own_keep e5 (grownBy_setCell w4 gB 67 (.slice a4 LS.length c4)) (.inl (fun e => own_ne own4 rB3 (by decide) e.symm))
    have rB5 := rB3.tSt a4 LS.length c4 LS
    have rA5 := rA3.grown (grownBy_setCell w4 gB 67 (.slice a4 LS.length c4)) (fun e => by have := Option.some.inj e; omega)
    have e7 := own_keep e6 hg5 (.inl (fun e => own_ne e6 rA5 (by decide) e.symm))
    exact bodyPost_ret (retCT rfl _ _ 0 rfl (lvT r5)) rfl ⟨⟨stamped { zeroT with ty := 5, all := aB, rx := ((r.adv l 1).adv l 1).val l 2, intv := (((r.adv l 1).adv l 1).adv l 2).val l 2, ad := adA aeV l ((((r.adv l 1).adv l 1).adv l 2).adv l 2) } a4 LS.length c4 LS, rfl, fun _ => hEK.out _ _ _, e7⟩, _, NowS.fresh h (NowS.fresh h (((hN.below (ba wC (.cells #[.int .u8 3] 5))).trans hn2).below b4) (grownBy_setCell w4 gB 67 _) hgB) hg5 a1⟩
  refine cE fun K hK => ?_
  refine sAlG infoTz (by rfl) rfl ?_
  intro gB wB b1 b2 b3 rB
  have hgB : w.heap.size ≤ gB := Nat.le_trans hN.size b1
  have hne : gA < gB := Nat.lt_of_lt_of_le rAc.lt b1
  replace rAc := rAc.below b3 rAc.lt
  replace hN := hN.below b3
  clear b1 b2 b3
  refine oK hK (by exact (hp.now hN).c) fun hHeld => ?_
  clear hK K
  refine r1 6 fun K hK => ?_
  go_simp
  refine (u16_r hN.rd).mono ?_
  rintro e w1 ⟨rfl, hn1⟩
  replace rAc := rAc.nowS hn1 hgA
  try replace rB := rB.nowS hn1 (by omega)
  replace hN := hN.trans hn1
  clear hn1
  refine oK hK (by exact (hp.now hN).c) fun hHeld => ?_
  clear hK K
  refine r1 11 fun K hK => ?_
  go_simp
  refine (u16_r hN.rd).mono ?_
  rintro e w1 ⟨rfl, hn1⟩
  replace rAc := rAc.nowS hn1 hgA
  try replace rB := rB.nowS hn1 (by omega)
  replace hN := hN.trans hn1
  clear hn1
  refine oK hK (by exact (hp.now hN).c) fun hHeld => ?_
  clear hK K
  refine r1 14 fun K hK => ?_
  go_simp
  refine (address_any aeV hae (hp.now hN) hN.rd).mono ?_
  rintro e w1 ⟨rfl, hn1⟩
  replace rAc := rAc.nowS hn1 hgA
  try replace rB := rB.nowS hn1 (by omega)
  replace hN := hN.trans hn1
  clear hn1
  refine oK hK (by exact (hp.now hN).c) fun hHeld => ?_
  clear hK K
  refine tL 15 rfl (yB [(0, .const (.int .u8 5)), (8, .tmp 19), (4, .tmp 24), (2, .tmp 29), (10, .tmp 32)] (by rfl) rfl (bdIhu _ _ _ _)) ?_
  refine r1 17 fun K hK => ?_
  refine sStT (.tmp 5) (.tmp 33) (by rfl) rfl gB { zeroT with ty := 5, all := aB, rx := ((r.adv l 1).adv l 1).val l 2, intv := (((r.adv l 1).adv l 1).adv l 2).val l 2, ad := adA aeV l ((((r.adv l 1).adv l 1).adv l 2).adv l 2) } _ rfl rfl rB ?_
  intro wC hgC rC
  replace rAc := rAc.grown hgC (fun e => by have := Option.some.inj e; omega)
  replace hN := NowS.fresh h hN hgC hgB
  clear hgC rB
  refine oK hK (by exact (hp.now hN).c) fun hHeld => ?_
  clear hK K
  refine dN ?_
  refine NoPanic.normal ?_
  clear hHeld
  have hpC := hp.now hN
  have c1 := hpC.c
  have hsz := hN.size
  have cB : wC.cell? ⟨gB, 67, none⟩ = some _ := (rC.cell 67).trans (tcells_get _)
  have fB := rC.frozen 67
  go_wp2_with (first
    | (have kk := b4; refine stT (.tmp 2) (.tmp 43) (by rfl) rfl gA (stamped { zeroT with ty := 5, all := aB, rx := ((r.adv l 1).adv l 1).val l 2, intv := (((r.adv l 1).adv l 1).adv l 2).val l 2, ad := adA aeV l ((((r.adv l 1).adv l 1).adv l 2).adv l 2) } a4 LS.length c4 LS) _ rfl rfl (rA3.grown (grownBy_setCell w4 gB 67 _) (fun e => by have := Option.some.inj e; omega)) ?_; intro w5 hg5 r5)
    | (have kk := b4; refine ldT (.tmp 5) (by rfl) rfl gB (stamped { zeroT with ty := 5, all := aB, rx := ((r.adv l 1).adv l 1).val l 2, intv := (((r.adv l 1).adv l 1).adv l 2).val l 2, ad := adA aeV l ((((r.adv l 1).adv l 1).adv l 2).adv l 2) } a4 LS.length c4 LS) rfl (rB3.tSt a4 LS.length c4 LS) ?_)
    | (go_at_call 79; have kk := told; refine (HST.out _ _ _ _ told hk3).mono ?_; rintro e w4 ⟨a4, c4, rfl, own4, b4⟩; have rA3 := rA2.below b4 rA2.lt; have rB3 := rB2.below b4 rB2.lt; have cB3 : w4.cell? ⟨gB, 67, none⟩ = some _ := (rB3.cell 67).trans (tcells_get _); have fB3 := rB3.frozen 67)
    | (go_at_call 78; refine (HW.out _ _ (hpC.below (ba _ _)) (hN.rd.below (ba _ _)) (new_src wC #[.int .u8 3]) (show wC.heap.size ≠ g by have := hN.size; omega)).mono ?_; rintro e w3 ⟨a3, c3, ps, n3, hn3, rfl, hk3, told, hn2⟩; have rA2 := (rAc.alloc (.cells #[.int .u8 3] 5)).nowS hn2 hgA; have rB2 := (rC.alloc (.cells #[.int .u8 3] 5)).nowS hn2 (by omega)))
  have e5 : w4.ownsRow w.heap.size 63 1 (.slice a4 LS.length c4) LS.length (wcells LS) := own_le own4 (by have := hn2.size; simp at this; omega)
  have e6 := own_keep e5 (grownBy_setCell w4 gB 67 (.slice a4 LS.length c4)) (.inl (fun e => own_ne own4 rB3 (by decide) e.symm))
  have rB5 := rB3.tSt a4 LS.length c4 LS
  have rA5 := rA3.grown (grownBy_setCell w4 gB 67 (.slice a4 LS.length c4)) (fun e => by have := Option.some.inj e; omega)
  have e7 := own_keep e6 hg5 (.inl (fun e => own_ne e6 rA5 (by decide) e.symm))
  exact bodyPost_ret (retCT rfl _ _ 0 rfl (lvT r5)) rfl ⟨⟨stamped { zeroT with ty := 5, all := aB, rx := ((r.adv l 1).adv l 1).val l 2, intv := (((r.adv l 1).adv l 1).adv l 2).val l 2, ad := adA aeV l ((((r.adv l 1).adv l 1).adv l 2).adv l 2) } a4 LS.length c4 LS, rfl, fun _ => hEK.out _ _ _, e7⟩, _, NowS.fresh h (NowS.fresh h (((hN.below (ba wC (.cells #[.int .u8 3] 5))).trans hn2).below b4) (grownBy_setCell w4 gB 67 _) hgB) hg5 a1⟩
end Go.Proofs.Ytognnfknbkedgaa
