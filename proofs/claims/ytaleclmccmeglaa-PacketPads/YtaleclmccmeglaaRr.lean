/-
  The contract of routeReq of package packet.
-/
import Derived.Test.YtaleclmccmeglaaPq
namespace Go.Proofs.Ytaleclmccmeglaa
open Go.RowKit
set_option linter.unusedSimpArgs false
set_option maxRecDepth 20000
variable {bv : Option Addr}

theorem Mv.row {w w' : World} {P g k : Nat} {t : TypeId} {cs : List Value} (h : Mv w w' P g) (hr : Row w k t cs) (h1 : k ≠ P) (h2 : k ≠ g) : Row w' k t cs := (h.block k hr.lt h1 h2).trans hr
theorem Row.kind {w : World} {k : Nat} {t : TypeId} {cs : List Value} (hr : Row w k t cs) (h1 : t ≠ 95) (h2 : t ≠ 23) (h3 : t ≠ 37) : ∀ t' cs', Row w k t' cs' → t' ≠ 95 ∧ t' ≠ 23 ∧ t' ≠ 37 := fun t' cs' hr' => by
  unfold Row at hr hr'
  rw [hr] at hr'
  cases hr'
  exact ⟨h1, h2, h3⟩
section
variable {ops : Array Oper} {rest : List Oper} {op : Oper} {a : Act} {w : World} {Q : Exit → Act → World → Prop}
theorem stQt (x y : Operand) (hw : Region.wanted op (yielded ops a.tmps) = true) (ho : op.op = .store 41 x y) (b : Nat) (t : Tl) (q : Pr) (hx : a.eval x = .pointer (some ⟨b, 33, none⟩)) (hy : a.eval y = (Value.agg (qcells q).toArray)) (hr : Row w b 44 (tcells t))
    (h : ∀ W, w.grownBy W (some b) → Row W b 44 (tcells { t with pr := q }) → wpList Try.prog ops Q rest (a.put op.dst undef) W) : wpList Try.prog ops Q (op :: rest) a w :=
  stQ x y hw ho b 33 q hx hy (hr.thereMid (by rw [tcells_len]; omega)) (h _ (grownBy_setCells b _ _ _) (hr.tPr q))
theorem stIt (x y : Operand) (hw : Region.wanted op (yielded ops a.tmps) = true) (ho : op.op = .store 37 x y) (b : Nat) (t : Tl) (q : Id8) (hx : a.eval x = .pointer (some ⟨b, 9, none⟩)) (hy : a.eval y = .agg (icells q).toArray) (hr : Row w b 44 (tcells t))
    (h : ∀ W, w.grownBy W (some b) → Row W b 44 (tcells { t with id := q }) → wpList Try.prog ops Q rest (a.put op.dst undef) W) : wpList Try.prog ops Q (op :: rest) a w :=
  stI x y hw ho b 9 q hx hy (hr.thereMid (by rw [tcells_len]; omega)) (h _ (grownBy_setCells b _ _ _) (hr.tId q))
end
def rrB (s : St) (l : List UInt8) (r : RS) : Bool := if r.val l 1 = 0 then nsB l ((r.adv l 1).adv l 1) else prB s (r.val l 1) (pfP s (r.val l 1) ((r.adv l 1).val l 1) 0 l ((r.adv l 1).adv l 1)) l (pfR s (r.val l 1) ((r.adv l 1).val l 1) 0 l ((r.adv l 1).adv l 1))
def rrK (s : St) (l : List UInt8) (r : RS) : TK := if r.val l 1 = 0 then { zeroK with ty := 9, all := true } else { zeroK with ty := 9, pr := prQ s (r.val l 1) (pfP s (r.val l 1) ((r.adv l 1).val l 1) 0 l ((r.adv l 1).adv l 1)) l (pfR s (r.val l 1) ((r.adv l 1).val l 1) 0 l ((r.adv l 1).adv l 1)) }
theorem routeReq_0 {w : World} {P g : Nat} {l : List UInt8} {r : RS} {s : St} (hpar : Par w P (some g) s) (h : RdS w g bv l r) (hl : l.length ≤ 100000) (h0 : r.val l 1 = 0) :
    Calls Try.prog 50 #[.pointer (some ⟨P, 0, none⟩)] w fun e w' => SayR w { zeroK with ty := 9, all := true } (nsB l ((r.adv l 1).adv l 1)) e w' ∧ (∃ R, Par w' P R s) ∧ Mv w w' P g := by
  have hp := hpar.pg h
  have hlt := h.lt
  obtain ⟨ae, aeH⟩ : ∃ x, Hid (r.val l 1 = x) := ⟨_, rfl⟩
  obtain ⟨pl, plH⟩ : ∃ x, Hid ((r.adv l 1).val l 1 = x) := ⟨_, rfl⟩
  have hpl : pl < 256 := by have := val1_lt (r.adv l 1) l; rw [plH.out] at this; exact this
  have HU4 : Hid (∀ W, RdS W g bv l r → Calls Try.prog 35 #[.pointer (some ⟨g, 0, none⟩)] W fun e w' => e = .returned (.int .u8 (ae : Int)) ∧ NowS W w' g bv l (r.adv l 1)) := fun W h => by rw [← aeH.out]; exact u8_r h
  have HU9 : Hid (∀ W, RdS W g bv l (r.adv l 1) → Calls Try.prog 35 #[.pointer (some ⟨g, 0, none⟩)] W fun e w' => e = .returned (.int .u8 (pl : Int)) ∧ NowS W w' g bv l ((r.adv l 1).adv l 1)) := fun W h => by rw [← plH.out]; exact u8_r h
  obtain rfl : ae = 0 := aeH.out.symm.trans h0
  have HNS : Hid (∀ W, Pg W P g → RdS W g bv l ((r.adv l 1).adv l 1) → Calls Try.prog 79 #[.pointer (some ⟨P, 0, none⟩)] W fun e w' => e = .returned (.bool (nsB l ((r.adv l 1).adv l 1))) ∧ NowS W w' g bv l (wiR l ((r.adv l 1).adv l 1))) := fun W h1 h2 => noSource_any h1 h2 hl
  generalize nsB l ((r.adv l 1).adv l 1) = b at *
  clear h0 aeH plH
  go_enter Try.func50, Try.ntmps50
  go_wp2_with (refine alG infoTz (by rfl) rfl ?_; intro gA wA a1 a2 a3 rA)
  have hgA : gA ≠ g := by omega
  have hN : NowS w wA.drew g bv l r := ((h.below a3).now.after a3).below (bd _)
  have rAc := rA.below (bd _) rA.lt
  clear a3 rA
  refine wp_region_noPanic ?_
  refine wp_region_held_drew (S := fun W => W.cell? ⟨P, 11, none⟩ = some (.pointer (some ⟨g, 0, none⟩))) (by kernel_rfl) ((hp.now hN).c) (fun hHeld => ?_)
  refine take_lit (i := 0) (v := ?_) rfl (by kernel_rfl) (by kernel_rfl) (by kernel_rfl) (fun _ _ _ h => h) (Or.inl ⟨by rfl, ?_⟩) (by assumption) ?_
  rotate_left
  · (intro w hSw; (try dsimp only at hSw); go_simp <;> with_reducible rfl)
  try simp only [Act.put, List.setIfInBounds_toArray, List.set_cons_zero, List.set_cons_succ]
  refine take_lit (i := 1) (v := ?_) rfl (by kernel_rfl) (by kernel_rfl) (by kernel_rfl) (fun _ _ _ h => h) (Or.inl ⟨by rfl, ?_⟩) (by assumption) ?_
  rotate_left
  · (intro w hSw; (try dsimp only at hSw); go_simp <;> with_reducible rfl)
  try simp only [Act.put, List.setIfInBounds_toArray, List.set_cons_zero, List.set_cons_succ]
  refine take_lit (i := 2) (v := ?_) rfl (by kernel_rfl) (by kernel_rfl) (by kernel_rfl) (fun _ _ _ h => h) (Or.inl ⟨by rfl, ?_⟩) (by assumption) ?_
  rotate_left
  · (intro w hSw; (try dsimp only at hSw); go_simp <;> with_reducible rfl)
  try simp only [Act.put, List.setIfInBounds_toArray, List.set_cons_zero, List.set_cons_succ]
  refine take_lit (i := 3) (v := ?_) rfl (by kernel_rfl) (by kernel_rfl) (by kernel_rfl) (fun _ _ _ h => h) (Or.inl ⟨by rfl, ?_⟩) (by assumption) ?_
  rotate_left
  · (intro w hSw; (try dsimp only at hSw); go_simp <;> with_reducible rfl)
  try simp only [Act.put, List.setIfInBounds_toArray, List.set_cons_zero, List.set_cons_succ]
  refine take_lit (i := 5) (v := ?_) rfl (by kernel_rfl) (by kernel_rfl) (by kernel_rfl) (fun _ _ _ h => h) (Or.inl ⟨by rfl, ?_⟩) (by assumption) ?_
  rotate_left
  · (intro w hSw; (try dsimp only at hSw); go_simp <;> with_reducible rfl)
  try simp only [Act.put, List.setIfInBounds_toArray, List.set_cons_zero, List.set_cons_succ]
  refine take_lit (i := 6) (v := ?_) rfl (by kernel_rfl) (by kernel_rfl) (by kernel_rfl) (fun _ _ _ h => h) (Or.inl ⟨by rfl, ?_⟩) (by assumption) ?_
  rotate_left
  · (intro w hSw; (try dsimp only at hSw); go_simp <;> with_reducible rfl)
  try simp only [Act.put, List.setIfInBounds_toArray, List.set_cons_zero, List.set_cons_succ]
  refine take_lit (i := 7) (v := ?_) rfl (by kernel_rfl) (by kernel_rfl) (by kernel_rfl) (fun _ _ _ h => h) (Or.inl ⟨by rfl, ?_⟩) (by assumption) ?_
  rotate_left
  · (intro w hSw; (try dsimp only at hSw); go_simp <;> with_reducible rfl)
  try simp only [Act.put, List.setIfInBounds_toArray, List.set_cons_zero, List.set_cons_succ]
  refine take_lit (i := 8) (v := ?_) rfl (by kernel_rfl) (by kernel_rfl) (by kernel_rfl) (fun _ _ _ h => h) (Or.inl ⟨by rfl, ?_⟩) (by assumption) ?_
  rotate_left
  · (intro w hSw; (try dsimp only at hSw); go_simp <;> with_reducible rfl)
  try simp only [Act.put, List.setIfInBounds_toArray, List.set_cons_zero, List.set_cons_succ]
  refine wpAnyH_ready (rs := [4]) (by kernel_rfl) (by simp) ?_
  refine cons_lit rfl (fun K hK => ?_) ?_
  · go_simp
    refine (HU4.out _ hN.rd).mono ?_
    rintro e w1 ⟨rfl, hn1⟩
    replace rAc := rAc.nowS hn1 hgA
    replace hN := hN.trans hn1
    clear hn1
    refine hK.out _ _ ?_ (fun hHeld => ?_)
    · exact (hp.now hN).c
    clear hK K
    try simp only [Act.put, List.setIfInBounds_toArray, List.set_cons_zero, List.set_cons_succ]
    refine wpAnyH_ready (rs := [9]) (by kernel_rfl) (by simp) ?_
    refine cons_lit rfl (fun K hK => ?_) ?_
    · go_simp
      refine (HU9.out _ hN.rd).mono ?_
      rintro e w1 ⟨rfl, hn1⟩
      replace rAc := rAc.nowS hn1 hgA
      replace hN := hN.trans hn1
      clear hn1
      refine hK.out _ _ ?_ (fun hHeld => ?_)
      · exact (hp.now hN).c
      clear hK K
      try simp only [Act.put, List.setIfInBounds_toArray, List.set_cons_zero, List.set_cons_succ]
      refine take_lit (i := 10) (v := ?_) rfl (by kernel_rfl) (by kernel_rfl) (by kernel_rfl) (fun _ _ _ h => h) (Or.inl ⟨by rfl, ?_⟩) (by assumption) ?_
      rotate_left
      · (intro w hSw; (try dsimp only at hSw); go_simp <;> with_reducible rfl)
      try simp only [Act.put, List.setIfInBounds_toArray, List.set_cons_zero, List.set_cons_succ]
      refine take_lit (i := 11) (v := ?_) rfl (by kernel_rfl) (by kernel_rfl) (by kernel_rfl) (fun _ _ _ h => h) (Or.inl ⟨by rfl, ?_⟩) (by assumption) ?_
      rotate_left
      · (intro w hSw; (try dsimp only at hSw); go_simp <;> with_reducible rfl)
      try simp only [Act.put, List.setIfInBounds_toArray, List.set_cons_zero, List.set_cons_succ]
      refine take_lit (i := 12) (v := ?_) rfl (by kernel_rfl) (by kernel_rfl) (by kernel_rfl) (fun _ _ _ h => h) (Or.inl ⟨by rfl, ?_⟩) (by assumption) ?_
      rotate_left
      · (intro w hSw; (try dsimp only at hSw); go_simp <;> with_reducible rfl)
      try simp only [Act.put, List.setIfInBounds_toArray, List.set_cons_zero, List.set_cons_succ]
      refine wpAnyH_done (by kernel_rfl) ?_ _
      refine NoPanic.normal ?_
      clear hHeld HU4 HU9
      go_wp2_with (first
        | (have kk := rB; refine stT (.tmp 6) (.tmp 21) (by rfl) rfl gB { zeroT with ty := 9, all := true } _ rfl rfl rB ?_; intro wC hgC rC; have rAC := (rAc.below b3 rAc.lt).grown hgC (fun e => by have := Option.some.inj e; have := rAc.lt; omega); have cB : wC.cell? ⟨gB, 8, none⟩ = some (.bool true) := rC.cell 8)
        | (refine alG infoTz (by rfl) rfl ?_; intro gB wB b1 b2 b3 rB))
      have hgB : w.heap.size ≤ gB := Nat.le_trans hN.size b1
      have hAB : gA < gB := Nat.lt_of_lt_of_le rAc.lt b1
      have N1 : NowS w wC.drew g bv l ((r.adv l 1).adv l 1) := (NowS.fresh h (hN.below b3) hgC hgB).below (bd _)
      have rA1 := rAC.below (bd _) rAC.lt
      have rB1 := rC.below (bd _) rC.lt
      clear hgC b3 rB hN rAc rAC rC b1 b2
      refine wp_region_noPanic ?_
      refine wp_region_held_drew (S := fun W => Row W gB 44 (tcells { zeroT with ty := 9, all := true })) (by kernel_rfl) (rB1) (fun hHeld => ?_)
      refine take_lit (i := 0) rfl (by kernel_rfl) (by kernel_rfl) (by kernel_rfl) (fun _ _ _ h => h) (yT { zeroT with ty := 9, all := true } (fun W hW => hW) (by rfl) rfl rfl) (by assumption) ?_
      try simp only [Act.put, List.setIfInBounds_toArray, List.set_cons_zero, List.set_cons_succ]
      refine take_lit (i := 1) (v := ?_) rfl (by kernel_rfl) (by kernel_rfl) (by kernel_rfl) (fun _ _ _ h => h) (Or.inl ⟨by rfl, ?_⟩) (by assumption) ?_
      rotate_left
      · (intro w hSw; (try dsimp only at hSw); go_simp <;> with_reducible rfl)
      try simp only [Act.put, List.setIfInBounds_toArray, List.set_cons_zero, List.set_cons_succ]
      refine wpAnyH_ready (rs := [2]) (by kernel_rfl) (by simp) ?_
      refine cons_lit rfl (fun K hK => ?_) ?_
      · go_simp
        refine (HNS.out _ (hp.now N1) N1.rd).mono ?_
        rintro e w4 ⟨rfl, hn4⟩
        have rA4 := rA1.nowS hn4 hgA
        have rB4 := rB1.nowS hn4 (by omega)
        have N4 := N1.trans hn4
        refine hK.out _ _ ?_ (fun hHeld => ?_)
        · exact rB4
        clear hK K
        try simp only [Act.put, List.setIfInBounds_toArray, List.set_cons_zero, List.set_cons_succ]
        refine wpAnyH_ready (rs := [3]) (by kernel_rfl) (by simp) ?_
        refine cons_lit rfl (fun K hK => ?_) ?_
        · skip
          refine sStT (.tmp 2) (.tmp 24) (by rfl) rfl gA { zeroT with ty := 9, all := true } _ rfl rfl rA4 ?_
          intro w5 hg5 r5
          have rB5 := rB4.grown hg5 (fun e => by have := Option.some.inj e; omega)
          refine hK.out _ _ ?_ (fun hHeld => ?_)
          · exact rB5
          clear hK K
          try simp only [Act.put, List.setIfInBounds_toArray, List.set_cons_zero, List.set_cons_succ]
          refine take_lit (i := 4) (v := ?_) rfl (by kernel_rfl) (by kernel_rfl) (by kernel_rfl) (fun _ _ _ h => h) (Or.inl ⟨by rfl, ?_⟩) (by assumption) ?_
          rotate_left
          · (intro w hSw; (try dsimp only at hSw); go_simp <;> with_reducible rfl)
          try simp only [Act.put, List.setIfInBounds_toArray, List.set_cons_zero, List.set_cons_succ]
          refine wpAnyH_done (by kernel_rfl) ?_ _
          refine NoPanic.normal ?_
          go_wp2
          have N5 := NowS.fresh h N4 hg5 a1
          exact bodyPost_ret (retCT rfl _ _ 0 rfl (lvT r5)) rfl ⟨⟨{ zeroT with ty := 9, all := true }, rfl, fun _ => rfl, Stms.none _ _ _ rfl rfl rfl rfl⟩, ⟨_, hpar.now h N5⟩, Mv.ofNow N5⟩
        exact AllReadyH.nil
      exact AllReadyH.nil
    exact AllReadyH.nil
  exact AllReadyH.nil
theorem routeReq_1 {w : World} {P g : Nat} {l : List UInt8} {r : RS} {s : St} (hpar : Par w P (some g) s) (h : RdS w g bv l r) (hl : l.length ≤ 100000) (h0 : r.val l 1 ≠ 0) :
    Calls Try.prog 50 #[.pointer (some ⟨P, 0, none⟩)] w fun e w' => SayR w { zeroK with ty := 9, pr := prQ s (r.val l 1) (pfP s (r.val l 1) ((r.adv l 1).val l 1) 0 l ((r.adv l 1).adv l 1)) l (pfR s (r.val l 1) ((r.adv l 1).val l 1) 0 l ((r.adv l 1).adv l 1)) } (prB s (r.val l 1) (pfP s (r.val l 1) ((r.adv l 1).val l 1) 0 l ((r.adv l 1).adv l 1)) l (pfR s (r.val l 1) ((r.adv l 1).val l 1) 0 l ((r.adv l 1).adv l 1))) e w' ∧ (∃ R, Par w' P R s) ∧ Mv w w' P g := by
  have hp := hpar.pg h
  have hlt := h.lt
  obtain ⟨ae, aeH⟩ : ∃ x, Hid (r.val l 1 = x) := ⟨_, rfl⟩
  obtain ⟨pl, plH⟩ : ∃ x, Hid ((r.adv l 1).val l 1 = x) := ⟨_, rfl⟩
  have hpl : pl < 256 := by have := val1_lt (r.adv l 1) l; rw [plH.out] at this; exact this
  have HU4 : Hid (∀ W, RdS W g bv l r → Calls Try.prog 35 #[.pointer (some ⟨g, 0, none⟩)] W fun e w' => e = .returned (.int .u8 (ae : Int)) ∧ NowS W w' g bv l (r.adv l 1)) := fun W h => by rw [← aeH.out]; exact u8_r h
  have HU9 : Hid (∀ W, RdS W g bv l (r.adv l 1) → Calls Try.prog 35 #[.pointer (some ⟨g, 0, none⟩)] W fun e w' => e = .returned (.int .u8 (pl : Int)) ∧ NowS W w' g bv l ((r.adv l 1).adv l 1)) := fun W h => by rw [← plH.out]; exact u8_r h
  have hae : ((ae : Int) == 0) = false := by rw [aeH.out] at h0; simp; omega
  rw [aeH.out, plH.out]
  obtain ⟨dst, hd⟩ : ∃ d, pfP s ae pl 0 l ((r.adv l 1).adv l 1) = d := ⟨_, rfl⟩
  obtain ⟨rn, hr⟩ : ∃ d, pfR s ae pl 0 l ((r.adv l 1).adv l 1) = d := ⟨_, rfl⟩
  have HP : Hid (∀ W, Par W P (some g) s → RdS W g bv l ((r.adv l 1).adv l 1) → Calls Try.prog 80 #[.pointer (some ⟨P, 0, none⟩), .int .u8 (ae : Int), .int .i64 (pl : Int), .int .i64 0] W fun e w' => e = .returned (Value.agg (pcells dst).toArray) ∧ NowS W w' g bv l rn) := fun W h1 h2 => by rw [← hd, ← hr]; exact prefix_any ae pl 0 hpl (by decide) h1 h2
  rw [hd, hr]
  obtain ⟨q, hq⟩ : ∃ q, prQ s ae dst l rn = q := ⟨_, rfl⟩
  obtain ⟨b, hb⟩ : ∃ q, prB s ae dst l rn = q := ⟨_, rfl⟩
  have HQ : Hid (∀ W, Par W P (some g) s → RdS W g bv l rn → Calls Try.prog 82 #[.pointer (some ⟨P, 0, none⟩), .int .u8 (ae : Int), (Value.agg (pcells dst).toArray)] W (Paired W P g s q b)) := fun W h1 h2 => by rw [← hq, ← hb]; exact pair_any ae dst hl h1 h2
  rw [hq, hb]
  clear h0 aeH plH hd hr hq hb
  go_enter Try.func50, Try.ntmps50
  go_wp2_with (refine alG infoTz (by rfl) rfl ?_; intro gA wA a1 a2 a3 rA)
  have hgA : gA ≠ g := by omega
  have hN : NowS w wA.drew g bv l r := ((h.below a3).now.after a3).below (bd _)
  have rAc := rA.below (bd _) rA.lt
  clear a3 rA
  refine wp_region_noPanic ?_
  refine wp_region_held_drew (S := fun W => W.cell? ⟨P, 11, none⟩ = some (.pointer (some ⟨g, 0, none⟩))) (by kernel_rfl) ((hp.now hN).c) (fun hHeld => ?_)
  refine take_lit (i := 0) (v := ?_) rfl (by kernel_rfl) (by kernel_rfl) (by kernel_rfl) (fun _ _ _ h => h) (Or.inl ⟨by rfl, ?_⟩) (by assumption) ?_
  rotate_left
  · (intro w hSw; (try dsimp only at hSw); go_simp <;> with_reducible rfl)
  try simp only [Act.put, List.setIfInBounds_toArray, List.set_cons_zero, List.set_cons_succ]
  refine take_lit (i := 1) (v := ?_) rfl (by kernel_rfl) (by kernel_rfl) (by kernel_rfl) (fun _ _ _ h => h) (Or.inl ⟨by rfl, ?_⟩) (by assumption) ?_
  rotate_left
  · (intro w hSw; (try dsimp only at hSw); go_simp <;> with_reducible rfl)
  try simp only [Act.put, List.setIfInBounds_toArray, List.set_cons_zero, List.set_cons_succ]
  refine take_lit (i := 2) (v := ?_) rfl (by kernel_rfl) (by kernel_rfl) (by kernel_rfl) (fun _ _ _ h => h) (Or.inl ⟨by rfl, ?_⟩) (by assumption) ?_
  rotate_left
  · (intro w hSw; (try dsimp only at hSw); go_simp <;> with_reducible rfl)
  try simp only [Act.put, List.setIfInBounds_toArray, List.set_cons_zero, List.set_cons_succ]
  refine take_lit (i := 3) (v := ?_) rfl (by kernel_rfl) (by kernel_rfl) (by kernel_rfl) (fun _ _ _ h => h) (Or.inl ⟨by rfl, ?_⟩) (by assumption) ?_
  rotate_left
  · (intro w hSw; (try dsimp only at hSw); go_simp <;> with_reducible rfl)
  try simp only [Act.put, List.setIfInBounds_toArray, List.set_cons_zero, List.set_cons_succ]
  refine take_lit (i := 5) (v := ?_) rfl (by kernel_rfl) (by kernel_rfl) (by kernel_rfl) (fun _ _ _ h => h) (Or.inl ⟨by rfl, ?_⟩) (by assumption) ?_
  rotate_left
  · (intro w hSw; (try dsimp only at hSw); go_simp <;> with_reducible rfl)
  try simp only [Act.put, List.setIfInBounds_toArray, List.set_cons_zero, List.set_cons_succ]
  refine take_lit (i := 6) (v := ?_) rfl (by kernel_rfl) (by kernel_rfl) (by kernel_rfl) (fun _ _ _ h => h) (Or.inl ⟨by rfl, ?_⟩) (by assumption) ?_
  rotate_left
  · (intro w hSw; (try dsimp only at hSw); go_simp <;> with_reducible rfl)
  try simp only [Act.put, List.setIfInBounds_toArray, List.set_cons_zero, List.set_cons_succ]
  refine take_lit (i := 7) (v := ?_) rfl (by kernel_rfl) (by kernel_rfl) (by kernel_rfl) (fun _ _ _ h => h) (Or.inl ⟨by rfl, ?_⟩) (by assumption) ?_
  rotate_left
  · (intro w hSw; (try dsimp only at hSw); go_simp <;> with_reducible rfl)
  try simp only [Act.put, List.setIfInBounds_toArray, List.set_cons_zero, List.set_cons_succ]
  refine take_lit (i := 8) (v := ?_) rfl (by kernel_rfl) (by kernel_rfl) (by kernel_rfl) (fun _ _ _ h => h) (Or.inl ⟨by rfl, ?_⟩) (by assumption) ?_
  rotate_left
  · (intro w hSw; (try dsimp only at hSw); go_simp <;> with_reducible rfl)
  try simp only [Act.put, List.setIfInBounds_toArray, List.set_cons_zero, List.set_cons_succ]
  refine wpAnyH_ready (rs := [4]) (by kernel_rfl) (by simp) ?_
  refine cons_lit rfl (fun K hK => ?_) ?_
  · go_simp
    refine (HU4.out _ hN.rd).mono ?_
    rintro e w1 ⟨rfl, hn1⟩
    replace rAc := rAc.nowS hn1 hgA
    replace hN := hN.trans hn1
    clear hn1
    refine hK.out _ _ ?_ (fun hHeld => ?_)
    · exact (hp.now hN).c
    clear hK K
    try simp only [Act.put, List.setIfInBounds_toArray, List.set_cons_zero, List.set_cons_succ]
    refine wpAnyH_ready (rs := [9]) (by kernel_rfl) (by simp) ?_
    refine cons_lit rfl (fun K hK => ?_) ?_
    · go_simp
      refine (HU9.out _ hN.rd).mono ?_
      rintro e w1 ⟨rfl, hn1⟩
      replace rAc := rAc.nowS hn1 hgA
      replace hN := hN.trans hn1
      clear hn1
      refine hK.out _ _ ?_ (fun hHeld => ?_)
      · exact (hp.now hN).c
      clear hK K
      try simp only [Act.put, List.setIfInBounds_toArray, List.set_cons_zero, List.set_cons_succ]
      refine take_lit (i := 10) (v := ?_) rfl (by kernel_rfl) (by kernel_rfl) (by kernel_rfl) (fun _ _ _ h => h) (Or.inl ⟨by rfl, ?_⟩) (by assumption) ?_
      rotate_left
      · (intro w hSw; (try dsimp only at hSw); go_simp <;> with_reducible rfl)
      try simp only [Act.put, List.setIfInBounds_toArray, List.set_cons_zero, List.set_cons_succ]
      refine take_lit (i := 11) (v := ?_) rfl (by kernel_rfl) (by kernel_rfl) (by kernel_rfl) (fun _ _ _ h => h) (Or.inl ⟨by rfl, ?_⟩) (by assumption) ?_
      rotate_left
      · (intro w hSw; (try dsimp only at hSw); go_simp <;> with_reducible rfl)
      try simp only [Act.put, List.setIfInBounds_toArray, List.set_cons_zero, List.set_cons_succ]
      refine take_lit (i := 12) (v := ?_) rfl (by kernel_rfl) (by kernel_rfl) (by kernel_rfl) (fun _ _ _ h => h) (Or.inl ⟨by rfl, ?_⟩) (by assumption) ?_
      rotate_left
      · (intro w hSw; (try dsimp only at hSw); go_simp <;> with_reducible rfl)
      try simp only [Act.put, List.setIfInBounds_toArray, List.set_cons_zero, List.set_cons_succ]
      refine wpAnyH_done (by kernel_rfl) ?_ _
      refine NoPanic.normal ?_
      clear hHeld HU4 HU9
      go_wp2_with (first
        | (have kk := rB7; refine stT (.tmp 2) (.tmp 38) (by rfl) rfl gA { zeroT with ty := 9, pr := q } _ rfl rfl rA7 ?_; intro w8 hg8 r8)
        | (have kk := rB7; refine ldT (.tmp 6) (by rfl) rfl gB { zeroT with ty := 9, pr := q } rfl rB7 ?_)
        | (have kk := m6; refine stQt (.tmp 37) (.tmp 35) (by rfl) rfl gB { zeroT with ty := 9 } q rfl rfl rB6 ?_; intro w7 hg7 rB7; have rA7 := rA6.grown hg7 (fun e => by have := Option.some.inj e; omega))
        | (go_at_call 82; have kk := hn5; refine (HQ.out _ (hpar.now h N5) N5.rd).mono ?_; rintro e w6 ⟨rfl, ⟨R6, P6⟩, m6⟩; have rA6 := m6.row (rAC.nowS hn5 hgA) (by omega) hgA; have rB6 := m6.row (rC.nowS hn5 (by omega)) (by omega) (by omega))
        | (go_at_call 80; have kk := rC; refine (HP.out _ (hpar.now h N4) N4.rd).mono ?_; rintro e w5 ⟨rfl, hn5⟩; have N5 := N4.trans hn5)
        | (have kk := rB; refine stT (.tmp 6) (.tmp 21) (by rfl) rfl gB { zeroT with ty := 9 } _ rfl rfl rB ?_; intro wC hgC rC; have rAC := (rAc.below b3 rAc.lt).grown hgC (fun e => by have := Option.some.inj e; have := rAc.lt; omega); have cB : wC.cell? ⟨gB, 8, none⟩ = some (.bool false) := rC.cell 8; have hgB : w.heap.size ≤ gB := Nat.le_trans hN.size b1; have hAB : gA < gB := Nat.lt_of_lt_of_le rAc.lt b1; have hPl := hpar.lt; have N4 := NowS.fresh h (hN.below b3) hgC hgB)
        | (refine alG infoTz (by rfl) rfl ?_; intro gB wB b1 b2 b3 rB))
      have P7 := P6.fresh hg7 (rB6.kind (by decide) (by decide) (by decide))
      have P8 := P7.fresh hg8 (rA7.kind (by decide) (by decide) (by decide))
      exact bodyPost_ret (retCT rfl _ _ 0 rfl (lvT r8)) rfl ⟨⟨{ zeroT with ty := 9, pr := q }, rfl, fun _ => rfl, Stms.none _ _ _ rfl rfl rfl rfl⟩, ⟨_, P8⟩, (((Mv.ofNow N5).trans m6).fresh hg7 hgB).fresh hg8 a1⟩
    exact AllReadyH.nil
  exact AllReadyH.nil
end Go.Proofs.Ytaleclmccmeglaa
