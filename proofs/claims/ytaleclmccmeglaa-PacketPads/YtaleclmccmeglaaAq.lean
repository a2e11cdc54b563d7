/-
  The contract of ackReq of package packet.
-/
import Derived.Test.YtaleclmccmeglaaMsg
namespace Go.Proofs.Ytaleclmccmeglaa
open Go.RowKit
set_option linter.unusedSimpArgs false
set_option maxRecDepth 20000
variable {bv : Option Addr}

def aqB (l : List UInt8) (r : RS) : Bool := wiB [] l (((r.adv l 2).adv l 2).adv l 2)
def aqK (l : List UInt8) (r : RS) : TK := { zeroK with ty := 2, nonce := (r.adv l 2).val l 2, intv := ((r.adv l 2).adv l 2).val l 2 }
theorem ackReq_any {w : World} {P g : Nat} {l : List UInt8} {r : RS} (hp : Pg w P g) (h : RdS w g bv l r) (hl : l.length ≤ 100000) :
    Calls Try.prog 43 #[.pointer (some ⟨P, 0, none⟩)] w fun e w' => SayR w (aqK l r) (aqB l r) e w' ∧ ∃ r', NowS w w' g bv l r' := by
  have hlt := h.lt
  have HW : Hid (∀ W, Pg W P g → RdS W g bv l (((r.adv l 2).adv l 2).adv l 2) → Calls Try.prog 72 #[.pointer (some ⟨P, 0, none⟩), .slice none 0 0] W fun e w' => ∃ a' c' n, e = .returned (.tuple #[.slice a' n c', .bool (aqB l r)]) ∧ NowS W w' g bv l (wiR l (((r.adv l 2).adv l 2).adv l 2))) := fun W h1 h2 => by
    refine (within_any h1 h2 hl none 0 0 [] (Src.nil _) (by decide) (fun _ h => by cases h)).mono ?_
    rintro e w' ⟨a', c', ps, rfl, _, _, _, hn⟩
    exact ⟨a', c', _, rfl, hn⟩
  have hEK : Hid (aqK l r = (Tl.key { zeroT with ty := 2, nonce := (r.adv l 2).val l 2, intv := ((r.adv l 2).adv l 2).val l 2 })) := rfl
  generalize aqB l r = b at *
  go_enter Try.func43, Try.ntmps43
  go_wp2_with (first
    | (go_at_call 36; refine (u16_r (h.below a3)).mono ?_; rintro e w1 ⟨rfl, hn1⟩)
    | (refine alG infoTz (by rfl) rfl ?_; intro gA wA a1 a2 a3 rA; have c1 := (hp.below a3).c))
  have hgA : gA ≠ g := by omega
  have hN : NowS w w1.drew g bv l (r.adv l 2) := (hn1.after a3).below (bd _)
  have rAc := (rA.nowS hn1 hgA).below (bd _) (rA.nowS hn1 hgA).lt
  clear hn1 a3 rA c1
  refine wp_region_noPanic ?_
  refine wp_region_held_drew (S := fun W => W.cell? ⟨P, 11, none⟩ = some (.pointer (some ⟨g, 0, none⟩))) (by kernel_rfl) ((hp.now hN).c) (fun hHeld => ?_)
  refine take_lit (i := 0) (v := ?_) rfl (by kernel_rfl) (by kernel_rfl) (by kernel_rfl) (fun _ _ _ h => h) (Or.inl ⟨by rfl, ?_⟩) (by assumption) ?_
  rotate_left
  · (intro w hSw; (try dsimp only at hSw); go_simp <;> with_reducible rfl)
  try simp only [Act.put, List.setIfInBounds_toArray, List.set_cons_zero, List.set_cons_succ]
  refine take_lit (i := 1) (v := ?_) rfl (by kernel_rfl) (by kernel_rfl) (by kernel_rfl) (fun _ _ _ h => h) (Or.inl ⟨by rfl, ?_⟩) (by assumption) ?_
  rotate_left
  · (intro w hSw; (try dsimp only at hSw); go_simp <;> with_reducible rfl)
  try simp only [Act.put, List.setIfInBounds_toArray, List.set_cons_zero, List.set_cons_succ]
  refine take_lit (i := 2) (v := ?_) rfl (by kernel_rfl) (by kernel_rfl) (by kernel_rfl) (fun _ _ _ h => h) (Or.inl ⟨by rfl, ?_⟩) (by assumption) ?_
  rotate_left
  · (intro w hSw; (try dsimp only at hSw); go_simp <;> with_reducible rfl)
  try simp only [Act.put, List.setIfInBounds_toArray, List.set_cons_zero, List.set_cons_succ]
  refine take_lit (i := 3) (v := ?_) rfl (by kernel_rfl) (by kernel_rfl) (by kernel_rfl) (fun _ _ _ h => h) (Or.inl ⟨by rfl, ?_⟩) (by assumption) ?_
  rotate_left
  · (intro w hSw; (try dsimp only at hSw); go_simp <;> with_reducible rfl)
  try simp only [Act.put, List.setIfInBounds_toArray, List.set_cons_zero, List.set_cons_succ]
  refine take_lit (i := 5) (v := ?_) rfl (by kernel_rfl) (by kernel_rfl) (by kernel_rfl) (fun _ _ _ h => h) (Or.inl ⟨by rfl, ?_⟩) (by assumption) ?_
  rotate_left
  · (intro w hSw; (try dsimp only at hSw); go_simp <;> with_reducible rfl)
  try simp only [Act.put, List.setIfInBounds_toArray, List.set_cons_zero, List.set_cons_succ]
  refine take_lit (i := 6) (v := ?_) rfl (by kernel_rfl) (by kernel_rfl) (by kernel_rfl) (fun _ _ _ h => h) (Or.inl ⟨by rfl, ?_⟩) (by assumption) ?_
  rotate_left
  · (intro w hSw; (try dsimp only at hSw); go_simp <;> with_reducible rfl)
  try simp only [Act.put, List.setIfInBounds_toArray, List.set_cons_zero, List.set_cons_succ]
  refine take_lit (i := 7) (v := ?_) rfl (by kernel_rfl) (by kernel_rfl) (by kernel_rfl) (fun _ _ _ h => h) (Or.inl ⟨by rfl, ?_⟩) (by assumption) ?_
  rotate_left
  · (intro w hSw; (try dsimp only at hSw); go_simp <;> with_reducible rfl)
  try simp only [Act.put, List.setIfInBounds_toArray, List.set_cons_zero, List.set_cons_succ]
  refine take_lit (i := 8) (v := ?_) rfl (by kernel_rfl) (by kernel_rfl) (by kernel_rfl) (fun _ _ _ h => h) (Or.inl ⟨by rfl, ?_⟩) (by assumption) ?_
  rotate_left
  · (intro w hSw; (try dsimp only at hSw); go_simp <;> with_reducible rfl)
  try simp only [Act.put, List.setIfInBounds_toArray, List.set_cons_zero, List.set_cons_succ]
  refine wpAnyH_ready (rs := [4, 11]) (by kernel_rfl) (by simp) ?_
  refine cons_lit rfl (fun K hK => ?_) ?_
  · go_simp
    refine (u16_r hN.rd).mono ?_
    rintro e w1 ⟨rfl, hn1⟩
    replace rAc := rAc.nowS hn1 hgA
    try replace rB := rB.nowS hn1 (by omega)
    replace hN := hN.trans hn1
    clear hn1
    refine hK.out _ _ ?_ (fun hHeld => ?_)
    · exact (hp.now hN).c
    clear hK K
    try simp only [Act.put, List.setIfInBounds_toArray, List.set_cons_zero, List.set_cons_succ]
    refine wpAnyH_ready (rs := [9, 11]) (by kernel_rfl) (by simp) ?_
    refine cons_lit rfl (fun K hK => ?_) ?_
    · go_simp
      refine (u16_r hN.rd).mono ?_
      rintro e w1 ⟨rfl, hn1⟩
      replace rAc := rAc.nowS hn1 hgA
      try replace rB := rB.nowS hn1 (by omega)
      replace hN := hN.trans hn1
      clear hn1
      refine hK.out _ _ ?_ (fun hHeld => ?_)
      · exact (hp.now hN).c
      clear hK K
      try simp only [Act.put, List.setIfInBounds_toArray, List.set_cons_zero, List.set_cons_succ]
      refine take_lit (i := 10) rfl (by kernel_rfl) (by kernel_rfl) (by kernel_rfl) (fun _ _ _ h => h) (yB [(0, .const (.int .u8 2)), (1, .tmp 16), (2, .tmp 21)] (by rfl) rfl (bdAckReq _ _)) (by assumption) ?_
      try simp only [Act.put, List.setIfInBounds_toArray, List.set_cons_zero, List.set_cons_succ]
      refine wpAnyH_ready (rs := [11]) (by kernel_rfl) (by simp) ?_
      refine cons_lit rfl (fun K hK => ?_) ?_
      · skip
        refine sAlG infoTz (by rfl) rfl ?_
        intro gB wB b1 b2 b3 rB
        have hgB : w.heap.size ≤ gB := Nat.le_trans hN.size b1
        have hne : gA < gB := Nat.lt_of_lt_of_le rAc.lt b1
        replace rAc := rAc.below b3 rAc.lt
        replace hN := hN.below b3
        clear b1 b2 b3
        refine hK.out _ _ ?_ (fun hHeld => ?_)
        · exact (hp.now hN).c
        clear hK K
        try simp only [Act.put, List.setIfInBounds_toArray, List.set_cons_zero, List.set_cons_succ]
        refine wpAnyH_ready (rs := [12]) (by kernel_rfl) (by simp) ?_
        refine cons_lit rfl (fun K hK => ?_) ?_
        · skip
          refine sStT (.tmp 4) (.tmp 22) (by rfl) rfl gB { zeroT with ty := 2, nonce := (r.adv l 2).val l 2, intv := ((r.adv l 2).adv l 2).val l 2 } _ rfl rfl rB ?_
          intro wC hgC rC
          replace rAc := rAc.grown hgC (fun e => by have := Option.some.inj e; omega)
          replace hN := NowS.fresh h hN hgC hgB
          clear hgC rB
          refine hK.out _ _ ?_ (fun hHeld => ?_)
          · exact (hp.now hN).c
          clear hK K
          try simp only [Act.put, List.setIfInBounds_toArray, List.set_cons_zero, List.set_cons_succ]
          refine wpAnyH_done (by kernel_rfl) ?_ _
          refine NoPanic.normal ?_
          clear hHeld
          have hpC := hp.now hN
          go_wp2_with (first
            | (have kk := hn2; refine stT (.tmp 2) (.tmp 28) (by rfl) rfl gA { zeroT with ty := 2, nonce := (r.adv l 2).val l 2, intv := ((r.adv l 2).adv l 2).val l 2 } _ rfl rfl rA2 ?_; intro w4 hg4 r4)
            | (have kk := hn2; refine ldT (.tmp 4) (by rfl) rfl gB { zeroT with ty := 2, nonce := (r.adv l 2).val l 2, intv := ((r.adv l 2).adv l 2).val l 2 } rfl rB2 ?_)
            | (go_at_call 72; refine (HW.out _ hpC hN.rd).mono ?_; rintro e w3 ⟨a3, c3, n3, rfl, hn2⟩; have rA2 := rAc.nowS hn2 hgA; have rB2 := rC.nowS hn2 (by omega)))
          exact bodyPost_ret (retCT rfl _ _ 0 rfl (lvT r4)) rfl ⟨⟨{ zeroT with ty := 2, nonce := (r.adv l 2).val l 2, intv := ((r.adv l 2).adv l 2).val l 2 }, rfl, fun _ => hEK.out.symm, Stms.none _ _ _ rfl rfl rfl rfl⟩, _, NowS.fresh h (hN.trans hn2) hg4 a1⟩
        exact AllReadyH.nil
      exact AllReadyH.nil
    refine cons_lit rfl (fun K hK => ?_) ?_
    · skip
      refine sAlG infoTz (by rfl) rfl ?_
      intro gB wB b1 b2 b3 rB
      have hgB : w.heap.size ≤ gB := Nat.le_trans hN.size b1
      have hne : gA < gB := Nat.lt_of_lt_of_le rAc.lt b1
      replace rAc := rAc.below b3 rAc.lt
      replace hN := hN.below b3
      clear b1 b2 b3
      refine hK.out _ _ ?_ (fun hHeld => ?_)
      · exact (hp.now hN).c
      clear hK K
      try simp only [Act.put, List.setIfInBounds_toArray, List.set_cons_zero, List.set_cons_succ]
      refine wpAnyH_ready (rs := [9]) (by kernel_rfl) (by simp) ?_
      refine cons_lit rfl (fun K hK => ?_) ?_
      · go_simp
        refine (u16_r hN.rd).mono ?_
        rintro e w1 ⟨rfl, hn1⟩
        replace rAc := rAc.nowS hn1 hgA
        try replace rB := rB.nowS hn1 (by omega)
        replace hN := hN.trans hn1
        clear hn1
        refine hK.out _ _ ?_ (fun hHeld => ?_)
        · exact (hp.now hN).c
        clear hK K
        try simp only [Act.put, List.setIfInBounds_toArray, List.set_cons_zero, List.set_cons_succ]
        refine take_lit (i := 10) rfl (by kernel_rfl) (by kernel_rfl) (by kernel_rfl) (fun _ _ _ h => h) (yB [(0, .const (.int .u8 2)), (1, .tmp 16), (2, .tmp 21)] (by rfl) rfl (bdAckReq _ _)) (by assumption) ?_
        try simp only [Act.put, List.setIfInBounds_toArray, List.set_cons_zero, List.set_cons_succ]
        refine wpAnyH_ready (rs := [12]) (by kernel_rfl) (by simp) ?_
        refine cons_lit rfl (fun K hK => ?_) ?_
        · skip
          refine sStT (.tmp 4) (.tmp 22) (by rfl) rfl gB { zeroT with ty := 2, nonce := (r.adv l 2).val l 2, intv := ((r.adv l 2).adv l 2).val l 2 } _ rfl rfl rB ?_
          intro wC hgC rC
          replace rAc := rAc.grown hgC (fun e => by have := Option.some.inj e; omega)
          replace hN := NowS.fresh h hN hgC hgB
          clear hgC rB
          refine hK.out _ _ ?_ (fun hHeld => ?_)
          · exact (hp.now hN).c
          clear hK K
          try simp only [Act.put, List.setIfInBounds_toArray, List.set_cons_zero, List.set_cons_succ]
          refine wpAnyH_done (by kernel_rfl) ?_ _
          refine NoPanic.normal ?_
          clear hHeld
          have hpC := hp.now hN
          go_wp2_with (first
            | (have kk := hn2; refine stT (.tmp 2) (.tmp 28) (by rfl) rfl gA { zeroT with ty := 2, nonce := (r.adv l 2).val l 2, intv := ((r.adv l 2).adv l 2).val l 2 } _ rfl rfl rA2 ?_; intro w4 hg4 r4)
            | (have kk := hn2; refine ldT (.tmp 4) (by rfl) rfl gB { zeroT with ty := 2, nonce := (r.adv l 2).val l 2, intv := ((r.adv l 2).adv l 2).val l 2 } rfl rB2 ?_)
            | (go_at_call 72; refine (HW.out _ hpC hN.rd).mono ?_; rintro e w3 ⟨a3, c3, n3, rfl, hn2⟩; have rA2 := rAc.nowS hn2 hgA; have rB2 := rC.nowS hn2 (by omega)))
          exact bodyPost_ret (retCT rfl _ _ 0 rfl (lvT r4)) rfl ⟨⟨{ zeroT with ty := 2, nonce := (r.adv l 2).val l 2, intv := ((r.adv l 2).adv l 2).val l 2 }, rfl, fun _ => hEK.out.symm, Stms.none _ _ _ rfl rfl rfl rfl⟩, _, NowS.fresh h (hN.trans hn2) hg4 a1⟩
        exact AllReadyH.nil
      exact AllReadyH.nil
    exact AllReadyH.nil
  refine cons_lit rfl (fun K hK => ?_) ?_
  · skip
    refine sAlG infoTz (by rfl) rfl ?_
    intro gB wB b1 b2 b3 rB
    have hgB : w.heap.size ≤ gB := Nat.le_trans hN.size b1
    have hne : gA < gB := Nat.lt_of_lt_of_le rAc.lt b1
    replace rAc := rAc.below b3 rAc.lt
    replace hN := hN.below b3
    clear b1 b2 b3
    refine hK.out _ _ ?_ (fun hHeld => ?_)
    · exact (hp.now hN).c
    clear hK K
    try simp only [Act.put, List.setIfInBounds_toArray, List.set_cons_zero, List.set_cons_succ]
    refine wpAnyH_ready (rs := [4]) (by kernel_rfl) (by simp) ?_
    refine cons_lit rfl (fun K hK => ?_) ?_
    · go_simp
      refine (u16_r hN.rd).mono ?_
      rintro e w1 ⟨rfl, hn1⟩
      replace rAc := rAc.nowS hn1 hgA
      try replace rB := rB.nowS hn1 (by omega)
      replace hN := hN.trans hn1
      clear hn1
      refine hK.out _ _ ?_ (fun hHeld => ?_)
      · exact (hp.now hN).c
      clear hK K
      try simp only [Act.put, List.setIfInBounds_toArray, List.set_cons_zero, List.set_cons_succ]
      refine wpAnyH_ready (rs := [9]) (by kernel_rfl) (by simp) ?_
      refine cons_lit rfl (fun K hK => ?_) ?_
      · go_simp
        refine (u16_r hN.rd).mono ?_
        rintro e w1 ⟨rfl, hn1⟩
        replace rAc := rAc.nowS hn1 hgA
        try replace rB := rB.nowS hn1 (by omega)
        replace hN := hN.trans hn1
        clear hn1
        refine hK.out _ _ ?_ (fun hHeld => ?_)
        · exact (hp.now hN).c
        clear hK K
        try simp only [Act.put, List.setIfInBounds_toArray, List.set_cons_zero, List.set_cons_succ]
        refine take_lit (i := 10) rfl (by kernel_rfl) (by kernel_rfl) (by kernel_rfl) (fun _ _ _ h => h) (yB [(0, .const (.int .u8 2)), (1, .tmp 16), (2, .tmp 21)] (by rfl) rfl (bdAckReq _ _)) (by assumption) ?_
        try simp only [Act.put, List.setIfInBounds_toArray, List.set_cons_zero, List.set_cons_succ]
        refine wpAnyH_ready (rs := [12]) (by kernel_rfl) (by simp) ?_
        refine cons_lit rfl (fun K hK => ?_) ?_
        · skip
          refine sStT (.tmp 4) (.tmp 22) (by rfl) rfl gB { zeroT with ty := 2, nonce := (r.adv l 2).val l 2, intv := ((r.adv l 2).adv l 2).val l 2 } _ rfl rfl rB ?_
          intro wC hgC rC
          replace rAc := rAc.grown hgC (fun e => by have := Option.some.inj e; omega)
          replace hN := NowS.fresh h hN hgC hgB
          clear hgC rB
          refine hK.out _ _ ?_ (fun hHeld => ?_)
          · exact (hp.now hN).c
          clear hK K
          try simp only [Act.put, List.setIfInBounds_toArray, List.set_cons_zero, List.set_cons_succ]
          refine wpAnyH_done (by kernel_rfl) ?_ _
          refine NoPanic.normal ?_
          clear hHeld
          have hpC := hp.now hN
          go_wp2_with (first
            | (have kk := hn2; refine stT (.tmp 2) (.tmp 28) (by rfl) rfl gA { zeroT with ty := 2, nonce := (r.adv l 2).val l 2, intv := ((r.adv l 2).adv l 2).val l 2 } _ rfl rfl rA2 ?_; intro w4 hg4 r4)
            | (have kk := hn2; refine ldT (.tmp 4) (by rfl) rfl gB { zeroT with ty := 2, nonce := (r.adv l 2).val l 2, intv := ((r.adv l 2).adv l 2).val l 2 } rfl rB2 ?_)
            | (go_at_call 72; refine (HW.out _ hpC hN.rd).mono ?_; rintro e w3 ⟨a3, c3, n3, rfl, hn2⟩; have rA2 := rAc.nowS hn2 hgA; have rB2 := rC.nowS hn2 (by omega)))
          exact bodyPost_ret (retCT rfl _ _ 0 rfl (lvT r4)) rfl ⟨⟨{ zeroT with ty := 2, nonce := (r.adv l 2).val l 2, intv := ((r.adv l 2).adv l 2).val l 2 }, rfl, fun _ => hEK.out.symm, Stms.none _ _ _ rfl rfl rfl rfl⟩, _, NowS.fresh h (hN.trans hn2) hg4 a1⟩
        exact AllReadyH.nil
      exact AllReadyH.nil
    exact AllReadyH.nil
  exact AllReadyH.nil
end Go.Proofs.Ytaleclmccmeglaa
