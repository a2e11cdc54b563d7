/-
  The contract of hello of package packet.
-/
import Derived.Test.YtaleclmccmeglaaAq
namespace Go.Proofs.Ytaleclmccmeglaa
open Go.RowKit
set_option linter.unusedSimpArgs false
set_option maxRecDepth 20000
variable {bv : Option Addr}

/-- The bodies of pieces are no longer than the bytes. -/
theorem spl_le : ∀ (f : Nat) (l : List UInt8), ∀ k ∈ (spl f l).1, k.2.length ≤ l.length
  | 0, _, k, hk => by simp [spl] at hk
  | _ + 1, [], k, hk => by simp [spl] at hk
  | f + 1, t :: r, k, hk => by
    unfold spl at hk
    split at hk
    · rcases List.mem_cons.1 hk with rfl | hk
      · simp
      · have := spl_le f r k hk; simp; omega
    · cases r with
      | nil => simp at hk
      | cons q s =>
        simp only at hk
        split at hk
        · simp at hk
        · rcases List.mem_cons.1 hk with rfl | hk
          · simp; omega
          · have := spl_le f _ k hk
            simp at this ⊢
            omega
theorem wi_le {ts l : List UInt8} {r : RS} {ps : List Pc} (h : keys ps = wiL ts l r) (hl : l.length ≤ 100000) {p : Pc} (hp : p ∈ ps) : p.l.length ≤ 140737488355328 := by
  have k : (p.t, p.l) ∈ wiL ts l r := by rw [← h]; exact List.mem_map.2 ⟨p, hp, rfl⟩
  unfold wiL at k
  split at k
  · have := spl_le _ _ _ (List.mem_filter.1 k).1
    simp at this
    omega
  · cases k
/-- A Tlv with Stamps. -/
def stamped (t : Tl) (a : Option Addr) (n c : Nat) (ls : List UInt32) : Tl := { t with sa := a, sn := n, sc := c, st := ls }
def heB (l : List UInt8) (r : RS) : Bool := wiB [3] l (((r.adv l 2).adv l 2).adv l 2)
def heU (l : List UInt8) (r : RS) : Bool := (bits BinOp.and IntKind.u16 (r.val l 2 : Int) 32768 != 0)
def heK (l : List UInt8) (r : RS) : TK := { zeroK with ty := 4, uni := heU l r, seq := (r.adv l 2).val l 2, intv := ((r.adv l 2).adv l 2).val l 2, st := stF 1 (wiL [3] l (((r.adv l 2).adv l 2).adv l 2)) }
theorem hello_any {w : World} {P g : Nat} {l : List UInt8} {r : RS} (hp : Pg w P g) (h : RdS w g bv l r) (hl : l.length ≤ 100000) :
    Calls Try.prog 45 #[.pointer (some ⟨P, 0, none⟩)] w fun e w' => SayR w (heK l r) (heB l r) e w' ∧ ∃ r', NowS w w' g bv l r' := by
  have hlt := h.lt
  obtain ⟨LS, hLS⟩ : ∃ LS, Hid (stF 1 (wiL [3] l (((r.adv l 2).adv l 2).adv l 2)) = LS) := ⟨_, rfl⟩
  have HW : Hid (∀ W a, Pg W P g → RdS W g bv l (((r.adv l 2).adv l 2).adv l 2) → Src W (some a) 1 1 (bcells [3]) → a.block ≠ g → Calls Try.prog 72 #[.pointer (some ⟨P, 0, none⟩), .slice (some a) 1 1] W fun e w' => ∃ a' c' ps n, Hid (n = ps.length) ∧ e = .returned (.tuple #[.slice a' n c', .bool (heB l r)]) ∧ Hid (n = ps.length ∧ keys ps = wiL [3] l (((r.adv l 2).adv l 2).adv l 2) ∧ ps.length ≤ 100000) ∧ Told W w' a' c' ps ∧ NowS W w' g bv l (wiR l (((r.adv l 2).adv l 2).adv l 2))) := fun W a h1 h2 h3 h4 => by
    refine (within_any h1 h2 hl (some a) 1 1 [3] h3 (by decide) (fun _ h => by cases h; exact h4)).mono ?_
    rintro e w' ⟨a', c', ps, rfl, k1, k2, k3, hn⟩
    exact ⟨a', c', ps, _, (rfl : _ = _), rfl, ⟨rfl, k1, k2⟩, k3, hn⟩
  have HST : Hid (∀ (W W' : World) (a : Option Addr) (c : Nat) {ps : List Pc} {n : Nat}, Told W W' a c ps → Hid (n = ps.length ∧ keys ps = wiL [3] l (((r.adv l 2).adv l 2).adv l 2) ∧ ps.length ≤ 100000) → Calls Try.prog 73 #[.int .i64 1, .slice a n c] W' (Stamped W' LS)) := fun W W' a c ps n told hk => by
    obtain ⟨k0, k1, k2⟩ := hk.out
    subst k0
    have := stamps1 a c ps W' (own_rws told.own told.bods) k2 (fun p hp => wi_le k1 hl hp)
    rw [k1, hLS.out] at this
    exact this
  obtain ⟨uB, hU⟩ : ∃ u, (bits BinOp.and IntKind.u16 (r.val l 2 : Int) 32768 != 0) = u := ⟨_, rfl⟩
  have hEK : Hid (∀ a n c, (stamped { zeroT with ty := 4, uni := uB, seq := (r.adv l 2).val l 2, intv := ((r.adv l 2).adv l 2).val l 2 } a n c LS).key = heK l r) := fun a n c => by
    unfold heK heU
    rw [hLS.out, hU]
    rfl
  generalize heB l r = b at *
  clear hLS
  go_enter Try.func45, Try.ntmps45
  go_wp2_with (first
    | (go_at_call 36; refine (u16_r (h.below a3)).mono ?_; rintro e w1 ⟨rfl, hn1⟩)
    | (refine alG infoTz (by rfl) rfl ?_; intro gA wA a1 a2 a3 rA; have c1 := (hp.below a3).c))
  have hgA : gA ≠ g := by omega
  have hN : NowS w w1.drew g bv l (r.adv l 2) := (hn1.after a3).below (bd _)
  have rAc := (rA.nowS hn1 hgA).below (bd _) (rA.nowS hn1 hgA).lt
  clear hn1 a3 rA c1
  refine wp_region_noPanic ?_
  refine wp_region_held_drew (S := fun W => W.cell? ⟨P, 11, none⟩ = some (.pointer (some ⟨g, 0, none⟩))) (by kernel_rfl) ((hp.now hN).c) (fun hHeld => ?_)
  refine take_lit (i := 0) (v := ?_) rfl (by kernel_rfl) (by kernel_rfl) (by kernel_rfl) (fun _ _ _ h => h) (Or.inl ⟨by rfl, ?_⟩) (by assumption) ?_
  rotate_left
  · (intro w hSw; (try dsimp only at hSw); go_simp <;> with_reducible rfl)
  try simp only [Act.put, List.setIfInBounds_toArray, List.set_cons_zero, List.set_cons_succ]
  refine take_lit (i := 1) (v := ?_) rfl (by kernel_rfl) (by kernel_rfl) (by kernel_rfl) (fun _ _ _ h => h) (Or.inl ⟨by rfl, ?_⟩) (by assumption) ?_
  rotate_left
  · (intro w hSw; (try dsimp only at hSw); go_simp <;> with_reducible rfl)
  try simp only [Act.put, List.setIfInBounds_toArray, List.set_cons_zero, List.set_cons_succ]
  refine take_lit (i := 2) (v := ?_) rfl (by kernel_rfl) (by kernel_rfl) (by kernel_rfl) (fun _ _ _ h => h) (Or.inl ⟨by rfl, ?_⟩) (by assumption) ?_
  rotate_left
  · (intro w hSw; (try dsimp only at hSw); go_simp <;> with_reducible rfl)
  try simp only [Act.put, List.setIfInBounds_toArray, List.set_cons_zero, List.set_cons_succ]
  refine take_lit (i := 3) (v := ?_) rfl (by kernel_rfl) (by kernel_rfl) (by kernel_rfl) (fun _ _ _ h => h) (Or.inl ⟨by rfl, ?_⟩) (by assumption) ?_
  rotate_left
  · (intro w hSw; (try dsimp only at hSw); go_simp <;> with_reducible rfl)
  try simp only [Act.put, List.setIfInBounds_toArray, List.set_cons_zero, List.set_cons_succ]
  refine take_lit (i := 4) (v := ?_) rfl (by kernel_rfl) (by kernel_rfl) (by kernel_rfl) (fun _ _ _ h => h) (Or.inl ⟨by rfl, ?_⟩) (by assumption) ?_
  rotate_left
  · (intro w hSw; (try dsimp only at hSw); go_simp <;> with_reducible rfl)
  try simp only [Act.put, List.setIfInBounds_toArray, List.set_cons_zero, List.set_cons_succ]
  refine take_lit (i := 5) (v := ?_) rfl (by kernel_rfl) (by kernel_rfl) (by kernel_rfl) (fun _ _ _ h => h) (Or.inl ⟨by rfl, ?_⟩) (by assumption) ?_
  rotate_left
  · (intro w hSw; (try dsimp only at hSw); go_simp <;> with_reducible rfl)
  try simp only [Act.put, List.setIfInBounds_toArray, List.set_cons_zero, List.set_cons_succ]
  refine take_lit (i := 6) (v := ?_) rfl (by kernel_rfl) (by kernel_rfl) (by kernel_rfl) (fun _ _ _ h => h) (Or.inl ⟨by rfl, ?_⟩) (by assumption) ?_
  rotate_left
  · (intro w hSw; (try dsimp only at hSw); go_simp <;> with_reducible rfl)
  try simp only [Act.put, List.setIfInBounds_toArray, List.set_cons_zero, List.set_cons_succ]
  refine take_lit (i := 8) (v := ?_) rfl (by kernel_rfl) (by kernel_rfl) (by kernel_rfl) (fun _ _ _ h => h) (Or.inl ⟨by rfl, ?_⟩) (by assumption) ?_
  rotate_left
  · (intro w hSw; (try dsimp only at hSw); go_simp <;> with_reducible rfl)
  try simp only [Act.put, List.setIfInBounds_toArray, List.set_cons_zero, List.set_cons_succ]
  refine take_lit (i := 9) (v := ?_) rfl (by kernel_rfl) (by kernel_rfl) (by kernel_rfl) (fun _ _ _ h => h) (Or.inl ⟨by rfl, ?_⟩) (by assumption) ?_
  rotate_left
  · (intro w hSw; (try dsimp only at hSw); go_simp <;> with_reducible rfl)
  try simp only [Act.put, List.setIfInBounds_toArray, List.set_cons_zero, List.set_cons_succ]
  refine take_lit (i := 10) (v := ?_) rfl (by kernel_rfl) (by kernel_rfl) (by kernel_rfl) (fun _ _ _ h => h) (Or.inl ⟨by rfl, ?_⟩) (by assumption) ?_
  rotate_left
  · (intro w hSw; (try dsimp only at hSw); go_simp <;> with_reducible rfl)
  try simp only [Act.put, List.setIfInBounds_toArray, List.set_cons_zero, List.set_cons_succ]
  refine take_lit (i := 11) (v := ?_) rfl (by kernel_rfl) (by kernel_rfl) (by kernel_rfl) (fun _ _ _ h => h) (Or.inl ⟨by rfl, ?_⟩) (by assumption) ?_
  rotate_left
  · (intro w hSw; (try dsimp only at hSw); go_simp <;> with_reducible rfl)
  try simp only [Act.put, List.setIfInBounds_toArray, List.set_cons_zero, List.set_cons_succ]
  refine wpAnyH_ready (rs := [7, 14]) (by kernel_rfl) (by simp) ?_
  refine cons_lit rfl (fun K hK => ?_) ?_
  · go_simp
    refine (u16_r hN.rd).mono ?_
    rintro e w1 ⟨rfl, hn1⟩
    replace rAc := rAc.nowS hn1 hgA
    try replace rB := rB.nowS hn1 (by omega)
    replace hN := hN.trans hn1
    clear hn1
    refine hK.out _ _ ?_ (fun hHeld => ?_)
    · exact (hp.now hN).c
    clear hK K
    try simp only [Act.put, List.setIfInBounds_toArray, List.set_cons_zero, List.set_cons_succ]
    refine wpAnyH_ready (rs := [12, 14]) (by kernel_rfl) (by simp) ?_
    refine cons_lit rfl (fun K hK => ?_) ?_
    · go_simp
      refine (u16_r hN.rd).mono ?_
      rintro e w1 ⟨rfl, hn1⟩
      replace rAc := rAc.nowS hn1 hgA
      try replace rB := rB.nowS hn1 (by omega)
      replace hN := hN.trans hn1
      clear hn1
      refine hK.out _ _ ?_ (fun hHeld => ?_)
      · exact (hp.now hN).c
      clear hK K
      try simp only [Act.put, List.setIfInBounds_toArray, List.set_cons_zero, List.set_cons_succ]
      refine take_lit (i := 13) rfl (by kernel_rfl) (by kernel_rfl) (by kernel_rfl) (fun _ _ _ h => h) (yB [(0, .const (.int .u8 4)), (7, .tmp 15), (3, .tmp 20), (2, .tmp 25)] (by rfl) rfl (bdHello _ _ _)) (by assumption) ?_
      try simp only [Act.put, List.setIfInBounds_toArray, List.set_cons_zero, List.set_cons_succ]
      refine wpAnyH_ready (rs := [14]) (by kernel_rfl) (by simp) ?_
      refine cons_lit rfl (fun K hK => ?_) ?_
      · skip
        refine sAlG infoTz (by rfl) rfl ?_
        intro gB wB b1 b2 b3 rB
        have hgB : w.heap.size ≤ gB := Nat.le_trans hN.size b1
        have hne : gA < gB := Nat.lt_of_lt_of_le rAc.lt b1
        replace rAc := rAc.below b3 rAc.lt
        replace hN := hN.below b3
        clear b1 b2 b3
        refine hK.out _ _ ?_ (fun hHeld => ?_)
        · exact (hp.now hN).c
        clear hK K
        try simp only [Act.put, List.setIfInBounds_toArray, List.set_cons_zero, List.set_cons_succ]
        refine wpAnyH_ready (rs := [15]) (by kernel_rfl) (by simp) ?_
        refine cons_lit rfl (fun K hK => ?_) ?_
        · skip
          refine sStT (.tmp 5) (.tmp 26) (by rfl) rfl gB { zeroT with ty := 4, uni := uB, seq := (r.adv l 2).val l 2, intv := ((r.adv l 2).adv l 2).val l 2 } _ rfl rfl rB ?_
          intro wC hgC rC
          replace rAc := rAc.grown hgC (fun e => by have := Option.some.inj e; omega)
          replace hN := NowS.fresh h hN hgC hgB
          clear hgC rB
          refine hK.out _ _ ?_ (fun hHeld => ?_)
          · exact (hp.now hN).c
          clear hK K
          try simp only [Act.put, List.setIfInBounds_toArray, List.set_cons_zero, List.set_cons_succ]
          refine wpAnyH_done (by kernel_rfl) ?_ _
          refine NoPanic.normal ?_
          clear hHeld
          have hpC := hp.now hN
          have c1 := hpC.c
          have hsz := hN.size
          have cB : wC.cell? ⟨gB, 67, none⟩ = some _ := (rC.cell 67).trans (tcells_get _)
          have fB := rC.frozen 67
          go_wp2_with (first
            | (have kk := b4; refine stT (.tmp 2) (.tmp 36) (by rfl) rfl gA (stamped { zeroT with ty := 4, uni := uB, seq := (r.adv l 2).val l 2, intv := ((r.adv l 2).adv l 2).val l 2 } a4 LS.length c4 LS) _ rfl rfl (rA3.grown (grownBy_setCell w4 gB 67 _) (fun e => by have := Option.some.inj e; omega)) ?_; intro w5 hg5 r5)
            | (have kk := b4; refine ldT (.tmp 5) (by rfl) rfl gB (stamped { zeroT with ty := 4, uni := uB, seq := (r.adv l 2).val l 2, intv := ((r.adv l 2).adv l 2).val l 2 } a4 LS.length c4 LS) rfl (rB3.tSt a4 LS.length c4 LS) ?_)
            | (go_at_call 73; have kk := told; refine (HST.out _ _ _ _ told hk3).mono ?_; rintro e w4 ⟨a4, c4, rfl, own4, b4⟩; have rA3 := rA2.below b4 rA2.lt; have rB3 := rB2.below b4 rB2.lt; have cB3 : w4.cell? ⟨gB, 67, none⟩ = some _ := (rB3.cell 67).trans (tcells_get _); have fB3 := rB3.frozen 67)
            | (go_at_call 72; refine (HW.out _ _ (hpC.below (ba _ _)) (hN.rd.below (ba _ _)) (new_src wC #[.int .u8 3]) (show wC.heap.size ≠ g by have := hN.size; omega)).mono ?_; rintro e w3 ⟨a3, c3, ps, n3, hn3, rfl, hk3, told, hn2⟩; have rA2 := (rAc.alloc (.cells #[.int .u8 3] 5)).nowS hn2 hgA; have rB2 := (rC.alloc (.cells #[.int .u8 3] 5)).nowS hn2 (by omega)))
          have e5 : w4.ownsRow w.heap.size 77 1 (.slice a4 LS.length c4) LS.length (wcells LS) := own_le own4 (by have := hn2.size; simp at this; omega)
          have e6 := own_keep e5 (grownBy_setCell w4 gB 67 (.slice a4 LS.length c4)) (.inl (fun e => own_ne own4 rB3 (by decide) e.symm))
          have rB5 := rB3.tSt a4 LS.length c4 LS
          have rA5 := rA3.grown (grownBy_setCell w4 gB 67 (.slice a4 LS.length c4)) (fun e => by have := Option.some.inj e; omega)
          have e7 := own_keep e6 hg5 (.inl (fun e => own_ne e6 rA5 (by decide) e.symm))
          exact bodyPost_ret (retCT rfl _ _ 0 rfl (lvT r5)) rfl ⟨⟨stamped { zeroT with ty := 4, uni := uB, seq := (r.adv l 2).val l 2, intv := ((r.adv l 2).adv l 2).val l 2 } a4 LS.length c4 LS, rfl, fun _ => hEK.out _ _ _, e7⟩, _, NowS.fresh h (NowS.fresh h (((hN.below (ba wC (.cells #[.int .u8 3] 5))).trans hn2).below b4) (grownBy_setCell w4 gB 67 _) hgB) hg5 a1⟩
        exact AllReadyH.nil
      exact AllReadyH.nil
    refine cons_lit rfl (fun K hK => ?_) ?_
    · skip
      refine sAlG infoTz (by rfl) rfl ?_
      intro gB wB b1 b2 b3 rB
      have hgB : w.heap.size ≤ gB := Nat.le_trans hN.size b1
      have hne : gA < gB := Nat.lt_of_lt_of_le rAc.lt b1
      replace rAc := rAc.below b3 rAc.lt
      replace hN := hN.below b3
      clear b1 b2 b3
      refine hK.out _ _ ?_ (fun hHeld => ?_)
      · exact (hp.now hN).c
      clear hK K
      try simp only [Act.put, List.setIfInBounds_toArray, List.set_cons_zero, List.set_cons_succ]
      refine wpAnyH_ready (rs := [12]) (by kernel_rfl) (by simp) ?_
      refine cons_lit rfl (fun K hK => ?_) ?_
      · go_simp
        refine (u16_r hN.rd).mono ?_
        rintro e w1 ⟨rfl, hn1⟩
        replace rAc := rAc.nowS hn1 hgA
        try replace rB := rB.nowS hn1 (by omega)
        replace hN := hN.trans hn1
        clear hn1
        refine hK.out _ _ ?_ (fun hHeld => ?_)
        · exact (hp.now hN).c
        clear hK K
        try simp only [Act.put, List.setIfInBounds_toArray, List.set_cons_zero, List.set_cons_succ]
        refine take_lit (i := 13) rfl (by kernel_rfl) (by kernel_rfl) (by kernel_rfl) (fun _ _ _ h => h) (yB [(0, .const (.int .u8 4)), (7, .tmp 15), (3, .tmp 20), (2, .tmp 25)] (by rfl) rfl (bdHello _ _ _)) (by assumption) ?_
        try simp only [Act.put, List.setIfInBounds_toArray, List.set_cons_zero, List.set_cons_succ]
        refine wpAnyH_ready (rs := [15]) (by kernel_rfl) (by simp) ?_
        refine cons_lit rfl (fun K hK => ?_) ?_
        · skip
          refine sStT (.tmp 5) (.tmp 26) (by rfl) rfl gB { zeroT with ty := 4, uni := uB, seq := (r.adv l 2).val l 2, intv := ((r.adv l 2).adv l 2).val l 2 } _ rfl rfl rB ?_
          intro wC hgC rC
          replace rAc := rAc.grown hgC (fun e => by have := Option.some.inj e; omega)
          replace hN := NowS.fresh h hN hgC hgB
          clear hgC rB
          refine hK.out _ _ ?_ (fun hHeld => ?_)
          · exact (hp.now hN).c
          clear hK K
          try simp only [Act.put, List.setIfInBounds_toArray, List.set_cons_zero, List.set_cons_succ]
          refine wpAnyH_done (by kernel_rfl) ?_ _
          refine NoPanic.normal ?_
          clear hHeld
          have hpC := hp.now hN
          have c1 := hpC.c
          have hsz := hN.size
          have cB : wC.cell? ⟨gB, 67, none⟩ = some _ := (rC.cell 67).trans (tcells_get _)
          have fB := rC.frozen 67
          go_wp2_with (first
            | (have kk := b4; refine stT (.tmp 2) (.tmp 36) (by rfl) rfl gA (stamped { zeroT with ty := 4, uni := uB, seq := (r.adv l 2).val l 2, intv := ((r.adv l 2).adv l 2).val l 2 } a4 LS.length c4 LS) _ rfl rfl (rA3.grown (grownBy_setCell w4 gB 67 _) (fun e => by have := Option.some.inj e; omega)) ?_; intro w5 hg5 r5)
            | (have kk := b4; refine ldT (.tmp 5) (by rfl) rfl gB (stamped { zeroT with ty := 4, uni := uB, seq := (r.adv l 2).val l 2, intv := ((r.adv l 2).adv l 2).val l 2 } a4 LS.length c4 LS) rfl (rB3.tSt a4 LS.length c4 LS) ?_)
            | (go_at_call 73; have kk := told; refine (HST.out _ _ _ _ told hk3).mono ?_; rintro e w4 ⟨a4, c4, rfl, own4, b4⟩; have rA3 := rA2.below b4 rA2.lt; have rB3 := rB2.below b4 rB2.lt; have cB3 : w4.cell? ⟨gB, 67, none⟩ = some _ := (rB3.cell 67).trans (tcells_get _); have fB3 := rB3.frozen 67)
            | (go_at_call 72; refine (HW.out _ _ (hpC.below (ba _ _)) (hN.rd.below (ba _ _)) (new_src wC #[.int .u8 3]) (show wC.heap.size ≠ g by have := hN.size; omega)).mono ?_; rintro e w3 ⟨a3, c3, ps, n3, hn3, rfl, hk3, told, hn2⟩; have rA2 := (rAc.alloc (.cells #[.int .u8 3] 5)).nowS hn2 hgA; have rB2 := (rC.alloc (.cells #[.int .u8 3] 5)).nowS hn2 (by omega)))
          have e5 : w4.ownsRow w.heap.size 77 1 (.slice a4 LS.length c4) LS.length (wcells LS) := own_le own4 (by have := hn2.size; simp at this; omega)
          have e6 := own_keep e5 (grownBy_setCell w4 gB 67 (.slice a4 LS.length c4)) (.inl (fun e => own_ne own4 rB3 (by decide) e.symm))
          have rB5 := rB3.tSt a4 LS.length c4 LS
          have rA5 := rA3.grown (grownBy_setCell w4 gB 67 (.slice a4 LS.length c4)) (fun e => by have := Option.some.inj e; omega)
          have e7 := own_keep e6 hg5 (.inl (fun e => own_ne e6 rA5 (by decide) e.symm))
          exact bodyPost_ret (retCT rfl _ _ 0 rfl (lvT r5)) rfl ⟨⟨stamped { zeroT with ty := 4, uni := uB, seq := (r.adv l 2).val l 2, intv := ((r.adv l 2).adv l 2).val l 2 } a4 LS.length c4 LS, rfl, fun _ => hEK.out _ _ _, e7⟩, _, NowS.fresh h (NowS.fresh h (((hN.below (ba wC (.cells #[.int .u8 3] 5))).trans hn2).below b4) (grownBy_setCell w4 gB 67 _) hgB) hg5 a1⟩
        exact AllReadyH.nil
      exact AllReadyH.nil
    exact AllReadyH.nil
  refine cons_lit rfl (fun K hK => ?_) ?_
  · skip
    refine sAlG infoTz (by rfl) rfl ?_
    intro gB wB b1 b2 b3 rB
    have hgB : w.heap.size ≤ gB := Nat.le_trans hN.size b1
    have hne : gA < gB := Nat.lt_of_lt_of_le rAc.lt b1
    replace rAc := rAc.below b3 rAc.lt
    replace hN := hN.below b3
    clear b1 b2 b3
    refine hK.out _ _ ?_ (fun hHeld => ?_)
    · exact (hp.now hN).c
    clear hK K
    try simp only [Act.put, List.setIfInBounds_toArray, List.set_cons_zero, List.set_cons_succ]
    refine wpAnyH_ready (rs := [7]) (by kernel_rfl) (by simp) ?_
    refine cons_lit rfl (fun K hK => ?_) ?_
    · go_simp
      refine (u16_r hN.rd).mono ?_
      rintro e w1 ⟨rfl, hn1⟩
      replace rAc := rAc.nowS hn1 hgA
      try replace rB := rB.nowS hn1 (by omega)
      replace hN := hN.trans hn1
      clear hn1
      refine hK.out _ _ ?_ (fun hHeld => ?_)
      · exact (hp.now hN).c
      clear hK K
      try simp only [Act.put, List.setIfInBounds_toArray, List.set_cons_zero, List.set_cons_succ]
      refine wpAnyH_ready (rs := [12]) (by kernel_rfl) (by simp) ?_
      refine cons_lit rfl (fun K hK => ?_) ?_
      · go_simp
        refine (u16_r hN.rd).mono ?_
        rintro e w1 ⟨rfl, hn1⟩
        replace rAc := rAc.nowS hn1 hgA
        try replace rB := rB.nowS hn1 (by omega)
        replace hN := hN.trans hn1
        clear hn1
        refine hK.out _ _ ?_ (fun hHeld => ?_)
        · exact (hp.now hN).c
        clear hK K
        try simp only [Act.put, List.setIfInBounds_toArray, List.set_cons_zero, List.set_cons_succ]
        refine take_lit (i := 13) rfl (by kernel_rfl) (by kernel_rfl) (by kernel_rfl) (fun _ _ _ h => h) (yB [(0, .const (.int .u8 4)), (7, .tmp 15), (3, .tmp 20), (2, .tmp 25)] (by rfl) rfl (bdHello _ _ _)) (by assumption) ?_
        try simp only [Act.put, List.setIfInBounds_toArray, List.set_cons_zero, List.set_cons_succ]
        refine wpAnyH_ready (rs := [15]) (by kernel_rfl) (by simp) ?_
        refine cons_lit rfl (fun K hK => ?_) ?_
        · skip
          refine sStT (.tmp 5) (.tmp 26) (by rfl) rfl gB { zeroT with ty := 4, uni := uB, seq := (r.adv l 2).val l 2, intv := ((r.adv l 2).adv l 2).val l 2 } _ rfl rfl rB ?_
          intro wC hgC rC
          replace rAc := rAc.grown hgC (fun e => by have := Option.some.inj e; omega)
          replace hN := NowS.fresh h hN hgC hgB
          clear hgC rB
          refine hK.out _ _ ?_ (fun hHeld => ?_)
          · exact (hp.now hN).c
          clear hK K
          try simp only [Act.put, List.setIfInBounds_toArray, List.set_cons_zero, List.set_cons_succ]
          refine wpAnyH_done (by kernel_rfl) ?_ _
          refine NoPanic.normal ?_
          clear hHeld
          have hpC := hp.now hN
          have c1 := hpC.c
          have hsz := hN.size
          have cB : wC.cell? ⟨gB, 67, none⟩ = some _ := (rC.cell 67).trans (tcells_get _)
          have fB := rC.frozen 67
          go_wp2_with (first
            | (have kk := b4; refine stT (.tmp 2) (.tmp 36) (by rfl) rfl gA (stamped { zeroT with ty := 4, uni := uB, seq := (r.adv l 2).val l 2, intv := ((r.adv l 2).adv l 2).val l 2 } a4 LS.length c4 LS) _ rfl rfl (rA3.grown (grownBy_setCell w4 gB 67 _) (fun e => by have := Option.some.inj e; omega)) ?_; intro w5 hg5 r5)
            | (have kk := b4; refine ldT (.tmp 5) (by rfl) rfl gB (stamped { zeroT with ty := 4, uni := uB, seq := (r.adv l 2).val l 2, intv := ((r.adv l 2).adv l 2).val l 2 } a4 LS.length c4 LS) rfl (rB3.tSt a4 LS.length c4 LS) ?_)
            | (go_at_call 73; have kk := told; refine (HST.out _ _ _ _ told hk3).mono ?_; rintro e w4 ⟨a4, c4, rfl, own4, b4⟩; have rA3 := rA2.below b4 rA2.lt; have rB3 := rB2.below b4 rB2.lt; have cB3 : w4.cell? ⟨gB, 67, none⟩ = some _ := (rB3.cell 67).trans (tcells_get _); have fB3 := rB3.frozen 67)
            | (go_at_call 72; refine (HW.out _ _ (hpC.below (ba _ _)) (hN.rd.below (ba _ _)) (new_src wC #[.int .u8 3]) (show wC.heap.size ≠ g by have := hN.size; omega)).mono ?_; rintro e w3 ⟨a3, c3, ps, n3, hn3, rfl, hk3, told, hn2⟩; have rA2 := (rAc.alloc (.cells #[.int .u8 3] 5)).nowS hn2 hgA; have rB2 := (rC.alloc (.cells #[.int .u8 3] 5)).nowS hn2 (by omega)))
          have e5 : w4.ownsRow w.heap.size 77 1 (.slice a4 LS.length c4) LS.length (wcells LS) := own_le own4 (by have := hn2.size; simp at this; omega)
          have e6 := own_keep e5 (grownBy_setCell w4 gB 67 (.slice a4 LS.length c4)) (.inl (fun e => own_ne own4 rB3 (by decide) e.symm))
          have rB5 := rB3.tSt a4 LS.length c4 LS
          have rA5 := rA3.grown (grownBy_setCell w4 gB 67 (.slice a4 LS.length c4)) (fun e => by have := Option.some.inj e; omega)
          have e7 := own_keep e6 hg5 (.inl (fun e => own_ne e6 rA5 (by decide) e.symm))
          exact bodyPost_ret (retCT rfl _ _ 0 rfl (lvT r5)) rfl ⟨⟨stamped { zeroT with ty := 4, uni := uB, seq := (r.adv l 2).val l 2, intv := ((r.adv l 2).adv l 2).val l 2 } a4 LS.length c4 LS, rfl, fun _ => hEK.out _ _ _, e7⟩, _, NowS.fresh h (NowS.fresh h (((hN.below (ba wC (.cells #[.int .u8 3] 5))).trans hn2).below b4) (grownBy_setCell w4 gB 67 _) hgB) hg5 a1⟩
        exact AllReadyH.nil
      exact AllReadyH.nil
    exact AllReadyH.nil
  exact AllReadyH.nil
end Go.Proofs.Ytaleclmccmeglaa
