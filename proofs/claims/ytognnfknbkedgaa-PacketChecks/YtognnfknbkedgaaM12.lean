/-
  The contract of pair of package packet.
-/
import Derived.Test.YtognnfknbkedgaaM10
import Derived.Test.YtognnfknbkedgaaM11
namespace Go.Proofs.Ytognnfknbkedgaa
open Go.RowKit
set_option linter.unusedSimpArgs false
set_option maxRecDepth 20000
variable {bv : Option Addr}

section
variable {ops : Array Oper} {op : Oper} {a : Act} {w : World} {Q : Exit → Act → World → Prop} {K : Act → World → Prop} {E : Prop}
theorem sStQ (x y : Operand) (hw : Region.wanted op (yielded ops a.tmps) = true) (ho : op.op = .store 30 x y) (b : Nat) (q : Pr) (cs : List Value) (hl : cs.length = 34) (hx : a.eval x = .pointer (some ⟨b, 0, none⟩)) (hy : a.eval y = (Value.agg (qcells q).toArray)) (hr : Row w b 30 cs)
    (h : ∀ W, w.grownBy W (some b) → Row W b 30 (qcells q) → K (a.put op.dst undef) W) : if Region.wanted op (yielded ops a.tmps) = true then Oper.wp Try.prog op a w K Q else E := by
  rw [if_pos hw]
  refine wp_store_mid _ x y ho b 0 _ hx hy (by simpa [qcells_len] using hr.there (n := 34) (by omega)) (by rw [infoQ]; simp [qcells_len]) (all_oneCell_toArray (qcells_one q)) (h _ (grownBy_setCells b _ _ _) ?_)
  have := Row.setCells (qcells q) [] w cs hr (by rw [qcells_len, hl])
  simpa using this
end
theorem Row.qSrc {w : World} {g : Nat} {d s : Pf} (hr : Row w g 30 (qcells ⟨d, s⟩)) (s' : Pf) : Row (w.setCells g 17 (pcells s')) g 30 (qcells ⟨d, s'⟩) := by
  have h := Row.setMid (pcells s') (pcells d) (pcells s) [] w (by rw [List.append_nil]; exact hr) (by rw [pcells_len, pcells_len])
  rw [List.append_nil, pcells_len] at h
  exact h
/-- The pair that a piece tells, and whether it may be. -/
def prK (s : St) (ae : Nat) (dst : Pf) (l : List UInt8) (r : RS) : Pr := match wiL [128] l r with
  | [] => ⟨dst, anyP (famP dst)⟩
  | k :: _ => ⟨dst, soP s ae k.2 ⟨0, 0⟩⟩
def prW (s : St) (ae : Nat) (l : List UInt8) (r : RS) : Bool := match wiL [128] l r with
  | [] => true
  | k :: _ => (soN s ae k.2 ⟨0, 0⟩).y == 0
def prB (s : St) (ae : Nat) (dst : Pf) (l : List UInt8) (r : RS) : Bool := if wiB [128] l r && decide ((wiL [128] l r).length ≤ 1) then prW s ae l r && (chkQ (prK s ae dst l r) == 0) else false
def prQ (s : St) (ae : Nat) (dst : Pf) (l : List UInt8) (r : RS) : Pr := if wiB [128] l r && decide ((wiL [128] l r).length ≤ 1) then prK s ae dst l r else zeroQ
theorem wiB_y {ts l : List UInt8} {r : RS} (h : wiB ts l r = true) : wiR l r = ⟨l.length, 0⟩ := by
  unfold wiB at h
  unfold wiR
  split at h
  · rename_i h0
    rw [if_pos h0]
  · cases h
theorem one_of {ps : List Pc} {k : UInt8 × List UInt8} (h : keys ps = [k]) : ∃ p, ps = [p] ∧ Hid (p.l = k.2) := by
  match ps, h with
  | [p], h =>
    refine ⟨p, rfl, ?_⟩
    simp [keys] at h
    show _ = _
    rw [← h]
section
variable {ops : Array Oper} {rest : List Oper} {op : Oper} {a : Act} {w : World} {Q : Exit → Act → World → Prop}
theorem stPm (x y : Operand) (hw : Region.wanted op (yielded ops a.tmps) = true) (ho : op.op = .store 28 x y) (b : Nat) (d s s' : Pf) (hx : a.eval x = .pointer (some ⟨b, 17, none⟩)) (hy : a.eval y = (Value.agg (pcells (s')).toArray)) (hr : Row w b 30 (qcells ⟨d, s⟩))
    (h : ∀ W, w.grownBy W (some b) → Row W b 30 (qcells ⟨d, s'⟩) → wpList Try.prog ops Q rest (a.put op.dst undef) W) : wpList Try.prog ops Q (op :: rest) a w :=
  stP x y hw ho b 17 s' hx hy (hr.thereMid (by rw [qcells_len]; omega)) (h _ (grownBy_setCells b _ _ _) (hr.qSrc s'))
end
/-- What pair answers. -/
def Paired (w : World) (P g : Nat) (s : St) (q : Pr) (b : Bool) (e : Ending) (w' : World) : Prop := e = .returned (.tuple #[(Value.agg (qcells q).toArray), .bool b]) ∧ (∃ R, Par w' P R s) ∧ Mv w w' P g
theorem pair_no1 {w : World} {P g : Nat} {l : List UInt8} {r : RS} {s : St} (ae : Nat) (dst : Pf) (hl : l.length ≤ 100000) (hpar : Par w P (some g) s) (h : RdS w g bv l r) (hb : wiB [128] l r = false) :
    Calls Try.prog 87 #[.pointer (some ⟨P, 0, none⟩), .int .u8 (ae : Int), (Value.agg (pcells dst).toArray)] w (Paired w P g s zeroQ false) := by
  have hp := hpar.pg h
  have hlt := h.lt
  have HW : Hid (∀ W a, Pg W P g → RdS W g bv l r → Src W (some a) 1 1 (bcells [128]) → a.block ≠ g → Calls Try.prog 78 #[.pointer (some ⟨P, 0, none⟩), .slice (some a) 1 1] W fun e w' => ∃ a' c' ps n, Hid (n = ps.length) ∧ e = .returned (.tuple #[.slice a' n c', .bool false]) ∧ Hid (n = ps.length ∧ keys ps = wiL [128] l r ∧ ps.length ≤ 100000) ∧ Told W w' a' c' ps ∧ NowS W w' g bv l (wiR l r)) := fun W a h1 h2 h3 h4 => by
    rw [← hb]
    refine (within_any h1 h2 hl (some a) 1 1 [128] h3 (by decide) (fun _ h => by cases h; exact h4)).mono ?_
    rintro e w' ⟨a', c', ps, rfl, k1, k2, k3, hn⟩
    exact ⟨a', c', ps, _, (rfl : _ = _), rfl, ⟨rfl, k1, k2⟩, k3, hn⟩
  clear hb
  go_enter Try.func87, Try.ntmps87
  go_wp2_with (first
      | (have kk := hn2; refine stQ0 (.tmp 6) (.tmp 24) (by rfl) rfl gA zeroQ _ (qcells_len _) rfl rfl rA3 ?_; intro w5 hg5 r5)
      | (go_at_call 78; refine (HW.out _ _ ((hp.below bA).below (ba _ _)) ((h.below bA).below (ba _ _)) (new_src wA #[.int .u8 128]) (show wA.heap.size ≠ g by have := bA.size; omega)).mono ?_; rintro e w3 ⟨a3, c3, ps, n3, hn3, rfl, hk3, told, hn2⟩; have rA3 := (rA.alloc (.cells #[.int .u8 128] 5)).nowS hn2 (by simp at a1; omega))
      | (refine alG infoQz (by rfl) rfl ?_; intro gA wA a1 a2 aw rA; have bA := bt (ba w (.cells (pcells dst).toArray 28)) aw; have rD := (Row.new w 28 (pcells dst)).below aw (Row.new w 28 (pcells dst)).lt))
  have N2 := hn2.after (bt bA (ba wA (.cells #[.int .u8 128] 5)))
  exact bodyPost_ret (retCT rfl _ _ 0 rfl (lvQ r5.range)) rfl ⟨rfl, ⟨_, hpar.now h (NowS.fresh h N2 hg5 (by simp at a1; omega))⟩, Mv.ofNow (NowS.fresh h N2 hg5 (by simp at a1; omega))⟩
theorem pair_no2 {w : World} {P g : Nat} {l : List UInt8} {r : RS} {s : St} (ae : Nat) (dst : Pf) (hl : l.length ≤ 100000) (hpar : Par w P (some g) s) (h : RdS w g bv l r) (hb : wiB [128] l r = true) (hx : 1 < (wiL [128] l r).length) :
    Calls Try.prog 87 #[.pointer (some ⟨P, 0, none⟩), .int .u8 (ae : Int), (Value.agg (pcells dst).toArray)] w (Paired w P g s zeroQ false) := by
  have hp := hpar.pg h
  have hlt := h.lt
  have HW : Hid (∀ W a, Pg W P g → RdS W g bv l r → Src W (some a) 1 1 (bcells [128]) → a.block ≠ g → Calls Try.prog 78 #[.pointer (some ⟨P, 0, none⟩), .slice (some a) 1 1] W fun e w' => ∃ a' c' ps n, Hid (n = ps.length) ∧ e = .returned (.tuple #[.slice a' n c', .bool true]) ∧ Hid (n = ps.length ∧ keys ps = wiL [128] l r ∧ ps.length ≤ 100000) ∧ Told W w' a' c' ps ∧ NowS W w' g bv l (wiR l r)) := fun W a h1 h2 h3 h4 => by
    rw [← hb]
    refine (within_any h1 h2 hl (some a) 1 1 [128] h3 (by decide) (fun _ h => by cases h; exact h4)).mono ?_
    rintro e w' ⟨a', c', ps, rfl, k1, k2, k3, hn⟩
    exact ⟨a', c', ps, _, (rfl : _ = _), rfl, ⟨rfl, k1, k2⟩, k3, hn⟩
  have HX : Hid (1 < (wiL [128] l r).length) := hx
  clear hx
  clear hb
  go_enter Try.func87, Try.ntmps87
  go_wp2_with (first
      | (have kk := hn2; refine stQ0 (.tmp 6) (.tmp 24) (by rfl) rfl gA zeroQ _ (qcells_len _) rfl rfl rA3 ?_; intro w5 hg5 r5)
      | (go_at_call 78; refine (HW.out _ _ ((hp.below bA).below (ba _ _)) ((h.below bA).below (ba _ _)) (new_src wA #[.int .u8 128]) (show wA.heap.size ≠ g by have := bA.size; omega)).mono ?_; rintro e w3 ⟨a3, c3, ps, n3, hn3, rfl, hk3, told, hn2⟩; have rA3 := (rA.alloc (.cells #[.int .u8 128] 5)).nowS hn2 (by simp at a1; omega); have hgt : (1 : Int) < (n3 : Int) := (by obtain ⟨k0, k1, _⟩ := hk3.out; have h9 := HX.out; rw [← k1] at h9; simp [keys] at h9; omega))
      | (refine alG infoQz (by rfl) rfl ?_; intro gA wA a1 a2 aw rA; have bA := bt (ba w (.cells (pcells dst).toArray 28)) aw; have rD := (Row.new w 28 (pcells dst)).below aw (Row.new w 28 (pcells dst)).lt))
  have N2 := hn2.after (bt bA (ba wA (.cells #[.int .u8 128] 5)))
  exact bodyPost_ret (retCT rfl _ _ 0 rfl (lvQ r5.range)) rfl ⟨rfl, ⟨_, hpar.now h (NowS.fresh h N2 hg5 (by simp at a1; omega))⟩, Mv.ofNow (NowS.fresh h N2 hg5 (by simp at a1; omega))⟩
set_option maxHeartbeats 1000000 in
theorem pair_0 {w : World} {P g : Nat} {l : List UInt8} {r : RS} {s : St} (ae : Nat) (dst : Pf) (hl : l.length ≤ 100000) (hpar : Par w P (some g) s) (h : RdS w g bv l r) (hb : wiB [128] l r = true) (hx : (wiL [128] l r).length = 0) :
    Calls Try.prog 87 #[.pointer (some ⟨P, 0, none⟩), .int .u8 (ae : Int), (Value.agg (pcells dst).toArray)] w (Paired w P g s ⟨dst, anyP (famP dst)⟩ (chkQ ⟨dst, anyP (famP dst)⟩ == 0)) := by
  have hR := wiB_y hb
  have hp := hpar.pg h
  have hlt := h.lt
  have HW : Hid (∀ W a, Pg W P g → RdS W g bv l r → Src W (some a) 1 1 (bcells [128]) → a.block ≠ g → Calls Try.prog 78 #[.pointer (some ⟨P, 0, none⟩), .slice (some a) 1 1] W fun e w' => ∃ a' c' ps n, Hid (n = ps.length) ∧ e = .returned (.tuple #[.slice a' n c', .bool true]) ∧ Hid (n = ps.length ∧ keys ps = wiL [128] l r ∧ ps.length ≤ 100000) ∧ Told W w' a' c' ps ∧ NowS W w' g bv l (wiR l r)) := fun W a h1 h2 h3 h4 => by
    rw [← hb]
    refine (within_any h1 h2 hl (some a) 1 1 [128] h3 (by decide) (fun _ h => by cases h; exact h4)).mono ?_
    rintro e w' ⟨a', c', ps, rfl, k1, k2, k3, hn⟩
    exact ⟨a', c', ps, _, (rfl : _ = _), rfl, ⟨rfl, k1, k2⟩, k3, hn⟩
  have HX : Hid ((wiL [128] l r).length = 0) := hx
  rw [hR] at HW
  clear hx hb hR
  go_enter Try.func87, Try.ntmps87
  go_wp2_with (first
      | (go_at_call 78; refine (HW.out _ _ ((hp.below bA).below (ba _ _)) ((h.below bA).below (ba _ _)) (new_src wA #[.int .u8 128]) (show wA.heap.size ≠ g by have := bA.size; omega)).mono ?_; rintro e w3 ⟨a3, c3, ps, n3, hn3, rfl, hk3, told, hn2⟩; obtain rfl : n3 = 0 := (by obtain ⟨k0, k1, _⟩ := hk3.out; have h9 := HX.out; rw [← k1] at h9; simp [keys] at h9; rw [k0, h9]; rfl))
      | (refine alG infoQz (by rfl) rfl ?_; intro gA wA a1 a2 aw rA; have bA := bt (ba w (.cells (pcells dst).toArray 28)) aw; have rD := (Row.new w 28 (pcells dst)).below aw (Row.new w 28 (pcells dst)).lt))
  have rA3 := (rA.alloc (.cells #[.int .u8 128] 5)).nowS hn2 (by simp at a1; omega)
  have rD3 := (rD.alloc (.cells #[.int .u8 128] 5)).nowS hn2 (by omega)
  have N3 := hn2.after (bt bA (ba wA (.cells #[.int .u8 128] 5)))
  have hA0 : w.heap.size ≤ gA := by simp at a1; omega
  have hAD : gA < w3.heap.size := rA3.lt
  have hqA : gA ≠ g := by omega
  have hB := bd w3
  have hs3 := N3.size
  clear aw rA rD bA a1 a2
  refine wp_region_noPanic ?_
  refine wp_region_held_drew (S := fun W => Row W w.heap.size 28 (pcells dst)) (by kernel_rfl) (rD3.below hB rD3.lt) (fun hHeld => ?_)
  refine tL 0 rfl (yP dst (fun W hW => hW.range) (by rfl) rfl rfl) ?_
  refine tL 1 rfl (yP dst (fun W hW => hW.range) (by rfl) rfl rfl) ?_
  refine rM [2,5] ?_
  refine cL (fun K hK => ?_) ?_
  · skip
    go_simp
    refine (pfam_any dst _).mono ?_
    rintro e w4 ⟨rfl, hb4⟩
    try replace rB := rB.below hb4 rB.lt
    replace hB := hB.trans (hb4.mono hB.size)
    refine oK hK (by exact rD3.below hB rD3.lt) fun hHeld => ?_
    clear hK K
    refine rM [3,5] ?_
    refine cL (fun K hK => ?_) ?_
    · skip
      go_simp
      refine (any_any _ _).mono ?_
      rintro e w4 ⟨rfl, hb4⟩
      try replace rB := rB.below hb4 rB.lt
      replace hB := hB.trans (hb4.mono hB.size)
      refine oK hK (by exact rD3.below hB rD3.lt) fun hHeld => ?_
      clear hK K
      refine tL 4 rfl (yB [(0, .tmp 25), (1, .tmp 28)] (by rfl) rfl (bdPr dst (anyP (famP dst)))) ?_
      refine r1 5 fun K hK => ?_
      refine sAlG infoQz (by rfl) rfl ?_
      intro gB wB b1 b2 b3 rB
      have hgB : w3.heap.size ≤ gB := Nat.le_trans hB.size b1
      replace hB := hB.trans (b3.mono hB.size)
      clear b1 b2 b3
      refine oK hK (by exact rD3.below hB rD3.lt) fun hHeld => ?_
      clear hK K
      refine r1 6 fun K hK => ?_
      refine sStQ (.tmp 10) (.tmp 29) (by rfl) rfl gB ⟨dst, anyP (famP dst)⟩ _ (qcells_len _) rfl rfl rB ?_
      intro wC hgC rC
      replace hB := hB.grown hgC hB.size (fun k hk => by cases hk; exact hgB)
      refine oK hK (by exact rD3.below hB rD3.lt) fun hHeld => ?_
      clear hK K
      refine dN ?_
      refine NoPanic.normal ?_
      clear hHeld
      have rAf := rA3.below hB rA3.lt
      have NF := N3.below hB
      have PF := hpar.now h NF
      have MF : Mv w wC P g := Mv.ofNow NF
      have hqB : gB ≠ g := by omega
      go_wp2
      have RF := NF.rd.below (bd wC)
      have PD := PF.below (bd wC)
      replace rC := rC.below (bd wC) rC.lt
      replace rAf := rAf.below (bd wC) rAf.lt
      replace MF := MF.trans (Mv.ofB (bd wC))
      replace PF := PD
      clear PD
      refine wp_region_noPanic ?_
      refine wp_region_held_drew (S := fun W => Row W gB 30 (qcells (⟨dst, anyP (famP dst)⟩))) (by kernel_rfl) (rC) (fun hHeld => ?_)
      refine tL 0 rfl (yQ (⟨dst, anyP (famP dst)⟩) (fun W hW => hW.range) (by rfl) rfl rfl) ?_
      refine tA 1 ?_
      refine r1 2 fun K hK => ?_
      go_simp
      refine (well_any (PF.pg RF) RF).mono ?_
      rintro e w6 ⟨rfl, hn6⟩
      have rF6 := rAf
      replace rAf := rAf.nowS hn6 hqA
      replace rC := rC.nowS hn6 hqB
      replace PF := PF.now RF hn6
      replace MF := MF.trans (Mv.ofNow hn6)
      refine oK hK (by exact rC) fun hHeld => ?_
      clear hK K
      refine tA 3 ?_
      refine tL 4 rfl (yQ (⟨dst, anyP (famP dst)⟩) (fun W hW => hW.range) (by rfl) rfl rfl) ?_
      refine r1 5 fun K hK => ?_
      go_simp
      refine (checkQ_any (⟨dst, anyP (famP dst)⟩) _).mono ?_
      rintro e w7 ⟨rfl, hb7⟩
      replace rAf := rAf.below hb7 rAf.lt
      replace rC := rC.below hb7 rC.lt
      replace PF := PF.below hb7
      replace MF := MF.trans (Mv.ofB hb7)
      refine oK hK (by exact rC) fun hHeld => ?_
      clear hK K
      refine tA 6 ?_
      refine tA 7 ?_
      refine r1 8 fun K hK => ?_
      refine sStQ (.tmp 6) (.tmp 45) (by rfl) rfl gA (⟨dst, anyP (famP dst)⟩) _ (qcells_len _) rfl rfl rAf ?_
      intro w8 hg8 r8
      have rC8 := rC.grown hg8 (fun e => by have := Option.some.inj e; omega)
      replace PF := PF.fresh hg8 (fun t cs hr => by unfold Row at hr rAf; rw [rAf] at hr; cases hr; exact ⟨by decide, by decide, by decide⟩)
      replace MF := MF.fresh hg8 hA0
      refine oK hK (by exact rC8) fun hHeld => ?_
      clear hK K
      refine tA 9 ?_
      refine dN ?_
      refine NoPanic.normal ?_
      go_wp2
      exact bodyPost_ret (retCT rfl _ _ 0 rfl (lvQ r8.range)) rfl ⟨rfl, ⟨_, PF⟩, MF⟩
    refine cE fun K hK => ?_
    refine sAlG infoQz (by rfl) rfl ?_
    intro gB wB b1 b2 b3 rB
    have hgB : w3.heap.size ≤ gB := Nat.le_trans hB.size b1
    replace hB := hB.trans (b3.mono hB.size)
    clear b1 b2 b3
    refine oK hK (by exact rD3.below hB rD3.lt) fun hHeld => ?_
    clear hK K
    refine r1 3 fun K hK => ?_
    go_simp
    refine (any_any _ _).mono ?_
    rintro e w4 ⟨rfl, hb4⟩
    try replace rB := rB.below hb4 rB.lt
    replace hB := hB.trans (hb4.mono hB.size)
    refine oK hK (by exact rD3.below hB rD3.lt) fun hHeld => ?_
    clear hK K
    refine tL 4 rfl (yB [(0, .tmp 25), (1, .tmp 28)] (by rfl) rfl (bdPr dst (anyP (famP dst)))) ?_
    refine r1 6 fun K hK => ?_
    refine sStQ (.tmp 10) (.tmp 29) (by rfl) rfl gB ⟨dst, anyP (famP dst)⟩ _ (qcells_len _) rfl rfl rB ?_
    intro wC hgC rC
    replace hB := hB.grown hgC hB.size (fun k hk => by cases hk; exact hgB)
    refine oK hK (by exact rD3.below hB rD3.lt) fun hHeld => ?_
    clear hK K
    refine dN ?_
    refine NoPanic.normal ?_
    clear hHeld
    have rAf := rA3.below hB rA3.lt
    have NF := N3.below hB
    have PF := hpar.now h NF
    have MF : Mv w wC P g := Mv.ofNow NF
    have hqB : gB ≠ g := by omega
    go_wp2
    have RF := NF.rd.below (bd wC)
    have PD := PF.below (bd wC)
    replace rC := rC.below (bd wC) rC.lt
    replace rAf := rAf.below (bd wC) rAf.lt
    replace MF := MF.trans (Mv.ofB (bd wC))
    replace PF := PD
    clear PD
    refine wp_region_noPanic ?_
    refine wp_region_held_drew (S := fun W => Row W gB 30 (qcells (⟨dst, anyP (famP dst)⟩))) (by kernel_rfl) (rC) (fun hHeld => ?_)
    refine tL 0 rfl (yQ (⟨dst, anyP (famP dst)⟩) (fun W hW => hW.range) (by rfl) rfl rfl) ?_
    refine tA 1 ?_
    refine r1 2 fun K hK => ?_
    go_simp
    refine (well_any (PF.pg RF) RF).mono ?_
    rintro e w6 ⟨rfl, hn6⟩
    have rF6 := rAf
    replace rAf := rAf.nowS hn6 hqA
    replace rC := rC.nowS hn6 hqB
    replace PF := PF.now RF hn6
    replace MF := MF.trans (Mv.ofNow hn6)
    refine oK hK (by exact rC) fun hHeld => ?_
    clear hK K
    refine tA 3 ?_
    refine tL 4 rfl (yQ (⟨dst, anyP (famP dst)⟩) (fun W hW => hW.range) (by rfl) rfl rfl) ?_
    refine r1 5 fun K hK => ?_
    go_simp
    refine (checkQ_any (⟨dst, anyP (famP dst)⟩) _).mono ?_
    rintro e w7 ⟨rfl, hb7⟩
    replace rAf := rAf.below hb7 rAf.lt
    replace rC := rC.below hb7 rC.lt
    replace PF := PF.below hb7
    replace MF := MF.trans (Mv.ofB hb7)
    refine oK hK (by exact rC) fun hHeld => ?_
    clear hK K
    refine tA 6 ?_
    refine tA 7 ?_
    refine r1 8 fun K hK => ?_
    refine sStQ (.tmp 6) (.tmp 45) (by rfl) rfl gA (⟨dst, anyP (famP dst)⟩) _ (qcells_len _) rfl rfl rAf ?_
    intro w8 hg8 r8
    have rC8 := rC.grown hg8 (fun e => by have := Option.some.inj e; omega)
    replace PF := PF.fresh hg8 (fun t cs hr => by unfold Row at hr rAf; rw [rAf] at hr; cases hr; exact ⟨by decide, by decide, by decide⟩)
    replace MF := MF.fresh hg8 hA0
    refine oK hK (by exact rC8) fun hHeld => ?_
    clear hK K
    refine tA 9 ?_
    refine dN ?_
    refine NoPanic.normal ?_
    go_wp2
    exact bodyPost_ret (retCT rfl _ _ 0 rfl (lvQ r8.range)) rfl ⟨rfl, ⟨_, PF⟩, MF⟩
  refine cE fun K hK => ?_
  refine sAlG infoQz (by rfl) rfl ?_
  intro gB wB b1 b2 b3 rB
  have hgB : w3.heap.size ≤ gB := Nat.le_trans hB.size b1
  replace hB := hB.trans (b3.mono hB.size)
  clear b1 b2 b3
  refine oK hK (by exact rD3.below hB rD3.lt) fun hHeld => ?_
  clear hK K
  refine r1 2 fun K hK => ?_
  go_simp
  refine (pfam_any dst _).mono ?_
  rintro e w4 ⟨rfl, hb4⟩
  try replace rB := rB.below hb4 rB.lt
  replace hB := hB.trans (hb4.mono hB.size)
  refine oK hK (by exact rD3.below hB rD3.lt) fun hHeld => ?_
  clear hK K
  refine r1 3 fun K hK => ?_
  go_simp
  refine (any_any _ _).mono ?_
  rintro e w4 ⟨rfl, hb4⟩
  try replace rB := rB.below hb4 rB.lt
  replace hB := hB.trans (hb4.mono hB.size)
  refine oK hK (by exact rD3.below hB rD3.lt) fun hHeld => ?_
  clear hK K
  refine tL 4 rfl (yB [(0, .tmp 25), (1, .tmp 28)] (by rfl) rfl (bdPr dst (anyP (famP dst)))) ?_
  refine r1 6 fun K hK => ?_
  refine sStQ (.tmp 10) (.tmp 29) (by rfl) rfl gB ⟨dst, anyP (famP dst)⟩ _ (qcells_len _) rfl rfl rB ?_
  intro wC hgC rC
  replace hB := hB.grown hgC hB.size (fun k hk => by cases hk; exact hgB)
  refine oK hK (by exact rD3.below hB rD3.lt) fun hHeld => ?_
  clear hK K
  refine dN ?_
  refine NoPanic.normal ?_
  clear hHeld
  have rAf := rA3.below hB rA3.lt
  have NF := N3.below hB
  have PF := hpar.now h NF
  have MF : Mv w wC P g := Mv.ofNow NF
  have hqB : gB ≠ g := by omega
  go_wp2
  have RF := NF.rd.below (bd wC)
  have PD := PF.below (bd wC)
  replace rC := rC.below (bd wC) rC.lt
  replace rAf := rAf.below (bd wC) rAf.lt
  replace MF := MF.trans (Mv.ofB (bd wC))
  replace PF := PD
  clear PD
  refine wp_region_noPanic ?_
  refine wp_region_held_drew (S := fun W => Row W gB 30 (qcells (⟨dst, anyP (famP dst)⟩))) (by kernel_rfl) (rC) (fun hHeld => ?_)
  refine tL 0 rfl (yQ (⟨dst, anyP (famP dst)⟩) (fun W hW => hW.range) (by rfl) rfl rfl) ?_
  refine tA 1 ?_
  refine r1 2 fun K hK => ?_
  go_simp
  refine (well_any (PF.pg RF) RF).mono ?_
  rintro e w6 ⟨rfl, hn6⟩
  have rF6 := rAf
  replace rAf := rAf.nowS hn6 hqA
  replace rC := rC.nowS hn6 hqB
  replace PF := PF.now RF hn6
  replace MF := MF.trans (Mv.ofNow hn6)
  refine oK hK (by exact rC) fun hHeld => ?_
  clear hK K
  refine tA 3 ?_
  refine tL 4 rfl (yQ (⟨dst, anyP (famP dst)⟩) (fun W hW => hW.range) (by rfl) rfl rfl) ?_
  refine r1 5 fun K hK => ?_
  go_simp
  refine (checkQ_any (⟨dst, anyP (famP dst)⟩) _).mono ?_
  rintro e w7 ⟨rfl, hb7⟩
  replace rAf := rAf.below hb7 rAf.lt
  replace rC := rC.below hb7 rC.lt
  replace PF := PF.below hb7
  replace MF := MF.trans (Mv.ofB hb7)
  refine oK hK (by exact rC) fun hHeld => ?_
  clear hK K
  refine tA 6 ?_
  refine tA 7 ?_
  refine r1 8 fun K hK => ?_
  refine sStQ (.tmp 6) (.tmp 45) (by rfl) rfl gA (⟨dst, anyP (famP dst)⟩) _ (qcells_len _) rfl rfl rAf ?_
  intro w8 hg8 r8
  have rC8 := rC.grown hg8 (fun e => by have := Option.some.inj e; omega)
  replace PF := PF.fresh hg8 (fun t cs hr => by unfold Row at hr rAf; rw [rAf] at hr; cases hr; exact ⟨by decide, by decide, by decide⟩)
  replace MF := MF.fresh hg8 hA0
  refine oK hK (by exact rC8) fun hHeld => ?_
  clear hK K
  refine tA 9 ?_
  refine dN ?_
  refine NoPanic.normal ?_
  go_wp2
  exact bodyPost_ret (retCT rfl _ _ 0 rfl (lvQ r8.range)) rfl ⟨rfl, ⟨_, PF⟩, MF⟩
set_option maxHeartbeats 2000000 in
theorem pair_1true {w : World} {P g : Nat} {l : List UInt8} {r : RS} {s : St} (ae : Nat) (dst : Pf) (hl : l.length ≤ 100000) (hpar : Par w P (some g) s) (h : RdS w g bv l r) (hb : wiB [128] l r = true) {k : UInt8 × List UInt8} (hx : wiL [128] l r = [k]) (hw : ((soN s ae k.2 ⟨0, 0⟩).y == 0) = true) :
    Calls Try.prog 87 #[.pointer (some ⟨P, 0, none⟩), .int .u8 (ae : Int), (Value.agg (pcells dst).toArray)] w (Paired w P g s ⟨dst, soP s ae k.2 ⟨0, 0⟩⟩ (chkQ ⟨dst, soP s ae k.2 ⟨0, 0⟩⟩ == 0)) := by
  have hR := wiB_y hb
  have hp := hpar.pg h
  have hlt := h.lt
  have HW : Hid (∀ W a, Pg W P g → RdS W g bv l r → Src W (some a) 1 1 (bcells [128]) → a.block ≠ g → Calls Try.prog 78 #[.pointer (some ⟨P, 0, none⟩), .slice (some a) 1 1] W fun e w' => ∃ a' c' ps n, Hid (n = ps.length) ∧ e = .returned (.tuple #[.slice a' n c', .bool true]) ∧ Hid (n = ps.length ∧ keys ps = wiL [128] l r ∧ ps.length ≤ 100000) ∧ Told W w' a' c' ps ∧ NowS W w' g bv l (wiR l r)) := fun W a h1 h2 h3 h4 => by
    rw [← hb]
    refine (within_any h1 h2 hl (some a) 1 1 [128] h3 (by decide) (fun _ h => by cases h; exact h4)).mono ?_
    rintro e w' ⟨a', c', ps, rfl, k1, k2, k3, hn⟩
    exact ⟨a', c', ps, _, (rfl : _ = _), rfl, ⟨rfl, k1, k2⟩, k3, hn⟩
  have HX : Hid (wiL [128] l r = [k]) := hx
  have HKL : Hid (k.2.length ≤ 100000) := by
    have k9 : k ∈ wiL [128] l r := by rw [hx]; simp
    unfold wiL at k9
    split at k9
    · have := spl_le _ _ _ (List.mem_filter.1 k9).1
      simp at this
      show _ ≤ _
      omega
    · cases k9
  rw [hR] at HW
  have HWE : Hid (((soN s ae k.2 ⟨0, 0⟩).y == 0) = true) := hw
  clear hx hb hR hw
  go_enter Try.func87, Try.ntmps87
  go_wp2_with (first
      | (go_at_call 78; refine (HW.out _ _ ((hp.below bA).below (ba _ _)) ((h.below bA).below (ba _ _)) (new_src wA #[.int .u8 128]) (show wA.heap.size ≠ g by have := bA.size; omega)).mono ?_; rintro e w3 ⟨a3, c3, ps, n3, hn3, rfl, hk3, told, hn2⟩; obtain ⟨p, hp1, hp2⟩ : ∃ p, ps = [p] ∧ Hid (p.l = k.2) := (by obtain ⟨k0, k1, _⟩ := hk3.out; rw [HX.out] at k1; exact one_of k1); subst hp1; obtain rfl : n3 = 1 := hn3.out)
      | (refine alG infoQz (by rfl) rfl ?_; intro gA wA a1 a2 aw rA; have bA := bt (ba w (.cells (pcells dst).toArray 28)) aw; have rD := (Row.new w 28 (pcells dst)).below aw (Row.new w 28 (pcells dst)).lt))
  have rA3 := (rA.alloc (.cells #[.int .u8 128] 5)).nowS hn2 (by simp at a1; omega)
  have rD3 := (rD.alloc (.cells #[.int .u8 128] 5)).nowS hn2 (by omega)
  have N3 := hn2.after (bt bA (ba wA (.cells #[.int .u8 128] 5)))
  have hA0 : w.heap.size ≤ gA := by simp at a1; omega
  have hAD : gA < w3.heap.size := rA3.lt
  have hqA : gA ≠ g := by omega
  have hB := bd w3
  have hs3 := N3.size
  obtain ⟨g3, o3, rfl, _, _⟩ := (own_rws told.own told.bods).at (j := 0) (by simp)
  clear aw rA rD bA a1 a2
  refine wp_region_noPanic ?_
  refine wp_region_held_drew (S := fun W => Row W w.heap.size 28 (pcells dst)) (by kernel_rfl) (rD3.below hB rD3.lt) (fun hHeld => ?_)
  refine tL 0 rfl (yP dst (fun W hW => hW.range) (by rfl) rfl rfl) ?_
  refine tL 1 rfl (yP dst (fun W hW => hW.range) (by rfl) rfl rfl) ?_
  refine rM [2,5] ?_
  refine cL (fun K hK => ?_) ?_
  · skip
    go_simp
    refine (pfam_any dst _).mono ?_
    rintro e w4 ⟨rfl, hb4⟩
    try replace rB := rB.below hb4 rB.lt
    replace hB := hB.trans (hb4.mono hB.size)
    refine oK hK (by exact rD3.below hB rD3.lt) fun hHeld => ?_
    clear hK K
    refine rM [3,5] ?_
    refine cL (fun K hK => ?_) ?_
    · skip
      go_simp
      refine (any_any _ _).mono ?_
      rintro e w4 ⟨rfl, hb4⟩
      try replace rB := rB.below hb4 rB.lt
      replace hB := hB.trans (hb4.mono hB.size)
      refine oK hK (by exact rD3.below hB rD3.lt) fun hHeld => ?_
      clear hK K
      refine tL 4 rfl (yB [(0, .tmp 25), (1, .tmp 28)] (by rfl) rfl (bdPr dst (anyP (famP dst)))) ?_
      refine r1 5 fun K hK => ?_
      refine sAlG infoQz (by rfl) rfl ?_
      intro gB wB b1 b2 b3 rB
      have hgB : w3.heap.size ≤ gB := Nat.le_trans hB.size b1
      replace hB := hB.trans (b3.mono hB.size)
      clear b1 b2 b3
      refine oK hK (by exact rD3.below hB rD3.lt) fun hHeld => ?_
      clear hK K
      refine r1 6 fun K hK => ?_
      refine sStQ (.tmp 10) (.tmp 29) (by rfl) rfl gB ⟨dst, anyP (famP dst)⟩ _ (qcells_len _) rfl rfl rB ?_
      intro wC hgC rC
      replace hB := hB.grown hgC hB.size (fun k hk => by cases hk; exact hgB)
      refine oK hK (by exact rD3.below hB rD3.lt) fun hHeld => ?_
      clear hK K
      refine dN ?_
      refine NoPanic.normal ?_
      clear hHeld
      have rAf := rA3.below hB rA3.lt
      have NF := N3.below hB
      have PF := hpar.now h NF
      have MF : Mv w wC P g := Mv.ofNow NF
      have hqB : gB ≠ g := by omega
      have RW := (own_rws told.own told.bods).below hB
      obtain ⟨g4, o4, e4, c30, c31⟩ := RW.at (j := 0) (by simp)
      cases e4
      have c31' : wC.cell? ⟨g3, o3 + 1, none⟩ = some (.slice p.a p.n p.c) := by simpa using c31
      have sp := RW.body p (by simp)
      have hpn : p.n ≤ 140737488355328 := by have := sp.blen; have := hp2.out; have := HKL.out; rw [hp2.out] at *; omega
      have hPlt := hpar.lt
      have HP2 : Hid (p.l = k.2) := hp2.out
      clear c30 c31 RW told hk3 hn3 hp2
      go_wp2_with (first
        | (have kk := hn7; refine stPm (.tmp 44) (.tmp 43) (by rfl) rfl gB dst (anyP (famP dst)) (soP s ae k.2 ⟨0, 0⟩) rfl rfl rC7 ?_; intro w8 hg8 rC8)
        | (go_at_call 103; have kk := hr5; refine (source_any ae P6 R6).mono ?_; rintro e w7 ⟨rfl, hn7⟩; have rC7 := (rC5.setOther P 11 (.pointer (some ⟨g2, 0, none⟩)) (by omega)).nowS hn7 (by omega))
        | (go_at_call 46; refine (new_any p.a p.n p.c p.l _ sp hpn).mono ?_; rintro e w5 ⟨g2, bv2, rfl, hge, hbv, hr5, hb5⟩; rw [HP2.out] at hr5; have P5 := PF.below hb5; have f5 := P5.frozen 11; have c5 := ((PF.pg NF.rd).below hb5).c; have rC5 := rC.below hb5 rC.lt; have rA5 := rAf.below hb5 rAf.lt; have P6 := P5.setR (g := g2); have hlC := rC.lt; have R6 : RdS (w5.setCell ⟨P, 11, none⟩ (.pointer (some ⟨g2, 0, none⟩))) g2 bv2 k.2 ⟨0, 0⟩ := rd_far (r := ⟨0, 0⟩) hr5 (grownBy_setCell _ _ _ _) (by omega) (fun ad had _ => by have := hbv ad had; omega); have M6 := (MF.trans (Mv.ofB hb5)).setP 11 (.pointer (some ⟨g2, 0, none⟩)); have rA6 := rA5.setOther P 11 (.pointer (some ⟨g2, 0, none⟩)) (by have := hpar.lt; omega)))
      have h2ge : w.heap.size ≤ g2 := by omega
      have hB2 : gB < g2 := by omega
      have rA7 := rA6.nowS hn7 (by omega)
      replace rC := rC8
      replace rAf := rA7.grown hg8 (fun e => by have := Option.some.inj e; omega)
      have RW8 : RdS w8 g2 bv2 k.2 (soN s ae k.2 ⟨0, 0⟩) := rd_far hn7.rd hg8 (by omega) (fun ad had _ => by have := hbv ad had; omega)
      replace PF := (P6.now R6 hn7).fresh hg8 (fun t cs hr => by unfold Row at hr rC7; rw [rC7] at hr; cases hr; exact ⟨by decide, by decide, by decide⟩)
      replace MF := (M6.fresh hn7.grown h2ge).fresh hg8 (by omega)
      have RF := RW8.below (bd w8)
      have hq0 := hqA
      replace hqA : gA ≠ g2 := by omega
      replace hqB : gB ≠ g2 := by omega
      have HWW : Hid (∀ W, Pg W P g2 → RdS W g2 bv2 k.2 (soN s ae k.2 ⟨0, 0⟩) → Calls Try.prog 82 #[.pointer (some ⟨P, 0, none⟩)] W fun e w' => e = .returned (.bool true) ∧ NowS W w' g2 bv2 k.2 (soN s ae k.2 ⟨0, 0⟩)) := fun W h1 h2 => by rw [← HWE.out]; exact well_any h1 h2
      have hgAB : gA < gB := by omega
      clear hr5 hb5 P5 P6 rC5 rA5 rA6 M6 R6 rA7 rC7 hn7 hg8 rC8 RW8 c31' sp NF
      have PD := PF.below (bd w8)
      replace rC := rC.below (bd w8) rC.lt
      replace rAf := rAf.below (bd w8) rAf.lt
      replace MF := MF.trans (Mv.ofB (bd w8))
      replace PF := PD
      clear PD
      refine wp_region_noPanic ?_
      refine wp_region_held_drew (S := fun W => Row W gB 30 (qcells (⟨dst, soP s ae k.2 ⟨0, 0⟩⟩))) (by kernel_rfl) (rC) (fun hHeld => ?_)
      refine tL 0 rfl (yQ (⟨dst, soP s ae k.2 ⟨0, 0⟩⟩) (fun W hW => hW.range) (by rfl) rfl rfl) ?_
      refine tA 1 ?_
      refine r1 2 fun K hK => ?_
      go_simp
      refine (HWW.out _ (PF.pg RF) RF).mono ?_
      rintro e w6 ⟨rfl, hn6⟩
      have rF6 := rAf
      replace rAf := rAf.nowS hn6 hqA
      replace rC := rC.nowS hn6 hqB
      replace PF := PF.now RF hn6
      replace MF := MF.fresh hn6.grown h2ge
      refine oK hK (by exact rC) fun hHeld => ?_
      clear hK K
      refine tA 3 ?_
      refine tL 4 rfl (yQ (⟨dst, soP s ae k.2 ⟨0, 0⟩⟩) (fun W hW => hW.range) (by rfl) rfl rfl) ?_
      refine r1 5 fun K hK => ?_
      go_simp
      refine (checkQ_any (⟨dst, soP s ae k.2 ⟨0, 0⟩⟩) _).mono ?_
      rintro e w7 ⟨rfl, hb7⟩
      replace rAf := rAf.below hb7 rAf.lt
      replace rC := rC.below hb7 rC.lt
      replace PF := PF.below hb7
      replace MF := MF.trans (Mv.ofB hb7)
      refine oK hK (by exact rC) fun hHeld => ?_
      clear hK K
      refine tA 6 ?_
      refine tA 7 ?_
      refine r1 8 fun K hK => ?_
      refine sStQ (.tmp 6) (.tmp 45) (by rfl) rfl gA (⟨dst, soP s ae k.2 ⟨0, 0⟩⟩) _ (qcells_len _) rfl rfl rAf ?_
      intro w8 hg8 r8
      have rC8 := rC.grown hg8 (fun e => by have := Option.some.inj e; omega)
      replace PF := PF.fresh hg8 (fun t cs hr => by unfold Row at hr rAf; rw [rAf] at hr; cases hr; exact ⟨by decide, by decide, by decide⟩)
      replace MF := MF.fresh hg8 hA0
      refine oK hK (by exact rC8) fun hHeld => ?_
      clear hK K
      refine tA 9 ?_
      refine dN ?_
      refine NoPanic.normal ?_
      go_wp2
      exact bodyPost_ret (retCT rfl _ _ 0 rfl (lvQ r8.range)) rfl ⟨rfl, ⟨_, PF⟩, MF⟩
    refine cE fun K hK => ?_
    refine sAlG infoQz (by rfl) rfl ?_
    intro gB wB b1 b2 b3 rB
    have hgB : w3.heap.size ≤ gB := Nat.le_trans hB.size b1
    replace hB := hB.trans (b3.mono hB.size)
    clear b1 b2 b3
    refine oK hK (by exact rD3.below hB rD3.lt) fun hHeld => ?_
    clear hK K
    refine r1 3 fun K hK => ?_
    go_simp
    refine (any_any _ _).mono ?_
    rintro e w4 ⟨rfl, hb4⟩
    try replace rB := rB.below hb4 rB.lt
    replace hB := hB.trans (hb4.mono hB.size)
    refine oK hK (by exact rD3.below hB rD3.lt) fun hHeld => ?_
    clear hK K
    refine tL 4 rfl (yB [(0, .tmp 25), (1, .tmp 28)] (by rfl) rfl (bdPr dst (anyP (famP dst)))) ?_
    refine r1 6 fun K hK => ?_
    refine sStQ (.tmp 10) (.tmp 29) (by rfl) rfl gB ⟨dst, anyP (famP dst)⟩ _ (qcells_len _) rfl rfl rB ?_
    intro wC hgC rC
    replace hB := hB.grown hgC hB.size (fun k hk => by cases hk; exact hgB)
    refine oK hK (by exact rD3.below hB rD3.lt) fun hHeld => ?_
    clear hK K
    refine dN ?_
    refine NoPanic.normal ?_
    clear hHeld
    have rAf := rA3.below hB rA3.lt
    have NF := N3.below hB
    have PF := hpar.now h NF
    have MF : Mv w wC P g := Mv.ofNow NF
    have hqB : gB ≠ g := by omega
    have RW := (own_rws told.own told.bods).below hB
    obtain ⟨g4, o4, e4, c30, c31⟩ := RW.at (j := 0) (by simp)
    cases e4
    have c31' : wC.cell? ⟨g3, o3 + 1, none⟩ = some (.slice p.a p.n p.c) := by simpa using c31
    have sp := RW.body p (by simp)
    have hpn : p.n ≤ 140737488355328 := by have := sp.blen; have := hp2.out; have := HKL.out; rw [hp2.out] at *; omega
    have hPlt := hpar.lt
    have HP2 : Hid (p.l = k.2) := hp2.out
    clear c30 c31 RW told hk3 hn3 hp2
    go_wp2_with (first
      | (have kk := hn7; refine stPm (.tmp 44) (.tmp 43) (by rfl) rfl gB dst (anyP (famP dst)) (soP s ae k.2 ⟨0, 0⟩) rfl rfl rC7 ?_; intro w8 hg8 rC8)
      | (go_at_call 103; have kk := hr5; refine (source_any ae P6 R6).mono ?_; rintro e w7 ⟨rfl, hn7⟩; have rC7 := (rC5.setOther P 11 (.pointer (some ⟨g2, 0, none⟩)) (by omega)).nowS hn7 (by omega))
      | (go_at_call 46; refine (new_any p.a p.n p.c p.l _ sp hpn).mono ?_; rintro e w5 ⟨g2, bv2, rfl, hge, hbv, hr5, hb5⟩; rw [HP2.out] at hr5; have P5 := PF.below hb5; have f5 := P5.frozen 11; have c5 := ((PF.pg NF.rd).below hb5).c; have rC5 := rC.below hb5 rC.lt; have rA5 := rAf.below hb5 rAf.lt; have P6 := P5.setR (g := g2); have hlC := rC.lt; have R6 : RdS (w5.setCell ⟨P, 11, none⟩ (.pointer (some ⟨g2, 0, none⟩))) g2 bv2 k.2 ⟨0, 0⟩ := rd_far (r := ⟨0, 0⟩) hr5 (grownBy_setCell _ _ _ _) (by omega) (fun ad had _ => by have := hbv ad had; omega); have M6 := (MF.trans (Mv.ofB hb5)).setP 11 (.pointer (some ⟨g2, 0, none⟩)); have rA6 := rA5.setOther P 11 (.pointer (some ⟨g2, 0, none⟩)) (by have := hpar.lt; omega)))
    have h2ge : w.heap.size ≤ g2 := by omega
    have hB2 : gB < g2 := by omega
    have rA7 := rA6.nowS hn7 (by omega)
    replace rC := rC8
    replace rAf := rA7.grown hg8 (fun e => by have := Option.some.inj e; omega)
    have RW8 : RdS w8 g2 bv2 k.2 (soN s ae k.2 ⟨0, 0⟩) := rd_far hn7.rd hg8 (by omega) (fun ad had _ => by have := hbv ad had; omega)
    replace PF := (P6.now R6 hn7).fresh hg8 (fun t cs hr => by unfold Row at hr rC7; rw [rC7] at hr; cases hr; exact ⟨by decide, by decide, by decide⟩)
    replace MF := (M6.fresh hn7.grown h2ge).fresh hg8 (by omega)
    have RF := RW8.below (bd w8)
    have hq0 := hqA
    replace hqA : gA ≠ g2 := by omega
    replace hqB : gB ≠ g2 := by omega
    have HWW : Hid (∀ W, Pg W P g2 → RdS W g2 bv2 k.2 (soN s ae k.2 ⟨0, 0⟩) → Calls Try.prog 82 #[.pointer (some ⟨P, 0, none⟩)] W fun e w' => e = .returned (.bool true) ∧ NowS W w' g2 bv2 k.2 (soN s ae k.2 ⟨0, 0⟩)) := fun W h1 h2 => by rw [← HWE.out]; exact well_any h1 h2
    have hgAB : gA < gB := by omega
    clear hr5 hb5 P5 P6 rC5 rA5 rA6 M6 R6 rA7 rC7 hn7 hg8 rC8 RW8 c31' sp NF
    have PD := PF.below (bd w8)
    replace rC := rC.below (bd w8) rC.lt
    replace rAf := rAf.below (bd w8) rAf.lt
    replace MF := MF.trans (Mv.ofB (bd w8))
    replace PF := PD
    clear PD
    refine wp_region_noPanic ?_
    refine wp_region_held_drew (S := fun W => Row W gB 30 (qcells (⟨dst, soP s ae k.2 ⟨0, 0⟩⟩))) (by kernel_rfl) (rC) (fun hHeld => ?_)
    refine tL 0 rfl (yQ (⟨dst, soP s ae k.2 ⟨0, 0⟩⟩) (fun W hW => hW.range) (by rfl) rfl rfl) ?_
    refine tA 1 ?_
    refine r1 2 fun K hK => ?_
    go_simp
    refine (HWW.out _ (PF.pg RF) RF).mono ?_
    rintro e w6 ⟨rfl, hn6⟩
    have rF6 := rAf
    replace rAf := rAf.nowS hn6 hqA
    replace rC := rC.nowS hn6 hqB
    replace PF := PF.now RF hn6
    replace MF := MF.fresh hn6.grown h2ge
    refine oK hK (by exact rC) fun hHeld => ?_
    clear hK K
    refine tA 3 ?_
    refine tL 4 rfl (yQ (⟨dst, soP s ae k.2 ⟨0, 0⟩⟩) (fun W hW => hW.range) (by rfl) rfl rfl) ?_
    refine r1 5 fun K hK => ?_
    go_simp
    refine (checkQ_any (⟨dst, soP s ae k.2 ⟨0, 0⟩⟩) _).mono ?_
    rintro e w7 ⟨rfl, hb7⟩
    replace rAf := rAf.below hb7 rAf.lt
    replace rC := rC.below hb7 rC.lt
    replace PF := PF.below hb7
    replace MF := MF.trans (Mv.ofB hb7)
    refine oK hK (by exact rC) fun hHeld => ?_
    clear hK K
    refine tA 6 ?_
    refine tA 7 ?_
    refine r1 8 fun K hK => ?_
    refine sStQ (.tmp 6) (.tmp 45) (by rfl) rfl gA (⟨dst, soP s ae k.2 ⟨0, 0⟩⟩) _ (qcells_len _) rfl rfl rAf ?_
    intro w8 hg8 r8
    have rC8 := rC.grown hg8 (fun e => by have := Option.some.inj e; omega)
    replace PF := PF.fresh hg8 (fun t cs hr => by unfold Row at hr rAf; rw [rAf] at hr; cases hr; exact ⟨by decide, by decide, by decide⟩)
    replace MF := MF.fresh hg8 hA0
    refine oK hK (by exact rC8) fun hHeld => ?_
    clear hK K
    refine tA 9 ?_
    refine dN ?_
    refine NoPanic.normal ?_
    go_wp2
    exact bodyPost_ret (retCT rfl _ _ 0 rfl (lvQ r8.range)) rfl ⟨rfl, ⟨_, PF⟩, MF⟩
  refine cE fun K hK => ?_
  refine sAlG infoQz (by rfl) rfl ?_
  intro gB wB b1 b2 b3 rB
  have hgB : w3.heap.size ≤ gB := Nat.le_trans hB.size b1
  replace hB := hB.trans (b3.mono hB.size)
  clear b1 b2 b3
  refine oK hK (by exact rD3.below hB rD3.lt) fun hHeld => ?_
  clear hK K
  refine r1 2 fun K hK => ?_
  go_simp
  refine (pfam_any dst _).mono ?_
  rintro e w4 ⟨rfl, hb4⟩
  try replace rB := rB.below hb4 rB.lt
  replace hB := hB.trans (hb4.mono hB.size)
  refine oK hK (by exact rD3.below hB rD3.lt) fun hHeld => ?_
  clear hK K
  refine r1 3 fun K hK => ?_
  go_simp
  refine (any_any _ _).mono ?_
  rintro e w4 ⟨rfl, hb4⟩
  try replace rB := rB.below hb4 rB.lt
  replace hB := hB.trans (hb4.mono hB.size)
  refine oK hK (by exact rD3.below hB rD3.lt) fun hHeld => ?_
  clear hK K
  refine tL 4 rfl (yB [(0, .tmp 25), (1, .tmp 28)] (by rfl) rfl (bdPr dst (anyP (famP dst)))) ?_
  refine r1 6 fun K hK => ?_
  refine sStQ (.tmp 10) (.tmp 29) (by rfl) rfl gB ⟨dst, anyP (famP dst)⟩ _ (qcells_len _) rfl rfl rB ?_
  intro wC hgC rC
  replace hB := hB.grown hgC hB.size (fun k hk => by cases hk; exact hgB)
  refine oK hK (by exact rD3.below hB rD3.lt) fun hHeld => ?_
  clear hK K
  refine dN ?_
  refine NoPanic.normal ?_
  clear hHeld
  have rAf := rA3.below hB rA3.lt
  have NF := N3.below hB
  have PF := hpar.now h NF
  have MF : Mv w wC P g := Mv.ofNow NF
  have hqB : gB ≠ g := by omega
  have RW := (own_rws told.own told.bods).below hB
  obtain ⟨g4, o4, e4, c30, c31⟩ := RW.at (j := 0) (by simp)
  cases e4
  have c31' : wC.cell? ⟨g3, o3 + 1, none⟩ = some (.slice p.a p.n p.c) := by simpa using c31
  have sp := RW.body p (by simp)
  have hpn : p.n ≤ 140737488355328 := by have := sp.blen; have := hp2.out; have := HKL.out; rw [hp2.out] at *; omega
  have hPlt := hpar.lt
  have HP2 : Hid (p.l = k.2) := hp2.out
  clear c30 c31 RW told hk3 hn3 hp2
  go_wp2_with (first
    | (have kk := hn7; refine stPm (.tmp 44) (.tmp 43) (by rfl) rfl gB dst (anyP (famP dst)) (soP s ae k.2 ⟨0, 0⟩) rfl rfl rC7 ?_; intro w8 hg8 rC8)
    | (go_at_call 103; have kk := hr5; refine (source_any ae P6 R6).mono ?_; rintro e w7 ⟨rfl, hn7⟩; have rC7 := (rC5.setOther P 11 (.pointer (some ⟨g2, 0, none⟩)) (by omega)).nowS hn7 (by omega))
    | (go_at_call 46; refine (new_any p.a p.n p.c p.l _ sp hpn).mono ?_; rintro e w5 ⟨g2, bv2, rfl, hge, hbv, hr5, hb5⟩; rw [HP2.out] at hr5; have P5 := PF.below hb5; have f5 := P5.frozen 11; have c5 := ((PF.pg NF.rd).below hb5).c; have rC5 := rC.below hb5 rC.lt; have rA5 := rAf.below hb5 rAf.lt; have P6 := P5.setR (g := g2); have hlC := rC.lt; have R6 : RdS (w5.setCell ⟨P, 11, none⟩ (.pointer (some ⟨g2, 0, none⟩))) g2 bv2 k.2 ⟨0, 0⟩ := rd_far (r := ⟨0, 0⟩) hr5 (grownBy_setCell _ _ _ _) (by omega) (fun ad had _ => by have := hbv ad had; omega); have M6 := (MF.trans (Mv.ofB hb5)).setP 11 (.pointer (some ⟨g2, 0, none⟩)); have rA6 := rA5.setOther P 11 (.pointer (some ⟨g2, 0, none⟩)) (by have := hpar.lt; omega)))
  have h2ge : w.heap.size ≤ g2 := by omega
  have hB2 : gB < g2 := by omega
  have rA7 := rA6.nowS hn7 (by omega)
  replace rC := rC8
  replace rAf := rA7.grown hg8 (fun e => by have := Option.some.inj e; omega)
  have RW8 : RdS w8 g2 bv2 k.2 (soN s ae k.2 ⟨0, 0⟩) := rd_far hn7.rd hg8 (by omega) (fun ad had _ => by have := hbv ad had; omega)
  replace PF := (P6.now R6 hn7).fresh hg8 (fun t cs hr => by unfold Row at hr rC7; rw [rC7] at hr; cases hr; exact ⟨by decide, by decide, by decide⟩)
  replace MF := (M6.fresh hn7.grown h2ge).fresh hg8 (by omega)
  have RF := RW8.below (bd w8)
  have hq0 := hqA
  replace hqA : gA ≠ g2 := by omega
  replace hqB : gB ≠ g2 := by omega
  have HWW : Hid (∀ W, Pg W P g2 → RdS W g2 bv2 k.2 (soN s ae k.2 ⟨0, 0⟩) → Calls Try.prog 82 #[.pointer (some ⟨P, 0, none⟩)] W fun e w' => e = .returned (.bool true) ∧ NowS W w' g2 bv2 k.2 (soN s ae k.2 ⟨0, 0⟩)) := fun W h1 h2 => by rw [← HWE.out]; exact well_any h1 h2
  have hgAB : gA < gB := by omega
  clear hr5 hb5 P5 P6 rC5 rA5 rA6 M6 R6 rA7 rC7 hn7 hg8 rC8 RW8 c31' sp NF
  have PD := PF.below (bd w8)
  replace rC := rC.below (bd w8) rC.lt
  replace rAf := rAf.below (bd w8) rAf.lt
  replace MF := MF.trans (Mv.ofB (bd w8))
  replace PF := PD
  clear PD
  refine wp_region_noPanic ?_
  refine wp_region_held_drew (S := fun W => Row W gB 30 (qcells (⟨dst, soP s ae k.2 ⟨0, 0⟩⟩))) (by kernel_rfl) (rC) (fun hHeld => ?_)
  refine tL 0 rfl (yQ (⟨dst, soP s ae k.2 ⟨0, 0⟩⟩) (fun W hW => hW.range) (by rfl) rfl rfl) ?_
  refine tA 1 ?_
  refine r1 2 fun K hK => ?_
  go_simp
  refine (HWW.out _ (PF.pg RF) RF).mono ?_
  rintro e w6 ⟨rfl, hn6⟩
  have rF6 := rAf
  replace rAf := rAf.nowS hn6 hqA
  replace rC := rC.nowS hn6 hqB
  replace PF := PF.now RF hn6
  replace MF := MF.fresh hn6.grown h2ge
  refine oK hK (by exact rC) fun hHeld => ?_
  clear hK K
  refine tA 3 ?_
  refine tL 4 rfl (yQ (⟨dst, soP s ae k.2 ⟨0, 0⟩⟩) (fun W hW => hW.range) (by rfl) rfl rfl) ?_
  refine r1 5 fun K hK => ?_
  go_simp
  refine (checkQ_any (⟨dst, soP s ae k.2 ⟨0, 0⟩⟩) _).mono ?_
  rintro e w7 ⟨rfl, hb7⟩
  replace rAf := rAf.below hb7 rAf.lt
  replace rC := rC.below hb7 rC.lt
  replace PF := PF.below hb7
  replace MF := MF.trans (Mv.ofB hb7)
  refine oK hK (by exact rC) fun hHeld => ?_
  clear hK K
  refine tA 6 ?_
  refine tA 7 ?_
  refine r1 8 fun K hK => ?_
  refine sStQ (.tmp 6) (.tmp 45) (by rfl) rfl gA (⟨dst, soP s ae k.2 ⟨0, 0⟩⟩) _ (qcells_len _) rfl rfl rAf ?_
  intro w8 hg8 r8
  have rC8 := rC.grown hg8 (fun e => by have := Option.some.inj e; omega)
  replace PF := PF.fresh hg8 (fun t cs hr => by unfold Row at hr rAf; rw [rAf] at hr; cases hr; exact ⟨by decide, by decide, by decide⟩)
  replace MF := MF.fresh hg8 hA0
  refine oK hK (by exact rC8) fun hHeld => ?_
  clear hK K
  refine tA 9 ?_
  refine dN ?_
  refine NoPanic.normal ?_
  go_wp2
  exact bodyPost_ret (retCT rfl _ _ 0 rfl (lvQ r8.range)) rfl ⟨rfl, ⟨_, PF⟩, MF⟩
set_option maxHeartbeats 2000000 in
theorem pair_1false {w : World} {P g : Nat} {l : List UInt8} {r : RS} {s : St} (ae : Nat) (dst : Pf) (hl : l.length ≤ 100000) (hpar : Par w P (some g) s) (h : RdS w g bv l r) (hb : wiB [128] l r = true) {k : UInt8 × List UInt8} (hx : wiL [128] l r = [k]) (hw : ((soN s ae k.2 ⟨0, 0⟩).y == 0) = false) :
    Calls Try.prog 87 #[.pointer (some ⟨P, 0, none⟩), .int .u8 (ae : Int), (Value.agg (pcells dst).toArray)] w (Paired w P g s ⟨dst, soP s ae k.2 ⟨0, 0⟩⟩ false) := by
  have hR := wiB_y hb
  have hp := hpar.pg h
  have hlt := h.lt
  have HW : Hid (∀ W a, Pg W P g → RdS W g bv l r → Src W (some a) 1 1 (bcells [128]) → a.block ≠ g → Calls Try.prog 78 #[.pointer (some ⟨P, 0, none⟩), .slice (some a) 1 1] W fun e w' => ∃ a' c' ps n, Hid (n = ps.length) ∧ e = .returned (.tuple #[.slice a' n c', .bool true]) ∧ Hid (n = ps.length ∧ keys ps = wiL [128] l r ∧ ps.length ≤ 100000) ∧ Told W w' a' c' ps ∧ NowS W w' g bv l (wiR l r)) := fun W a h1 h2 h3 h4 => by
    rw [← hb]
    refine (within_any h1 h2 hl (some a) 1 1 [128] h3 (by decide) (fun _ h => by cases h; exact h4)).mono ?_
    rintro e w' ⟨a', c', ps, rfl, k1, k2, k3, hn⟩
    exact ⟨a', c', ps, _, (rfl : _ = _), rfl, ⟨rfl, k1, k2⟩, k3, hn⟩
  have HX : Hid (wiL [128] l r = [k]) := hx
  have HKL : Hid (k.2.length ≤ 100000) := by
    have k9 : k ∈ wiL [128] l r := by rw [hx]; simp
    unfold wiL at k9
    split at k9
    · have := spl_le _ _ _ (List.mem_filter.1 k9).1
      simp at this
      show _ ≤ _
      omega
    · cases k9
  rw [hR] at HW
  have HWE : Hid (((soN s ae k.2 ⟨0, 0⟩).y == 0) = false) := hw
  clear hx hb hR hw
  go_enter Try.func87, Try.ntmps87
  go_wp2_with (first
      | (go_at_call 78; refine (HW.out _ _ ((hp.below bA).below (ba _ _)) ((h.below bA).below (ba _ _)) (new_src wA #[.int .u8 128]) (show wA.heap.size ≠ g by have := bA.size; omega)).mono ?_; rintro e w3 ⟨a3, c3, ps, n3, hn3, rfl, hk3, told, hn2⟩; obtain ⟨p, hp1, hp2⟩ : ∃ p, ps = [p] ∧ Hid (p.l = k.2) := (by obtain ⟨k0, k1, _⟩ := hk3.out; rw [HX.out] at k1; exact one_of k1); subst hp1; obtain rfl : n3 = 1 := hn3.out)
      | (refine alG infoQz (by rfl) rfl ?_; intro gA wA a1 a2 aw rA; have bA := bt (ba w (.cells (pcells dst).toArray 28)) aw; have rD := (Row.new w 28 (pcells dst)).below aw (Row.new w 28 (pcells dst)).lt))
  have rA3 := (rA.alloc (.cells #[.int .u8 128] 5)).nowS hn2 (by simp at a1; omega)
  have rD3 := (rD.alloc (.cells #[.int .u8 128] 5)).nowS hn2 (by omega)
  have N3 := hn2.after (bt bA (ba wA (.cells #[.int .u8 128] 5)))
  have hA0 : w.heap.size ≤ gA := by simp at a1; omega
  have hAD : gA < w3.heap.size := rA3.lt
  have hqA : gA ≠ g := by omega
  have hB := bd w3
  have hs3 := N3.size
  obtain ⟨g3, o3, rfl, _, _⟩ := (own_rws told.own told.bods).at (j := 0) (by simp)
  clear aw rA rD bA a1 a2
  refine wp_region_noPanic ?_
  refine wp_region_held_drew (S := fun W => Row W w.heap.size 28 (pcells dst)) (by kernel_rfl) (rD3.below hB rD3.lt) (fun hHeld => ?_)
  refine tL 0 rfl (yP dst (fun W hW => hW.range) (by rfl) rfl rfl) ?_
  refine tL 1 rfl (yP dst (fun W hW => hW.range) (by rfl) rfl rfl) ?_
  refine rM [2,5] ?_
  refine cL (fun K hK => ?_) ?_
  · skip
    go_simp
    refine (pfam_any dst _).mono ?_
    rintro e w4 ⟨rfl, hb4⟩
    try replace rB := rB.below hb4 rB.lt
    replace hB := hB.trans (hb4.mono hB.size)
    refine oK hK (by exact rD3.below hB rD3.lt) fun hHeld => ?_
    clear hK K
    refine rM [3,5] ?_
    refine cL (fun K hK => ?_) ?_
    · skip
      go_simp
      refine (any_any _ _).mono ?_
      rintro e w4 ⟨rfl, hb4⟩
      try replace rB := rB.below hb4 rB.lt
      replace hB := hB.trans (hb4.mono hB.size)
      refine oK hK (by exact rD3.below hB rD3.lt) fun hHeld => ?_
      clear hK K
      refine tL 4 rfl (yB [(0, .tmp 25), (1, .tmp 28)] (by rfl) rfl (bdPr dst (anyP (famP dst)))) ?_
      refine r1 5 fun K hK => ?_
      refine sAlG infoQz (by rfl) rfl ?_
      intro gB wB b1 b2 b3 rB
      have hgB : w3.heap.size ≤ gB := Nat.le_trans hB.size b1
      replace hB := hB.trans (b3.mono hB.size)
      clear b1 b2 b3
      refine oK hK (by exact rD3.below hB rD3.lt) fun hHeld => ?_
      clear hK K
      refine r1 6 fun K hK => ?_
      refine sStQ (.tmp 10) (.tmp 29) (by rfl) rfl gB ⟨dst, anyP (famP dst)⟩ _ (qcells_len _) rfl rfl rB ?_
      intro wC hgC rC
      replace hB := hB.grown hgC hB.size (fun k hk => by cases hk; exact hgB)
      refine oK hK (by exact rD3.below hB rD3.lt) fun hHeld => ?_
      clear hK K
      refine dN ?_
      refine NoPanic.normal ?_
      clear hHeld
      have rAf := rA3.below hB rA3.lt
      have NF := N3.below hB
      have PF := hpar.now h NF
      have MF : Mv w wC P g := Mv.ofNow NF
      have hqB : gB ≠ g := by omega
      have RW := (own_rws told.own told.bods).below hB
      obtain ⟨g4, o4, e4, c30, c31⟩ := RW.at (j := 0) (by simp)
      cases e4
      have c31' : wC.cell? ⟨g3, o3 + 1, none⟩ = some (.slice p.a p.n p.c) := by simpa using c31
      have sp := RW.body p (by simp)
      have hpn : p.n ≤ 140737488355328 := by have := sp.blen; have := hp2.out; have := HKL.out; rw [hp2.out] at *; omega
      have hPlt := hpar.lt
      have HP2 : Hid (p.l = k.2) := hp2.out
      clear c30 c31 RW told hk3 hn3 hp2
      go_wp2_with (first
        | (have kk := hn7; refine stPm (.tmp 44) (.tmp 43) (by rfl) rfl gB dst (anyP (famP dst)) (soP s ae k.2 ⟨0, 0⟩) rfl rfl rC7 ?_; intro w8 hg8 rC8)
        | (go_at_call 103; have kk := hr5; refine (source_any ae P6 R6).mono ?_; rintro e w7 ⟨rfl, hn7⟩; have rC7 := (rC5.setOther P 11 (.pointer (some ⟨g2, 0, none⟩)) (by omega)).nowS hn7 (by omega))
        | (go_at_call 46; refine (new_any p.a p.n p.c p.l _ sp hpn).mono ?_; rintro e w5 ⟨g2, bv2, rfl, hge, hbv, hr5, hb5⟩; rw [HP2.out] at hr5; have P5 := PF.below hb5; have f5 := P5.frozen 11; have c5 := ((PF.pg NF.rd).below hb5).c; have rC5 := rC.below hb5 rC.lt; have rA5 := rAf.below hb5 rAf.lt; have P6 := P5.setR (g := g2); have hlC := rC.lt; have R6 : RdS (w5.setCell ⟨P, 11, none⟩ (.pointer (some ⟨g2, 0, none⟩))) g2 bv2 k.2 ⟨0, 0⟩ := rd_far (r := ⟨0, 0⟩) hr5 (grownBy_setCell _ _ _ _) (by omega) (fun ad had _ => by have := hbv ad had; omega); have M6 := (MF.trans (Mv.ofB hb5)).setP 11 (.pointer (some ⟨g2, 0, none⟩)); have rA6 := rA5.setOther P 11 (.pointer (some ⟨g2, 0, none⟩)) (by have := hpar.lt; omega)))
      have h2ge : w.heap.size ≤ g2 := by omega
      have hB2 : gB < g2 := by omega
      have rA7 := rA6.nowS hn7 (by omega)
      replace rC := rC8
      replace rAf := rA7.grown hg8 (fun e => by have := Option.some.inj e; omega)
      have RW8 : RdS w8 g2 bv2 k.2 (soN s ae k.2 ⟨0, 0⟩) := rd_far hn7.rd hg8 (by omega) (fun ad had _ => by have := hbv ad had; omega)
      replace PF := (P6.now R6 hn7).fresh hg8 (fun t cs hr => by unfold Row at hr rC7; rw [rC7] at hr; cases hr; exact ⟨by decide, by decide, by decide⟩)
      replace MF := (M6.fresh hn7.grown h2ge).fresh hg8 (by omega)
      have RF := RW8.below (bd w8)
      have hq0 := hqA
      replace hqA : gA ≠ g2 := by omega
      replace hqB : gB ≠ g2 := by omega
      have HWW : Hid (∀ W, Pg W P g2 → RdS W g2 bv2 k.2 (soN s ae k.2 ⟨0, 0⟩) → Calls Try.prog 82 #[.pointer (some ⟨P, 0, none⟩)] W fun e w' => e = .returned (.bool false) ∧ NowS W w' g2 bv2 k.2 (soN s ae k.2 ⟨0, 0⟩)) := fun W h1 h2 => by rw [← HWE.out]; exact well_any h1 h2
      have hgAB : gA < gB := by omega
      clear hr5 hb5 P5 P6 rC5 rA5 rA6 M6 R6 rA7 rC7 hn7 hg8 rC8 RW8 c31' sp NF
      have PD := PF.below (bd w8)
      replace rC := rC.below (bd w8) rC.lt
      replace rAf := rAf.below (bd w8) rAf.lt
      replace MF := MF.trans (Mv.ofB (bd w8))
      replace PF := PD
      clear PD
      refine wp_region_noPanic ?_
      refine wp_region_held_drew (S := fun W => Row W gB 30 (qcells (⟨dst, soP s ae k.2 ⟨0, 0⟩⟩))) (by kernel_rfl) (rC) (fun hHeld => ?_)
      refine tL 0 rfl (yQ (⟨dst, soP s ae k.2 ⟨0, 0⟩⟩) (fun W hW => hW.range) (by rfl) rfl rfl) ?_
      refine tA 1 ?_
      refine r1 2 fun K hK => ?_
      go_simp
      refine (HWW.out _ (PF.pg RF) RF).mono ?_
      rintro e w6 ⟨rfl, hn6⟩
      have rF6 := rAf
      replace rAf := rAf.nowS hn6 hqA
      replace rC := rC.nowS hn6 hqB
      replace PF := PF.now RF hn6
      replace MF := MF.fresh hn6.grown h2ge
      refine oK hK (by exact rC) fun hHeld => ?_
      clear hK K
      refine tA 3 ?_
      refine tN 4 ?_
      refine tN 5 ?_
      refine tN 6 ?_
      refine tA 7 ?_
      refine r1 8 fun K hK => ?_
      refine sStQ (.tmp 6) (.tmp 45) (by rfl) rfl gA (⟨dst, soP s ae k.2 ⟨0, 0⟩⟩) _ (qcells_len _) rfl rfl rAf ?_
      intro w8 hg8 r8
      have rC8 := rC.grown hg8 (fun e => by have := Option.some.inj e; omega)
      replace PF := PF.fresh hg8 (fun t cs hr => by unfold Row at hr rAf; rw [rAf] at hr; cases hr; exact ⟨by decide, by decide, by decide⟩)
      replace MF := MF.fresh hg8 hA0
      refine oK hK (by exact rC8) fun hHeld => ?_
      clear hK K
      refine tA 9 ?_
      refine dN ?_
      refine NoPanic.normal ?_
      go_wp2
      exact bodyPost_ret (retCT rfl _ _ 0 rfl (lvQ r8.range)) rfl ⟨rfl, ⟨_, PF⟩, MF⟩
    refine cE fun K hK => ?_
    refine sAlG infoQz (by rfl) rfl ?_
    intro gB wB b1 b2 b3 rB
    have hgB : w3.heap.size ≤ gB := Nat.le_trans hB.size b1
    replace hB := hB.trans (b3.mono hB.size)
    clear b1 b2 b3
    refine oK hK (by exact rD3.below hB rD3.lt) fun hHeld => ?_
    clear hK K
    refine r1 3 fun K hK => ?_
    go_simp
    refine (any_any _ _).mono ?_
    rintro e w4 ⟨rfl, hb4⟩
    try replace rB := rB.below hb4 rB.lt
    replace hB := hB.trans (hb4.mono hB.size)
    refine oK hK (by exact rD3.below hB rD3.lt) fun hHeld => ?_
    clear hK K
    refine tL 4 rfl (yB [(0, .tmp 25), (1, .tmp 28)] (by rfl) rfl (bdPr dst (anyP (famP dst)))) ?_
    refine r1 6 fun K hK => ?_
    refine sStQ (.tmp 10) (.tmp 29) (by rfl) rfl gB ⟨dst, anyP (famP dst)⟩ _ (qcells_len _) rfl rfl rB ?_
    intro wC hgC rC
    replace hB := hB.grown hgC hB.size (fun k hk => by cases hk; exact hgB)
    refine oK hK (by exact rD3.below hB rD3.lt) fun hHeld => ?_
    clear hK K
    refine dN ?_
    refine NoPanic.normal ?_
    clear hHeld
    have rAf := rA3.below hB rA3.lt
    have NF := N3.below hB
    have PF := hpar.now h NF
    have MF : Mv w wC P g := Mv.ofNow NF
    have hqB : gB ≠ g := by omega
    have RW := (own_rws told.own told.bods).below hB
    obtain ⟨g4, o4, e4, c30, c31⟩ := RW.at (j := 0) (by simp)
    cases e4
    have c31' : wC.cell? ⟨g3, o3 + 1, none⟩ = some (.slice p.a p.n p.c) := by simpa using c31
    have sp := RW.body p (by simp)
    have hpn : p.n ≤ 140737488355328 := by have := sp.blen; have := hp2.out; have := HKL.out; rw [hp2.out] at *; omega
    have hPlt := hpar.lt
    have HP2 : Hid (p.l = k.2) := hp2.out
    clear c30 c31 RW told hk3 hn3 hp2
    go_wp2_with (first
      | (have kk := hn7; refine stPm (.tmp 44) (.tmp 43) (by rfl) rfl gB dst (anyP (famP dst)) (soP s ae k.2 ⟨0, 0⟩) rfl rfl rC7 ?_; intro w8 hg8 rC8)
      | (go_at_call 103; have kk := hr5; refine (source_any ae P6 R6).mono ?_; rintro e w7 ⟨rfl, hn7⟩; have rC7 := (rC5.setOther P 11 (.pointer (some ⟨g2, 0, none⟩)) (by omega)).nowS hn7 (by omega))
      | (go_at_call 46; refine (new_any p.a p.n p.c p.l _ sp hpn).mono ?_; rintro e w5 ⟨g2, bv2, rfl, hge, hbv, hr5, hb5⟩; rw [HP2.out] at hr5; have P5 := PF.below hb5; have f5 := P5.frozen 11; have c5 := ((PF.pg NF.rd).below hb5).c; have rC5 := rC.below hb5 rC.lt; have rA5 := rAf.below hb5 rAf.lt; have P6 := P5.setR (g := g2); have hlC := rC.lt; have R6 : RdS (w5.setCell ⟨P, 11, none⟩ (.pointer (some ⟨g2, 0, none⟩))) g2 bv2 k.2 ⟨0, 0⟩ := rd_far (r := ⟨0, 0⟩) hr5 (grownBy_setCell _ _ _ _) (by omega) (fun ad had _ => by have := hbv ad had; omega); have M6 := (MF.trans (Mv.ofB hb5)).setP 11 (.pointer (some ⟨g2, 0, none⟩)); have rA6 := rA5.setOther P 11 (.pointer (some ⟨g2, 0, none⟩)) (by have := hpar.lt; omega)))
    have h2ge : w.heap.size ≤ g2 := by omega
    have hB2 : gB < g2 := by omega
    have rA7 := rA6.nowS hn7 (by omega)
    replace rC := rC8
    replace rAf := rA7.grown hg8 (fun e => by have := Option.some.inj e; omega)
    have RW8 : RdS w8 g2 bv2 k.2 (soN s ae k.2 ⟨0, 0⟩) := rd_far hn7.rd hg8 (by omega) (fun ad had _ => by have := hbv ad had; omega)
    replace PF := (P6.now R6 hn7).fresh hg8 (fun t cs hr => by unfold Row at hr rC7; rw [rC7] at hr; cases hr; exact ⟨by decide, by decide, by decide⟩)
    replace MF := (M6.fresh hn7.grown h2ge).fresh hg8 (by omega)
    have RF := RW8.below (bd w8)
    have hq0 := hqA
    replace hqA : gA ≠ g2 := by omega
    replace hqB : gB ≠ g2 := by omega
    have HWW : Hid (∀ W, Pg W P g2 → RdS W g2 bv2 k.2 (soN s ae k.2 ⟨0, 0⟩) → Calls Try.prog 82 #[.pointer (some ⟨P, 0, none⟩)] W fun e w' => e = .returned (.bool false) ∧ NowS W w' g2 bv2 k.2 (soN s ae k.2 ⟨0, 0⟩)) := fun W h1 h2 => by rw [← HWE.out]; exact well_any h1 h2
    have hgAB : gA < gB := by omega
    clear hr5 hb5 P5 P6 rC5 rA5 rA6 M6 R6 rA7 rC7 hn7 hg8 rC8 RW8 c31' sp NF
    have PD := PF.below (bd w8)
    replace rC := rC.below (bd w8) rC.lt
    replace rAf := rAf.below (bd w8) rAf.lt
    replace MF := MF.trans (Mv.ofB (bd w8))
    replace PF := PD
    clear PD
    refine wp_region_noPanic ?_
    refine wp_region_held_drew (S := fun W => Row W gB 30 (qcells (⟨dst, soP s ae k.2 ⟨0, 0⟩⟩))) (by kernel_rfl) (rC) (fun hHeld => ?_)
    refine tL 0 rfl (yQ (⟨dst, soP s ae k.2 ⟨0, 0⟩⟩) (fun W hW => hW.range) (by rfl) rfl rfl) ?_
    refine tA 1 ?_
    refine r1 2 fun K hK => ?_
    go_simp
    refine (HWW.out _ (PF.pg RF) RF).mono ?_
    rintro e w6 ⟨rfl, hn6⟩
    have rF6 := rAf
    replace rAf := rAf.nowS hn6 hqA
    replace rC := rC.nowS hn6 hqB
    replace PF := PF.now RF hn6
    replace MF := MF.fresh hn6.grown h2ge
    refine oK hK (by exact rC) fun hHeld => ?_
    clear hK K
    refine tA 3 ?_
    refine tN 4 ?_
    refine tN 5 ?_
    refine tN 6 ?_
    refine tA 7 ?_
    refine r1 8 fun K hK => ?_
    refine sStQ (.tmp 6) (.tmp 45) (by rfl) rfl gA (⟨dst, soP s ae k.2 ⟨0, 0⟩⟩) _ (qcells_len _) rfl rfl rAf ?_
    intro w8 hg8 r8
    have rC8 := rC.grown hg8 (fun e => by have := Option.some.inj e; omega)
    replace PF := PF.fresh hg8 (fun t cs hr => by unfold Row at hr rAf; rw [rAf] at hr; cases hr; exact ⟨by decide, by decide, by decide⟩)
    replace MF := MF.fresh hg8 hA0
    refine oK hK (by exact rC8) fun hHeld => ?_
    clear hK K
    refine tA 9 ?_
    refine dN ?_
    refine NoPanic.normal ?_
    go_wp2
    exact bodyPost_ret (retCT rfl _ _ 0 rfl (lvQ r8.range)) rfl ⟨rfl, ⟨_, PF⟩, MF⟩
  refine cE fun K hK => ?_
  refine sAlG infoQz (by rfl) rfl ?_
  intro gB wB b1 b2 b3 rB
  have hgB : w3.heap.size ≤ gB := Nat.le_trans hB.size b1
  replace hB := hB.trans (b3.mono hB.size)
  clear b1 b2 b3
  refine oK hK (by exact rD3.below hB rD3.lt) fun hHeld => ?_
  clear hK K
  refine r1 2 fun K hK => ?_
  go_simp
  refine (pfam_any dst _).mono ?_
  rintro e w4 ⟨rfl, hb4⟩
  try replace rB := rB.below hb4 rB.lt
  replace hB := hB.trans (hb4.mono hB.size)
  refine oK hK (by exact rD3.below hB rD3.lt) fun hHeld => ?_
  clear hK K
  refine r1 3 fun K hK => ?_
  go_simp
  refine (any_any _ _).mono ?_
  rintro e w4 ⟨rfl, hb4⟩
  try replace rB := rB.below hb4 rB.lt
  replace hB := hB.trans (hb4.mono hB.size)
  refine oK hK (by exact rD3.below hB rD3.lt) fun hHeld => ?_
  clear hK K
  refine tL 4 rfl (yB [(0, .tmp 25), (1, .tmp 28)] (by rfl) rfl (bdPr dst (anyP (famP dst)))) ?_
  refine r1 6 fun K hK => ?_
  refine sStQ (.tmp 10) (.tmp 29) (by rfl) rfl gB ⟨dst, anyP (famP dst)⟩ _ (qcells_len _) rfl rfl rB ?_
  intro wC hgC rC
  replace hB := hB.grown hgC hB.size (fun k hk => by cases hk; exact hgB)
  refine oK hK (by exact rD3.below hB rD3.lt) fun hHeld => ?_
  clear hK K
  refine dN ?_
  refine NoPanic.normal ?_
  clear hHeld
  have rAf := rA3.below hB rA3.lt
  have NF := N3.below hB
  have PF := hpar.now h NF
  have MF : Mv w wC P g := Mv.ofNow NF
  have hqB : gB ≠ g := by omega
  have RW := (own_rws told.own told.bods).below hB
  obtain ⟨g4, o4, e4, c30, c31⟩ := RW.at (j := 0) (by simp)
  cases e4
  have c31' : wC.cell? ⟨g3, o3 + 1, none⟩ = some (.slice p.a p.n p.c) := by simpa using c31
  have sp := RW.body p (by simp)
  have hpn : p.n ≤ 140737488355328 := by have := sp.blen; have := hp2.out; have := HKL.out; rw [hp2.out] at *; omega
  have hPlt := hpar.lt
  have HP2 : Hid (p.l = k.2) := hp2.out
  clear c30 c31 RW told hk3 hn3 hp2
  go_wp2_with (first
    | (have kk := hn7; refine stPm (.tmp 44) (.tmp 43) (by rfl) rfl gB dst (anyP (famP dst)) (soP s ae k.2 ⟨0, 0⟩) rfl rfl rC7 ?_; intro w8 hg8 rC8)
    | (go_at_call 103; have kk := hr5; refine (source_any ae P6 R6).mono ?_; rintro e w7 ⟨rfl, hn7⟩; have rC7 := (rC5.setOther P 11 (.pointer (some ⟨g2, 0, none⟩)) (by omega)).nowS hn7 (by omega))
    | (go_at_call 46; refine (new_any p.a p.n p.c p.l _ sp hpn).mono ?_; rintro e w5 ⟨g2, bv2, rfl, hge, hbv, hr5, hb5⟩; rw [HP2.out] at hr5; have P5 := PF.below hb5; have f5 := P5.frozen 11; have c5 := ((PF.pg NF.rd).below hb5).c; have rC5 := rC.below hb5 rC.lt; have rA5 := rAf.below hb5 rAf.lt; have P6 := P5.setR (g := g2); have hlC := rC.lt; have R6 : RdS (w5.setCell ⟨P, 11, none⟩ (.pointer (some ⟨g2, 0, none⟩))) g2 bv2 k.2 ⟨0, 0⟩ := rd_far (r := ⟨0, 0⟩) hr5 (grownBy_setCell _ _ _ _) (by omega) (fun ad had _ => by have := hbv ad had; omega); have M6 := (MF.trans (Mv.ofB hb5)).setP 11 (.pointer (some ⟨g2, 0, none⟩)); have rA6 := rA5.setOther P 11 (.pointer (some ⟨g2, 0, none⟩)) (by have := hpar.lt; omega)))
  have h2ge : w.heap.size ≤ g2 := by omega
  have hB2 : gB < g2 := by omega
  have rA7 := rA6.nowS hn7 (by omega)
  replace rC := rC8
  replace rAf := rA7.grown hg8 (fun e => by have := Option.some.inj e; omega)
  have RW8 : RdS w8 g2 bv2 k.2 (soN s ae k.2 ⟨0, 0⟩) := rd_far hn7.rd hg8 (by omega) (fun ad had _ => by have := hbv ad had; omega)
  replace PF := (P6.now R6 hn7).fresh hg8 (fun t cs hr => by unfold Row at hr rC7; rw [rC7] at hr; cases hr; exact ⟨by decide, by decide, by decide⟩)
  replace MF := (M6.fresh hn7.grown h2ge).fresh hg8 (by omega)
  have RF := RW8.below (bd w8)
  have hq0 := hqA
  replace hqA : gA ≠ g2 := by omega
  replace hqB : gB ≠ g2 := by omega
  have HWW : Hid (∀ W, Pg W P g2 → RdS W g2 bv2 k.2 (soN s ae k.2 ⟨0, 0⟩) → Calls Try.prog 82 #[.pointer (some ⟨P, 0, none⟩)] W fun e w' => e = .returned (.bool false) ∧ NowS W w' g2 bv2 k.2 (soN s ae k.2 ⟨0, 0⟩)) := fun W h1 h2 => by rw [← HWE.out]; exact well_any h1 h2
  have hgAB : gA < gB := by omega
  clear hr5 hb5 P5 P6 rC5 rA5 rA6 M6 R6 rA7 rC7 hn7 hg8 rC8 RW8 c31' sp NF
  have PD := PF.below (bd w8)
  replace rC := rC.below (bd w8) rC.lt
  replace rAf := rAf.below (bd w8) rAf.lt
  replace MF := MF.trans (Mv.ofB (bd w8))
  replace PF := PD
  clear PD
  refine wp_region_noPanic ?_
  refine wp_region_held_drew (S := fun W => Row W gB 30 (qcells (⟨dst, soP s ae k.2 ⟨0, 0⟩⟩))) (by kernel_rfl) (rC) (fun hHeld => ?_)
  refine tL 0 rfl (yQ (⟨dst, soP s ae k.2 ⟨0, 0⟩⟩) (fun W hW => hW.range) (by rfl) rfl rfl) ?_
  refine tA 1 ?_
  refine r1 2 fun K hK => ?_
  go_simp
  refine (HWW.out _ (PF.pg RF) RF).mono ?_
  rintro e w6 ⟨rfl, hn6⟩
  have rF6 := rAf
  replace rAf := rAf.nowS hn6 hqA
  replace rC := rC.nowS hn6 hqB
  replace PF := PF.now RF hn6
  replace MF := MF.fresh hn6.grown h2ge
  refine oK hK (by exact rC) fun hHeld => ?_
  clear hK K
  refine tA 3 ?_
  refine tN 4 ?_
  refine tN 5 ?_
  refine tN 6 ?_
  refine tA 7 ?_
  refine r1 8 fun K hK => ?_
  refine sStQ (.tmp 6) (.tmp 45) (by rfl) rfl gA (⟨dst, soP s ae k.2 ⟨0, 0⟩⟩) _ (qcells_len _) rfl rfl rAf ?_
  intro w8 hg8 r8
  have rC8 := rC.grown hg8 (fun e => by have := Option.some.inj e; omega)
  replace PF := PF.fresh hg8 (fun t cs hr => by unfold Row at hr rAf; rw [rAf] at hr; cases hr; exact ⟨by decide, by decide, by decide⟩)
  replace MF := MF.fresh hg8 hA0
  refine oK hK (by exact rC8) fun hHeld => ?_
  clear hK K
  refine tA 9 ?_
  refine dN ?_
  refine NoPanic.normal ?_
  go_wp2
  exact bodyPost_ret (retCT rfl _ _ 0 rfl (lvQ r8.range)) rfl ⟨rfl, ⟨_, PF⟩, MF⟩
/-- pair, whatever the pieces within are. -/
theorem pair_any {w : World} {P g : Nat} {l : List UInt8} {r : RS} {s : St} (ae : Nat) (dst : Pf) (hl : l.length ≤ 100000) (hpar : Par w P (some g) s) (h : RdS w g bv l r) :
    Calls Try.prog 87 #[.pointer (some ⟨P, 0, none⟩), .int .u8 (ae : Int), (Value.agg (pcells dst).toArray)] w (Paired w P g s (prQ s ae dst l r) (prB s ae dst l r)) := by
  unfold prQ prB
  cases hb : wiB [128] l r with
  | false => exact pair_no1 ae dst hl hpar h hb
  | true =>
    by_cases hn : (wiL [128] l r).length ≤ 1
    · rw [if_pos (by simp [hn]), if_pos (by simp [hn])]
      unfold prK prW
      match hx : wiL [128] l r, hn with
      | [], _ => simpa using pair_0 ae dst hl hpar h hb (by rw [hx]; rfl)
      | [k], _ =>
        simp only
        cases hw : ((soN s ae k.2 ⟨0, 0⟩).y == 0) with
        | true => simpa using pair_1true ae dst hl hpar h hb hx hw
        | false => simpa using pair_1false ae dst hl hpar h hb hx hw
    · rw [if_neg (by simp [hn]), if_neg (by simp [hn])]
      exact pair_no2 ae dst hl hpar h hb (by omega)
end Go.Proofs.Ytognnfknbkedgaa
