/-
  The document's bare for every Tlv.
-/
import Derived.Test.YtdibjgcokebfbaaGreatM19
namespace Go.Proofs.YtdibjgcokebfbaaGreat
open Go.RowKit
set_option linter.unusedSimpArgs false
set_option maxRecDepth 20000

section
variable {ops : Array Oper} {rest : List Oper} {op : Oper} {a : Act} {w : World} {Q : Exit → Act → World → Prop}
theorem st16 (x y : Operand) (hw : Region.wanted op (yielded ops a.tmps) = true) (ho : op.op = .store 36 x y) (b c : Nat) {U : TypeId} (cs : List Value) (n : Int) (hx : a.eval x = .pointer (some ⟨b, c, none⟩)) (hy : a.eval y = .int .u16 n) (hr : Row w b U cs) (hc : c < cs.length)
    (h : ∀ W, w.grownBy W (some b) → Row W b U (cs.set c (.int .u16 n)) → wpList Tryz.prog ops Q rest (a.put op.dst undef) W) : wpList Tryz.prog ops Q (op :: rest) a w :=
  wpList_step fun K hK => by
    rw [if_pos hw]
    have c1 : w.cell? ⟨b, c, none⟩ = some cs[c] := by rw [hr.cell]; exact List.getElem?_eq_getElem hc
    have c2 := hr.frozen c
    unfold Oper.wp execOp
    simp only [ho, hx, hy]
    go_simp
    exact hK _ _ (h _ (grownBy_setCell w b c _) (hr.set c _))
theorem st8 (x y : Operand) (hw : Region.wanted op (yielded ops a.tmps) = true) (ho : op.op = .store 5 x y) (b c : Nat) {U : TypeId} (cs : List Value) (n : Int) (hx : a.eval x = .pointer (some ⟨b, c, none⟩)) (hy : a.eval y = .int .u8 n) (hr : Row w b U cs) (hc : c < cs.length)
    (h : ∀ W, w.grownBy W (some b) → Row W b U (cs.set c (.int .u8 n)) → wpList Tryz.prog ops Q rest (a.put op.dst undef) W) : wpList Tryz.prog ops Q (op :: rest) a w :=
  wpList_step fun K hK => by
    rw [if_pos hw]
    have c1 : w.cell? ⟨b, c, none⟩ = some cs[c] := by rw [hr.cell]; exact List.getElem?_eq_getElem hc
    have c2 := hr.frozen c
    unfold Oper.wp execOp
    simp only [ho, hx, hy]
    go_simp
    exact hK _ _ (h _ (grownBy_setCell w b c _) (hr.set c _))
theorem stB (x y : Operand) (hw : Region.wanted op (yielded ops a.tmps) = true) (ho : op.op = .store 4 x y) (b c : Nat) {U : TypeId} (cs : List Value) (n : Bool) (hx : a.eval x = .pointer (some ⟨b, c, none⟩)) (hy : a.eval y = .bool n) (hr : Row w b U cs) (hc : c < cs.length)
    (h : ∀ W, w.grownBy W (some b) → Row W b U (cs.set c (.bool n)) → wpList Tryz.prog ops Q rest (a.put op.dst undef) W) : wpList Tryz.prog ops Q (op :: rest) a w :=
  wpList_step fun K hK => by
    rw [if_pos hw]
    have c1 : w.cell? ⟨b, c, none⟩ = some cs[c] := by rw [hr.cell]; exact List.getElem?_eq_getElem hc
    have c2 := hr.frozen c
    unfold Oper.wp execOp
    simp only [ho, hx, hy]
    go_simp
    exact hK _ _ (h _ (grownBy_setCell w b c _) (hr.set c _))
end
/-- A Tlv of a type with nothing but its Stamps. -/
def begT (t : Tl) : Tl := { zeroT with ty := t.ty, sa := t.sa, sn := t.sn, sc := t.sc, st := t.st }
theorem bdX (y : Int) (a : Option Addr) (n c : Nat) (w : World) : (Instr.build 45 #[(0, .int .u8 y), (12, .slice a n c)]).run Tryz.prog w = .ok (.agg (([.int .u8 y, .int .u16 0, .int .u16 0, .int .u16 0, .int .u16 0, .int .u16 0, .int .u8 0, .bool false, .bool false] : List Value) ++ (icells zeroI ++ (acells zeroA ++ (qcells zeroQ ++ [Value.slice a n c])))).toArray) w := by kernel_rfl
theorem bdY (t : Tl) (w : World) : (Instr.build 45 #[(0, .int .u8 (t.ty : Int)), (12, .slice t.sa t.sn t.sc)]).run Tryz.prog w = .ok (.agg (tcells (begT t)).toArray) w := bdX _ _ _ _ w
/-- What holds on the way. -/
structure Bx (w W : World) (t : Tl) (gO gX : Nat) (u : Tl) : Prop where
  bel : Below w.heap.size w W
  rT : Row W w.heap.size 45 (tcells t)
  rO : Row W gO 45 (tcells zeroT)
  rX : Row W gX 45 (tcells u)
  g1 : w.heap.size < gO
  g2 : gO < gX
section
variable {w W W' : World} {t u : Tl} {gO gX : Nat}
theorem Bx.step {v : Tl} (h : Bx w W t gO gX u) (hg : W.grownBy W' (some gX)) (hr : Row W' gX 45 (tcells v)) : Bx w W' t gO gX v := by
  have h1 := h.g1
  have h2 := h.g2
  exact ⟨h.bel.grown hg h.bel.size (fun k hk => by cases hk; omega), h.rT.grown hg (fun e => by have := Option.some.inj e; omega), h.rO.grown hg (fun e => by have := Option.some.inj e; omega), hr, h1, h2⟩
theorem Bx.s_nonce (h : Bx w W t gO gX u) (n : Nat) (hg : W.grownBy W' (some gX)) (hr : Row W' gX 45 ((tcells u).set 1 (.int .u16 (n : Int)))) : Bx w W' t gO gX { u with nonce := n } := h.step hg hr
theorem Bx.m_nonce (h : Bx w W t gO gX u) : W.cell? ⟨w.heap.size, 1, none⟩ = some (.int .u16 (t.nonce : Int)) := h.rT.cell 1
theorem Bx.s_intv (h : Bx w W t gO gX u) (n : Nat) (hg : W.grownBy W' (some gX)) (hr : Row W' gX 45 ((tcells u).set 2 (.int .u16 (n : Int)))) : Bx w W' t gO gX { u with intv := n } := h.step hg hr
theorem Bx.m_intv (h : Bx w W t gO gX u) : W.cell? ⟨w.heap.size, 2, none⟩ = some (.int .u16 (t.intv : Int)) := h.rT.cell 2
theorem Bx.s_seq (h : Bx w W t gO gX u) (n : Nat) (hg : W.grownBy W' (some gX)) (hr : Row W' gX 45 ((tcells u).set 3 (.int .u16 (n : Int)))) : Bx w W' t gO gX { u with seq := n } := h.step hg hr
theorem Bx.m_seq (h : Bx w W t gO gX u) : W.cell? ⟨w.heap.size, 3, none⟩ = some (.int .u16 (t.seq : Int)) := h.rT.cell 3
theorem Bx.s_rx (h : Bx w W t gO gX u) (n : Nat) (hg : W.grownBy W' (some gX)) (hr : Row W' gX 45 ((tcells u).set 4 (.int .u16 (n : Int)))) : Bx w W' t gO gX { u with rx := n } := h.step hg hr
theorem Bx.m_rx (h : Bx w W t gO gX u) : W.cell? ⟨w.heap.size, 4, none⟩ = some (.int .u16 (t.rx : Int)) := h.rT.cell 4
theorem Bx.s_met (h : Bx w W t gO gX u) (n : Nat) (hg : W.grownBy W' (some gX)) (hr : Row W' gX 45 ((tcells u).set 5 (.int .u16 (n : Int)))) : Bx w W' t gO gX { u with met := n } := h.step hg hr
theorem Bx.m_met (h : Bx w W t gO gX u) : W.cell? ⟨w.heap.size, 5, none⟩ = some (.int .u16 (t.met : Int)) := h.rT.cell 5
theorem Bx.s_hops (h : Bx w W t gO gX u) (n : Nat) (hg : W.grownBy W' (some gX)) (hr : Row W' gX 45 ((tcells u).set 6 (.int .u8 (n : Int)))) : Bx w W' t gO gX { u with hops := n } := h.step hg hr
theorem Bx.m_hops (h : Bx w W t gO gX u) : W.cell? ⟨w.heap.size, 6, none⟩ = some (.int .u8 (t.hops : Int)) := h.rT.cell 6
theorem Bx.s_uni (h : Bx w W t gO gX u) (n : Bool) (hg : W.grownBy W' (some gX)) (hr : Row W' gX 45 ((tcells u).set 7 (.bool n))) : Bx w W' t gO gX { u with uni := n } := h.step hg hr
theorem Bx.m_uni (h : Bx w W t gO gX u) : W.cell? ⟨w.heap.size, 7, none⟩ = some (.bool t.uni) := h.rT.cell 7
theorem Bx.s_all (h : Bx w W t gO gX u) (n : Bool) (hg : W.grownBy W' (some gX)) (hr : Row W' gX 45 ((tcells u).set 8 (.bool n))) : Bx w W' t gO gX { u with all := n } := h.step hg hr
theorem Bx.m_all (h : Bx w W t gO gX u) : W.cell? ⟨w.heap.size, 8, none⟩ = some (.bool t.all) := h.rT.cell 8
end
set_option maxHeartbeats 4000000 in
theorem bare_2 (t : Tl) (w : World) (hy : t.ty = 2)  :
    Calls Tryz.prog 29 #[.agg (tcells t).toArray] w fun e w' => e = .returned (.agg (tcells { begT t with nonce := t.nonce, intv := t.intv }).toArray) ∧ Below w.heap.size w w' := by
  have RT := Row.new w 45 (tcells t)
  have HY : Hid ((t.ty : Int) = 2) := by show _ = _; rw [hy]; rfl
  clear hy
  go_enter Tryz.func29, Tryz.ntmps29
  go_wp2_with (first
    | (have kk := B2; refine stT (.tmp 2) (.tmp 106) (by rfl) rfl gO ({ begT t with nonce := t.nonce, intv := t.intv }) zeroT rfl rfl (by exact B2.rO) ?_; intro w9 g9 r9)
    | (have kk := B2; refine ldT (.tmp 3) (by rfl) rfl gX ({ begT t with nonce := t.nonce, intv := t.intv }) rfl (by exact B2.rX) ?_)
    | (have kk := B1; refine st16 (.tmp 18) (.tmp 17) (by rfl) rfl gX 2 (tcells ({ begT t with nonce := t.nonce })) (t.intv : Int) rfl rfl (by exact B1.rX) (by rw [tcells_len]; omega) ?_; intro w3 g3 r3; have B2 := B1.s_intv t.intv g3 r3)
    | (have kk := B0; refine st16 (.tmp 15) (.tmp 14) (by rfl) rfl gX 1 (tcells ((begT t))) (t.nonce : Int) rfl rfl (by exact B0.rX) (by rw [tcells_len]; omega) ?_; intro w2 g2 r2; have B1 := B0.s_nonce t.nonce g2 r2; have m1 := B1.m_intv)
    | (have kk := rX; refine stT (.tmp 3) (.tmp 8) (by rfl) rfl gX (begT t) zeroT rfl rfl rX ?_; intro w1 g1 r1; have B0 : Bx w w1 t gO gX (begT t) := Bx.step ⟨bt (bt (ba _ _) a3) b3, (RT.below a3 RT.lt).below b3 (RT.below a3 RT.lt).lt, rO.below b3 rO.lt, rX, (by simp at a1; omega), (by omega)⟩ g1 r1; have y0 : w1.cell? ⟨w.heap.size, 0, none⟩ = some (.int .u8 2) := (by have := B0.rT.cell 0; rw [this]; show some (Value.int .u8 (t.ty : Int)) = _; rw [HY.out]); have m0 := B0.m_nonce)
    | (have kk := rO; refine alG infoTz (by rfl) rfl ?_; intro gX wX b1 b2 b3 rX)
    | (have kk := rO; (with_reducible refine bdG (v := .agg (tcells (begT t)).toArray) [(0, .tmp 5), (12, .tmp 7)] ?_ ?_ ?_ ?_); focus rfl; focus rfl; focus exact bdY t _)
    | (refine alG infoTz (by rfl) rfl ?_; intro gO wO a1 a2 a3 rO; have c0 : wO.cell? ⟨w.heap.size, 0, none⟩ = some (.int .u8 (t.ty : Int)) := (RT.below a3 RT.lt).cell 0; have c67 : wO.cell? ⟨w.heap.size, 67, none⟩ = some (.slice t.sa t.sn t.sc) := (RT.below a3 RT.lt).rSt))
  exact bodyPost_ret (retC rfl _ _ 0 rfl (lvT r9)) rfl ⟨rfl, B2.bel.grown g9 B2.bel.size (fun k hk => by cases hk; exact Nat.le_of_lt B2.g1)⟩
set_option maxHeartbeats 4000000 in
theorem bare_3 (t : Tl) (w : World) (hy : t.ty = 3)  :
    Calls Tryz.prog 29 #[.agg (tcells t).toArray] w fun e w' => e = .returned (.agg (tcells { begT t with nonce := t.nonce }).toArray) ∧ Below w.heap.size w w' := by
  have RT := Row.new w 45 (tcells t)
  have HY : Hid ((t.ty : Int) = 3) := by show _ = _; rw [hy]; rfl
  clear hy
  go_enter Tryz.func29, Tryz.ntmps29
  go_wp2_with (first
    | (have kk := B1; refine stT (.tmp 2) (.tmp 106) (by rfl) rfl gO ({ begT t with nonce := t.nonce }) zeroT rfl rfl (by exact B1.rO) ?_; intro w9 g9 r9)
    | (have kk := B1; refine ldT (.tmp 3) (by rfl) rfl gX ({ begT t with nonce := t.nonce }) rfl (by exact B1.rX) ?_)
    | (have kk := B0; refine st16 (.tmp 23) (.tmp 22) (by rfl) rfl gX 1 (tcells ((begT t))) (t.nonce : Int) rfl rfl (by exact B0.rX) (by rw [tcells_len]; omega) ?_; intro w2 g2 r2; have B1 := B0.s_nonce t.nonce g2 r2)
    | (have kk := rX; refine stT (.tmp 3) (.tmp 8) (by rfl) rfl gX (begT t) zeroT rfl rfl rX ?_; intro w1 g1 r1; have B0 : Bx w w1 t gO gX (begT t) := Bx.step ⟨bt (bt (ba _ _) a3) b3, (RT.below a3 RT.lt).below b3 (RT.below a3 RT.lt).lt, rO.below b3 rO.lt, rX, (by simp at a1; omega), (by omega)⟩ g1 r1; have y0 : w1.cell? ⟨w.heap.size, 0, none⟩ = some (.int .u8 3) := (by have := B0.rT.cell 0; rw [this]; show some (Value.int .u8 (t.ty : Int)) = _; rw [HY.out]); have m0 := B0.m_nonce)
    | (have kk := rO; refine alG infoTz (by rfl) rfl ?_; intro gX wX b1 b2 b3 rX)
    | (have kk := rO; (with_reducible refine bdG (v := .agg (tcells (begT t)).toArray) [(0, .tmp 5), (12, .tmp 7)] ?_ ?_ ?_ ?_); focus rfl; focus rfl; focus exact bdY t _)
    | (refine alG infoTz (by rfl) rfl ?_; intro gO wO a1 a2 a3 rO; have c0 : wO.cell? ⟨w.heap.size, 0, none⟩ = some (.int .u8 (t.ty : Int)) := (RT.below a3 RT.lt).cell 0; have c67 : wO.cell? ⟨w.heap.size, 67, none⟩ = some (.slice t.sa t.sn t.sc) := (RT.below a3 RT.lt).rSt))
  exact bodyPost_ret (retC rfl _ _ 0 rfl (lvT r9)) rfl ⟨rfl, B1.bel.grown g9 B1.bel.size (fun k hk => by cases hk; exact Nat.le_of_lt B1.g1)⟩
set_option maxHeartbeats 4000000 in
theorem bare_4 (t : Tl) (w : World) (hy : t.ty = 4)  :
    Calls Tryz.prog 29 #[.agg (tcells t).toArray] w fun e w' => e = .returned (.agg (tcells { begT t with seq := t.seq, intv := t.intv, uni := t.uni }).toArray) ∧ Below w.heap.size w w' := by
  have RT := Row.new w 45 (tcells t)
  have HY : Hid ((t.ty : Int) = 4) := by show _ = _; rw [hy]; rfl
  clear hy
  go_enter Tryz.func29, Tryz.ntmps29
  go_wp2_with (first
    | (have kk := B3; refine stT (.tmp 2) (.tmp 106) (by rfl) rfl gO ({ begT t with seq := t.seq, intv := t.intv, uni := t.uni }) zeroT rfl rfl (by exact B3.rO) ?_; intro w9 g9 r9)
    | (have kk := B3; refine ldT (.tmp 3) (by rfl) rfl gX ({ begT t with seq := t.seq, intv := t.intv, uni := t.uni }) rfl (by exact B3.rX) ?_)
    | (have kk := B2; refine stB (.tmp 34) (.tmp 33) (by rfl) rfl gX 7 (tcells ({ begT t with seq := t.seq, intv := t.intv })) t.uni rfl rfl (by exact B2.rX) (by rw [tcells_len]; omega) ?_; intro w4 g4 r4; have B3 := B2.s_uni t.uni g4 r4)
    | (have kk := B1; refine st16 (.tmp 31) (.tmp 30) (by rfl) rfl gX 2 (tcells ({ begT t with seq := t.seq })) (t.intv : Int) rfl rfl (by exact B1.rX) (by rw [tcells_len]; omega) ?_; intro w3 g3 r3; have B2 := B1.s_intv t.intv g3 r3; have m2 := B2.m_uni)
    | (have kk := B0; refine st16 (.tmp 28) (.tmp 27) (by rfl) rfl gX 3 (tcells ((begT t))) (t.seq : Int) rfl rfl (by exact B0.rX) (by rw [tcells_len]; omega) ?_; intro w2 g2 r2; have B1 := B0.s_seq t.seq g2 r2; have m1 := B1.m_intv)
    | (have kk := rX; refine stT (.tmp 3) (.tmp 8) (by rfl) rfl gX (begT t) zeroT rfl rfl rX ?_; intro w1 g1 r1; have B0 : Bx w w1 t gO gX (begT t) := Bx.step ⟨bt (bt (ba _ _) a3) b3, (RT.below a3 RT.lt).below b3 (RT.below a3 RT.lt).lt, rO.below b3 rO.lt, rX, (by simp at a1; omega), (by omega)⟩ g1 r1; have y0 : w1.cell? ⟨w.heap.size, 0, none⟩ = some (.int .u8 4) := (by have := B0.rT.cell 0; rw [this]; show some (Value.int .u8 (t.ty : Int)) = _; rw [HY.out]); have m0 := B0.m_seq)
    | (have kk := rO; refine alG infoTz (by rfl) rfl ?_; intro gX wX b1 b2 b3 rX)
    | (have kk := rO; (with_reducible refine bdG (v := .agg (tcells (begT t)).toArray) [(0, .tmp 5), (12, .tmp 7)] ?_ ?_ ?_ ?_); focus rfl; focus rfl; focus exact bdY t _)
    | (refine alG infoTz (by rfl) rfl ?_; intro gO wO a1 a2 a3 rO; have c0 : wO.cell? ⟨w.heap.size, 0, none⟩ = some (.int .u8 (t.ty : Int)) := (RT.below a3 RT.lt).cell 0; have c67 : wO.cell? ⟨w.heap.size, 67, none⟩ = some (.slice t.sa t.sn t.sc) := (RT.below a3 RT.lt).rSt))
  exact bodyPost_ret (retC rfl _ _ 0 rfl (lvT r9)) rfl ⟨rfl, B3.bel.grown g9 B3.bel.size (fun k hk => by cases hk; exact Nat.le_of_lt B3.g1)⟩
set_option maxHeartbeats 4000000 in
theorem bare_5t (t : Tl) (w : World) (hy : t.ty = 5) (hall : t.all = true) :
    Calls Tryz.prog 29 #[.agg (tcells t).toArray] w fun e w' => e = .returned (.agg (tcells { begT t with rx := t.rx, intv := t.intv, all := t.all }).toArray) ∧ Below w.heap.size w w' := by
  have RT := Row.new w 45 (tcells t)
  have HY : Hid ((t.ty : Int) = 5) := by show _ = _; rw [hy]; rfl
  clear hy
  have HA : Hid (t.all = true) := hall
  clear hall
  go_enter Tryz.func29, Tryz.ntmps29
  go_wp2_with (first
    | (have kk := B3; refine stT (.tmp 2) (.tmp 106) (by rfl) rfl gO ({ begT t with rx := t.rx, intv := t.intv, all := t.all }) zeroT rfl rfl (by exact B3.rO) ?_; intro w9 g9 r9)
    | (have kk := B3; refine ldT (.tmp 3) (by rfl) rfl gX ({ begT t with rx := t.rx, intv := t.intv, all := t.all }) rfl (by exact B3.rX) ?_)
    | (have kk := B2; refine stB (.tmp 45) (.tmp 44) (by rfl) rfl gX 8 (tcells ({ begT t with rx := t.rx, intv := t.intv })) t.all rfl rfl (by exact B2.rX) (by rw [tcells_len]; omega) ?_; intro w4 g4 r4; have B3 := B2.s_all t.all g4 r4; have mA3 : w4.cell? ⟨w.heap.size, 8, none⟩ = some (.bool true) := (by rw [← HA.out]; exact B3.m_all))
    | (have kk := B1; refine st16 (.tmp 42) (.tmp 41) (by rfl) rfl gX 2 (tcells ({ begT t with rx := t.rx })) (t.intv : Int) rfl rfl (by exact B1.rX) (by rw [tcells_len]; omega) ?_; intro w3 g3 r3; have B2 := B1.s_intv t.intv g3 r3; have m2 := B2.m_all)
    | (have kk := B0; refine st16 (.tmp 39) (.tmp 38) (by rfl) rfl gX 4 (tcells ((begT t))) (t.rx : Int) rfl rfl (by exact B0.rX) (by rw [tcells_len]; omega) ?_; intro w2 g2 r2; have B1 := B0.s_rx t.rx g2 r2; have m1 := B1.m_intv)
    | (have kk := rX; refine stT (.tmp 3) (.tmp 8) (by rfl) rfl gX (begT t) zeroT rfl rfl rX ?_; intro w1 g1 r1; have B0 : Bx w w1 t gO gX (begT t) := Bx.step ⟨bt (bt (ba _ _) a3) b3, (RT.below a3 RT.lt).below b3 (RT.below a3 RT.lt).lt, rO.below b3 rO.lt, rX, (by simp at a1; omega), (by omega)⟩ g1 r1; have y0 : w1.cell? ⟨w.heap.size, 0, none⟩ = some (.int .u8 5) := (by have := B0.rT.cell 0; rw [this]; show some (Value.int .u8 (t.ty : Int)) = _; rw [HY.out]); have m0 := B0.m_rx)
    | (have kk := rO; refine alG infoTz (by rfl) rfl ?_; intro gX wX b1 b2 b3 rX)
    | (have kk := rO; (with_reducible refine bdG (v := .agg (tcells (begT t)).toArray) [(0, .tmp 5), (12, .tmp 7)] ?_ ?_ ?_ ?_); focus rfl; focus rfl; focus exact bdY t _)
    | (refine alG infoTz (by rfl) rfl ?_; intro gO wO a1 a2 a3 rO; have c0 : wO.cell? ⟨w.heap.size, 0, none⟩ = some (.int .u8 (t.ty : Int)) := (RT.below a3 RT.lt).cell 0; have c67 : wO.cell? ⟨w.heap.size, 67, none⟩ = some (.slice t.sa t.sn t.sc) := (RT.below a3 RT.lt).rSt))
  exact bodyPost_ret (retC rfl _ _ 0 rfl (lvT r9)) rfl ⟨rfl, B3.bel.grown g9 B3.bel.size (fun k hk => by cases hk; exact Nat.le_of_lt B3.g1)⟩
set_option maxHeartbeats 4000000 in
theorem bare_5f (t : Tl) (w : World) (hy : t.ty = 5) (hall : t.all = false) :
    Calls Tryz.prog 29 #[.agg (tcells t).toArray] w fun e w' => e = .returned (.agg (tcells { begT t with rx := t.rx, intv := t.intv, all := t.all, ad := t.ad }).toArray) ∧ Below w.heap.size w w' := by
  have RT := Row.new w 45 (tcells t)
  have HY : Hid ((t.ty : Int) = 5) := by show _ = _; rw [hy]; rfl
  clear hy
  have HA : Hid (t.all = false) := hall
  clear hall
  go_enter Tryz.func29, Tryz.ntmps29
  go_wp2_with (first
    | (have kk := B4; refine stT (.tmp 2) (.tmp 106) (by rfl) rfl gO ({ begT t with rx := t.rx, intv := t.intv, all := t.all, ad := t.ad }) zeroT rfl rfl (by exact B4.rO) ?_; intro w9 g9 r9)
    | (have kk := B4; refine ldT (.tmp 3) (by rfl) rfl gX ({ begT t with rx := t.rx, intv := t.intv, all := t.all, ad := t.ad }) rfl (by exact B4.rX) ?_)
    | (have kk := B3; refine stAt (.tmp 51) (.tmp 50) (by rfl) rfl gX ({ begT t with rx := t.rx, intv := t.intv, all := t.all }) t.ad rfl rfl (by exact B3.rX) ?_; intro w5 g5 r5; have B4 := B3.step g5 r5)
    | (have kk := B3; refine ldA (.tmp 49) (by rfl) rfl w.heap.size 17 t.ad rfl (by exact B3.rT.rAd) ?_)
    | (have kk := B2; refine stB (.tmp 45) (.tmp 44) (by rfl) rfl gX 8 (tcells ({ begT t with rx := t.rx, intv := t.intv })) t.all rfl rfl (by exact B2.rX) (by rw [tcells_len]; omega) ?_; intro w4 g4 r4; have B3 := B2.s_all t.all g4 r4; have mA3 : w4.cell? ⟨w.heap.size, 8, none⟩ = some (.bool false) := (by rw [← HA.out]; exact B3.m_all))
    | (have kk := B1; refine st16 (.tmp 42) (.tmp 41) (by rfl) rfl gX 2 (tcells ({ begT t with rx := t.rx })) (t.intv : Int) rfl rfl (by exact B1.rX) (by rw [tcells_len]; omega) ?_; intro w3 g3 r3; have B2 := B1.s_intv t.intv g3 r3; have m2 := B2.m_all)
    | (have kk := B0; refine st16 (.tmp 39) (.tmp 38) (by rfl) rfl gX 4 (tcells ((begT t))) (t.rx : Int) rfl rfl (by exact B0.rX) (by rw [tcells_len]; omega) ?_; intro w2 g2 r2; have B1 := B0.s_rx t.rx g2 r2; have m1 := B1.m_intv)
    | (have kk := rX; refine stT (.tmp 3) (.tmp 8) (by rfl) rfl gX (begT t) zeroT rfl rfl rX ?_; intro w1 g1 r1; have B0 : Bx w w1 t gO gX (begT t) := Bx.step ⟨bt (bt (ba _ _) a3) b3, (RT.below a3 RT.lt).below b3 (RT.below a3 RT.lt).lt, rO.below b3 rO.lt, rX, (by simp at a1; omega), (by omega)⟩ g1 r1; have y0 : w1.cell? ⟨w.heap.size, 0, none⟩ = some (.int .u8 5) := (by have := B0.rT.cell 0; rw [this]; show some (Value.int .u8 (t.ty : Int)) = _; rw [HY.out]); have m0 := B0.m_rx)
    | (have kk := rO; refine alG infoTz (by rfl) rfl ?_; intro gX wX b1 b2 b3 rX)
    | (have kk := rO; (with_reducible refine bdG (v := .agg (tcells (begT t)).toArray) [(0, .tmp 5), (12, .tmp 7)] ?_ ?_ ?_ ?_); focus rfl; focus rfl; focus exact bdY t _)
    | (refine alG infoTz (by rfl) rfl ?_; intro gO wO a1 a2 a3 rO; have c0 : wO.cell? ⟨w.heap.size, 0, none⟩ = some (.int .u8 (t.ty : Int)) := (RT.below a3 RT.lt).cell 0; have c67 : wO.cell? ⟨w.heap.size, 67, none⟩ = some (.slice t.sa t.sn t.sc) := (RT.below a3 RT.lt).rSt))
  exact bodyPost_ret (retC rfl _ _ 0 rfl (lvT r9)) rfl ⟨rfl, B4.bel.grown g9 B4.bel.size (fun k hk => by cases hk; exact Nat.le_of_lt B4.g1)⟩
set_option maxHeartbeats 4000000 in
theorem bare_8ti (t : Tl) (w : World) (hy : t.ty = 8) (hall : t.all = true) (hmet : t.met = 65535) :
    Calls Tryz.prog 29 #[.agg (tcells t).toArray] w fun e w' => e = .returned (.agg (tcells { begT t with intv := t.intv, seq := t.seq, met := t.met, all := t.all }).toArray) ∧ Below w.heap.size w w' := by
  have RT := Row.new w 45 (tcells t)
  have HY : Hid ((t.ty : Int) = 8) := by show _ = _; rw [hy]; rfl
  clear hy
  have HA : Hid (t.all = true) := hall
  clear hall
  have HM : Hid ((t.met : Int) = 65535) := by show _ = _; rw [hmet]; rfl
  clear hmet
  go_enter Tryz.func29, Tryz.ntmps29
  go_wp2_with (first
    | (have kk := B4; refine stT (.tmp 2) (.tmp 106) (by rfl) rfl gO ({ begT t with intv := t.intv, seq := t.seq, met := t.met, all := t.all }) zeroT rfl rfl (by exact B4.rO) ?_; intro w9 g9 r9)
    | (have kk := B4; refine ldT (.tmp 3) (by rfl) rfl gX ({ begT t with intv := t.intv, seq := t.seq, met := t.met, all := t.all }) rfl (by exact B4.rX) ?_)
    | (have kk := B3; refine stB (.tmp 65) (.tmp 64) (by rfl) rfl gX 8 (tcells ({ begT t with intv := t.intv, seq := t.seq, met := t.met })) t.all rfl rfl (by exact B3.rX) (by rw [tcells_len]; omega) ?_; intro w5 g5 r5; have B4 := B3.s_all t.all g5 r5; have mA4 : w5.cell? ⟨w.heap.size, 8, none⟩ = some (.bool true) := (by rw [← HA.out]; exact B4.m_all); have mM4 : w5.cell? ⟨w.heap.size, 5, none⟩ = some (.int .u16 65535) := (by rw [← HM.out]; exact B4.m_met))
    | (have kk := B2; refine st16 (.tmp 62) (.tmp 61) (by rfl) rfl gX 5 (tcells ({ begT t with intv := t.intv, seq := t.seq })) (t.met : Int) rfl rfl (by exact B2.rX) (by rw [tcells_len]; omega) ?_; intro w4 g4 r4; have B3 := B2.s_met t.met g4 r4; have m3 := B3.m_all)
    | (have kk := B1; refine st16 (.tmp 59) (.tmp 58) (by rfl) rfl gX 3 (tcells ({ begT t with intv := t.intv })) (t.seq : Int) rfl rfl (by exact B1.rX) (by rw [tcells_len]; omega) ?_; intro w3 g3 r3; have B2 := B1.s_seq t.seq g3 r3; have m2 := B2.m_met)
    | (have kk := B0; refine st16 (.tmp 56) (.tmp 55) (by rfl) rfl gX 2 (tcells ((begT t))) (t.intv : Int) rfl rfl (by exact B0.rX) (by rw [tcells_len]; omega) ?_; intro w2 g2 r2; have B1 := B0.s_intv t.intv g2 r2; have m1 := B1.m_seq)
    | (have kk := rX; refine stT (.tmp 3) (.tmp 8) (by rfl) rfl gX (begT t) zeroT rfl rfl rX ?_; intro w1 g1 r1; have B0 : Bx w w1 t gO gX (begT t) := Bx.step ⟨bt (bt (ba _ _) a3) b3, (RT.below a3 RT.lt).below b3 (RT.below a3 RT.lt).lt, rO.below b3 rO.lt, rX, (by simp at a1; omega), (by omega)⟩ g1 r1; have y0 : w1.cell? ⟨w.heap.size, 0, none⟩ = some (.int .u8 8) := (by have := B0.rT.cell 0; rw [this]; show some (Value.int .u8 (t.ty : Int)) = _; rw [HY.out]); have m0 := B0.m_intv)
    | (have kk := rO; refine alG infoTz (by rfl) rfl ?_; intro gX wX b1 b2 b3 rX)
    | (have kk := rO; (with_reducible refine bdG (v := .agg (tcells (begT t)).toArray) [(0, .tmp 5), (12, .tmp 7)] ?_ ?_ ?_ ?_); focus rfl; focus rfl; focus exact bdY t _)
    | (refine alG infoTz (by rfl) rfl ?_; intro gO wO a1 a2 a3 rO; have c0 : wO.cell? ⟨w.heap.size, 0, none⟩ = some (.int .u8 (t.ty : Int)) := (RT.below a3 RT.lt).cell 0; have c67 : wO.cell? ⟨w.heap.size, 67, none⟩ = some (.slice t.sa t.sn t.sc) := (RT.below a3 RT.lt).rSt))
  exact bodyPost_ret (retC rfl _ _ 0 rfl (lvT r9)) rfl ⟨rfl, B4.bel.grown g9 B4.bel.size (fun k hk => by cases hk; exact Nat.le_of_lt B4.g1)⟩
set_option maxHeartbeats 4000000 in
theorem bare_8fi (t : Tl) (w : World) (hy : t.ty = 8) (hall : t.all = false) (hmet : t.met = 65535) :
    Calls Tryz.prog 29 #[.agg (tcells t).toArray] w fun e w' => e = .returned (.agg (tcells { begT t with intv := t.intv, seq := t.seq, met := t.met, all := t.all, pr := t.pr }).toArray) ∧ Below w.heap.size w w' := by
  have RT := Row.new w 45 (tcells t)
  have HY : Hid ((t.ty : Int) = 8) := by show _ = _; rw [hy]; rfl
  clear hy
  have HA : Hid (t.all = false) := hall
  clear hall
  have HM : Hid ((t.met : Int) = 65535) := by show _ = _; rw [hmet]; rfl
  clear hmet
  go_enter Tryz.func29, Tryz.ntmps29
  go_wp2_with (first
    | (have kk := B5; refine stT (.tmp 2) (.tmp 106) (by rfl) rfl gO ({ begT t with intv := t.intv, seq := t.seq, met := t.met, all := t.all, pr := t.pr }) zeroT rfl rfl (by exact B5.rO) ?_; intro w9 g9 r9)
    | (have kk := B5; refine ldT (.tmp 3) (by rfl) rfl gX ({ begT t with intv := t.intv, seq := t.seq, met := t.met, all := t.all, pr := t.pr }) rfl (by exact B5.rX) ?_)
    | (have kk := B4; refine stQt (.tmp 71) (.tmp 70) (by rfl) rfl gX ({ begT t with intv := t.intv, seq := t.seq, met := t.met, all := t.all }) t.pr rfl rfl (by exact B4.rX) ?_; intro w6 g6 r6; have B5 := B4.step g6 r6; have mM5 : w6.cell? ⟨w.heap.size, 5, none⟩ = some (.int .u16 65535) := (by rw [← HM.out]; exact B5.m_met))
    | (have kk := B4; refine ldQ (.tmp 69) (by rfl) rfl w.heap.size 33 t.pr rfl (by exact B4.rT.rPr) ?_)
    | (have kk := B3; refine stB (.tmp 65) (.tmp 64) (by rfl) rfl gX 8 (tcells ({ begT t with intv := t.intv, seq := t.seq, met := t.met })) t.all rfl rfl (by exact B3.rX) (by rw [tcells_len]; omega) ?_; intro w5 g5 r5; have B4 := B3.s_all t.all g5 r5; have mA4 : w5.cell? ⟨w.heap.size, 8, none⟩ = some (.bool false) := (by rw [← HA.out]; exact B4.m_all); have mM4 : w5.cell? ⟨w.heap.size, 5, none⟩ = some (.int .u16 65535) := (by rw [← HM.out]; exact B4.m_met))
    | (have kk := B2; refine st16 (.tmp 62) (.tmp 61) (by rfl) rfl gX 5 (tcells ({ begT t with intv := t.intv, seq := t.seq })) (t.met : Int) rfl rfl (by exact B2.rX) (by rw [tcells_len]; omega) ?_; intro w4 g4 r4; have B3 := B2.s_met t.met g4 r4; have m3 := B3.m_all)
    | (have kk := B1; refine st16 (.tmp 59) (.tmp 58) (by rfl) rfl gX 3 (tcells ({ begT t with intv := t.intv })) (t.seq : Int) rfl rfl (by exact B1.rX) (by rw [tcells_len]; omega) ?_; intro w3 g3 r3; have B2 := B1.s_seq t.seq g3 r3; have m2 := B2.m_met)
    | (have kk := B0; refine st16 (.tmp 56) (.tmp 55) (by rfl) rfl gX 2 (tcells ((begT t))) (t.intv : Int) rfl rfl (by exact B0.rX) (by rw [tcells_len]; omega) ?_; intro w2 g2 r2; have B1 := B0.s_intv t.intv g2 r2; have m1 := B1.m_seq)
    | (have kk := rX; refine stT (.tmp 3) (.tmp 8) (by rfl) rfl gX (begT t) zeroT rfl rfl rX ?_; intro w1 g1 r1; have B0 : Bx w w1 t gO gX (begT t) := Bx.step ⟨bt (bt (ba _ _) a3) b3, (RT.below a3 RT.lt).below b3 (RT.below a3 RT.lt).lt, rO.below b3 rO.lt, rX, (by simp at a1; omega), (by omega)⟩ g1 r1; have y0 : w1.cell? ⟨w.heap.size, 0, none⟩ = some (.int .u8 8) := (by have := B0.rT.cell 0; rw [this]; show some (Value.int .u8 (t.ty : Int)) = _; rw [HY.out]); have m0 := B0.m_intv)
    | (have kk := rO; refine alG infoTz (by rfl) rfl ?_; intro gX wX b1 b2 b3 rX)
    | (have kk := rO; (with_reducible refine bdG (v := .agg (tcells (begT t)).toArray) [(0, .tmp 5), (12, .tmp 7)] ?_ ?_ ?_ ?_); focus rfl; focus rfl; focus exact bdY t _)
    | (refine alG infoTz (by rfl) rfl ?_; intro gO wO a1 a2 a3 rO; have c0 : wO.cell? ⟨w.heap.size, 0, none⟩ = some (.int .u8 (t.ty : Int)) := (RT.below a3 RT.lt).cell 0; have c67 : wO.cell? ⟨w.heap.size, 67, none⟩ = some (.slice t.sa t.sn t.sc) := (RT.below a3 RT.lt).rSt))
  exact bodyPost_ret (retC rfl _ _ 0 rfl (lvT r9)) rfl ⟨rfl, B5.bel.grown g9 B5.bel.size (fun k hk => by cases hk; exact Nat.le_of_lt B5.g1)⟩
set_option maxHeartbeats 4000000 in
theorem bare_8tn (t : Tl) (w : World) (hy : t.ty = 8) (hall : t.all = true) (hmet : t.met ≠ 65535) :
    Calls Tryz.prog 29 #[.agg (tcells t).toArray] w fun e w' => e = .returned (.agg (tcells { begT t with intv := t.intv, seq := t.seq, met := t.met, all := t.all, id := t.id, ad := t.ad }).toArray) ∧ Below w.heap.size w w' := by
  have RT := Row.new w 45 (tcells t)
  have HY : Hid ((t.ty : Int) = 8) := by show _ = _; rw [hy]; rfl
  clear hy
  have HA : Hid (t.all = true) := hall
  clear hall
  have HM : Hid (((t.met : Int) == 65535) = false) := by show _ = _; simp; omega
  clear hmet
  go_enter Tryz.func29, Tryz.ntmps29
  go_wp2_with (first
    | (have kk := B6; refine stT (.tmp 2) (.tmp 106) (by rfl) rfl gO ({ begT t with intv := t.intv, seq := t.seq, met := t.met, all := t.all, id := t.id, ad := t.ad }) zeroT rfl rfl (by exact B6.rO) ?_; intro w9 g9 r9)
    | (have kk := B6; refine ldT (.tmp 3) (by rfl) rfl gX ({ begT t with intv := t.intv, seq := t.seq, met := t.met, all := t.all, id := t.id, ad := t.ad }) rfl (by exact B6.rX) ?_)
    | (have kk := B5; refine stAt (.tmp 80) (.tmp 79) (by rfl) rfl gX ({ begT t with intv := t.intv, seq := t.seq, met := t.met, all := t.all, id := t.id }) t.ad rfl rfl (by exact B5.rX) ?_; intro w7 g7 r7; have B6 := B5.step g7 r7; have mM6 := B6.m_met; have kM := HM.out)
    | (have kk := B5; refine ldA (.tmp 78) (by rfl) rfl w.heap.size 17 t.ad rfl (by exact B5.rT.rAd) ?_)
    | (have kk := B4; refine stIt (.tmp 77) (.tmp 76) (by rfl) rfl gX ({ begT t with intv := t.intv, seq := t.seq, met := t.met, all := t.all }) t.id rfl rfl (by exact B4.rX) ?_; intro w6 g6 r6; have B5 := B4.step g6 r6; have mM5 := B5.m_met; have kM := HM.out)
    | (have kk := B4; refine ldI (.tmp 75) (by rfl) rfl w.heap.size 9 t.id rfl (by exact B4.rT.rId2) ?_)
    | (have kk := B3; refine stB (.tmp 65) (.tmp 64) (by rfl) rfl gX 8 (tcells ({ begT t with intv := t.intv, seq := t.seq, met := t.met })) t.all rfl rfl (by exact B3.rX) (by rw [tcells_len]; omega) ?_; intro w5 g5 r5; have B4 := B3.s_all t.all g5 r5; have mA4 : w5.cell? ⟨w.heap.size, 8, none⟩ = some (.bool true) := (by rw [← HA.out]; exact B4.m_all); have mM4 := B4.m_met; have kM := HM.out)
    | (have kk := B2; refine st16 (.tmp 62) (.tmp 61) (by rfl) rfl gX 5 (tcells ({ begT t with intv := t.intv, seq := t.seq })) (t.met : Int) rfl rfl (by exact B2.rX) (by rw [tcells_len]; omega) ?_; intro w4 g4 r4; have B3 := B2.s_met t.met g4 r4; have m3 := B3.m_all)
    | (have kk := B1; refine st16 (.tmp 59) (.tmp 58) (by rfl) rfl gX 3 (tcells ({ begT t with intv := t.intv })) (t.seq : Int) rfl rfl (by exact B1.rX) (by rw [tcells_len]; omega) ?_; intro w3 g3 r3; have B2 := B1.s_seq t.seq g3 r3; have m2 := B2.m_met)
    | (have kk := B0; refine st16 (.tmp 56) (.tmp 55) (by rfl) rfl gX 2 (tcells ((begT t))) (t.intv : Int) rfl rfl (by exact B0.rX) (by rw [tcells_len]; omega) ?_; intro w2 g2 r2; have B1 := B0.s_intv t.intv g2 r2; have m1 := B1.m_seq)
    | (have kk := rX; refine stT (.tmp 3) (.tmp 8) (by rfl) rfl gX (begT t) zeroT rfl rfl rX ?_; intro w1 g1 r1; have B0 : Bx w w1 t gO gX (begT t) := Bx.step ⟨bt (bt (ba _ _) a3) b3, (RT.below a3 RT.lt).below b3 (RT.below a3 RT.lt).lt, rO.below b3 rO.lt, rX, (by simp at a1; omega), (by omega)⟩ g1 r1; have y0 : w1.cell? ⟨w.heap.size, 0, none⟩ = some (.int .u8 8) := (by have := B0.rT.cell 0; rw [this]; show some (Value.int .u8 (t.ty : Int)) = _; rw [HY.out]); have m0 := B0.m_intv)
    | (have kk := rO; refine alG infoTz (by rfl) rfl ?_; intro gX wX b1 b2 b3 rX)
    | (have kk := rO; (with_reducible refine bdG (v := .agg (tcells (begT t)).toArray) [(0, .tmp 5), (12, .tmp 7)] ?_ ?_ ?_ ?_); focus rfl; focus rfl; focus exact bdY t _)
    | (refine alG infoTz (by rfl) rfl ?_; intro gO wO a1 a2 a3 rO; have c0 : wO.cell? ⟨w.heap.size, 0, none⟩ = some (.int .u8 (t.ty : Int)) := (RT.below a3 RT.lt).cell 0; have c67 : wO.cell? ⟨w.heap.size, 67, none⟩ = some (.slice t.sa t.sn t.sc) := (RT.below a3 RT.lt).rSt))
  exact bodyPost_ret (retC rfl _ _ 0 rfl (lvT r9)) rfl ⟨rfl, B6.bel.grown g9 B6.bel.size (fun k hk => by cases hk; exact Nat.le_of_lt B6.g1)⟩
set_option maxHeartbeats 4000000 in
theorem bare_8fn (t : Tl) (w : World) (hy : t.ty = 8) (hall : t.all = false) (hmet : t.met ≠ 65535) :
    Calls Tryz.prog 29 #[.agg (tcells t).toArray] w fun e w' => e = .returned (.agg (tcells { begT t with intv := t.intv, seq := t.seq, met := t.met, all := t.all, pr := t.pr, id := t.id, ad := t.ad }).toArray) ∧ Below w.heap.size w w' := by
  have RT := Row.new w 45 (tcells t)
  have HY : Hid ((t.ty : Int) = 8) := by show _ = _; rw [hy]; rfl
  clear hy
  have HA : Hid (t.all = false) := hall
  clear hall
  have HM : Hid (((t.met : Int) == 65535) = false) := by show _ = _; simp; omega
  clear hmet
  go_enter Tryz.func29, Tryz.ntmps29
  go_wp2_with (first
    | (have kk := B7; refine stT (.tmp 2) (.tmp 106) (by rfl) rfl gO ({ begT t with intv := t.intv, seq := t.seq, met := t.met, all := t.all, pr := t.pr, id := t.id, ad := t.ad }) zeroT rfl rfl (by exact B7.rO) ?_; intro w9 g9 r9)
    | (have kk := B7; refine ldT (.tmp 3) (by rfl) rfl gX ({ begT t with intv := t.intv, seq := t.seq, met := t.met, all := t.all, pr := t.pr, id := t.id, ad := t.ad }) rfl (by exact B7.rX) ?_)
    | (have kk := B6; refine stAt (.tmp 80) (.tmp 79) (by rfl) rfl gX ({ begT t with intv := t.intv, seq := t.seq, met := t.met, all := t.all, pr := t.pr, id := t.id }) t.ad rfl rfl (by exact B6.rX) ?_; intro w8 g8 r8; have B7 := B6.step g8 r8; have mM7 := B7.m_met; have kM := HM.out)
    | (have kk := B6; refine ldA (.tmp 78) (by rfl) rfl w.heap.size 17 t.ad rfl (by exact B6.rT.rAd) ?_)
    | (have kk := B5; refine stIt (.tmp 77) (.tmp 76) (by rfl) rfl gX ({ begT t with intv := t.intv, seq := t.seq, met := t.met, all := t.all, pr := t.pr }) t.id rfl rfl (by exact B5.rX) ?_; intro w7 g7 r7; have B6 := B5.step g7 r7; have mM6 := B6.m_met; have kM := HM.out)
    | (have kk := B5; refine ldI (.tmp 75) (by rfl) rfl w.heap.size 9 t.id rfl (by exact B5.rT.rId2) ?_)
    | (have kk := B4; refine stQt (.tmp 71) (.tmp 70) (by rfl) rfl gX ({ begT t with intv := t.intv, seq := t.seq, met := t.met, all := t.all }) t.pr rfl rfl (by exact B4.rX) ?_; intro w6 g6 r6; have B5 := B4.step g6 r6; have mM5 := B5.m_met; have kM := HM.out)
    | (have kk := B4; refine ldQ (.tmp 69) (by rfl) rfl w.heap.size 33 t.pr rfl (by exact B4.rT.rPr) ?_)
    | (have kk := B3; refine stB (.tmp 65) (.tmp 64) (by rfl) rfl gX 8 (tcells ({ begT t with intv := t.intv, seq := t.seq, met := t.met })) t.all rfl rfl (by exact B3.rX) (by rw [tcells_len]; omega) ?_; intro w5 g5 r5; have B4 := B3.s_all t.all g5 r5; have mA4 : w5.cell? ⟨w.heap.size, 8, none⟩ = some (.bool false) := (by rw [← HA.out]; exact B4.m_all); have mM4 := B4.m_met; have kM := HM.out)
    | (have kk := B2; refine st16 (.tmp 62) (.tmp 61) (by rfl) rfl gX 5 (tcells ({ begT t with intv := t.intv, seq := t.seq })) (t.met : Int) rfl rfl (by exact B2.rX) (by rw [tcells_len]; omega) ?_; intro w4 g4 r4; have B3 := B2.s_met t.met g4 r4; have m3 := B3.m_all)
    | (have kk := B1; refine st16 (.tmp 59) (.tmp 58) (by rfl) rfl gX 3 (tcells ({ begT t with intv := t.intv })) (t.seq : Int) rfl rfl (by exact B1.rX) (by rw [tcells_len]; omega) ?_; intro w3 g3 r3; have B2 := B1.s_seq t.seq g3 r3; have m2 := B2.m_met)
    | (have kk := B0; refine st16 (.tmp 56) (.tmp 55) (by rfl) rfl gX 2 (tcells ((begT t))) (t.intv : Int) rfl rfl (by exact B0.rX) (by rw [tcells_len]; omega) ?_; intro w2 g2 r2; have B1 := B0.s_intv t.intv g2 r2; have m1 := B1.m_seq)
    | (have kk := rX; refine stT (.tmp 3) (.tmp 8) (by rfl) rfl gX (begT t) zeroT rfl rfl rX ?_; intro w1 g1 r1; have B0 : Bx w w1 t gO gX (begT t) := Bx.step ⟨bt (bt (ba _ _) a3) b3, (RT.below a3 RT.lt).below b3 (RT.below a3 RT.lt).lt, rO.below b3 rO.lt, rX, (by simp at a1; omega), (by omega)⟩ g1 r1; have y0 : w1.cell? ⟨w.heap.size, 0, none⟩ = some (.int .u8 8) := (by have := B0.rT.cell 0; rw [this]; show some (Value.int .u8 (t.ty : Int)) = _; rw [HY.out]); have m0 := B0.m_intv)
    | (have kk := rO; refine alG infoTz (by rfl) rfl ?_; intro gX wX b1 b2 b3 rX)
    | (have kk := rO; (with_reducible refine bdG (v := .agg (tcells (begT t)).toArray) [(0, .tmp 5), (12, .tmp 7)] ?_ ?_ ?_ ?_); focus rfl; focus rfl; focus exact bdY t _)
    | (refine alG infoTz (by rfl) rfl ?_; intro gO wO a1 a2 a3 rO; have c0 : wO.cell? ⟨w.heap.size, 0, none⟩ = some (.int .u8 (t.ty : Int)) := (RT.below a3 RT.lt).cell 0; have c67 : wO.cell? ⟨w.heap.size, 67, none⟩ = some (.slice t.sa t.sn t.sc) := (RT.below a3 RT.lt).rSt))
  exact bodyPost_ret (retC rfl _ _ 0 rfl (lvT r9)) rfl ⟨rfl, B7.bel.grown g9 B7.bel.size (fun k hk => by cases hk; exact Nat.le_of_lt B7.g1)⟩
set_option maxHeartbeats 4000000 in
theorem bare_9t (t : Tl) (w : World) (hy : t.ty = 9) (hall : t.all = true) :
    Calls Tryz.prog 29 #[.agg (tcells t).toArray] w fun e w' => e = .returned (.agg (tcells { begT t with all := t.all }).toArray) ∧ Below w.heap.size w w' := by
  have RT := Row.new w 45 (tcells t)
  have HY : Hid ((t.ty : Int) = 9) := by show _ = _; rw [hy]; rfl
  clear hy
  have HA : Hid (t.all = true) := hall
  clear hall
  go_enter Tryz.func29, Tryz.ntmps29
  go_wp2_with (first
    | (have kk := B1; refine stT (.tmp 2) (.tmp 106) (by rfl) rfl gO ({ begT t with all := t.all }) zeroT rfl rfl (by exact B1.rO) ?_; intro w9 g9 r9)
    | (have kk := B1; refine ldT (.tmp 3) (by rfl) rfl gX ({ begT t with all := t.all }) rfl (by exact B1.rX) ?_)
    | (have kk := B0; refine stB (.tmp 85) (.tmp 84) (by rfl) rfl gX 8 (tcells ((begT t))) t.all rfl rfl (by exact B0.rX) (by rw [tcells_len]; omega) ?_; intro w2 g2 r2; have B1 := B0.s_all t.all g2 r2; have mA1 : w2.cell? ⟨w.heap.size, 8, none⟩ = some (.bool true) := (by rw [← HA.out]; exact B1.m_all))
    | (have kk := rX; refine stT (.tmp 3) (.tmp 8) (by rfl) rfl gX (begT t) zeroT rfl rfl rX ?_; intro w1 g1 r1; have B0 : Bx w w1 t gO gX (begT t) := Bx.step ⟨bt (bt (ba _ _) a3) b3, (RT.below a3 RT.lt).below b3 (RT.below a3 RT.lt).lt, rO.below b3 rO.lt, rX, (by simp at a1; omega), (by omega)⟩ g1 r1; have y0 : w1.cell? ⟨w.heap.size, 0, none⟩ = some (.int .u8 9) := (by have := B0.rT.cell 0; rw [this]; show some (Value.int .u8 (t.ty : Int)) = _; rw [HY.out]); have m0 := B0.m_all)
    | (have kk := rO; refine alG infoTz (by rfl) rfl ?_; intro gX wX b1 b2 b3 rX)
    | (have kk := rO; (with_reducible refine bdG (v := .agg (tcells (begT t)).toArray) [(0, .tmp 5), (12, .tmp 7)] ?_ ?_ ?_ ?_); focus rfl; focus rfl; focus exact bdY t _)
    | (refine alG infoTz (by rfl) rfl ?_; intro gO wO a1 a2 a3 rO; have c0 : wO.cell? ⟨w.heap.size, 0, none⟩ = some (.int .u8 (t.ty : Int)) := (RT.below a3 RT.lt).cell 0; have c67 : wO.cell? ⟨w.heap.size, 67, none⟩ = some (.slice t.sa t.sn t.sc) := (RT.below a3 RT.lt).rSt))
  exact bodyPost_ret (retC rfl _ _ 0 rfl (lvT r9)) rfl ⟨rfl, B1.bel.grown g9 B1.bel.size (fun k hk => by cases hk; exact Nat.le_of_lt B1.g1)⟩
set_option maxHeartbeats 4000000 in
theorem bare_9f (t : Tl) (w : World) (hy : t.ty = 9) (hall : t.all = false) :
    Calls Tryz.prog 29 #[.agg (tcells t).toArray] w fun e w' => e = .returned (.agg (tcells { begT t with all := t.all, pr := t.pr }).toArray) ∧ Below w.heap.size w w' := by
  have RT := Row.new w 45 (tcells t)
  have HY : Hid ((t.ty : Int) = 9) := by show _ = _; rw [hy]; rfl
  clear hy
  have HA : Hid (t.all = false) := hall
  clear hall
  go_enter Tryz.func29, Tryz.ntmps29
  go_wp2_with (first
    | (have kk := B2; refine stT (.tmp 2) (.tmp 106) (by rfl) rfl gO ({ begT t with all := t.all, pr := t.pr }) zeroT rfl rfl (by exact B2.rO) ?_; intro w9 g9 r9)
    | (have kk := B2; refine ldT (.tmp 3) (by rfl) rfl gX ({ begT t with all := t.all, pr := t.pr }) rfl (by exact B2.rX) ?_)
    | (have kk := B1; refine stQt (.tmp 91) (.tmp 90) (by rfl) rfl gX ({ begT t with all := t.all }) t.pr rfl rfl (by exact B1.rX) ?_; intro w3 g3 r3; have B2 := B1.step g3 r3)
    | (have kk := B1; refine ldQ (.tmp 89) (by rfl) rfl w.heap.size 33 t.pr rfl (by exact B1.rT.rPr) ?_)
    | (have kk := B0; refine stB (.tmp 85) (.tmp 84) (by rfl) rfl gX 8 (tcells ((begT t))) t.all rfl rfl (by exact B0.rX) (by rw [tcells_len]; omega) ?_; intro w2 g2 r2; have B1 := B0.s_all t.all g2 r2; have mA1 : w2.cell? ⟨w.heap.size, 8, none⟩ = some (.bool false) := (by rw [← HA.out]; exact B1.m_all))
    | (have kk := rX; refine stT (.tmp 3) (.tmp 8) (by rfl) rfl gX (begT t) zeroT rfl rfl rX ?_; intro w1 g1 r1; have B0 : Bx w w1 t gO gX (begT t) := Bx.step ⟨bt (bt (ba _ _) a3) b3, (RT.below a3 RT.lt).below b3 (RT.below a3 RT.lt).lt, rO.below b3 rO.lt, rX, (by simp at a1; omega), (by omega)⟩ g1 r1; have y0 : w1.cell? ⟨w.heap.size, 0, none⟩ = some (.int .u8 9) := (by have := B0.rT.cell 0; rw [this]; show some (Value.int .u8 (t.ty : Int)) = _; rw [HY.out]); have m0 := B0.m_all)
    | (have kk := rO; refine alG infoTz (by rfl) rfl ?_; intro gX wX b1 b2 b3 rX)
    | (have kk := rO; (with_reducible refine bdG (v := .agg (tcells (begT t)).toArray) [(0, .tmp 5), (12, .tmp 7)] ?_ ?_ ?_ ?_); focus rfl; focus rfl; focus exact bdY t _)
    | (refine alG infoTz (by rfl) rfl ?_; intro gO wO a1 a2 a3 rO; have c0 : wO.cell? ⟨w.heap.size, 0, none⟩ = some (.int .u8 (t.ty : Int)) := (RT.below a3 RT.lt).cell 0; have c67 : wO.cell? ⟨w.heap.size, 67, none⟩ = some (.slice t.sa t.sn t.sc) := (RT.below a3 RT.lt).rSt))
  exact bodyPost_ret (retC rfl _ _ 0 rfl (lvT r9)) rfl ⟨rfl, B2.bel.grown g9 B2.bel.size (fun k hk => by cases hk; exact Nat.le_of_lt B2.g1)⟩
set_option maxHeartbeats 4000000 in
theorem bare_10 (t : Tl) (w : World) (hy : t.ty = 10)  :
    Calls Tryz.prog 29 #[.agg (tcells t).toArray] w fun e w' => e = .returned (.agg (tcells { begT t with seq := t.seq, hops := t.hops, id := t.id, pr := t.pr }).toArray) ∧ Below w.heap.size w w' := by
  have RT := Row.new w 45 (tcells t)
  have HY : Hid ((t.ty : Int) = 10) := by show _ = _; rw [hy]; rfl
  clear hy
  go_enter Tryz.func29, Tryz.ntmps29
  go_wp2_with (first
    | (have kk := B4; refine stT (.tmp 2) (.tmp 106) (by rfl) rfl gO ({ begT t with seq := t.seq, hops := t.hops, id := t.id, pr := t.pr }) zeroT rfl rfl (by exact B4.rO) ?_; intro w9 g9 r9)
    | (have kk := B4; refine ldT (.tmp 3) (by rfl) rfl gX ({ begT t with seq := t.seq, hops := t.hops, id := t.id, pr := t.pr }) rfl (by exact B4.rX) ?_)
    | (have kk := B3; refine stQt (.tmp 105) (.tmp 104) (by rfl) rfl gX ({ begT t with seq := t.seq, hops := t.hops, id := t.id }) t.pr rfl rfl (by exact B3.rX) ?_; intro w5 g5 r5; have B4 := B3.step g5 r5)
    | (have kk := B3; refine ldQ (.tmp 103) (by rfl) rfl w.heap.size 33 t.pr rfl (by exact B3.rT.rPr) ?_)
    | (have kk := B2; refine stIt (.tmp 102) (.tmp 101) (by rfl) rfl gX ({ begT t with seq := t.seq, hops := t.hops }) t.id rfl rfl (by exact B2.rX) ?_; intro w4 g4 r4; have B3 := B2.step g4 r4)
    | (have kk := B2; refine ldI (.tmp 100) (by rfl) rfl w.heap.size 9 t.id rfl (by exact B2.rT.rId2) ?_)
    | (have kk := B1; refine st8 (.tmp 99) (.tmp 98) (by rfl) rfl gX 6 (tcells ({ begT t with seq := t.seq })) (t.hops : Int) rfl rfl (by exact B1.rX) (by rw [tcells_len]; omega) ?_; intro w3 g3 r3; have B2 := B1.s_hops t.hops g3 r3)
    | (have kk := B0; refine st16 (.tmp 96) (.tmp 95) (by rfl) rfl gX 3 (tcells ((begT t))) (t.seq : Int) rfl rfl (by exact B0.rX) (by rw [tcells_len]; omega) ?_; intro w2 g2 r2; have B1 := B0.s_seq t.seq g2 r2; have m1 := B1.m_hops)
    | (have kk := rX; refine stT (.tmp 3) (.tmp 8) (by rfl) rfl gX (begT t) zeroT rfl rfl rX ?_; intro w1 g1 r1; have B0 : Bx w w1 t gO gX (begT t) := Bx.step ⟨bt (bt (ba _ _) a3) b3, (RT.below a3 RT.lt).below b3 (RT.below a3 RT.lt).lt, rO.below b3 rO.lt, rX, (by simp at a1; omega), (by omega)⟩ g1 r1; have y0 : w1.cell? ⟨w.heap.size, 0, none⟩ = some (.int .u8 10) := (by have := B0.rT.cell 0; rw [this]; show some (Value.int .u8 (t.ty : Int)) = _; rw [HY.out]); have m0 := B0.m_seq)
    | (have kk := rO; refine alG infoTz (by rfl) rfl ?_; intro gX wX b1 b2 b3 rX)
    | (have kk := rO; (with_reducible refine bdG (v := .agg (tcells (begT t)).toArray) [(0, .tmp 5), (12, .tmp 7)] ?_ ?_ ?_ ?_); focus rfl; focus rfl; focus exact bdY t _)
    | (refine alG infoTz (by rfl) rfl ?_; intro gO wO a1 a2 a3 rO; have c0 : wO.cell? ⟨w.heap.size, 0, none⟩ = some (.int .u8 (t.ty : Int)) := (RT.below a3 RT.lt).cell 0; have c67 : wO.cell? ⟨w.heap.size, 67, none⟩ = some (.slice t.sa t.sn t.sc) := (RT.below a3 RT.lt).rSt))
  exact bodyPost_ret (retC rfl _ _ 0 rfl (lvT r9)) rfl ⟨rfl, B4.bel.grown g9 B4.bel.size (fun k hk => by cases hk; exact Nat.le_of_lt B4.g1)⟩
set_option maxHeartbeats 4000000 in
theorem bare_no (t : Tl) (w : World) (hno : namB t.ty = false) :
    Calls Tryz.prog 29 #[.agg (tcells t).toArray] w fun e w' => e = .returned (.agg (tcells (begT t)).toArray) ∧ Below w.heap.size w w' := by
  have RT := Row.new w 45 (tcells t)
  have HNO : Hid (¬ (t.ty : Int) = 2 ∧ ¬ (t.ty : Int) = 3 ∧ ¬ (t.ty : Int) = 4 ∧ ¬ (t.ty : Int) = 5 ∧ ¬ (t.ty : Int) = 8 ∧ ¬ (t.ty : Int) = 9 ∧ ¬ (t.ty : Int) = 10) := by
    have := of_decide_eq_false hno
    show _ ∧ _
    omega
  clear hno
  go_enter Tryz.func29, Tryz.ntmps29
  go_wp2_with (first
    | (have kk := B0; refine stT (.tmp 2) (.tmp 106) (by rfl) rfl gO ((begT t)) zeroT rfl rfl (by exact B0.rO) ?_; intro w9 g9 r9)
    | (have kk := B0; refine ldT (.tmp 3) (by rfl) rfl gX ((begT t)) rfl (by exact B0.rX) ?_)
    | (have kk := rX; refine stT (.tmp 3) (.tmp 8) (by rfl) rfl gX (begT t) zeroT rfl rfl rX ?_; intro w1 g1 r1; have B0 : Bx w w1 t gO gX (begT t) := Bx.step ⟨bt (bt (ba _ _) a3) b3, (RT.below a3 RT.lt).below b3 (RT.below a3 RT.lt).lt, rO.below b3 rO.lt, rX, (by simp at a1; omega), (by omega)⟩ g1 r1; obtain ⟨yy, hyy⟩ : ∃ y : Int, (t.ty : Int) = y := ⟨_, rfl⟩; have y0 : w1.cell? ⟨w.heap.size, 0, none⟩ = some (.int .u8 yy) := (by have := B0.rT.cell 0; rw [this, ← hyy]; rfl); have HNY := HNO.out; rw [hyy] at HNY; obtain ⟨q2, q3, q4, q5, q8, q9, q10⟩ := HNY)
    | (have kk := rO; refine alG infoTz (by rfl) rfl ?_; intro gX wX b1 b2 b3 rX)
    | (have kk := rO; (with_reducible refine bdG (v := .agg (tcells (begT t)).toArray) [(0, .tmp 5), (12, .tmp 7)] ?_ ?_ ?_ ?_); focus rfl; focus rfl; focus exact bdY t _)
    | (refine alG infoTz (by rfl) rfl ?_; intro gO wO a1 a2 a3 rO; have c0 : wO.cell? ⟨w.heap.size, 0, none⟩ = some (.int .u8 (t.ty : Int)) := (RT.below a3 RT.lt).cell 0; have c67 : wO.cell? ⟨w.heap.size, 67, none⟩ = some (.slice t.sa t.sn t.sc) := (RT.below a3 RT.lt).rSt))
  exact bodyPost_ret (retC rfl _ _ 0 rfl (lvT r9)) rfl ⟨rfl, B0.bel.grown g9 B0.bel.size (fun k hk => by cases hk; exact Nat.le_of_lt B0.g1)⟩
def bareT (t : Tl) : Tl :=
  if t.ty = 2 then { begT t with nonce := t.nonce, intv := t.intv } else if t.ty = 3 then { begT t with nonce := t.nonce } else if t.ty = 4 then { begT t with seq := t.seq, intv := t.intv, uni := t.uni } else if t.ty = 5 then (if t.all = true then { begT t with rx := t.rx, intv := t.intv, all := t.all } else { begT t with rx := t.rx, intv := t.intv, all := t.all, ad := t.ad }) else if t.ty = 8 then (if t.met = 65535 then (if t.all = true then { begT t with intv := t.intv, seq := t.seq, met := t.met, all := t.all } else { begT t with intv := t.intv, seq := t.seq, met := t.met, all := t.all, pr := t.pr }) else (if t.all = true then { begT t with intv := t.intv, seq := t.seq, met := t.met, all := t.all, id := t.id, ad := t.ad } else { begT t with intv := t.intv, seq := t.seq, met := t.met, all := t.all, pr := t.pr, id := t.id, ad := t.ad })) else if t.ty = 9 then (if t.all = true then { begT t with all := t.all } else { begT t with all := t.all, pr := t.pr }) else if t.ty = 10 then { begT t with seq := t.seq, hops := t.hops, id := t.id, pr := t.pr } else begT t
theorem bare_any (t : Tl) (w : World) : Calls Tryz.prog 29 #[.agg (tcells t).toArray] w fun e w' => e = .returned (.agg (tcells (bareT t)).toArray) ∧ Below w.heap.size w w' := by
  unfold bareT
  by_cases h2 : t.ty = 2
  · rw [if_pos h2]; exact bare_2 t w h2
  rw [if_neg h2]
  by_cases h3 : t.ty = 3
  · rw [if_pos h3]; exact bare_3 t w h3
  rw [if_neg h3]
  by_cases h4 : t.ty = 4
  · rw [if_pos h4]; exact bare_4 t w h4
  rw [if_neg h4]
  by_cases h5 : t.ty = 5
  · rw [if_pos h5]
    by_cases ha : t.all = true
    · rw [if_pos ha]; exact bare_5t t w h5 ha
    · rw [if_neg ha]; exact bare_5f t w h5 (by simpa using ha)
  rw [if_neg h5]
  by_cases h8 : t.ty = 8
  · rw [if_pos h8]
    by_cases hm : t.met = 65535
    · rw [if_pos hm]
      by_cases ha : t.all = true
      · rw [if_pos ha]; exact bare_8ti t w h8 ha hm
      · rw [if_neg ha]; exact bare_8fi t w h8 (by simpa using ha) hm
    · rw [if_neg hm]
      by_cases ha : t.all = true
      · rw [if_pos ha]; exact bare_8tn t w h8 ha hm
      · rw [if_neg ha]; exact bare_8fn t w h8 (by simpa using ha) hm
  rw [if_neg h8]
  by_cases h9 : t.ty = 9
  · rw [if_pos h9]
    by_cases ha : t.all = true
    · rw [if_pos ha]; exact bare_9t t w h9 ha
    · rw [if_neg ha]; exact bare_9f t w h9 (by simpa using ha)
  rw [if_neg h9]
  by_cases h10 : t.ty = 10
  · rw [if_pos h10]; exact bare_10 t w h10
  · rw [if_neg h10]; exact bare_no t w (by unfold namB; simp; omega)
end Go.Proofs.YtdibjgcokebfbaaGreat
