/-
  Rules in slices of the call's own, allocations and stores of whole blocks; func4.
-/
import Derived.Test.YtfohknbgfpbmiaaMe
import Derived.Test.YtfohknbgfpbmiaaRefT
namespace Go.Proofs.Ytfohknbgfpbmiaa
open Go.RowKit
set_option linter.unusedSimpArgs false
set_option maxRecDepth 20000
theorem infoAz : (Try.prog.info? 24).map (·.zero) = some (some (.agg (acells zeroA).toArray)) := by kernel_rfl
def zeroQ : Pr := ⟨zeroP, zeroP⟩
theorem infoQz : (Try.prog.info? 28).map (·.zero) = some (some (.agg (qcells zeroQ).toArray)) := by kernel_rfl
/-- At the end this frame for some x, and a world of which PP is known; no panic. -/
def MeetsE {α : Type} (F : α → Act) (PP : α → World → Prop) : Exit → Act → World → Prop
  | .normal, a, w => ∃ x, a = F x ∧ PP x w
  | _, _, _ => False
theorem region_ex {α : Type} {P : Program} {c : Code} {Q : Exit → Act → World → Prop} {a : Act} {w : World} {PP : α → World → Prop} (F : α → Act) (h1 : Code.wp P c (MeetsE F PP) a w) (h2 : ∀ x W, PP x W → Q .normal (F x) W) : Code.wp P c Q a w :=
  Code.wp_mono (fun e b v h => by
    cases e with
    | normal => obtain ⟨x, rfl, h⟩ := h; exact h2 x v h
    | _ => exact (h : False).elim) h1
section
variable {ops : Array Oper} {rest : List Oper} {op : Oper} {a : Act} {w : World} {Q : Exit → Act → World → Prop} {K : Act → World → Prop} {E : Prop}
theorem wp_alG {T : TypeId} {Z : List Value} (hT : (Try.prog.info? T).map (·.zero) = some (some (.agg Z.toArray))) (ho : op.op = .alloc T)
    (h : ∀ g W, w.heap.size ≤ g → g < W.heap.size → Below w.heap.size w W → Row W g T Z → K (a.put op.dst (.pointer (some ⟨g, 0, none⟩))) W) : Oper.wp Try.prog op a w K Q := by
  obtain ⟨i, hi, hz⟩ : ∃ i, Try.prog.info? T = some i ∧ i.zero = some (.agg Z.toArray) := by
    cases hq : Try.prog.info? T with
    | none => simp [hq] at hT
    | some i => exact ⟨i, rfl, by simpa [hq] using hT⟩
  have h1 := h _ _ (Nat.le_refl _) (by simp) (ba w (.cells Z.toArray T)) (Row.new w T Z)
  unfold Oper.wp execOp
  simp only [ho, Sem.run_bind, run_alG hi hz, Result.andThen_ok, Sem.run_pure]
  exact h1
theorem sAlG {T : TypeId} {Z : List Value} (hT : (Try.prog.info? T).map (·.zero) = some (some (.agg Z.toArray))) (hw : Region.wanted op (yielded ops a.tmps) = true) (ho : op.op = .alloc T)
    (h : ∀ g W, w.heap.size ≤ g → g < W.heap.size → Below w.heap.size w W → Row W g T Z → K (a.put op.dst (.pointer (some ⟨g, 0, none⟩))) W) : if Region.wanted op (yielded ops a.tmps) = true then Oper.wp Try.prog op a w K Q else E := by
  rw [if_pos hw]
  exact wp_alG hT ho h
theorem wp_stG {T : TypeId} (Z : List Value) (x y : Operand) (ho : op.op = .store T x y) (b : Nat) (cs : List Value) (hl : cs.length = Z.length) (hsz : (Try.prog.info? T).map (·.size) = some Z.length) (h1 : ∀ u ∈ Z, u.oneCell' = true) (hx : a.eval x = .pointer (some ⟨b, 0, none⟩)) (hy : a.eval y = .agg Z.toArray) (hr : Row w b T cs) {w0 : World} {B : Nat} (hb : Below B w0 w) (hB : B ≤ b)
    (h : ∀ W, Row W b T Z → Below B w0 W → K (a.put op.dst undef) W) : Oper.wp Try.prog op a w K Q :=
  wp_store_mid _ x y ho b 0 _ hx hy (by simpa using hr.there (n := Z.length) (by omega)) (by rw [hsz]; simp) (all_oneCell_toArray h1) (h _ (by simpa using hr.setCells Z hl.symm) (by simpa using below_setCells b hB Z 0 w hb))
theorem stG {T : TypeId} (Z : List Value) (x y : Operand) (hw : Region.wanted op (yielded ops a.tmps) = true) (ho : op.op = .store T x y) (b : Nat) (cs : List Value) (hl : cs.length = Z.length) (hsz : (Try.prog.info? T).map (·.size) = some Z.length) (h1 : ∀ u ∈ Z, u.oneCell' = true) (hx : a.eval x = .pointer (some ⟨b, 0, none⟩)) (hy : a.eval y = .agg Z.toArray) (hr : Row w b T cs) {w0 : World} {B : Nat} (hb : Below B w0 w) (hB : B ≤ b)
    (h : ∀ W, Row W b T Z → Below B w0 W → wpList Try.prog ops Q rest (a.put op.dst undef) W) : wpList Try.prog ops Q (op :: rest) a w :=
  wpList_step fun K hK => by
    rw [if_pos hw]
    exact wp_stG Z x y ho b cs hl hsz h1 hx hy hr hb hB fun W k1 k2 => hK _ _ (h W k1 k2)
theorem sStG {T : TypeId} (Z : List Value) (x y : Operand) (hw : Region.wanted op (yielded ops a.tmps) = true) (ho : op.op = .store T x y) (b : Nat) (cs : List Value) (hl : cs.length = Z.length) (hsz : (Try.prog.info? T).map (·.size) = some Z.length) (h1 : ∀ u ∈ Z, u.oneCell' = true) (hx : a.eval x = .pointer (some ⟨b, 0, none⟩)) (hy : a.eval y = .agg Z.toArray) (hr : Row w b T cs) {w0 : World} {B : Nat} (hb : Below B w0 w) (hB : B ≤ b)
    (h : ∀ W, Row W b T Z → Below B w0 W → K (a.put op.dst undef) W) : if Region.wanted op (yielded ops a.tmps) = true then Oper.wp Try.prog op a w K Q else E := by
  rw [if_pos hw]
  exact wp_stG Z x y ho b cs hl hsz h1 hx hy hr hb hB h
/-- A slice of rules that is made. -/
theorem wp_bsG {T U : TypeId} {n : Nat} (parts : List (Nat × Operand)) (Z : List Value) (ho : op.op = .buildSlice T n parts.toArray)
    (hrun : ∀ w, (Instr.buildSlice T n (parts.map fun p => (p.1, a.eval p.2)).toArray).run Try.prog w = .ok (.slice (some ⟨w.heap.size, 0, none⟩) n n) (w.alloc (.cells Z.toArray U)))
    (h : ∀ W, Row W w.heap.size U Z → Below w.heap.size w W → K (a.put op.dst (.slice (some ⟨w.heap.size, 0, none⟩) n n)) W) : Oper.wp Try.prog op a w K Q := by
  have h1 := h _ (Row.new w U Z) (ba _ _)
  unfold Oper.wp execOp
  simp only [ho, List.map_toArray, Sem.run_bind, hrun, Result.andThen_ok, Sem.run_pure]
  exact h1
theorem bsG {T U : TypeId} {n : Nat} (parts : List (Nat × Operand)) (Z : List Value) (hw : Region.wanted op (yielded ops a.tmps) = true) (ho : op.op = .buildSlice T n parts.toArray)
    (hrun : ∀ w, (Instr.buildSlice T n (parts.map fun p => (p.1, a.eval p.2)).toArray).run Try.prog w = .ok (.slice (some ⟨w.heap.size, 0, none⟩) n n) (w.alloc (.cells Z.toArray U)))
    (h : ∀ W, Row W w.heap.size U Z → Below w.heap.size w W → wpList Try.prog ops Q rest (a.put op.dst (.slice (some ⟨w.heap.size, 0, none⟩) n n)) W) : wpList Try.prog ops Q (op :: rest) a w :=
  wpList_step fun K hK => by
    rw [if_pos hw]
    exact wp_bsG parts Z ho hrun fun W k1 k2 => hK _ _ (h W k1 k2)
end
theorem bdPf (c : Ad) (n : Int) (w : World) : (Instr.build 26 #[(0, (Value.agg (acells c).toArray)), (1, .int .i64 n)]).run Try.prog w = .ok (Value.agg (pcells (⟨c, n⟩)).toArray) w := by
  obtain ⟨l, hl⟩ := c
  match l, hl with
  | [b0, b1, b2, b3, b4, b5, b6, b7, b8, b9, b10, b11, b12, b13, b14, b15], _ =>
    show _ = _
    kernel_rfl
theorem bdPr (d s : Pf) (w : World) : (Instr.build 28 #[(0, (Value.agg (pcells d).toArray)), (1, (Value.agg (pcells s).toArray))]).run Try.prog w = .ok (Value.agg (qcells (⟨d, s⟩)).toArray) w := by
  obtain ⟨⟨l, hl⟩, n⟩ := d
  obtain ⟨⟨k, hk⟩, m⟩ := s
  match l, hl, k, hk with
  | [b0, b1, b2, b3, b4, b5, b6, b7, b8, b9, b10, b11, b12, b13, b14, b15], _, [c0, c1, c2, c3, c4, c5, c6, c7, c8, c9, c10, c11, c12, c13, c14, c15], _ =>
    show _ = _
    kernel_rfl
theorem bdRl (c : Pf) (w : World) : (Instr.build 41 #[(0, .int .i64 0), (2, (Value.agg (pcells c).toArray)), (3, .bool true), (4, .int .i64 8), (5, .int .i64 24), (10, .int .i64 10)]).run Try.prog w = .ok (ruV { zeroR with dst := c, hd := true, ge := 8, le := 24, add := 10 }) w := by
  obtain ⟨⟨l, hl⟩, n⟩ := c
  match l, hl with
  | [b0, b1, b2, b3, b4, b5, b6, b7, b8, b9, b10, b11, b12, b13, b14, b15], _ =>
    show _ = _
    kernel_rfl
theorem bdDeny (ch : Int) (w : World) : (Instr.build 41 #[(0, .int .i64 ch), (9, .bool true)]).run Try.prog w = .ok (ruV { zeroR with ch := ch, deny := true }) w := by kernel_rfl
theorem bdAdd (ch x : Int) (w : World) : (Instr.build 41 #[(0, .int .i64 ch), (10, .int .i64 x)]).run Try.prog w = .ok (ruV { zeroR with ch := ch, add := x }) w := by kernel_rfl
theorem bsR1 (r : Ru) (w : World) : (Instr.buildSlice 22 1 #[(0, ruV r)]).run Try.prog w = .ok (.slice (some ⟨w.heap.size, 0, none⟩) 1 1) (w.alloc (.cells (rcells r).toArray 41)) := by
  obtain ⟨ch, nm, ⟨⟨l, hl⟩, n⟩, hd, ge, le, ⟨⟨k, hk⟩, m⟩, hs, ⟨d, hd8⟩, deny, add⟩ := r
  match l, hl, k, hk, d, hd8 with
  | [b0, b1, b2, b3, b4, b5, b6, b7, b8, b9, b10, b11, b12, b13, b14, b15], _, [c0, c1, c2, c3, c4, c5, c6, c7, c8, c9, c10, c11, c12, c13, c14, c15], _, [d0, d1, d2, d3, d4, d5, d6, d7], _ =>
    show _ = _
    kernel_rfl
theorem bsR2 (r q : Ru) (w : World) : (Instr.buildSlice 22 2 #[(0, ruV r), (1, ruV q)]).run Try.prog w = .ok (.slice (some ⟨w.heap.size, 0, none⟩) 2 2) (w.alloc (.cells (rcells r ++ rcells q).toArray 41)) := by
  obtain ⟨ch, nm, ⟨⟨l, hl⟩, n⟩, hd, ge, le, ⟨⟨k, hk⟩, m⟩, hs, ⟨d, hd8⟩, deny, add⟩ := r
  obtain ⟨ch', nm', ⟨⟨l', hl'⟩, n'⟩, hd', ge', le', ⟨⟨k', hk'⟩, m'⟩, hs', ⟨d', hd8'⟩, deny', add'⟩ := q
  match l, hl, k, hk, d, hd8, l', hl', k', hk', d', hd8' with
  | [b0, b1, b2, b3, b4, b5, b6, b7, b8, b9, b10, b11, b12, b13, b14, b15], _, [c0, c1, c2, c3, c4, c5, c6, c7, c8, c9, c10, c11, c12, c13, c14, c15], _, [d0, d1, d2, d3, d4, d5, d6, d7], _, [e0, e1, e2, e3, e4, e5, e6, e7, e8, e9, e10, e11, e12, e13, e14, e15], _, [f0, f1, f2, f3, f4, f5, f6, f7, f8, f9, f10, f11, f12, f13, f14, f15], _, [g0, g1, g2, g3, g4, g5, g6, g7], _ =>
    show _ = _
    kernel_rfl
theorem RlW.one {W : World} {g : Nat} {r : Ru} {t : TypeId} (h : Row W g t (rcells r)) : RlW W (some ⟨g, 0, none⟩) 1 [r] :=
  ⟨rfl, fun _ => ⟨g, 0, rfl, h.lt, fun j q hq => by
    match j, hq with
    | 0, hq => cases hq; simpa [LR] using h.range⟩⟩
theorem RlW.two {W : World} {g : Nat} {r q : Ru} {t : TypeId} (h : Row W g t (rcells r ++ rcells q)) : RlW W (some ⟨g, 0, none⟩) 2 [r, q] :=
  ⟨rfl, fun _ => ⟨g, 0, rfl, h.lt, fun j x hx => by
    match j, hx with
    | 0, hx => cases hx; simpa [LR] using rangeAt_left h.range
    | 1, hx => cases hx; simpa [LR] using rangeAt_right h.range (rcells_len r)⟩⟩
/-- An address of IPv4. -/
def fA (a b c d : UInt8) : Ad := ⟨[0, 0, 0, 0, 0, 0, 0, 0, 0, 0, 255, 255, a, b, c, d], rfl⟩
theorem bdF4 (a b c d : UInt8) (w : World) : (Instr.build 24 #[(10, .int .u8 255), (11, .int .u8 255), (12, .int .u8 (a.toNat : Int)), (13, .int .u8 (b.toNat : Int)), (14, .int .u8 (c.toNat : Int)), (15, .int .u8 (d.toNat : Int))]).run Try.prog w = .ok (Value.agg (acells (fA a b c d)).toArray) w := by kernel_rfl
theorem func4_any (a b c d : UInt8) (w : World) : Calls Try.prog 17 #[.int .u8 (a.toNat : Int), .int .u8 (b.toNat : Int), .int .u8 (c.toNat : Int), .int .u8 (d.toNat : Int)] w (Gives w (Value.agg (acells (fA a b c d)).toArray)) := by
  go_enter Try.func17, Try.ntmps17
  go_wp2_with (first
    | (have kk := r1; refine stG (acells (fA a b c d)) (.tmp 8) (.tmp 13) rfl rfl g _ (by rw [acells_len, acells_len]) (by rw [infoA, acells_len]) (acells_one _) rfl rfl r1 (Below.mono b3 (Nat.le_refl _)) b1 ?_; intro W2 r2 hB2)
    | (have kk := r1; (with_reducible refine bdG (v := (Value.agg (acells (fA a b c d)).toArray)) [(10, .const (.int .u8 255)), (11, .const (.int .u8 255)), (12, .tmp 9), (13, .tmp 10), (14, .tmp 11), (15, .tmp 12)] ?_ ?_ ?_ ?_); focus rfl; focus rfl; focus exact bdF4 a b c d _)
    | (refine alG infoAz rfl rfl ?_; intro g W1 b1 b2 b3 r1))
  exact bodyPost_ret (retC rfl _ _ 0 rfl (lvA r2.range)) rfl ⟨rfl, hB2⟩
end Go.Proofs.Ytfohknbgfpbmiaa
