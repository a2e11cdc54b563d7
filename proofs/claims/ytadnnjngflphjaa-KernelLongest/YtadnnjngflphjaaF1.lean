/-
  Entries and operations as values and in memory; pairs as keys.
-/
import Derived.Test.YtadnnjngflphjaaV0
import Derived.DeepKeys4
import Derived.Maps.OwnSet
namespace Go.Proofs.Ytadnnjngflphjaa
open Go.RowKit Go.Maps
set_option linter.unusedSimpArgs false
set_option linter.unusedVariables false
set_option maxRecDepth 20000
/-- An entry. -/
structure En where
  p : Pr
  i : Int
  a : Ad
def ecs (n : En) : List Value := qcells n.p ++ (.int .i64 n.i :: acells n.a)
theorem ecs_len (n : En) : (ecs n).length = 51 := by simp [ecs, qcells_len, acells_len]
theorem ecs_one (n : En) : ∀ u ∈ ecs n, u.oneCell' = true := by
  intro u hu
  simp only [ecs, List.mem_append, List.mem_cons] at hu
  rcases hu with h | h | h
  · exact qcells_one _ u h
  · subst h; rfl
  · exact bcells_one _ u h
abbrev eV (n : En) : Value := .agg (ecs n).toArray
def zeroE : En := ⟨zeroQ, 0, zeroA⟩
theorem infoEs : (Try.prog.info? 37).map (·.size) = some 51 := by kernel_rfl
theorem infoEz : (Try.prog.info? 37).map (·.zero) = some (some (.agg (ecs zeroE).toArray)) := by kernel_rfl
theorem zeroEv (w : World) : (zeroValue 37).run Try.prog w = .ok (.agg (ecs zeroE).toArray) w := by kernel_rfl
theorem bdE0 (w : World) : (Instr.build 37 #[]).run Try.prog w = .ok (.agg (ecs zeroE).toArray) w := by kernel_rfl
theorem Pr.lits {motive : Pr → Prop} (h : ∀ (b0 b1 b2 b3 b4 b5 b6 b7 b8 b9 b10 b11 b12 b13 b14 b15 c0 c1 c2 c3 c4 c5 c6 c7 c8 c9 c10 c11 c12 c13 c14 c15 : UInt8) (n m : Int) (h1 h2), motive ⟨⟨⟨[b0, b1, b2, b3, b4, b5, b6, b7, b8, b9, b10, b11, b12, b13, b14, b15], h1⟩, n⟩, ⟨⟨[c0, c1, c2, c3, c4, c5, c6, c7, c8, c9, c10, c11, c12, c13, c14, c15], h2⟩, m⟩⟩) (p : Pr) : motive p := by
  obtain ⟨⟨⟨l, hl⟩, n⟩, ⟨⟨k, hk⟩, m⟩⟩ := p
  match l, hl, k, hk with
  | [b0, b1, b2, b3, b4, b5, b6, b7, b8, b9, b10, b11, b12, b13, b14, b15], h1, [c0, c1, c2, c3, c4, c5, c6, c7, c8, c9, c10, c11, c12, c13, c14, c15], h2 => exact h ..
theorem Ad.lits {motive : Ad → Prop} (h : ∀ (b0 b1 b2 b3 b4 b5 b6 b7 b8 b9 b10 b11 b12 b13 b14 b15 : UInt8) (h1), motive ⟨[b0, b1, b2, b3, b4, b5, b6, b7, b8, b9, b10, b11, b12, b13, b14, b15], h1⟩) (a : Ad) : motive a := by
  obtain ⟨l, hl⟩ := a
  match l, hl with
  | [b0, b1, b2, b3, b4, b5, b6, b7, b8, b9, b10, b11, b12, b13, b14, b15], h1 => exact h ..
theorem bdEn (p : Pr) (i : Int) (a : Ad) (w : World) : (Instr.build 37 #[(0, (Value.agg (qcells p).toArray)), (1, .int .i64 i), (2, (Value.agg (acells a).toArray))]).run Try.prog w = .ok (eV ⟨p, i, a⟩) w := by
  induction p using Pr.lits with | h =>
  induction a using Ad.lits with | h =>
  show _ = _
  kernel_rfl
theorem bdE1 (p : Pr) (i : Int) (w : World) : (Instr.build 37 #[(0, (Value.agg (qcells p).toArray)), (1, .int .i64 i)]).run Try.prog w = .ok (eV ⟨p, i, zeroA⟩) w := by
  induction p using Pr.lits with | h =>
  show _ = _
  kernel_rfl
theorem bdQ (d s : Pf) (w : World) : (Instr.build 35 #[(0, (Value.agg (pcells d).toArray)), (1, (Value.agg (pcells s).toArray))]).run Try.prog w = .ok (Value.agg (qcells (⟨d, s⟩)).toArray) w := by
  obtain ⟨⟨l, hl⟩, n⟩ := d
  obtain ⟨⟨k, hk⟩, m⟩ := s
  match l, hl, k, hk with
  | [b0, b1, b2, b3, b4, b5, b6, b7, b8, b9, b10, b11, b12, b13, b14, b15], h1, [c0, c1, c2, c3, c4, c5, c6, c7, c8, c9, c10, c11, c12, c13, c14, c15], h2 =>
    show _ = _
    kernel_rfl
/-- An operation. -/
structure Oq where
  k : Int
  e : En
def pcs (o : Oq) : List Value := .int .i64 o.k :: ecs o.e
theorem pcs_len (o : Oq) : (pcs o).length = 52 := by simp [pcs, ecs_len]
theorem pcs_one (o : Oq) : ∀ u ∈ pcs o, u.oneCell' = true := by
  intro u hu
  simp only [pcs, List.mem_cons] at hu
  rcases hu with h | h
  · subst h; rfl
  · exact ecs_one _ u h
abbrev oV (o : Oq) : Value := .agg (pcs o).toArray
def zeroO : Oq := ⟨0, zeroE⟩
theorem infoOs : (Try.prog.info? 39).map (·.size) = some 52 := by kernel_rfl
theorem infoOz : (Try.prog.info? 39).map (·.zero) = some (some (.agg (pcs zeroO).toArray)) := by kernel_rfl
theorem bdO0 (w : World) : (Instr.build 39 #[]).run Try.prog w = .ok (.agg (pcs zeroO).toArray) w := by kernel_rfl
theorem En.lits {motive : En → Prop} (h : ∀ p i (b0 b1 b2 b3 b4 b5 b6 b7 b8 b9 b10 b11 b12 b13 b14 b15 : UInt8) (h1), motive ⟨p, i, ⟨[b0, b1, b2, b3, b4, b5, b6, b7, b8, b9, b10, b11, b12, b13, b14, b15], h1⟩⟩) (n : En) : motive n := by
  obtain ⟨p, i, a⟩ := n
  induction a using Ad.lits with | h => exact h ..
theorem bdO (k : Int) (n : En) (w : World) : (Instr.build 39 #[(0, .int .i64 k), (1, eV n)]).run Try.prog w = .ok (oV ⟨k, n⟩) w := by
  obtain ⟨p, i, a⟩ := n
  induction p using Pr.lits with | h =>
  induction a using Ad.lits with | h =>
  show _ = _
  kernel_rfl
/-! ### The cells of an entry, of an operation -/
def LE (w : World) (b o : Nat) (n : En) : Prop := w.rangeAt b o (ecs n)
def LO (w : World) (b o : Nat) (n : Oq) : Prop := w.rangeAt b o (pcs n)
section
variable {w : World} {b o : Nat} {n : En}
theorem LE.q (h : LE w b o n) : LQ w b o n.p := rangeAt_left h
theorem LE.t1 (h : LE w b o n) : w.rangeAt b (o + 34) (.int .i64 n.i :: acells n.a) := rangeAt_right h (qcells_len _)
theorem LE.i_ (h : LE w b o n) : w.cell? ⟨b, o + 34, none⟩ = some (.int .i64 n.i) := h.t1 0 _ rfl
theorem LE.a (h : LE w b o n) : LA w b (o + 35) n.a := fun j v hv => by
  have := h.t1 (j + 1) v (by simpa using hv)
  rwa [show o + 34 + (j + 1) = o + 35 + j by omega] at this
theorem LE.d (h : LE w b o n) : LP w b o n.p.d := h.q.d
theorem LE.s (h : LE w b o n) : LP w b (o + 17) n.p.s := h.q.s
theorem LE.below {w' : World} {B : Nat} (h : LE w b o n) (hb : Below B w w') (hlt : b < B) : LE w' b o n := rangeAt_below h hb hlt
variable {q : Oq}
theorem LO.k (h : LO w b o q) : w.cell? ⟨b, o, none⟩ = some (.int .i64 q.k) := h 0 _ rfl
theorem LO.e (h : LO w b o q) : LE w b (o + 1) q.e := fun j v hv => by
  have := h (j + 1) v (by simpa [pcs] using hv)
  rwa [show o + (j + 1) = o + 1 + j by omega] at this
theorem LO.below {w' : World} {B : Nat} (h : LO w b o q) (hb : Below B w w') (hlt : b < B) : LO w' b o q := rangeAt_below h hb hlt
end
theorem Row.en {w : World} {g : Nat} {t : TypeId} {n : En} (h : Row w g t (ecs n)) : LE w g 0 n := h.range
theorem Row.op {w : World} {g : Nat} {t : TypeId} {n : Oq} (h : Row w g t (pcs n)) : LO w g 0 n := h.range
/-! ### Loads, stores -/
section
variable {ops : Array Oper} {rest : List Oper} {op : Oper} {a : Act} {w : World} {Q : Exit → Act → World → Prop} {K : Act → World → Prop} {E : Prop} {S : World → Prop}
theorem ldE (x : Operand) (hw : Region.wanted op (yielded ops a.tmps) = true) (ho : op.op = .load 37 x) (b o : Nat) (n : En) (hx : a.eval x = .pointer (some ⟨b, o, none⟩)) (hc : LE w b o n)
    (h : wpList Try.prog ops Q rest (a.put op.dst (eV n)) w) : wpList Try.prog ops Q (op :: rest) a w :=
  wpList_step fun K hK => by
    rw [if_pos hw]
    exact wp_load_mid _ x ho b o hx (ecs n) _ hc Try.underlying37 rfl (by rw [infoEs, ecs_len]) (hK _ _ h)
theorem yE {b o : Nat} {x : Operand} (n : En) (hS : ∀ w, S w → LE w b o n) (hw : Region.wanted op (yielded ops a.tmps) = true) (ho : op.op = .load 37 x) (hx : a.eval x = .pointer (some ⟨b, o, none⟩)) : YieldsIf Try.prog ops S op (eV n) a :=
  yieldsIf_load_mid hw _ x ho b o hx (ecs n) _ hS Try.underlying37 rfl (by rw [infoEs, ecs_len])
theorem stE (x y : Operand) (hw : Region.wanted op (yielded ops a.tmps) = true) (ho : op.op = .store 37 x y) (b : Nat) (n u : En) (hx : a.eval x = .pointer (some ⟨b, 0, none⟩)) (hy : a.eval y = eV n) (hr : Row w b 37 (ecs u))
    (h : ∀ W, w.grownBy W (some b) → Row W b 37 (ecs n) → wpList Try.prog ops Q rest (a.put op.dst undef) W) : wpList Try.prog ops Q (op :: rest) a w :=
  wpList_step fun K hK => by
    rw [if_pos hw]
    refine wp_store_mid _ x y ho b 0 _ hx hy (by simpa [ecs_len] using hr.there (n := 51) (by rw [ecs_len]; omega)) (by rw [infoEs]; simp [ecs_len]) (all_oneCell_toArray (ecs_one n)) (hK _ _ (h _ (grownBy_setCells b _ _ _) ?_))
    have := Row.setCells (ecs n) [] w (ecs u) hr (by rw [ecs_len, ecs_len])
    simpa using this
theorem ldO (x : Operand) (hw : Region.wanted op (yielded ops a.tmps) = true) (ho : op.op = .load 39 x) (b o : Nat) (n : Oq) (hx : a.eval x = .pointer (some ⟨b, o, none⟩)) (hc : LO w b o n)
    (h : wpList Try.prog ops Q rest (a.put op.dst (oV n)) w) : wpList Try.prog ops Q (op :: rest) a w :=
  wpList_step fun K hK => by
    rw [if_pos hw]
    exact wp_load_mid _ x ho b o hx (pcs n) _ hc Try.underlying39 rfl (by rw [infoOs, pcs_len]) (hK _ _ h)
theorem yO {b o : Nat} {x : Operand} (n : Oq) (hS : ∀ w, S w → LO w b o n) (hw : Region.wanted op (yielded ops a.tmps) = true) (ho : op.op = .load 39 x) (hx : a.eval x = .pointer (some ⟨b, o, none⟩)) : YieldsIf Try.prog ops S op (oV n) a :=
  yieldsIf_load_mid hw _ x ho b o hx (pcs n) _ hS Try.underlying39 rfl (by rw [infoOs, pcs_len])
theorem stO (x y : Operand) (hw : Region.wanted op (yielded ops a.tmps) = true) (ho : op.op = .store 39 x y) (b : Nat) (n u : Oq) (hx : a.eval x = .pointer (some ⟨b, 0, none⟩)) (hy : a.eval y = oV n) (hr : Row w b 39 (pcs u))
    (h : ∀ W, w.grownBy W (some b) → Row W b 39 (pcs n) → wpList Try.prog ops Q rest (a.put op.dst undef) W) : wpList Try.prog ops Q (op :: rest) a w :=
  wpList_step fun K hK => by
    rw [if_pos hw]
    refine wp_store_mid _ x y ho b 0 _ hx hy (by simpa [pcs_len] using hr.there (n := 52) (by rw [pcs_len]; omega)) (by rw [infoOs]; simp [pcs_len]) (all_oneCell_toArray (pcs_one n)) (hK _ _ (h _ (grownBy_setCells b _ _ _) ?_))
    have := Row.setCells (pcs n) [] w (pcs u) hr (by rw [pcs_len, pcs_len])
    simpa using this
theorem stP0 (x y : Operand) (hw : Region.wanted op (yielded ops a.tmps) = true) (ho : op.op = .store 33 x y) (b : Nat) (n u : Pf) (hx : a.eval x = .pointer (some ⟨b, 0, none⟩)) (hy : a.eval y = (Value.agg (pcells n).toArray)) (hr : Row w b 33 (pcells u))
    (h : ∀ W, w.grownBy W (some b) → Row W b 33 (pcells n) → wpList Try.prog ops Q rest (a.put op.dst undef) W) : wpList Try.prog ops Q (op :: rest) a w :=
  wpList_step fun K hK => by
    rw [if_pos hw]
    refine wp_store_mid _ x y ho b 0 _ hx hy (by simpa [pcells_len] using hr.there (n := 17) (by rw [pcells_len]; omega)) (by rw [infoP]; simp [pcells_len]) (all_oneCell_toArray (pcells_one n)) (hK _ _ (h _ (grownBy_setCells b _ _ _) ?_))
    have := Row.setCells (pcells n) [] w (pcells u) hr (by rw [pcells_len, pcells_len])
    simpa using this
theorem stQ0 (x y : Operand) (hw : Region.wanted op (yielded ops a.tmps) = true) (ho : op.op = .store 35 x y) (b : Nat) (n u : Pr) (hx : a.eval x = .pointer (some ⟨b, 0, none⟩)) (hy : a.eval y = (Value.agg (qcells n).toArray)) (hr : Row w b 35 (qcells u))
    (h : ∀ W, w.grownBy W (some b) → Row W b 35 (qcells n) → wpList Try.prog ops Q rest (a.put op.dst undef) W) : wpList Try.prog ops Q (op :: rest) a w :=
  wpList_step fun K hK => by
    rw [if_pos hw]
    refine wp_store_mid _ x y ho b 0 _ hx hy (by simpa [qcells_len] using hr.there (n := 34) (by rw [qcells_len]; omega)) (by rw [infoQ]; simp [qcells_len]) (all_oneCell_toArray (qcells_one n)) (hK _ _ (h _ (grownBy_setCells b _ _ _) ?_))
    have := Row.setCells (qcells n) [] w (qcells u) hr (by rw [qcells_len, qcells_len])
    simpa using this
end
theorem lvE {w : World} {g : Nat} {n : En} (h : Row w g 37 (ecs n)) : (loadVar 37 ⟨g, 0, none⟩).run Try.prog w = .ok (eV n) w :=
  run_loadVar_mid w g 0 _ (ecs n) _ h.range Try.underlying37 rfl (by rw [infoEs, ecs_len])
theorem lvO {w : World} {g : Nat} {n : Oq} (h : Row w g 39 (pcs n)) : (loadVar 39 ⟨g, 0, none⟩).run Try.prog w = .ok (oV n) w :=
  run_loadVar_mid w g 0 _ (pcs n) _ h.range Try.underlying39 rfl (by rw [infoOs, pcs_len])
theorem run_boxE (n : En) (w : World) : (Instr.box 37 (eV n)).run Try.prog w = .ok (.pointer (some ⟨w.heap.size, 0, none⟩)) (w.alloc (.cells (ecs n).toArray 37)) := by
  simp [Instr.box, newVar, newRow, newObj, Value.cells]; rfl
theorem run_boxO (n : Oq) (w : World) : (Instr.box 39 (oV n)).run Try.prog w = .ok (.pointer (some ⟨w.heap.size, 0, none⟩)) (w.alloc (.cells (pcs n).toArray 39)) := by
  simp [Instr.box, newVar, newRow, newObj, Value.cells]; rfl
/-- Rows of entries, of operations. -/
def kE : Kd En := ⟨ecs, 37, 27, 51, 72, ecs zeroE, ecs_len, ecs_one, Try.underlying27, by kernel_rfl, ecs_len _, by decide, by decide⟩
/-! ### Keys -/
theorem keyLaw : Keyed Try.prog 35 := Keyed.of_law (deep_law_laid (m := 4) (by kernel_rfl) (by omega) (of_decide_eq_true (by kernel_rfl)) (by kernel_rfl) (by kernel_rfl))
theorem wf_u8 (b : UInt8) : (Lit.int .u8 (b.toNat : Int)).wf = true := by
  have := b.toNat_lt
  simp [Lit.wf, IntKind.min, IntKind.max, IntKind.signed, IntKind.bits]
  omega
def wfI (i : Int) : Prop := (Lit.int .i64 i).wf = true
/-- A pair whose lengths are numbers of the machine. -/
def wfQ (p : Pr) : Prop := wfI p.d.n ∧ wfI p.s.n
def bls (l : List UInt8) : List Lit := l.map fun b => Lit.int .u8 (b.toNat : Int)
def pls (p : Pf) : List Lit := bls p.a.l ++ [Lit.int .i64 p.n]
def qls (p : Pr) : List Lit := pls p.d ++ pls p.s
def kl (p : Pr) : Lit := .string (keyBytes (qls p))
theorem key_some (p : Pr) (hp : wfQ p) : keyOf Try.prog 35 (Value.agg (qcells p).toArray) = some (kl p) := by
  have kI : ∀ (d : Nat) (n : Int), wfI n → Try.prog.keyLits (d + 1) 3 [.int .i64 n] = some [.int .i64 n] := fun d n hn => by simp [Program.keyLits, Try.underlying3, show (Lit.int .i64 n).wf = true from hn]
  have k8 : ∀ d (b : UInt8), Try.prog.keyLits (d + 1) 5 [.int .u8 (b.toNat : Int)] = some [.int .u8 b.toNat] := fun d b => by simp [Program.keyLits, Try.underlying5, wf_u8]
  have c8 : Try.prog.cellsOf 5 = 1 := by kernel_rfl
  have cA : Try.prog.cellsOf 31 = 16 := by kernel_rfl
  have cP : Try.prog.cellsOf 33 = 17 := by kernel_rfl
  have cQ : Try.prog.cellsOf 35 = 34 := by kernel_rfl
  have cI : Try.prog.cellsOf 3 = 1 := by kernel_rfl
  have kt : Try.prog.keyType 35 = true := by kernel_rfl
  have sz : 5 ≤ Try.prog.types.size := of_decide_eq_true (by kernel_rfl)
  obtain ⟨d, hd⟩ : ∃ d, Try.prog.types.size + 1 = d + 4 := ⟨Try.prog.types.size - 3, by omega⟩
  have hA : ∀ (d : Nat) (c : Ad), Try.prog.keyLits (d + 2) 31 (acells c) = some (bls c.l) := fun d c => by
    obtain ⟨l, hl⟩ := c
    match l, hl with
    | [b0, b1, b2, b3, b4, b5, b6, b7, b8, b9, b10, b11, b12, b13, b14, b15], _ =>
      unfold Program.keyLits
      simp [Try.underlying31, acells, bcells, cA, c8, k8, List.range, List.range.loop, bls]
  have hP : ∀ (d : Nat) (c : Pf), wfI c.n → Try.prog.keyLits (d + 3) 33 (pcells c) = some (pls c) := fun d c hc => by
    unfold Program.keyLits
    simp [Try.underlying33, cP, cA, cI, pcells_len, pcells, acells_len, hA, kI _ _ hc, List.take_of_length_le, pls]
  unfold keyOf kl
  rw [Try.underlying35, hd]
  simp only [kt, Value.formed, Try.underlying35, cQ, Bool.true_and, Value.cells]
  unfold Program.keyLits
  simp [Try.underlying35, cP, cQ, qcells_len, qcells, pcells_len, hP _ _ hp.1, hP _ _ hp.2, List.take_of_length_le, qls]
end Go.Proofs.Ytadnnjngflphjaa
