/-
  Requests as values and in memory; keys of requests (m: the tries).
-/
import Derived.Test.YtbjclphgabpgoaaV0
import Derived.Test.YtbjclphgabpgoaaS2
import Derived.DeepKeys4
import Derived.Maps.OwnSet
namespace Go.Proofs.Ytbjclphgabpgoaa
open Go.RowKit Go.Maps
set_option linter.unusedSimpArgs false
set_option linter.unusedVariables false
set_option maxRecDepth 20000
/-- A request. -/
structure Sr where
  p : Pr
  id : Id8
  s : Int
  m : Int
  t : Int
def dcs (s m : Int) : List Value := [.int .u16 s, .int .i64 m]
def scs (n : Sr) : List Value := qcells n.p ++ (icells n.id ++ (dcs n.s n.m ++ [.int .i64 n.t]))
theorem scs_len (n : Sr) : (scs n).length = 45 := by simp [scs, qcells_len, icells_len, dcs]
theorem scs_one (n : Sr) : ∀ u ∈ scs n, u.oneCell' = true := by
  intro u hu
  simp only [scs, dcs, List.mem_append] at hu
  rcases hu with h | h | h | h
  · exact qcells_one _ u h
  · exact icells_one _ u h
  · simp at h
    rcases h with rfl | rfl <;> rfl
  · simp at h
    subst h
    rfl
abbrev sV (n : Sr) : Value := .agg (scs n).toArray
abbrev dV (s m : Int) : Value := .agg #[.int .u16 s, .int .u16 m]
def zeroS : Sr := ⟨zeroQ, zeroI, 0, 0, 0⟩
theorem infoSs : (Try.prog.info? 67).map (·.size) = some 45 := by kernel_rfl
theorem infoSz : (Try.prog.info? 67).map (·.zero) = some (some (.agg (scs zeroS).toArray)) := by kernel_rfl
theorem zeroSv (w : World) : (zeroValue 67).run Try.prog w = .ok (.agg (scs zeroS).toArray) w := by kernel_rfl
theorem bdS0 (w : World) : (Instr.build 67 #[]).run Try.prog w = .ok (.agg (scs zeroS).toArray) w := by kernel_rfl
theorem Pr.lits {motive : Pr → Prop} (h : ∀ (b0 b1 b2 b3 b4 b5 b6 b7 b8 b9 b10 b11 b12 b13 b14 b15 c0 c1 c2 c3 c4 c5 c6 c7 c8 c9 c10 c11 c12 c13 c14 c15 : UInt8) (n m : Int) (h1 h2), motive ⟨⟨⟨[b0, b1, b2, b3, b4, b5, b6, b7, b8, b9, b10, b11, b12, b13, b14, b15], h1⟩, n⟩, ⟨⟨[c0, c1, c2, c3, c4, c5, c6, c7, c8, c9, c10, c11, c12, c13, c14, c15], h2⟩, m⟩⟩) (p : Pr) : motive p := by
  obtain ⟨⟨⟨l, hl⟩, n⟩, ⟨⟨k, hk⟩, m⟩⟩ := p
  match l, hl, k, hk with
  | [b0, b1, b2, b3, b4, b5, b6, b7, b8, b9, b10, b11, b12, b13, b14, b15], h1, [c0, c1, c2, c3, c4, c5, c6, c7, c8, c9, c10, c11, c12, c13, c14, c15], h2 => exact h ..
theorem Id8.lits {motive : Id8 → Prop} (h : ∀ (b0 b1 b2 b3 b4 b5 b6 b7 : UInt8) (h1), motive ⟨[b0, b1, b2, b3, b4, b5, b6, b7], h1⟩) (i : Id8) : motive i := by
  obtain ⟨l, hl⟩ := i
  match l, hl with
  | [b0, b1, b2, b3, b4, b5, b6, b7], h1 => exact h ..
theorem bdSr (p : Pr) (i : Id8) (s : Int) (w : World) : (Instr.build 67 #[(0, (Value.agg (qcells p).toArray)), (1, idV i), (2, .int .u16 s)]).run Try.prog w = .ok (sV ⟨p, i, s, 0, 0⟩) w := by
  induction p using Pr.lits with | h =>
  induction i using Id8.lits with | h =>
  show _ = _
  kernel_rfl
theorem bdSr5 (p : Pr) (i : Id8) (s m t : Int) (w : World) : (Instr.build 67 #[(0, (Value.agg (qcells p).toArray)), (1, idV i), (2, .int .u16 s), (3, .int .i64 m), (4, .int .i64 t)]).run Try.prog w = .ok (sV ⟨p, i, s, m, t⟩) w := by
  induction p using Pr.lits with | h =>
  induction i using Id8.lits with | h =>
  show _ = _
  kernel_rfl
/-- A key: a pair and a router. -/
def kcs (p : Pr) (i : Id8) : List Value := qcells p ++ icells i
theorem kcs_len (p : Pr) (i : Id8) : (kcs p i).length = 42 := by simp [kcs, qcells_len, icells_len]
theorem kcs_one (p : Pr) (i : Id8) : ∀ u ∈ kcs p i, u.oneCell' = true := by
  intro u hu
  simp only [kcs, List.mem_append] at hu
  rcases hu with h | h
  · exact qcells_one _ u h
  · exact icells_one _ u h
abbrev kV (p : Pr) (i : Id8) : Value := .agg (kcs p i).toArray
theorem bdK (p : Pr) (i : Id8) (w : World) : (Instr.build 75 #[(0, (Value.agg (qcells p).toArray)), (1, idV i)]).run Try.prog w = .ok (kV p i) w := by
  induction p using Pr.lits with | h =>
  induction i using Id8.lits with | h =>
  show _ = _
  kernel_rfl
theorem infoKs : (Try.prog.info? 75).map (·.size) = some 42 := by kernel_rfl
theorem infoKz : (Try.prog.info? 75).map (·.zero) = some (some (.agg (kcs zeroQ zeroI).toArray)) := by kernel_rfl
/-! ### The cells of a source -/
def LS (w : World) (b o : Nat) (n : Sr) : Prop := w.rangeAt b o (scs n)
section
variable {w : World} {b o : Nat} {n : Sr}
theorem LS.q (h : LS w b o n) : LQ w b o n.p := rangeAt_left h
theorem LS.t1 (h : LS w b o n) : w.rangeAt b (o + 34) (icells n.id ++ (dcs n.s n.m ++ [.int .i64 n.t])) := rangeAt_right h (qcells_len _)
theorem LS.i (h : LS w b o n) : LI w b (o + 34) n.id := rangeAt_left h.t1
theorem LS.t2 (h : LS w b o n) : w.rangeAt b (o + 42) (dcs n.s n.m ++ [.int .i64 n.t]) := by have := rangeAt_right h.t1 (icells_len _); rwa [Nat.add_assoc] at this
theorem LS.s_ (h : LS w b o n) : w.cell? ⟨b, o + 42, none⟩ = some (.int .u16 n.s) := h.t2 0 _ rfl
theorem LS.m_ (h : LS w b o n) : w.cell? ⟨b, o + 43, none⟩ = some (.int .i64 n.m) := h.t2 1 _ rfl
theorem LS.at_ (h : LS w b o n) : w.cell? ⟨b, o + 44, none⟩ = some (.int .i64 n.t) := h.t2 2 _ rfl
theorem LS.below {w' : World} {B : Nat} (h : LS w b o n) (hb : Below B w w') (hlt : b < B) : LS w' b o n := rangeAt_below h hb hlt
end
theorem Row.sr {w : World} {g : Nat} {t : TypeId} {n : Sr} (h : Row w g t (scs n)) : LS w g 0 n := h.range
theorem sc44 (n : Sr) : (scs n)[44]? = some (.int .i64 n.t) := by
  simp [scs, dcs, qcells_len, icells_len, List.getElem?_append_right]
theorem scs_t (n : Sr) (t : Int) : (scs n).set 44 (.int .i64 t) = scs { n with t := t } := by
  simp [scs, dcs, List.set_append, qcells_len, icells_len]
theorem Row.srt {w : World} {g : Nat} {T : TypeId} {n : Sr} (h : Row w g T (scs n)) (t : Int) : Row (w.setCell ⟨g, 44, none⟩ (.int .i64 t)) g T (scs { n with t := t }) := by
  have := h.set 44 (.int .i64 t)
  rwa [scs_t] at this
/-! ### Loads, stores -/
section
variable {ops : Array Oper} {rest : List Oper} {op : Oper} {a : Act} {w : World} {Q : Exit → Act → World → Prop} {K : Act → World → Prop} {E : Prop} {S : World → Prop}
theorem ldS (x : Operand) (hw : Region.wanted op (yielded ops a.tmps) = true) (ho : op.op = .load 67 x) (b o : Nat) (n : Sr) (hx : a.eval x = .pointer (some ⟨b, o, none⟩)) (hc : LS w b o n)
    (h : wpList Try.prog ops Q rest (a.put op.dst (sV n)) w) : wpList Try.prog ops Q (op :: rest) a w :=
  wpList_step fun K hK => by
    rw [if_pos hw]
    exact wp_load_mid _ x ho b o hx (scs n) _ hc Try.underlying67 rfl (by rw [infoSs, scs_len]) (hK _ _ h)
theorem yS {b o : Nat} {x : Operand} (n : Sr) (hS : ∀ w, S w → LS w b o n) (hw : Region.wanted op (yielded ops a.tmps) = true) (ho : op.op = .load 67 x) (hx : a.eval x = .pointer (some ⟨b, o, none⟩)) : YieldsIf Try.prog ops S op (sV n) a :=
  yieldsIf_load_mid hw _ x ho b o hx (scs n) _ hS Try.underlying67 rfl (by rw [infoSs, scs_len])
theorem stS (x y : Operand) (hw : Region.wanted op (yielded ops a.tmps) = true) (ho : op.op = .store 67 x y) (b : Nat) (n u : Sr) (hx : a.eval x = .pointer (some ⟨b, 0, none⟩)) (hy : a.eval y = sV n) (hr : Row w b 67 (scs u))
    (h : ∀ W, w.grownBy W (some b) → Row W b 67 (scs n) → wpList Try.prog ops Q rest (a.put op.dst undef) W) : wpList Try.prog ops Q (op :: rest) a w :=
  wpList_step fun K hK => by
    rw [if_pos hw]
    refine wp_store_mid _ x y ho b 0 _ hx hy (by simpa [scs_len] using hr.there (n := 45) (by rw [scs_len]; omega)) (by rw [infoSs]; simp [scs_len]) (all_oneCell_toArray (scs_one n)) (hK _ _ (h _ (grownBy_setCells b _ _ _) ?_))
    have := Row.setCells (scs n) [] w (scs u) hr (by rw [scs_len, scs_len])
    simpa using this
theorem sStS (x y : Operand) (hw : Region.wanted op (yielded ops a.tmps) = true) (ho : op.op = .store 67 x y) (b : Nat) (n u : Sr) (hx : a.eval x = .pointer (some ⟨b, 0, none⟩)) (hy : a.eval y = sV n) (hr : Row w b 67 (scs u))
    (h : ∀ W, w.grownBy W (some b) → Row W b 67 (scs n) → K (a.put op.dst undef) W) : if Region.wanted op (yielded ops a.tmps) = true then Oper.wp Try.prog op a w K Q else E := by
  rw [if_pos hw]
  refine wp_store_mid _ x y ho b 0 _ hx hy (by simpa [scs_len] using hr.there (n := 45) (by rw [scs_len]; omega)) (by rw [infoSs]; simp [scs_len]) (all_oneCell_toArray (scs_one n)) (h _ (grownBy_setCells b _ _ _) ?_)
  have := Row.setCells (scs n) [] w (scs u) hr (by rw [scs_len, scs_len])
  simpa using this
theorem stK (x y : Operand) (hw : Region.wanted op (yielded ops a.tmps) = true) (ho : op.op = .store 75 x y) (b : Nat) (p : Pr) (i : Id8) (q : Pr) (j : Id8) (hx : a.eval x = .pointer (some ⟨b, 0, none⟩)) (hy : a.eval y = kV p i) (hr : Row w b 75 (kcs q j))
    (h : ∀ W, w.grownBy W (some b) → Row W b 75 (kcs p i) → wpList Try.prog ops Q rest (a.put op.dst undef) W) : wpList Try.prog ops Q (op :: rest) a w :=
  wpList_step fun K hK => by
    rw [if_pos hw]
    refine wp_store_mid _ x y ho b 0 _ hx hy (by simpa [kcs_len] using hr.there (n := 42) (by rw [kcs_len]; omega)) (by rw [infoKs]; simp [kcs_len]) (all_oneCell_toArray (kcs_one p i)) (hK _ _ (h _ (grownBy_setCells b _ _ _) ?_))
    have := Row.setCells (kcs p i) [] w (kcs q j) hr (by rw [kcs_len, kcs_len])
    simpa using this
theorem ldK (x : Operand) (hw : Region.wanted op (yielded ops a.tmps) = true) (ho : op.op = .load 75 x) (b : Nat) (p : Pr) (i : Id8) (hx : a.eval x = .pointer (some ⟨b, 0, none⟩)) (hc : Row w b 75 (kcs p i))
    (h : wpList Try.prog ops Q rest (a.put op.dst (kV p i)) w) : wpList Try.prog ops Q (op :: rest) a w :=
  wpList_step fun K hK => by
    rw [if_pos hw]
    exact wp_load_mid _ x ho b 0 hx (kcs p i) _ hc.range Try.underlying75 rfl (by rw [infoKs, kcs_len]) (hK _ _ h)
theorem yK {b : Nat} {x : Operand} (p : Pr) (i : Id8) (hS : ∀ w, S w → Row w b 75 (kcs p i)) (hw : Region.wanted op (yielded ops a.tmps) = true) (ho : op.op = .load 75 x) (hx : a.eval x = .pointer (some ⟨b, 0, none⟩)) : YieldsIf Try.prog ops S op (kV p i) a :=
  yieldsIf_load_mid hw _ x ho b 0 hx (kcs p i) _ (fun w h => (hS w h).range) Try.underlying75 rfl (by rw [infoKs, kcs_len])
theorem stI (x y : Operand) (hw : Region.wanted op (yielded ops a.tmps) = true) (ho : op.op = .store 40 x y) (b : Nat) (n u : Id8) (hx : a.eval x = .pointer (some ⟨b, 0, none⟩)) (hy : a.eval y = idV n) (hr : Row w b 40 (icells u))
    (h : ∀ W, w.grownBy W (some b) → Row W b 40 (icells n) → wpList Try.prog ops Q rest (a.put op.dst undef) W) : wpList Try.prog ops Q (op :: rest) a w :=
  wpList_step fun K hK => by
    rw [if_pos hw]
    refine wp_store_mid _ x y ho b 0 _ hx hy (by simpa [icells_len] using hr.there (n := 8) (by rw [icells_len]; omega)) (by rw [infoI]; simp [icells_len]) (all_oneCell_toArray (icells_one n)) (hK _ _ (h _ (grownBy_setCells b _ _ _) ?_))
    have := Row.setCells (icells n) [] w (icells u) hr (by rw [icells_len, icells_len])
    simpa using this
end
theorem lvS {w : World} {g : Nat} {n : Sr} (h : Row w g 67 (scs n)) : (loadVar 67 ⟨g, 0, none⟩).run Try.prog w = .ok (sV n) w :=
  run_loadVar_mid w g 0 _ (scs n) _ h.range Try.underlying67 rfl (by rw [infoSs, scs_len])
theorem run_boxS (n : Sr) (w : World) : (Instr.box 67 (sV n)).run Try.prog w = .ok (.pointer (some ⟨w.heap.size, 0, none⟩)) (w.alloc (.cells (scs n).toArray 67)) := by
  simp [Instr.box, newVar, newRow, newObj, Value.cells]; rfl
/-! ### Keys -/
theorem keyLaw : Keyed Try.prog 75 := Keyed.of_law (deep_law_laid (m := 5) (by kernel_rfl) (by omega) (of_decide_eq_true (by kernel_rfl)) (by kernel_rfl) (by kernel_rfl))
theorem wf_u8 (b : UInt8) : (Lit.int .u8 (b.toNat : Int)).wf = true := by
  have := b.toNat_lt
  simp [Lit.wf, IntKind.min, IntKind.max, IntKind.signed, IntKind.bits]
  omega
def wfI (i : Int) : Prop := (Lit.int .i64 i).wf = true
/-- A pair whose lengths are numbers of the machine. -/
def wfQ (p : Pr) : Prop := wfI p.d.n ∧ wfI p.s.n
def bls (l : List UInt8) : List Lit := l.map fun b => Lit.int .u8 (b.toNat : Int)
def pls (p : Pf) : List Lit := bls p.a.l ++ [Lit.int .i64 p.n]
def qls (p : Pr) : List Lit := pls p.d ++ pls p.s
def kl (p : Pr) (i : Id8) : Lit := .string (keyBytes (qls p ++ bls i.l))
theorem key_some (p : Pr) (i : Id8) (hp : wfQ p) : keyOf Try.prog 75 (kV p i) = some (kl p i) := by
  have kI : ∀ (d : Nat) (n : Int), wfI n → Try.prog.keyLits (d + 1) 3 [.int .i64 n] = some [.int .i64 n] := fun d n hn => by simp [Program.keyLits, Try.underlying3, show (Lit.int .i64 n).wf = true from hn]
  have k8 : ∀ d (b : UInt8), Try.prog.keyLits (d + 1) 5 [.int .u8 (b.toNat : Int)] = some [.int .u8 b.toNat] := fun d b => by simp [Program.keyLits, Try.underlying5, wf_u8]
  have c8 : Try.prog.cellsOf 5 = 1 := by kernel_rfl
  have cA : Try.prog.cellsOf 34 = 16 := by kernel_rfl
  have cP : Try.prog.cellsOf 36 = 17 := by kernel_rfl
  have cQ : Try.prog.cellsOf 38 = 34 := by kernel_rfl
  have cR : Try.prog.cellsOf 40 = 8 := by kernel_rfl
  have cI : Try.prog.cellsOf 3 = 1 := by kernel_rfl
  have cK : Try.prog.cellsOf 75 = 42 := by kernel_rfl
  have kt : Try.prog.keyType 75 = true := by kernel_rfl
  have sz : 5 ≤ Try.prog.types.size := of_decide_eq_true (by kernel_rfl)
  obtain ⟨d, hd⟩ : ∃ d, Try.prog.types.size + 1 = d + 5 := ⟨Try.prog.types.size - 4, by omega⟩
  have hA : ∀ (d : Nat) (c : Ad), Try.prog.keyLits (d + 2) 34 (acells c) = some (bls c.l) := fun d c => by
    obtain ⟨l, hl⟩ := c
    match l, hl with
    | [b0, b1, b2, b3, b4, b5, b6, b7, b8, b9, b10, b11, b12, b13, b14, b15], _ =>
      unfold Program.keyLits
      simp [Try.underlying34, acells, bcells, cA, c8, k8, List.range, List.range.loop, bls]
  have hR : ∀ (d : Nat) (c : Id8), Try.prog.keyLits (d + 2) 40 (icells c) = some (bls c.l) := fun d c => by
    obtain ⟨l, hl⟩ := c
    match l, hl with
    | [b0, b1, b2, b3, b4, b5, b6, b7], _ =>
      unfold Program.keyLits
      simp [Try.underlying40, icells, bcells, cR, c8, k8, List.range, List.range.loop, bls]
  have hP : ∀ (d : Nat) (c : Pf), wfI c.n → Try.prog.keyLits (d + 3) 36 (pcells c) = some (pls c) := fun d c hc => by
    unfold Program.keyLits
    simp [Try.underlying36, cP, cA, cI, pcells_len, pcells, acells_len, hA, kI _ _ hc, List.take_of_length_le, pls]
  have hQ : ∀ (d : Nat) (c : Pr), wfQ c → Try.prog.keyLits (d + 4) 38 (qcells c) = some (qls c) := fun d c hc => by
    unfold Program.keyLits
    simp [Try.underlying38, cP, cQ, qcells_len, qcells, pcells_len, hP _ _ hc.1, hP _ _ hc.2, List.take_of_length_le, qls]
  unfold keyOf kl
  rw [Try.underlying75, hd]
  simp only [kt, Value.formed, Try.underlying75, cK, Bool.true_and, Value.cells]
  unfold Program.keyLits
  simp [Try.underlying75, cK, cQ, cR, kcs_len, kcs, qcells_len, icells_len, hQ _ _ hp, hR, List.take_of_length_le]
end Go.Proofs.Ytbjclphgabpgoaa
