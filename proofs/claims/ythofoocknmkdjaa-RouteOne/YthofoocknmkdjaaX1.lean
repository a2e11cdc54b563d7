/-
  Routes as values and in memory; keys of routes.
-/
import Derived.Test.YthofoocknmkdjaaV0
import Derived.DeepKeys4
import Derived.Maps.OwnSet
namespace Go.Proofs.Ythofoocknmkdjaa
open Go.RowKit Go.Maps
set_option linter.unusedSimpArgs false
set_option linter.unusedVariables false
set_option maxRecDepth 20000
/-- A key: a pair, an interface, an address. -/
structure Ky where
  p : Pr
  i : Int
  a : Ad
/-- A route. -/
structure Ro where
  p : Pr
  i : Int
  a : Ad
  id : Id8
  q : Int
  r : Int
  m : Int
  h : Ad
  u : Int
  d : Int
  s : Bool
def Ro.k (n : Ro) : Ky := ⟨n.p, n.i, n.a⟩
def otl (n : Ro) : List Value := [.int .i64 n.u, .int .i64 n.d, .bool n.s]
def omd (n : Ro) : List Value := [.int .u16 n.q, .int .u16 n.r, .int .u16 n.m]
def ocs (n : Ro) : List Value := qcells n.p ++ (.int .i64 n.i :: (acells n.a ++ (icells n.id ++ (omd n ++ (acells n.h ++ otl n)))))
theorem ocs_len (n : Ro) : (ocs n).length = 81 := by simp [ocs, qcells_len, icells_len, acells_len, omd, otl]
theorem ocs_one (n : Ro) : ∀ u ∈ ocs n, u.oneCell' = true := by
  intro u hu
  simp only [ocs, List.mem_append, List.mem_cons] at hu
  rcases hu with h | rfl | h | h | h | h | h
  · exact qcells_one _ u h
  · rfl
  · exact acells_one _ u h
  · exact icells_one _ u h
  · simp [omd] at h
    rcases h with rfl | rfl | rfl <;> rfl
  · exact acells_one _ u h
  · simp [otl] at h
    rcases h with rfl | rfl | rfl <;> rfl
abbrev rV (n : Ro) : Value := .agg (ocs n).toArray
def zeroR : Ro := ⟨zeroQ, 0, zeroA, zeroI, 0, 0, 0, zeroA, 0, 0, false⟩
theorem infoRs : (Try.prog.info? 41).map (·.size) = some 81 := by kernel_rfl
theorem infoRz : (Try.prog.info? 41).map (·.zero) = some (some (.agg (ocs zeroR).toArray)) := by kernel_rfl
theorem zeroRv (w : World) : (zeroValue 41).run Try.prog w = .ok (.agg (ocs zeroR).toArray) w := by kernel_rfl
theorem bdR0 (w : World) : (Instr.build 41 #[]).run Try.prog w = .ok (.agg (ocs zeroR).toArray) w := by kernel_rfl
theorem Pr.lits {motive : Pr → Prop} (h : ∀ (b0 b1 b2 b3 b4 b5 b6 b7 b8 b9 b10 b11 b12 b13 b14 b15 c0 c1 c2 c3 c4 c5 c6 c7 c8 c9 c10 c11 c12 c13 c14 c15 : UInt8) (n m : Int) (h1 h2), motive ⟨⟨⟨[b0, b1, b2, b3, b4, b5, b6, b7, b8, b9, b10, b11, b12, b13, b14, b15], h1⟩, n⟩, ⟨⟨[c0, c1, c2, c3, c4, c5, c6, c7, c8, c9, c10, c11, c12, c13, c14, c15], h2⟩, m⟩⟩) (p : Pr) : motive p := by
  obtain ⟨⟨⟨l, hl⟩, n⟩, ⟨⟨k, hk⟩, m⟩⟩ := p
  match l, hl, k, hk with
  | [b0, b1, b2, b3, b4, b5, b6, b7, b8, b9, b10, b11, b12, b13, b14, b15], h1, [c0, c1, c2, c3, c4, c5, c6, c7, c8, c9, c10, c11, c12, c13, c14, c15], h2 => exact h ..
theorem Id8.lits {motive : Id8 → Prop} (h : ∀ (b0 b1 b2 b3 b4 b5 b6 b7 : UInt8) (h1), motive ⟨[b0, b1, b2, b3, b4, b5, b6, b7], h1⟩) (i : Id8) : motive i := by
  obtain ⟨l, hl⟩ := i
  match l, hl with
  | [b0, b1, b2, b3, b4, b5, b6, b7], h1 => exact h ..
theorem Ad.lits {motive : Ad → Prop} (h : ∀ (b0 b1 b2 b3 b4 b5 b6 b7 b8 b9 b10 b11 b12 b13 b14 b15 : UInt8) (h1), motive ⟨[b0, b1, b2, b3, b4, b5, b6, b7, b8, b9, b10, b11, b12, b13, b14, b15], h1⟩) (a : Ad) : motive a := by
  obtain ⟨l, hl⟩ := a
  match l, hl with
  | [b0, b1, b2, b3, b4, b5, b6, b7, b8, b9, b10, b11, b12, b13, b14, b15], h1 => exact h ..
theorem Ro.lits {motive : Ro → Prop} (h : ∀ (b0 b1 b2 b3 b4 b5 b6 b7 b8 b9 b10 b11 b12 b13 b14 b15 c0 c1 c2 c3 c4 c5 c6 c7 c8 c9 c10 c11 c12 c13 c14 c15 : UInt8) (n m : Int) (h1 h2) (i : Int) (d0 d1 d2 d3 d4 d5 d6 d7 d8 d9 d10 d11 d12 d13 d14 d15 : UInt8) (h3) (e0 e1 e2 e3 e4 e5 e6 e7 : UInt8) (h4) (x y z : Int) (f0 f1 f2 f3 f4 f5 f6 f7 f8 f9 f10 f11 f12 f13 f14 f15 : UInt8) (h5) (u d : Int) (s : Bool),
    motive ⟨⟨⟨⟨[b0, b1, b2, b3, b4, b5, b6, b7, b8, b9, b10, b11, b12, b13, b14, b15], h1⟩, n⟩, ⟨⟨[c0, c1, c2, c3, c4, c5, c6, c7, c8, c9, c10, c11, c12, c13, c14, c15], h2⟩, m⟩⟩, i, ⟨[d0, d1, d2, d3, d4, d5, d6, d7, d8, d9, d10, d11, d12, d13, d14, d15], h3⟩, ⟨[e0, e1, e2, e3, e4, e5, e6, e7], h4⟩, x, y, z, ⟨[f0, f1, f2, f3, f4, f5, f6, f7, f8, f9, f10, f11, f12, f13, f14, f15], h5⟩, u, d, s⟩) (n : Ro) : motive n := by
  obtain ⟨p, i, a, id, q, r, m, hh, u, d, s⟩ := n
  induction p using Pr.lits with | h =>
  induction a using Ad.lits with | h =>
  induction id using Id8.lits with | h =>
  induction hh using Ad.lits with | h =>
  exact h ..
/-! ### Keys in memory -/
def kcs (k : Ky) : List Value := qcells k.p ++ (.int .i64 k.i :: acells k.a)
theorem kcs_len (k : Ky) : (kcs k).length = 51 := by simp [kcs, qcells_len, acells_len]
theorem kcs_one (k : Ky) : ∀ u ∈ kcs k, u.oneCell' = true := by
  intro u hu
  simp only [kcs, List.mem_append, List.mem_cons] at hu
  rcases hu with h | rfl | h
  · exact qcells_one _ u h
  · rfl
  · exact acells_one _ u h
def zeroK : Ky := ⟨zeroQ, 0, zeroA⟩
abbrev kV (k : Ky) : Value := .agg (kcs k).toArray
theorem bdK (k : Ky) (w : World) : (Instr.build 84 #[(0, (Value.agg (qcells k.p).toArray)), (1, .int .i64 k.i), (2, (Value.agg (acells k.a).toArray))]).run Try.prog w = .ok (kV k) w := by
  obtain ⟨p, i, a⟩ := k
  induction p using Pr.lits with | h =>
  induction a using Ad.lits with | h =>
  show _ = _
  kernel_rfl
theorem infoKs : (Try.prog.info? 84).map (·.size) = some 51 := by kernel_rfl
theorem infoKz : (Try.prog.info? 84).map (·.zero) = some (some (.agg (kcs zeroK).toArray)) := by kernel_rfl
/-! ### The cells of a route -/
def LS (w : World) (b o : Nat) (n : Ro) : Prop := w.rangeAt b o (ocs n)
section
variable {w : World} {b o : Nat} {n : Ro}
theorem LS.q (h : LS w b o n) : LQ w b o n.p := rangeAt_left h
theorem LS.t1 (h : LS w b o n) : w.rangeAt b (o + 34) ([.int .i64 n.i] ++ (acells n.a ++ (icells n.id ++ (omd n ++ (acells n.h ++ otl n))))) := rangeAt_right h (qcells_len _)
theorem LS.i_ (h : LS w b o n) : w.cell? ⟨b, o + 34, none⟩ = some (.int .i64 n.i) := by have := h.t1 0 _ rfl; simpa using this
theorem LS.t2 (h : LS w b o n) : w.rangeAt b (o + 35) (acells n.a ++ (icells n.id ++ (omd n ++ (acells n.h ++ otl n)))) := by have := rangeAt_right h.t1 (by rfl : _ = 1); rwa [Nat.add_assoc] at this
theorem LS.a (h : LS w b o n) : LA w b (o + 35) n.a := rangeAt_left h.t2
theorem LS.t3 (h : LS w b o n) : w.rangeAt b (o + 51) (icells n.id ++ (omd n ++ (acells n.h ++ otl n))) := by have := rangeAt_right h.t2 (acells_len _); rwa [Nat.add_assoc] at this
theorem LS.id (h : LS w b o n) : LI w b (o + 51) n.id := rangeAt_left h.t3
theorem LS.t4 (h : LS w b o n) : w.rangeAt b (o + 59) (omd n ++ (acells n.h ++ otl n)) := by have := rangeAt_right h.t3 (icells_len _); rwa [Nat.add_assoc] at this
theorem LS.t5 (h : LS w b o n) : w.rangeAt b (o + 62) (acells n.h ++ otl n) := by have := rangeAt_right h.t4 (by rfl : _ = 3); rwa [Nat.add_assoc] at this
theorem LS.h (h : LS w b o n) : LA w b (o + 62) n.h := rangeAt_left h.t5
theorem LS.t6 (h : LS w b o n) : w.rangeAt b (o + 78) (otl n) := by have := rangeAt_right h.t5 (acells_len _); rwa [Nat.add_assoc] at this
theorem LS.sq (h : LS w b o n) : w.cell? ⟨b, o + 59, none⟩ = some (.int .u16 n.q) := by have := h.t4 0 _ rfl; simpa using this
theorem LS.ref (h : LS w b o n) : w.cell? ⟨b, o + 60, none⟩ = some (.int .u16 n.r) := h.t4 1 _ rfl
theorem LS.met (h : LS w b o n) : w.cell? ⟨b, o + 61, none⟩ = some (.int .u16 n.m) := h.t4 2 _ rfl
theorem LS.u (h : LS w b o n) : w.cell? ⟨b, o + 78, none⟩ = some (.int .i64 n.u) := by have := h.t6 0 _ rfl; simpa using this
theorem LS.d (h : LS w b o n) : w.cell? ⟨b, o + 79, none⟩ = some (.int .i64 n.d) := h.t6 1 _ rfl
theorem LS.s (h : LS w b o n) : w.cell? ⟨b, o + 80, none⟩ = some (.bool n.s) := h.t6 2 _ rfl
theorem LS.below {w' : World} {B : Nat} (h : LS w b o n) (hb : Below B w w') (hlt : b < B) : LS w' b o n := rangeAt_below h hb hlt
end
theorem Row.ro {w : World} {g : Nat} {t : TypeId} {n : Ro} (h : Row w g t (ocs n)) : LS w g 0 n := h.range
theorem oc34 (n : Ro) : (ocs n)[34]? = some (.int .i64 n.i) := by simp [ocs, omd, otl, qcells_len, icells_len, acells_len, List.getElem?_append_right]
theorem oc59 (n : Ro) : (ocs n)[59]? = some (.int .u16 n.q) := by simp [ocs, omd, otl, qcells_len, icells_len, acells_len, List.getElem?_append_right]
theorem oc60 (n : Ro) : (ocs n)[60]? = some (.int .u16 n.r) := by simp [ocs, omd, otl, qcells_len, icells_len, acells_len, List.getElem?_append_right]
theorem oc61 (n : Ro) : (ocs n)[61]? = some (.int .u16 n.m) := by simp [ocs, omd, otl, qcells_len, icells_len, acells_len, List.getElem?_append_right]
theorem oc78 (n : Ro) : (ocs n)[78]? = some (.int .i64 n.u) := by simp [ocs, omd, otl, qcells_len, icells_len, acells_len, List.getElem?_append_right]
theorem oc79 (n : Ro) : (ocs n)[79]? = some (.int .i64 n.d) := by simp [ocs, omd, otl, qcells_len, icells_len, acells_len, List.getElem?_append_right]
theorem oc80 (n : Ro) : (ocs n)[80]? = some (.bool n.s) := by simp [ocs, omd, otl, qcells_len, icells_len, acells_len, List.getElem?_append_right]
theorem os59 (n : Ro) (x : Int) : (ocs n).set 59 (.int .u16 x) = ocs { n with q := x } := by simp [ocs, omd, otl, List.set_append, qcells_len, icells_len, acells_len]
theorem os60 (n : Ro) (x : Int) : (ocs n).set 60 (.int .u16 x) = ocs { n with r := x } := by simp [ocs, omd, otl, List.set_append, qcells_len, icells_len, acells_len]
theorem os61 (n : Ro) (x : Int) : (ocs n).set 61 (.int .u16 x) = ocs { n with m := x } := by simp [ocs, omd, otl, List.set_append, qcells_len, icells_len, acells_len]
theorem os78 (n : Ro) (x : Int) : (ocs n).set 78 (.int .i64 x) = ocs { n with u := x } := by simp [ocs, omd, otl, List.set_append, qcells_len, icells_len, acells_len]
theorem os79 (n : Ro) (x : Int) : (ocs n).set 79 (.int .i64 x) = ocs { n with d := x } := by simp [ocs, omd, otl, List.set_append, qcells_len, icells_len, acells_len]
theorem os80 (n : Ro) (x : Bool) : (ocs n).set 80 (.bool x) = ocs { n with s := x } := by simp [ocs, omd, otl, List.set_append, qcells_len, icells_len, acells_len]
/-! ### Loads, stores -/
section
variable {ops : Array Oper} {rest : List Oper} {op : Oper} {a : Act} {w : World} {Q : Exit → Act → World → Prop} {K : Act → World → Prop} {E : Prop} {S : World → Prop}
theorem ldS (x : Operand) (hw : Region.wanted op (yielded ops a.tmps) = true) (ho : op.op = .load 41 x) (b o : Nat) (n : Ro) (hx : a.eval x = .pointer (some ⟨b, o, none⟩)) (hc : LS w b o n)
    (h : wpList Try.prog ops Q rest (a.put op.dst (rV n)) w) : wpList Try.prog ops Q (op :: rest) a w :=
  wpList_step fun K hK => by
    rw [if_pos hw]
    exact wp_load_mid _ x ho b o hx (ocs n) _ hc Try.underlying41 rfl (by rw [infoRs, ocs_len]) (hK _ _ h)
theorem yS {b o : Nat} {x : Operand} (n : Ro) (hS : ∀ w, S w → LS w b o n) (hw : Region.wanted op (yielded ops a.tmps) = true) (ho : op.op = .load 41 x) (hx : a.eval x = .pointer (some ⟨b, o, none⟩)) : YieldsIf Try.prog ops S op (rV n) a :=
  yieldsIf_load_mid hw _ x ho b o hx (ocs n) _ hS Try.underlying41 rfl (by rw [infoRs, ocs_len])
theorem wp_stS (x y : Operand) (ho : op.op = .store 41 x y) (b : Nat) (n u : Ro) (hx : a.eval x = .pointer (some ⟨b, 0, none⟩)) (hy : a.eval y = rV n) (hr : Row w b 41 (ocs u))
    (h : ∀ W, w.grownBy W (some b) → Row W b 41 (ocs n) → K (a.put op.dst undef) W) : Oper.wp Try.prog op a w K Q := by
  refine wp_store_mid _ x y ho b 0 _ hx hy (by simpa [ocs_len] using hr.there (n := 81) (by rw [ocs_len]; omega)) (by rw [infoRs]; simp [ocs_len]) (all_oneCell_toArray (ocs_one n)) (h _ (grownBy_setCells b _ _ _) ?_)
  have := Row.setCells (ocs n) [] w (ocs u) hr (by rw [ocs_len, ocs_len])
  simpa using this
theorem stS (x y : Operand) (hw : Region.wanted op (yielded ops a.tmps) = true) (ho : op.op = .store 41 x y) (b : Nat) (n u : Ro) (hx : a.eval x = .pointer (some ⟨b, 0, none⟩)) (hy : a.eval y = rV n) (hr : Row w b 41 (ocs u))
    (h : ∀ W, w.grownBy W (some b) → Row W b 41 (ocs n) → wpList Try.prog ops Q rest (a.put op.dst undef) W) : wpList Try.prog ops Q (op :: rest) a w :=
  wpList_step fun K hK => by
    rw [if_pos hw]
    exact wp_stS x y ho b n u hx hy hr fun W h1 h2 => hK _ _ (h W h1 h2)
theorem sStS (x y : Operand) (hw : Region.wanted op (yielded ops a.tmps) = true) (ho : op.op = .store 41 x y) (b : Nat) (n u : Ro) (hx : a.eval x = .pointer (some ⟨b, 0, none⟩)) (hy : a.eval y = rV n) (hr : Row w b 41 (ocs u))
    (h : ∀ W, w.grownBy W (some b) → Row W b 41 (ocs n) → K (a.put op.dst undef) W) : if Region.wanted op (yielded ops a.tmps) = true then Oper.wp Try.prog op a w K Q else E := by
  rw [if_pos hw]
  exact wp_stS x y ho b n u hx hy hr h
theorem stK (x y : Operand) (hw : Region.wanted op (yielded ops a.tmps) = true) (ho : op.op = .store 84 x y) (b : Nat) (k q : Ky) (hx : a.eval x = .pointer (some ⟨b, 0, none⟩)) (hy : a.eval y = kV k) (hr : Row w b 84 (kcs q))
    (h : ∀ W, w.grownBy W (some b) → Row W b 84 (kcs k) → wpList Try.prog ops Q rest (a.put op.dst undef) W) : wpList Try.prog ops Q (op :: rest) a w :=
  wpList_step fun K hK => by
    rw [if_pos hw]
    refine wp_store_mid _ x y ho b 0 _ hx hy (by simpa [kcs_len] using hr.there (n := 51) (by rw [kcs_len]; omega)) (by rw [infoKs]; simp [kcs_len]) (all_oneCell_toArray (kcs_one k)) (hK _ _ (h _ (grownBy_setCells b _ _ _) ?_))
    have := Row.setCells (kcs k) [] w (kcs q) hr (by rw [kcs_len, kcs_len])
    simpa using this
theorem ldK (x : Operand) (hw : Region.wanted op (yielded ops a.tmps) = true) (ho : op.op = .load 84 x) (b : Nat) (k : Ky) (hx : a.eval x = .pointer (some ⟨b, 0, none⟩)) (hc : Row w b 84 (kcs k))
    (h : wpList Try.prog ops Q rest (a.put op.dst (kV k)) w) : wpList Try.prog ops Q (op :: rest) a w :=
  wpList_step fun K hK => by
    rw [if_pos hw]
    exact wp_load_mid _ x ho b 0 hx (kcs k) _ hc.range Try.underlying84 rfl (by rw [infoKs, kcs_len]) (hK _ _ h)
theorem yK {b : Nat} {x : Operand} (k : Ky) (hS : ∀ w, S w → Row w b 84 (kcs k)) (hw : Region.wanted op (yielded ops a.tmps) = true) (ho : op.op = .load 84 x) (hx : a.eval x = .pointer (some ⟨b, 0, none⟩)) : YieldsIf Try.prog ops S op (kV k) a :=
  yieldsIf_load_mid hw _ x ho b 0 hx (kcs k) _ (fun w h => (hS w h).range) Try.underlying84 rfl (by rw [infoKs, kcs_len])
end
theorem lvS {w : World} {g : Nat} {n : Ro} (h : Row w g 41 (ocs n)) : (loadVar 41 ⟨g, 0, none⟩).run Try.prog w = .ok (rV n) w :=
  run_loadVar_mid w g 0 _ (ocs n) _ h.range Try.underlying41 rfl (by rw [infoRs, ocs_len])
theorem run_boxS (n : Ro) (w : World) : (Instr.box 41 (rV n)).run Try.prog w = .ok (.pointer (some ⟨w.heap.size, 0, none⟩)) (w.alloc (.cells (ocs n).toArray 41)) := by
  simp [Instr.box, newVar, newRow, newObj, Value.cells]; rfl
/-! ### Keys -/
theorem keyLaw : Keyed Try.prog 84 := Keyed.of_law (deep_law_laid (m := 5) (by kernel_rfl) (by omega) (of_decide_eq_true (by kernel_rfl)) (by kernel_rfl) (by kernel_rfl))
theorem wf_u8 (b : UInt8) : (Lit.int .u8 (b.toNat : Int)).wf = true := by
  have := b.toNat_lt
  simp [Lit.wf, IntKind.min, IntKind.max, IntKind.signed, IntKind.bits]
  omega
def wfI (i : Int) : Prop := (Lit.int .i64 i).wf = true
/-- A pair whose lengths are numbers of the machine. -/
def wfQ (p : Pr) : Prop := wfI p.d.n ∧ wfI p.s.n
def wfK (k : Ky) : Prop := wfQ k.p ∧ wfI k.i
def bls (l : List UInt8) : List Lit := l.map fun b => Lit.int .u8 (b.toNat : Int)
def pls (p : Pf) : List Lit := bls p.a.l ++ [Lit.int .i64 p.n]
def qls (p : Pr) : List Lit := pls p.d ++ pls p.s
def kl (k : Ky) : Lit := .string (keyBytes (qls k.p ++ (Lit.int .i64 k.i :: bls k.a.l)))
theorem key_some (k : Ky) (hp : wfK k) : keyOf Try.prog 84 (kV k) = some (kl k) := by
  have kI : ∀ (d : Nat) (n : Int), wfI n → Try.prog.keyLits (d + 1) 3 [.int .i64 n] = some [.int .i64 n] := fun d n hn => by simp [Program.keyLits, Try.underlying3, show (Lit.int .i64 n).wf = true from hn]
  have k8 : ∀ d (b : UInt8), Try.prog.keyLits (d + 1) 5 [.int .u8 (b.toNat : Int)] = some [.int .u8 b.toNat] := fun d b => by simp [Program.keyLits, Try.underlying5, wf_u8]
  have c8 : Try.prog.cellsOf 5 = 1 := by kernel_rfl
  have cA : Try.prog.cellsOf 32 = 16 := by kernel_rfl
  have cP : Try.prog.cellsOf 34 = 17 := by kernel_rfl
  have cQ : Try.prog.cellsOf 36 = 34 := by kernel_rfl
  have cI : Try.prog.cellsOf 3 = 1 := by kernel_rfl
  have cK : Try.prog.cellsOf 84 = 51 := by kernel_rfl
  have kt : Try.prog.keyType 84 = true := by kernel_rfl
  have sz : 5 ≤ Try.prog.types.size := of_decide_eq_true (by kernel_rfl)
  obtain ⟨d, hd⟩ : ∃ d, Try.prog.types.size + 1 = d + 5 := ⟨Try.prog.types.size - 4, by omega⟩
  have hA : ∀ (d : Nat) (c : Ad), Try.prog.keyLits (d + 2) 32 (acells c) = some (bls c.l) := fun d c => by
    obtain ⟨l, hl⟩ := c
    match l, hl with
    | [b0, b1, b2, b3, b4, b5, b6, b7, b8, b9, b10, b11, b12, b13, b14, b15], _ =>
      unfold Program.keyLits
      simp [Try.underlying32, acells, bcells, cA, c8, k8, List.range, List.range.loop, bls]
  have hP : ∀ (d : Nat) (c : Pf), wfI c.n → Try.prog.keyLits (d + 3) 34 (pcells c) = some (pls c) := fun d c hc => by
    unfold Program.keyLits
    simp [Try.underlying34, cP, cA, cI, pcells_len, pcells, acells_len, hA, kI _ _ hc, List.take_of_length_le, pls]
  have hQ : ∀ (d : Nat) (c : Pr), wfQ c → Try.prog.keyLits (d + 4) 36 (qcells c) = some (qls c) := fun d c hc => by
    unfold Program.keyLits
    simp [Try.underlying36, cP, cQ, qcells_len, qcells, pcells_len, hP _ _ hc.1, hP _ _ hc.2, List.take_of_length_le, qls]
  have d35 : List.drop 35 (qcells k.p ++ Value.int .i64 k.i :: acells k.a) = acells k.a := by
    rw [List.drop_append, List.drop_eq_nil_of_le (by rw [qcells_len]; omega), qcells_len]
    rfl
  unfold keyOf kl
  rw [Try.underlying84, hd]
  simp only [kt, Value.formed, Try.underlying84, cK, Bool.true_and, Value.cells]
  unfold Program.keyLits
  simp [Try.underlying84, cK, cQ, cA, cI, kcs_len, kcs, qcells_len, acells_len, hQ _ _ hp.1, kI _ _ hp.2, hA, d35, List.take_of_length_le]
end Go.Proofs.Ythofoocknmkdjaa
