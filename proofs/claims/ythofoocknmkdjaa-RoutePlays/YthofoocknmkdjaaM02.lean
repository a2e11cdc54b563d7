/-
  Routes as values and in memory; keys of routes.
-/
import Derived.Test.YthofoocknmkdjaaM01
import Derived.DeepKeys4
import Derived.Maps.OwnSet
import Derived.Maps.Views
namespace Go.Proofs.Ythofoocknmkdjaa
open Go.RowKit Go.Maps
set_option linter.unusedSimpArgs false
set_option linter.unusedVariables false
set_option maxRecDepth 20000
/-- A key: a pair, an interface, an address. -/
structure Ky where
  p : Pr
  i : Int
  a : Ad
/-- A route. -/
structure Ro where
  p : Pr
  i : Int
  a : Ad
  id : Id8
  q : Int
  r : Int
  m : Int
  h : Ad
  u : Int
  d : Int
  s : Bool
def Ro.k (n : Ro) : Ky := ⟨n.p, n.i, n.a⟩
def otl (n : Ro) : List Value := [.int .i64 n.u, .int .i64 n.d, .bool n.s]
def omd (n : Ro) : List Value := [.int .u16 n.q, .int .u16 n.r, .int .u16 n.m]
def ocs (n : Ro) : List Value := qcells n.p ++ (.int .i64 n.i :: (acells n.a ++ (icells n.id ++ (omd n ++ (acells n.h ++ otl n)))))
theorem ocs_len (n : Ro) : (ocs n).length = 81 := by simp [ocs, qcells_len, icells_len, acells_len, omd, otl]
theorem ocs_one (n : Ro) : ∀ u ∈ ocs n, u.oneCell' = true := by
  intro u hu
  simp only [ocs, List.mem_append, List.mem_cons] at hu
  rcases hu with h | rfl | h | h | h | h | h
  · exact qcells_one _ u h
  · rfl
  · exact acells_one _ u h
  · exact icells_one _ u h
  · simp [omd] at h
    rcases h with rfl | rfl | rfl <;> rfl
  · exact acells_one _ u h
  · simp [otl] at h
    rcases h with rfl | rfl | rfl <;> rfl
abbrev rV (n : Ro) : Value := .agg (ocs n).toArray
def zeroR : Ro := ⟨zeroQ, 0, zeroA, zeroI, 0, 0, 0, zeroA, 0, 0, false⟩
theorem infoRs : (Try.prog.info? 41).map (·.size) = some 81 := by kernel_rfl
theorem infoRz : (Try.prog.info? 41).map (·.zero) = some (some (.agg (ocs zeroR).toArray)) := by kernel_rfl
theorem zeroRv (w : World) : (zeroValue 41).run Try.prog w = .ok (.agg (ocs zeroR).toArray) w := by kernel_rfl
theorem bdR0 (w : World) : (Instr.build 41 #[]).run Try.prog w = .ok (.agg (ocs zeroR).toArray) w := by kernel_rfl
theorem Pr.lits {motive : Pr → Prop} (h : ∀ (b0 b1 b2 b3 b4 b5 b6 b7 b8 b9 b10 b11 b12 b13 b14 b15 c0 c1 c2 c3 c4 c5 c6 c7 c8 c9 c10 c11 c12 c13 c14 c15 : UInt8) (n m : Int) (h1 h2), motive ⟨⟨⟨[b0, b1, b2, b3, b4, b5, b6, b7, b8, b9, b10, b11, b12, b13, b14, b15], h1⟩, n⟩, ⟨⟨[c0, c1, c2, c3, c4, c5, c6, c7, c8, c9, c10, c11, c12, c13, c14, c15], h2⟩, m⟩⟩) (p : Pr) : motive p := by
  obtain ⟨⟨⟨l, hl⟩, n⟩, ⟨⟨k, hk⟩, m⟩⟩ := p
  match l, hl, k, hk with
  | [b0, b1, b2, b3, b4, b5, b6, b7, b8, b9, b10, b11, b12, b13, b14, b15], h1, [c0, c1, c2, c3, c4, c5, c6, c7, c8, c9, c10, c11, c12, c13, c14, c15], h2 => exact h ..
theorem Id8.lits {motive : Id8 → Prop} (h : ∀ (b0 b1 b2 b3 b4 b5 b6 b7 : UInt8) (h1), motive ⟨[b0, b1, b2, b3, b4, b5, b6, b7], h1⟩) (i : Id8) : motive i := by
  obtain ⟨l, hl⟩ := i
  match l, hl with
  | [b0, b1, b2, b3, b4, b5, b6, b7], h1 => exact h ..
theorem Ad.lits {motive : Ad → Prop} (h : ∀ (b0 b1 b2 b3 b4 b5 b6 b7 b8 b9 b10 b11 b12 b13 b14 b15 : UInt8) (h1), motive ⟨[b0, b1, b2, b3, b4, b5, b6, b7, b8, b9, b10, b11, b12, b13, b14, b15], h1⟩) (a : Ad) : motive a := by
  obtain ⟨l, hl⟩ := a
  match l, hl with
  | [b0, b1, b2, b3, b4, b5, b6, b7, b8, b9, b10, b11, b12, b13, b14, b15], h1 => exact h ..
theorem Ro.lits {motive : Ro → Prop} (h : ∀ (b0 b1 b2 b3 b4 b5 b6 b7 b8 b9 b10 b11 b12 b13 b14 b15 c0 c1 c2 c3 c4 c5 c6 c7 c8 c9 c10 c11 c12 c13 c14 c15 : UInt8) (n m : Int) (h1 h2) (i : Int) (d0 d1 d2 d3 d4 d5 d6 d7 d8 d9 d10 d11 d12 d13 d14 d15 : UInt8) (h3) (e0 e1 e2 e3 e4 e5 e6 e7 : UInt8) (h4) (x y z : Int) (f0 f1 f2 f3 f4 f5 f6 f7 f8 f9 f10 f11 f12 f13 f14 f15 : UInt8) (h5) (u d : Int) (s : Bool),
    motive ⟨⟨⟨⟨[b0, b1, b2, b3, b4, b5, b6, b7, b8, b9, b10, b11, b12, b13, b14, b15], h1⟩, n⟩, ⟨⟨[c0, c1, c2, c3, c4, c5, c6, c7, c8, c9, c10, c11, c12, c13, c14, c15], h2⟩, m⟩⟩, i, ⟨[d0, d1, d2, d3, d4, d5, d6, d7, d8, d9, d10, d11, d12, d13, d14, d15], h3⟩, ⟨[e0, e1, e2, e3, e4, e5, e6, e7], h4⟩, x, y, z, ⟨[f0, f1, f2, f3, f4, f5, f6, f7, f8, f9, f10, f11, f12, f13, f14, f15], h5⟩, u, d, s⟩) (n : Ro) : motive n := by
  obtain ⟨p, i, a, id, q, r, m, hh, u, d, s⟩ := n
  induction p using Pr.lits with | h =>
  induction a using Ad.lits with | h =>
  induction id using Id8.lits with | h =>
  induction hh using Ad.lits with | h =>
  exact h ..
/-! ### Keys in memory -/
def kcs (k : Ky) : List Value := qcells k.p ++ (.int .i64 k.i :: acells k.a)
theorem kcs_len (k : Ky) : (kcs k).length = 51 := by simp [kcs, qcells_len, acells_len]
theorem kcs_one (k : Ky) : ∀ u ∈ kcs k, u.oneCell' = true := by
  intro u hu
  simp only [kcs, List.mem_append, List.mem_cons] at hu
  rcases hu with h | rfl | h
  · exact qcells_one _ u h
  · rfl
  · exact acells_one _ u h
def zeroK : Ky := ⟨zeroQ, 0, zeroA⟩
abbrev kV (k : Ky) : Value := .agg (kcs k).toArray
theorem bdK (k : Ky) (w : World) : (Instr.build 84 #[(0, (Value.agg (qcells k.p).toArray)), (1, .int .i64 k.i), (2, (Value.agg (acells k.a).toArray))]).run Try.prog w = .ok (kV k) w := by
  obtain ⟨p, i, a⟩ := k
  induction p using Pr.lits with | h =>
  induction a using Ad.lits with | h =>
  show _ = _
  kernel_rfl
theorem infoKs : (Try.prog.info? 84).map (·.size) = some 51 := by kernel_rfl
theorem infoKz : (Try.prog.info? 84).map (·.zero) = some (some (.agg (kcs zeroK).toArray)) := by kernel_rfl
/-! ### The cells of a route -/
def LS (w : World) (b o : Nat) (n : Ro) : Prop := w.rangeAt b o (ocs n)
section
variable {w : World} {b o : Nat} {n : Ro}
theorem LS.q (h : LS w b o n) : LQ w b o n.p := rangeAt_left h
theorem LS.t1 (h : LS w b o n) : w.rangeAt b (o + 34) ([.int .i64 n.i] ++ (acells n.a ++ (icells n.id ++ (omd n ++ (acells n.h ++ otl n))))) := rangeAt_right h (qcells_len _)
theorem LS.i_ (h : LS w b o n) : w.cell? ⟨b, o + 34, none⟩ = some (.int .i64 n.i) := by have := h.t1 0 _ rfl; simpa using this
theorem LS.t2 (h : LS w b o n) : w.rangeAt b (o + 35) (acells n.a ++ (icells n.id ++ (omd n ++ (acells n.h ++ otl n)))) := by have := rangeAt_right h.t1 (by rfl : _ = 1); rwa [Nat.add_assoc] at this
theorem LS.a (h : LS w b o n) : LA w b (o + 35) n.a := rangeAt_left h.t2
theorem LS.t3 (h : LS w b o n) : w.rangeAt b (o + 51) (icells n.id ++ (omd n ++ (acells n.h ++ otl n))) := by have := rangeAt_right h.t2 (acells_len _); rwa [Nat.add_assoc] at this
theorem LS.id (h : LS w b o n) : LI w b (o + 51) n.id := rangeAt_left h.t3
theorem LS.t4 (h : LS w b o n) : w.rangeAt b (o + 59) (omd n ++ (acells n.h ++ otl n)) := by have := rangeAt_right h.t3 (icells_len _); rwa [Nat.add_assoc] at this
theorem LS.t5 (h : LS w b o n) : w.rangeAt b (o + 62) (acells n.h ++ otl n) := by have := rangeAt_right h.t4 (by rfl : _ = 3); rwa [Nat.add_assoc] at this
theorem LS.h (h : LS w b o n) : LA w b (o + 62) n.h := rangeAt_left h.t5
theorem LS.t6 (h : LS w b o n) : w.rangeAt b (o + 78) (otl n) := by have := rangeAt_right h.t5 (acells_len _); rwa [Nat.add_assoc] at this
theorem LS.ref (h : LS w b o n) : w.cell? ⟨b, o + 60, none⟩ = some (.int .u16 n.r) := h.t4 1 _ rfl
theorem LS.met (h : LS w b o n) : w.cell? ⟨b, o + 61, none⟩ = some (.int .u16 n.m) := h.t4 2 _ rfl
theorem LS.u (h : LS w b o n) : w.cell? ⟨b, o + 78, none⟩ = some (.int .i64 n.u) := by have := h.t6 0 _ rfl; simpa using this
theorem LS.d (h : LS w b o n) : w.cell? ⟨b, o + 79, none⟩ = some (.int .i64 n.d) := h.t6 1 _ rfl
theorem LS.s (h : LS w b o n) : w.cell? ⟨b, o + 80, none⟩ = some (.bool n.s) := h.t6 2 _ rfl
theorem LS.below {w' : World} {B : Nat} (h : LS w b o n) (hb : Below B w w') (hlt : b < B) : LS w' b o n := rangeAt_below h hb hlt
end
theorem Row.ro {w : World} {g : Nat} {t : TypeId} {n : Ro} (h : Row w g t (ocs n)) : LS w g 0 n := h.range
theorem oc34 (n : Ro) : (ocs n)[34]? = some (.int .i64 n.i) := by simp [ocs, omd, otl, qcells_len, icells_len, acells_len, List.getElem?_append_right]
theorem oc59 (n : Ro) : (ocs n)[59]? = some (.int .u16 n.q) := by simp [ocs, omd, otl, qcells_len, icells_len, acells_len, List.getElem?_append_right]
theorem oc60 (n : Ro) : (ocs n)[60]? = some (.int .u16 n.r) := by simp [ocs, omd, otl, qcells_len, icells_len, acells_len, List.getElem?_append_right]
theorem oc61 (n : Ro) : (ocs n)[61]? = some (.int .u16 n.m) := by simp [ocs, omd, otl, qcells_len, icells_len, acells_len, List.getElem?_append_right]
theorem oc78 (n : Ro) : (ocs n)[78]? = some (.int .i64 n.u) := by simp [ocs, omd, otl, qcells_len, icells_len, acells_len, List.getElem?_append_right]
theorem oc79 (n : Ro) : (ocs n)[79]? = some (.int .i64 n.d) := by simp [ocs, omd, otl, qcells_len, icells_len, acells_len, List.getElem?_append_right]
theorem oc80 (n : Ro) : (ocs n)[80]? = some (.bool n.s) := by simp [ocs, omd, otl, qcells_len, icells_len, acells_len, List.getElem?_append_right]
theorem os59 (n : Ro) (x : Int) : (ocs n).set 59 (.int .u16 x) = ocs { n with q := x } := by simp [ocs, omd, otl, List.set_append, qcells_len, icells_len, acells_len]
theorem os60 (n : Ro) (x : Int) : (ocs n).set 60 (.int .u16 x) = ocs { n with r := x } := by simp [ocs, omd, otl, List.set_append, qcells_len, icells_len, acells_len]
theorem os61 (n : Ro) (x : Int) : (ocs n).set 61 (.int .u16 x) = ocs { n with m := x } := by simp [ocs, omd, otl, List.set_append, qcells_len, icells_len, acells_len]
theorem os78 (n : Ro) (x : Int) : (ocs n).set 78 (.int .i64 x) = ocs { n with u := x } := by simp [ocs, omd, otl, List.set_append, qcells_len, icells_len, acells_len]
theorem os79 (n : Ro) (x : Int) : (ocs n).set 79 (.int .i64 x) = ocs { n with d := x } := by simp [ocs, omd, otl, List.set_append, qcells_len, icells_len, acells_len]
theorem os80 (n : Ro) (x : Bool) : (ocs n).set 80 (.bool x) = ocs { n with s := x } := by simp [ocs, omd, otl, List.set_append, qcells_len, icells_len, acells_len]
/-! ### Loads, stores -/
section
variable {ops : Array Oper} {rest : List Oper} {op : Oper} {a : Act} {w : World} {Q : Exit → Act → World → Prop} {K : Act → World → Prop} {E : Prop} {S : World → Prop}
theorem ldS (x : Operand) (hw : Region.wanted op (yielded ops a.tmps) = true) (ho : op.op = .load 41 x) (b o : Nat) (n : Ro) (hx : a.eval x = .pointer (some ⟨b, o, none⟩)) (hc : LS w b o n)
    (h : wpList Try.prog ops Q rest (a.put op.dst (rV n)) w) : wpList Try.prog ops Q (op :: rest) a w :=
  wpList_step fun K hK => by
    rw [if_pos hw]
    exact wp_load_mid _ x ho b o hx (ocs n) _ hc Try.underlying41 rfl (by rw [infoRs, ocs_len]) (hK _ _ h)
theorem yS {b o : Nat} {x : Operand} (n : Ro) (hS : ∀ w, S w → LS w b o n) (hw : Region.wanted op (yielded ops a.tmps) = true) (ho : op.op = .load 41 x) (hx : a.eval x = .pointer (some ⟨b, o, none⟩)) : YieldsIf Try.prog ops S op (rV n) a :=
  yieldsIf_load_mid hw _ x ho b o hx (ocs n) _ hS Try.underlying41 rfl (by rw [infoRs, ocs_len])
theorem wp_stS (x y : Operand) (ho : op.op = .store 41 x y) (b : Nat) (n u : Ro) (hx : a.eval x = .pointer (some ⟨b, 0, none⟩)) (hy : a.eval y = rV n) (hr : Row w b 41 (ocs u))
    (h : ∀ W, w.grownBy W (some b) → Row W b 41 (ocs n) → K (a.put op.dst undef) W) : Oper.wp Try.prog op a w K Q := by
  refine wp_store_mid _ x y ho b 0 _ hx hy (by simpa [ocs_len] using hr.there (n := 81) (by rw [ocs_len]; omega)) (by rw [infoRs]; simp [ocs_len]) (all_oneCell_toArray (ocs_one n)) (h _ (grownBy_setCells b _ _ _) ?_)
  have := Row.setCells (ocs n) [] w (ocs u) hr (by rw [ocs_len, ocs_len])
  simpa using this
theorem stS (x y : Operand) (hw : Region.wanted op (yielded ops a.tmps) = true) (ho : op.op = .store 41 x y) (b : Nat) (n u : Ro) (hx : a.eval x = .pointer (some ⟨b, 0, none⟩)) (hy : a.eval y = rV n) (hr : Row w b 41 (ocs u))
    (h : ∀ W, w.grownBy W (some b) → Row W b 41 (ocs n) → wpList Try.prog ops Q rest (a.put op.dst undef) W) : wpList Try.prog ops Q (op :: rest) a w :=
  wpList_step fun K hK => by
    rw [if_pos hw]
    exact wp_stS x y ho b n u hx hy hr fun W h1 h2 => hK _ _ (h W h1 h2)
theorem sStS (x y : Operand) (hw : Region.wanted op (yielded ops a.tmps) = true) (ho : op.op = .store 41 x y) (b : Nat) (n u : Ro) (hx : a.eval x = .pointer (some ⟨b, 0, none⟩)) (hy : a.eval y = rV n) (hr : Row w b 41 (ocs u))
    (h : ∀ W, w.grownBy W (some b) → Row W b 41 (ocs n) → K (a.put op.dst undef) W) : if Region.wanted op (yielded ops a.tmps) = true then Oper.wp Try.prog op a w K Q else E := by
  rw [if_pos hw]
  exact wp_stS x y ho b n u hx hy hr h
theorem stK (x y : Operand) (hw : Region.wanted op (yielded ops a.tmps) = true) (ho : op.op = .store 84 x y) (b : Nat) (k q : Ky) (hx : a.eval x = .pointer (some ⟨b, 0, none⟩)) (hy : a.eval y = kV k) (hr : Row w b 84 (kcs q))
    (h : ∀ W, w.grownBy W (some b) → Row W b 84 (kcs k) → wpList Try.prog ops Q rest (a.put op.dst undef) W) : wpList Try.prog ops Q (op :: rest) a w :=
  wpList_step fun K hK => by
    rw [if_pos hw]
    refine wp_store_mid _ x y ho b 0 _ hx hy (by simpa [kcs_len] using hr.there (n := 51) (by rw [kcs_len]; omega)) (by rw [infoKs]; simp [kcs_len]) (all_oneCell_toArray (kcs_one k)) (hK _ _ (h _ (grownBy_setCells b _ _ _) ?_))
    have := Row.setCells (kcs k) [] w (kcs q) hr (by rw [kcs_len, kcs_len])
    simpa using this
end
theorem lvS {w : World} {g : Nat} {n : Ro} (h : Row w g 41 (ocs n)) : (loadVar 41 ⟨g, 0, none⟩).run Try.prog w = .ok (rV n) w :=
  run_loadVar_mid w g 0 _ (ocs n) _ h.range Try.underlying41 rfl (by rw [infoRs, ocs_len])
/-! ### Keys -/
theorem keyLaw : Keyed Try.prog 84 := Keyed.of_law (deep_law_laid (m := 5) (by kernel_rfl) (by omega) (of_decide_eq_true (by kernel_rfl)) (by kernel_rfl) (by kernel_rfl))
theorem wf_u8 (b : UInt8) : (Lit.int .u8 (b.toNat : Int)).wf = true := by
  have := b.toNat_lt
  simp [Lit.wf, IntKind.min, IntKind.max, IntKind.signed, IntKind.bits]
  omega
def wfI (i : Int) : Prop := (Lit.int .i64 i).wf = true
/-- A pair whose lengths are numbers of the machine. -/
def wfQ (p : Pr) : Prop := wfI p.d.n ∧ wfI p.s.n
def wfK (k : Ky) : Prop := wfQ k.p ∧ wfI k.i
def bls (l : List UInt8) : List Lit := l.map fun b => Lit.int .u8 (b.toNat : Int)
def pls (p : Pf) : List Lit := bls p.a.l ++ [Lit.int .i64 p.n]
def qls (p : Pr) : List Lit := pls p.d ++ pls p.s
def kl (k : Ky) : Lit := .string (keyBytes (qls k.p ++ (Lit.int .i64 k.i :: bls k.a.l)))
theorem key_some (k : Ky) (hp : wfK k) : keyOf Try.prog 84 (kV k) = some (kl k) := by
  have kI : ∀ (d : Nat) (n : Int), wfI n → Try.prog.keyLits (d + 1) 3 [.int .i64 n] = some [.int .i64 n] := fun d n hn => by simp [Program.keyLits, Try.underlying3, show (Lit.int .i64 n).wf = true from hn]
  have k8 : ∀ d (b : UInt8), Try.prog.keyLits (d + 1) 5 [.int .u8 (b.toNat : Int)] = some [.int .u8 b.toNat] := fun d b => by simp [Program.keyLits, Try.underlying5, wf_u8]
  have c8 : Try.prog.cellsOf 5 = 1 := by kernel_rfl
  have cA : Try.prog.cellsOf 32 = 16 := by kernel_rfl
  have cP : Try.prog.cellsOf 34 = 17 := by kernel_rfl
  have cQ : Try.prog.cellsOf 36 = 34 := by kernel_rfl
  have cI : Try.prog.cellsOf 3 = 1 := by kernel_rfl
  have cK : Try.prog.cellsOf 84 = 51 := by kernel_rfl
  have kt : Try.prog.keyType 84 = true := by kernel_rfl
  have sz : 5 ≤ Try.prog.types.size := of_decide_eq_true (by kernel_rfl)
  obtain ⟨d, hd⟩ : ∃ d, Try.prog.types.size + 1 = d + 5 := ⟨Try.prog.types.size - 4, by omega⟩
  have hA : ∀ (d : Nat) (c : Ad), Try.prog.keyLits (d + 2) 32 (acells c) = some (bls c.l) := fun d c => by
    obtain ⟨l, hl⟩ := c
    match l, hl with
    | [b0, b1, b2, b3, b4, b5, b6, b7, b8, b9, b10, b11, b12, b13, b14, b15], _ =>
      unfold Program.keyLits
      simp [Try.underlying32, acells, bcells, cA, c8, k8, List.range, List.range.loop, bls]
  have hP : ∀ (d : Nat) (c : Pf), wfI c.n → Try.prog.keyLits (d + 3) 34 (pcells c) = some (pls c) := fun d c hc => by
    unfold Program.keyLits
    simp [Try.underlying34, cP, cA, cI, pcells_len, pcells, acells_len, hA, kI _ _ hc, List.take_of_length_le, pls]
  have hQ : ∀ (d : Nat) (c : Pr), wfQ c → Try.prog.keyLits (d + 4) 36 (qcells c) = some (qls c) := fun d c hc => by
    unfold Program.keyLits
    simp [Try.underlying36, cP, cQ, qcells_len, qcells, pcells_len, hP _ _ hc.1, hP _ _ hc.2, List.take_of_length_le, qls]
  have d35 : List.drop 35 (qcells k.p ++ Value.int .i64 k.i :: acells k.a) = acells k.a := by
    rw [List.drop_append, List.drop_eq_nil_of_le (by rw [qcells_len]; omega), qcells_len]
    rfl
  unfold keyOf kl
  rw [Try.underlying84, hd]
  simp only [kt, Value.formed, Try.underlying84, cK, Bool.true_and, Value.cells]
  unfold Program.keyLits
  simp [Try.underlying84, cK, cQ, cA, cI, kcs_len, kcs, qcells_len, acells_len, hQ _ _ hp.1, kI _ _ hp.2, hA, d35, List.take_of_length_le]
end Go.Proofs.Ythofoocknmkdjaa

namespace Go.Proofs.Ythofoocknmkdjaa
open Go.RowKit Go.Maps
set_option linter.unusedSimpArgs false
set_option maxRecDepth 20000
/-- Every value reads as itself. -/
def elV (v : Value) : Option (DataW Value × List MemPlace) := some (.held v, [])
theorem elV_inv {v u : Value} {ps : List MemPlace} (h : elV v = some (.held u, ps)) : v = u := by
  unfold elV at h; simp at h; exact h.1
theorem kl_of {k : Ky} (h : wfK k) : keyOf Try.prog 84 (kV k) = some (kl k) := key_some k h
theorem bcells_inj {l m : List UInt8} (h : bcells l = bcells m) : l = m := by
  unfold bcells at h
  have hl : l.length = m.length := by have := congrArg List.length h; simpa using this
  apply List.ext_getElem hl
  intro j h1 h2
  have := congrArg (fun l => l[j]?) h
  simp [h1, h2] at this
  exact UInt8.toNat_inj.1 (by omega)
theorem pcells_inj {p q : Pf} (h : pcells p = pcells q) : p = q := by
  obtain ⟨a, n⟩ := p
  obtain ⟨b, m⟩ := q
  unfold pcells at h
  obtain ⟨h1, h2⟩ := List.append_inj h (by rw [acells_len, acells_len])
  have h3 : a = b := Ad.ext (bcells_inj h1)
  simp at h2
  rw [h3, h2]
theorem qcells_inj {p q : Pr} (h : qcells p = qcells q) : p = q := by
  obtain ⟨a, n⟩ := p
  obtain ⟨b, m⟩ := q
  unfold qcells at h
  obtain ⟨h1, h2⟩ := List.append_inj h (by rw [pcells_len, pcells_len])
  have h3 : a = b := pcells_inj h1
  have h4 : n = m := pcells_inj h2
  rw [h3, h4]
theorem kcs_inj {k q : Ky} (h : kcs k = kcs q) : k = q := by
  obtain ⟨p, i, a⟩ := k
  obtain ⟨p', i', a'⟩ := q
  unfold kcs at h
  obtain ⟨h1, h2⟩ := List.append_inj h (by rw [qcells_len, qcells_len])
  simp only [List.cons.injEq] at h2
  have h3 : p = p' := qcells_inj h1
  have h4 : a = a' := Ad.ext (bcells_inj h2.2)
  have h5 : i = i' := by simpa using h2.1
  rw [h3, h4, h5]
theorem kl_inj {k q : Ky} (hp : wfK k) (hq : wfK q) (h : kl k = kl q) : k = q := by
  have e := keyLaw.inj (kl_of hp) (h ▸ kl_of hq)
  exact kcs_inj (congrArg Array.toList (Value.agg.inj e))
theorem kl_key {k : Ky} (hp : wfK k) : WideAt.IsKeyLit (kl k) := keyLaw.key (kl_of hp)
/-- Of one key. -/
def qB (p q : Pr) : Bool := (decide (p.d.a.l = q.d.a.l) && decide (p.d.n = q.d.n)) && (decide (p.s.a.l = q.s.a.l) && decide (p.s.n = q.s.n))
theorem qB_iff {p q : Pr} : qB p q = true ↔ p = q := by
  obtain ⟨⟨a, n⟩, ⟨b, m⟩⟩ := p
  obtain ⟨⟨c, k⟩, ⟨d, l⟩⟩ := q
  unfold qB
  simp only [Bool.and_eq_true, decide_eq_true_eq, Pr.mk.injEq, Pf.mk.injEq]
  exact ⟨fun ⟨⟨h1, h2⟩, h3, h4⟩ => ⟨⟨Ad.ext h1, h2⟩, Ad.ext h3, h4⟩, fun ⟨⟨h1, h2⟩, h3, h4⟩ => ⟨⟨by rw [h1], h2⟩, by rw [h3], h4⟩⟩
def kB (k q : Ky) : Bool := qB k.p q.p && (decide (k.i = q.i) && decide (k.a.l = q.a.l))
theorem kB_iff {k q : Ky} : kB k q = true ↔ k = q := by
  obtain ⟨p, i, a⟩ := k
  obtain ⟨p', i', a'⟩ := q
  unfold kB
  simp only [Bool.and_eq_true, decide_eq_true_eq, qB_iff, Ky.mk.injEq]
  exact ⟨fun ⟨h1, h2, h3⟩ => ⟨h1, h2, Ad.ext h3⟩, fun ⟨h1, h2, h3⟩ => ⟨h1, h2, by rw [h3]⟩⟩
def keyB (k : Ky) (m : Ro) : Bool := kB m.k k
theorem keyB_iff {k : Ky} {m : Ro} : keyB k m = true ↔ m.k = k := kB_iff
theorem keyB_self (n : Ro) : keyB n.k n = true := keyB_iff.2 rfl
def keyN (n : Ro) : Ky := n.k
theorem keyN_iff {n m : Ro} : keyN m = keyN n ↔ keyB n.k m = true := by
  rw [keyB_iff]
  rfl
/-- One is kept in place of what was kept of it. -/
def putN (L : List Ro) (n : Ro) : List Ro := if L.any (keyB n.k) then L.map (fun m => if keyB n.k m then n else m) else L ++ [n]
def delN (L : List Ro) (k : Ky) : List Ro := L.filter fun m => !keyB k m
theorem mem_putN {L : List Ro} {n x : Ro} : x ∈ putN L n ↔ x = n ∨ (x ∈ L ∧ keyB n.k x = false) := by
  unfold putN
  split
  · rename_i h
    obtain ⟨y, hy, hk⟩ := List.any_eq_true.1 h
    rw [List.mem_map]
    constructor
    · rintro ⟨m, hm, rfl⟩
      cases hb : keyB n.k m
      · exact .inr (by simp [hb, hm])
      · simp [hb]
    · rintro (rfl | ⟨h1, h2⟩)
      · exact ⟨y, hy, by simp [hk]⟩
      · exact ⟨x, h1, by simp [h2]⟩
  · rename_i h
    rw [List.mem_append]
    constructor
    · rintro (h1 | h1)
      · refine .inr ⟨h1, ?_⟩
        cases hb : keyB n.k x
        · rfl
        · exact absurd (List.any_eq_true.2 ⟨x, h1, hb⟩) h
      · simp at h1; exact .inl h1
    · rintro (rfl | ⟨h1, h2⟩)
      · exact .inr (by simp)
      · exact .inl h1
theorem putN_len {L : List Ro} {n : Ro} : (putN L n).length = if L.any (keyB n.k) then L.length else L.length + 1 := by
  unfold putN
  split <;> simp
theorem putN_nd {L : List Ro} {n : Ro} (h : (L.map keyN).Nodup) : ((putN L n).map keyN).Nodup := by
  unfold putN
  split
  · have e : (L.map (fun m => if keyB n.k m then n else m)).map keyN = L.map keyN := by
      rw [List.map_map]
      apply List.map_congr_left
      intro m _
      simp only [Function.comp_def]
      split
      · rename_i hb; exact (keyN_iff.2 hb).symm
      · rfl
    rw [e]; exact h
  · rename_i hn
    rw [List.map_append, List.nodup_append]
    refine ⟨h, by simp, ?_⟩
    intro a ha b hb
    obtain ⟨m, hm, rfl⟩ := List.mem_map.1 ha
    simp at hb
    subst hb
    intro e
    exact hn (List.any_eq_true.2 ⟨m, hm, keyN_iff.1 e⟩)
theorem delN_len (k : Ky) : ∀ {L : List Ro}, (L.map keyN).Nodup → (delN L k).length + (if L.any (keyB k) then 1 else 0) = L.length
  | [], _ => rfl
  | m :: L, h => by
    rw [List.map_cons, List.nodup_cons] at h
    have ih := delN_len k h.2
    unfold delN at *
    cases hb : keyB k m
    · simp only [List.filter_cons, hb, List.any_cons, Bool.not_false, if_true, List.length_cons, Bool.false_or]
      omega
    · have hno : L.any (keyB k) = false := by
        rw [Bool.eq_false_iff]
        intro hc
        obtain ⟨y, hy, hk⟩ := List.any_eq_true.1 hc
        apply h.1
        rw [List.mem_map]
        rw [keyB_iff] at hb hk
        exact ⟨y, hy, hk.trans hb.symm⟩
      rw [hno] at ih
      simp only [List.filter_cons, hb, List.any_cons, Bool.not_true, List.length_cons, Bool.true_or, if_true]
      simp at ih
      simp
      omega
/-- The map leads from just these keys to these routes. -/
structure Mp (w : World) (mb : Nat) (L : List Ro) : Prop where
  nd : (L.map keyN).Nodup
  wf : ∀ n ∈ L, wfK n.k
  ex : ∃ D : DataW Value, w.ownsMap Try.prog 84 elV mb L.length D ∧ size D = L.length ∧ (∀ l : Lit, has D l = true ↔ ∃ n ∈ L, kl n.k = l) ∧ ∀ n ∈ L, ∀ z, D.atKey (kl n.k) z = .held (.agg (ocs n).toArray)
theorem tight {w : World} {b n : Nat} {D : DataW Value} (h : w.ownsMap Try.prog 84 elV b n D) : w.ownsMap Try.prog 84 elV b (size D) D := by
  obtain ⟨es, clock, hb, F, hs, rfl⟩ := h
  exact ⟨es, clock, hb, F, by simp [size, length_sorted], rfl⟩
theorem Mp.obj {w : World} {mb : Nat} {L : List Ro} (h : Mp w mb L) : ∃ es cl, w.heap[mb]? = some (.map es cl) := by
  obtain ⟨D, ⟨es, clock, hb, _⟩, _⟩ := h.ex
  exact ⟨es, clock, hb⟩
theorem Mp.lt {w : World} {mb : Nat} {L : List Ro} (h : Mp w mb L) : mb < w.heap.size := by
  obtain ⟨es, cl, h⟩ := h.obj
  exact (Array.getElem?_eq_some_iff.1 h).1
theorem Mp.same {w w' : World} {mb : Nat} {L : List Ro} (h : Mp w mb L) (hb : w'.heap[mb]? = w.heap[mb]?) : Mp w' mb L := by
  obtain ⟨D, ⟨es, clock, h1, h5⟩, h2, h3, h4⟩ := h.ex
  exact ⟨h.nd, h.wf, D, ⟨es, clock, hb.trans h1, h5⟩, h2, h3, h4⟩
theorem Mp.below {w w' : World} {mb B : Nat} {L : List Ro} (h : Mp w mb L) (hb : Below B w w') (hlt : mb < B) : Mp w' mb L := h.same (hb.block mb hlt)
theorem Mp.keep {w w' : World} {mb b : Nat} {L : List Ro} (h : Mp w mb L) (hg : w.grownBy w' (some b)) (hne : mb ≠ b) : Mp w' mb L := h.same (hg.block mb h.lt (fun e => hne (by cases e; rfl)))
theorem Mp.ne_row {w : World} {mb g : Nat} {L : List Ro} {t : TypeId} {cs : List Value} (h : Mp w mb L) (hr : Row w g t cs) : g ≠ mb := by
  obtain ⟨es, cl, h⟩ := h.obj
  intro e
  unfold Row at hr
  rw [e, h] at hr
  cases hr
theorem Mp.perm {w : World} {mb : Nat} {L L' : List Ro} (h : Mp w mb L) (hp : L'.Perm L) : Mp w mb L' := by
  obtain ⟨D, h1, h2, h3, h4⟩ := h.ex
  refine ⟨(hp.map _).nodup_iff.2 h.nd, fun t ht => h.wf t (hp.mem_iff.1 ht), D, by rw [hp.length_eq]; exact h1, by rw [hp.length_eq]; exact h2, fun l => ?_, fun t ht => h4 t (hp.mem_iff.1 ht)⟩
  rw [h3]
  exact ⟨fun ⟨t, ht, e⟩ => ⟨t, hp.mem_iff.2 ht, e⟩, fun ⟨t, ht, e⟩ => ⟨t, hp.mem_iff.1 ht, e⟩⟩
theorem Mp.new (w : World) : Mp (w.alloc (.map #[] 0)) w.heap.size [] :=
  ⟨by simp, by simp, .map [], World.ownsMap_made w _ _ _, rfl, fun l => by simp [has_eq], by simp⟩
/-- What is found at a key. -/
def getN (L : List Ro) (k : Ky) : Option Ro := L.find? (keyB k)
theorem getN_some {L : List Ro} {k : Ky} {n : Ro} (h : getN L k = some n) : n ∈ L ∧ n.k = k := by
  have h1 := List.find?_some h
  exact ⟨List.mem_of_find?_eq_some h, keyB_iff.1 h1⟩
theorem getN_none {L : List Ro} {k : Ky} (h : getN L k = none) : ∀ n ∈ L, keyB k n = false := by
  intro n hn
  have := List.find?_eq_none.1 h n hn
  simpa using this
def getV (o : Option Ro) : Value := .tuple #[.agg (ocs (o.getD zeroR)).toArray, .bool o.isSome]
theorem Mp.look {w : World} {mb : Nat} {L : List Ro} (h : Mp w mb L) {k : Ky} (hi : wfK k) : (Instr.lookup 74 (.map (some mb)) (.agg (kcs k).toArray) true).run Try.prog w = .ok (getV (getN L k)) w := by
  obtain ⟨D, h1, _, h3, h4⟩ := h.ex
  obtain ⟨v, ps, hr, hv⟩ := h1.look_ok keyLaw Try.underlying74 (zeroRv w) rfl (kl_of hi)
  cases hg : getN L k with
  | some n =>
    obtain ⟨hn, e1⟩ := getN_some hg
    have hh := (h3 (kl k)).2 ⟨n, hn, by rw [e1]⟩
    have ha := h4 n hn
    rw [e1] at ha
    rw [ha] at hv
    rw [hh, elV_inv hv] at hr
    exact hr
  | none =>
    have hf : has D (kl k) = false := by
      cases hc : has D (kl k) with
      | false => rfl
      | true =>
        obtain ⟨n, hn, e⟩ := (h3 _).1 hc
        have e1 := kl_inj (h.wf n hn) hi e
        have := getN_none hg n hn
        rw [keyB_iff.2 e1] at this
        cases this
    rw [atKey_of_not_has hf] at hv
    rw [hf, elV_inv hv] at hr
    exact hr
theorem Mp.len {w : World} {mb : Nat} {L : List Ro} (h : Mp w mb L) (ty : TypeId) : (Builtin.len_ #[74] ty #[.map (some mb)]).run Try.prog w = .ok (.int .i64 (L.length : Nat)) w := by
  obtain ⟨D, h1, h2, _⟩ := h.ex
  rw [← h2]
  exact h1.len Try.underlying74 ty
theorem Mp.put {w : World} {mb : Nat} {L : List Ro} (h : Mp w mb L) (n : Ro) (hi : wfK n.k) (hl : L.length < maxLen) : ∃ w', (Instr.mapUpdate 74 (.map (some mb)) (.agg (kcs n.k).toArray) (.agg (ocs n).toArray)).run Try.prog w = .ok () w' ∧ Mp w' mb (putN L n) ∧ w.grownBy w' (some mb) := by
  obtain ⟨D, h1, h2, h3, h4⟩ := h.ex
  obtain ⟨w', hr, hw, ht⟩ := h1.store keyLaw Try.underlying74 hl (val := .agg (ocs n).toArray) (kl_of hi) rfl
  refine ⟨w', hr, ?_, ht.grown⟩
  have ti := h1.tidy keyLaw
  have hh : has D (kl n.k) = L.any (keyB n.k) := by
    rw [Bool.eq_iff_iff, h3, List.any_eq_true]
    constructor
    · rintro ⟨m, hm, e⟩
      exact ⟨m, hm, keyB_iff.2 (kl_inj (h.wf m hm) hi e)⟩
    · rintro ⟨m, hm, e⟩
      have e1 := keyB_iff.1 e
      exact ⟨m, hm, by rw [e1]⟩
  have hsz : size (D.put (kl n.k) (.held (.agg (ocs n).toArray))) = (putN L n).length := by
    rw [size_put ti, hh, putN_len, h2]
  refine ⟨putN_nd h.nd, ?_, _, (by rw [← hsz]; exact tight hw), hsz, ?_, ?_⟩
  · intro x hx
    rcases mem_putN.1 hx with rfl | ⟨hx, _⟩
    · exact hi
    · exact h.wf x hx
  · intro l
    by_cases e : l = kl n.k
    · subst e
      rw [has_put_same ti.isMap (kl_key hi)]
      exact ⟨fun _ => ⟨n, mem_putN.2 (.inl rfl), rfl⟩, fun _ => rfl⟩
    · rw [has_put_other e, h3]
      constructor
      · rintro ⟨m, hm, rfl⟩
        refine ⟨m, mem_putN.2 (.inr ⟨hm, ?_⟩), rfl⟩
        cases hb : keyB n.k m
        · rfl
        · have e1 := keyB_iff.1 hb
          exact absurd (by rw [e1]) e
      · rintro ⟨m, hm, rfl⟩
        rcases mem_putN.1 hm with rfl | ⟨hm, _⟩
        · exact absurd rfl e
        · exact ⟨m, hm, rfl⟩
  · intro m hm z
    rcases mem_putN.1 hm with rfl | ⟨hm, hb⟩
    · exact atKey_put_same ti.isMap (kl_key hi) _ _
    · rw [atKey_put_other]
      · exact h4 m hm z
      · intro e
        rw [keyB_iff.2 (kl_inj (h.wf m hm) hi e)] at hb
        cases hb
theorem Mp.del {w : World} {mb : Nat} {L : List Ro} (h : Mp w mb L) {k : Ky} (hi : wfK k) (ty : TypeId) : ∃ w', (Builtin.delete_ #[74, 84] ty #[.map (some mb), .agg (kcs k).toArray]).run Try.prog w = .ok (.tuple #[]) w' ∧ Mp w' mb (delN L k) ∧ w.grownBy w' (some mb) := by
  obtain ⟨D, h1, h2, h3, h4⟩ := h.ex
  obtain ⟨w', hr, hw, ht⟩ := h1.drop keyLaw Try.underlying74 (kl_of hi) ty
  refine ⟨w', hr, ?_, ht.grown⟩
  have ti := h1.tidy keyLaw
  have hh : has D (kl k) = L.any (keyB k) := by
    rw [Bool.eq_iff_iff, h3, List.any_eq_true]
    constructor
    · rintro ⟨m, hm, e⟩
      exact ⟨m, hm, keyB_iff.2 (kl_inj (h.wf m hm) hi e)⟩
    · rintro ⟨m, hm, e⟩
      have e1 := keyB_iff.1 e
      exact ⟨m, hm, by rw [e1]⟩
  have hsz : size (D.del (kl k)) = (delN L k).length := by
    have a1 := size_del (k := kl k) ti
    have a2 := delN_len k h.nd
    rw [hh, h2] at a1
    omega
  have hm' : ∀ {x : Ro}, x ∈ delN L k ↔ x ∈ L ∧ keyB k x = false := by
    intro x
    unfold delN
    rw [List.mem_filter]
    simp
  refine ⟨?_, fun x hx => h.wf x (hm'.1 hx).1, _, (by rw [← hsz]; exact tight hw), hsz, ?_, ?_⟩
  · exact List.Sublist.nodup (List.Sublist.map _ List.filter_sublist) h.nd
  · intro l
    by_cases e : l = kl k
    · subst e
      rw [has_del_same]
      refine ⟨fun h => (by cases h), ?_⟩
      rintro ⟨m, hm, e⟩
      have := (hm'.1 hm).2
      rw [keyB_iff.2 (kl_inj (h.wf m (hm'.1 hm).1) hi e)] at this
      cases this
    · rw [has_del_other e, h3]
      constructor
      · rintro ⟨m, hm, rfl⟩
        refine ⟨m, hm'.2 ⟨hm, ?_⟩, rfl⟩
        cases hb : keyB k m
        · rfl
        · have e1 := keyB_iff.1 hb
          exact absurd (by rw [e1]) e
      · rintro ⟨m, hm, rfl⟩
        exact ⟨m, (hm'.1 hm).1, rfl⟩
  · intro m hm z
    obtain ⟨hm1, hb⟩ := hm'.1 hm
    rw [atKey_del_other]
    · exact h4 m hm1 z
    · intro e
      rw [keyB_iff.2 (kl_inj (h.wf m hm1) hi e)] at hb
      cases hb
end Go.Proofs.Ythofoocknmkdjaa

namespace Go.Proofs.Ythofoocknmkdjaa
open Go.RowKit
set_option linter.unusedSimpArgs false
section
variable {P : Program} {ops : Array Oper} {Q : Exit → Act → World → Prop} {md : Region.Mode} {S : World → Prop} {N : Nat}
/-- Whatever order is picked from here on; S holds behind every operation but number N. -/
def wpAnyN (P : Program) (md : Region.Mode) (ops : Array Oper) (Q : Exit → Act → World → Prop) (S : World → Prop) (N : Nat) : Nat → Array Bool → Act → World → Prop
  | 0, listed, a, w => Region.ready md ops listed = [] ∧ Q .normal a w
  | fuel + 1, listed, a, w =>
    (Region.ready md ops listed = [] → Q .normal a w) ∧
    ∀ i ∈ Region.ready md ops listed, wpOp P ops Q i (fun a' w' => (i = N ∨ S w') ∧ wpAnyN P md ops Q S N fuel (listed.setIfInBounds i true) a' w') a w
theorem wpAny_of_N : ∀ (fuel : Nat) (listed : Array Bool) (a : Act) (w : World), wpAnyN P md ops Q S N fuel listed a w → wpAny P md ops Q fuel listed a w
  | 0, _, _, _, h => h
  | fuel + 1, _, _, _, h => ⟨h.1, fun i hi => wpOp_mono (fun a' w' h' => wpAny_of_N fuel _ a' w' h'.2) (h.2 i hi)⟩
theorem set_sub {listed F : Array Bool} {j : Nat} (h : ∀ k, listed.getD k false = true → F.getD k false = true) (hj : F.getD j false = true) : ∀ k, (listed.setIfInBounds j true).getD k false = true → F.getD k false = true := by
  intro k hk
  by_cases e : j = k
  · subst e; exact hj
  · rw [getD_set_ne false e] at hk
    exact h k hk
theorem wpAnyN_first {i : Nat} {oi : Oper} {v : Value} (hi : ops[i]? = some oi) (hsel : ∀ (j : Nat) (o : Oper) cs b, ops[j]? = some o → o.op ≠ .select cs b)
    (hQ : ∀ c a w, Q (.panic c) (a.put oi.dst v) w → Q (.panic c) a w) (F : Array Bool) (hN : F.getD N false = false)
    (hF : ∀ j oj, ops[j]? = some oj → j ≠ i → (∀ e ∈ oj.after, Region.binds md e = true → F.getD e.on false = true) → F.getD j false = true) :
    ∀ (fuel : Nat) (listed : Array Bool) (a : Act) (w : World), (∀ k, listed.getD k false = true → F.getD k false = true) →
      (∀ j oj, ops[j]? = some oj → j ≠ i → listed.getD j true = false → (∀ e ∈ oj.after, Region.binds md e = true → e.on ≠ i) → oi.apart ops oj = true) →
      i ∈ Region.ready md ops listed → YieldsIf P ops S oi v a → S w →
      wpAnyN P md ops Q S N fuel (listed.setIfInBounds i true) (a.put oi.dst v) w → wpAnyN P md ops Q S N (fuel + 1) listed a w := by
  intro fuel
  induction fuel with
  | zero =>
    intro listed a w _ _ hr hy hS H
    refine ⟨fun h => (by rw [h] at hr; cases hr), fun j hj => ?_⟩
    by_cases hji : j = i
    · subst hji; exact hy.wpOp hi hS ⟨.inr hS, H⟩
    · have := ready_mono hj hji
      rw [H.1] at this
      cases this
  | succ fuel ih =>
    intro listed a w hsub hfree hr hy hS H
    refine ⟨fun h => (by rw [h] at hr; cases hr), fun j hj => ?_⟩
    by_cases hji : j = i
    · subst hji; exact hy.wpOp hi hS ⟨.inr hS, H⟩
    · have h1 := H.2 j (ready_mono hj hji)
      obtain ⟨hjun, oj, hoj, hall⟩ := mem_ready.1 hj
      have hjF : F.getD j false = true := hF j oj hoj hji (fun e he hb => hsub _ (hall e he hb))
      have hjN : j ≠ N := fun e => by rw [e, hN] at hjF; cases hjF
      have hnot : ∀ e ∈ oj.after, Region.binds md e = true → e.on ≠ i := fun e he hb heq => by
        have h1 := hall e he hb
        have h0 := (mem_ready.1 hr).1
        rw [heq] at h1
        rcases Nat.lt_or_ge i listed.size with h' | h'
        · simp [h'] at h0 h1; rw [h0] at h1; cases h1
        · simp [Array.getElem?_eq_none h'] at h1
      have h2 := wpOp_putIf hoj (hfree j oj hoj hji hjun hnot) (fun cs b => hsel i oi cs b hi) (fun cs b => hsel j oj cs b hoj) hQ hy h1
      have hfree' : ∀ k ok, ops[k]? = some ok → k ≠ i → (listed.setIfInBounds j true).getD k true = false →
          (∀ e ∈ ok.after, Region.binds md e = true → e.on ≠ i) → oi.apart ops ok = true := fun k ok hk hki hun hno => by
        refine hfree k ok hk hki ?_ hno
        by_cases hjk : j = k
        · subst hjk; exact hjun
        · rw [getD_set_ne true hjk] at hun; exact hun
      refine wpOp_mono (fun a' w' h3 => ⟨h3.2.1, ih (listed.setIfInBounds j true) a' w' (set_sub hsub hjF) hfree' (ready_mono hr (Ne.symm hji)) h3.1 (h3.2.1.resolve_left hjN) ?_⟩) h2
      rw [Array.setIfInBounds_comm _ _ hji]
      exact h3.2.2
/-- F holds what may come up ahead of number i; N is not in it. -/
def closedB (md : Region.Mode) (ops : Array Oper) (F listed : Array Bool) (i N : Nat) : Bool :=
  (List.range ops.size).all (fun j => j == i || F.getD j false || (match ops[j]? with | some o => o.after.any (fun e => Region.binds md e && !F.getD e.on false) | none => true)) && !F.getD N false && (List.range listed.size).all (fun k => !listed.getD k false || F.getD k false)
theorem takeN_lit {i : Nat} {oi : Oper} {rest : List Oper} {v : Value} {fuel : Nat} {listed : Array Bool} {a : Act} {w : World} (F : Array Bool) (hi : ops.toList.drop i = oi :: rest)
    (hs : Region.noSelect ops = true) (hf : Region.free md ops listed i = true) (hr : (Region.ready md ops listed).contains i = true) (hc : closedB md ops F listed i N = true)
    (hQ : ∀ c a w, Q (.panic c) (a.put oi.dst v) w → Q (.panic c) a w) (hy : YieldsIf P ops S oi v a) (hS : S w)
    (h : wpAnyN P md ops Q S N fuel (listed.setIfInBounds i true) (a.put oi.dst v) w) : wpAnyN P md ops Q S N (fuel + 1) listed a w := by
  unfold closedB at hc
  rw [Bool.and_eq_true, Bool.and_eq_true, List.all_eq_true, List.all_eq_true] at hc
  obtain ⟨⟨h1, h2⟩, h3⟩ := hc
  refine wpAnyN_first (at_lit hi) (Region.noSelect_spec hs) hQ F (by simpa using h2) (fun j oj hoj hji hall => ?_) fuel listed a w (fun k hk => ?_) (Region.free_spec (at_lit hi) hf) (by simpa using hr) hy hS h
  · have hjl : j < ops.size := (Array.getElem?_eq_some_iff.1 hoj).1
    have := h1 j (List.mem_range.2 hjl)
    rw [hoj] at this
    simp only [Bool.or_eq_true, beq_iff_eq] at this
    rcases this with (h5 | h5) | h5
    · exact absurd h5 hji
    · exact h5
    · rw [Array.any_eq_true'] at h5
      obtain ⟨e, he, h6⟩ := h5
      rw [Bool.and_eq_true] at h6
      rw [hall e he h6.1] at h6
      cases h6.2
  · rcases Nat.lt_or_ge k listed.size with h' | h'
    · have := h3 k (List.mem_range.2 h')
      rw [hk] at this
      simpa using this
    · rw [Array.getD_eq_getD_getElem?, Array.getElem?_eq_none h'] at hk
      cases hk
/-- Each of the operations rs comes up next. -/
def AllReadyN (P : Program) (md : Region.Mode) (ops : Array Oper) (Q : Exit → Act → World → Prop) (S : World → Prop) (N fuel : Nat) (listed : Array Bool) (a : Act) (w : World) (rs : List Nat) : Prop :=
  ∀ i ∈ rs, wpOp P ops Q i (fun a' w' => (i = N ∨ S w') ∧ wpAnyN P md ops Q S N fuel (listed.setIfInBounds i true) a' w') a w
theorem AllReadyN.nil {fuel : Nat} {listed : Array Bool} {a : Act} {w : World} : AllReadyN P md ops Q S N fuel listed a w [] := fun _ h => by cases h
theorem consN_lit {fuel : Nat} {listed : Array Bool} {a : Act} {w : World} {i : Nat} {o : Oper} {rest : List Oper} {rs : List Nat} (ho : ops.toList.drop i = o :: rest)
    (h : ∀ K' : Act → World → Prop, Shut (∀ a w, (i = N ∨ S w) → ((i = N ∨ S w) → wpAnyN P md ops Q S N fuel (listed.setIfInBounds i true) a w) → K' a w) → if Region.wanted o (yielded ops a.tmps) = true then Oper.wp P o a w K' Q else K' (a.put o.dst undef) w)
    (hs : AllReadyN P md ops Q S N fuel listed a w rs) : AllReadyN P md ops Q S N fuel listed a w (i :: rs) := fun j hj => by
  rcases List.mem_cons.1 hj with rfl | hj
  · exact wpOp_step (at_lit ho) (fun K' hK => h K' (fun a w hS hW => hK a w ⟨hS, hW hS⟩))
  · exact hs j hj
theorem wpAnyN_ready {rs : List Nat} {fuel : Nat} {listed : Array Bool} {a : Act} {w : World} (hr : Region.ready md ops listed = rs) (hne : rs ≠ [])
    (h : AllReadyN P md ops Q S N fuel listed a w rs) : wpAnyN P md ops Q S N (fuel + 1) listed a w := ⟨fun h0 => absurd (hr ▸ h0) hne, hr ▸ h⟩
theorem wpAnyN_done {listed : Array Bool} {a : Act} {w : World} (hr : Region.ready md ops listed = []) (h : Q .normal a w) : ∀ fuel, wpAnyN P md ops Q S N fuel listed a w
  | 0 => ⟨hr, h⟩
  | _ + 1 => ⟨fun _ => h, by rw [hr]; simp⟩
theorem wp_region_N {id : Nat} {a : Act} {w : World} (N : Nat) (hm : P.follows .mixedOrders = true) (hS : S w.drew)
    (h : S w.drew → wpAnyN P .any ops Q S N ops.size (Array.replicate ops.size false) a w.drew) : (Code.region id ops true).wp P Q a w :=
  wp_region_any hm (wpAny_of_N _ _ _ _ (h hS))
end
end Go.Proofs.Ythofoocknmkdjaa
