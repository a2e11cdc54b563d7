/-
  Addresses, prefixes and pairs as values and in memory: their cells, loads, stores, boxes, fields, and equality, and regions that draw their order.
-/
import Derived.Test.YtacadlbhgelncaaRows
import Derived.WalkKit
import Derived.ProofKit
import Derived.WalkSpells
import Derived.WalkLawsBesides
import Derived.Deep.MidRow
import Derived.Deep.RegionHeld3
import Derived.Laws.CopyOwn
import Derived.ChangeKeysEq
import Derived.Below
import Derived.BigQuiet
import Derived.DeepKeys4
import Derived.Maps.OwnSet
import Derived.Maps.Views
import Derived.Deep.QuietTactic
import Derived.Deep.CutBlock
namespace Go.Proofs.Ytacadlbhgelncaa
open Go.RowKit
set_option linter.unusedSimpArgs false

/-- The cells of bytes. -/
def bcells (l : List UInt8) : List Value := l.map fun b => Value.int .u8 b.toNat
theorem bcells_length (l : List UInt8) : (bcells l).length = l.length := by simp [bcells]
theorem bcells_one (l : List UInt8) : ∀ u ∈ bcells l, u.oneCell' = true := by
  intro u hu
  obtain ⟨_, _, rfl⟩ := List.mem_map.1 hu
  rfl
/-- An address: sixteen bytes. -/
structure Ad where
  l : List UInt8
  len : l.length = 16
theorem Ad.ext {a b : Ad} (h : a.l = b.l) : a = b := by
  cases a; cases b; cases h; rfl
/-- A prefix. -/
structure Pf where
  a : Ad
  n : Int
structure Pr where
  d : Pf
  s : Pf
def acells (a : Ad) : List Value := bcells a.l
def pcells (p : Pf) : List Value := acells p.a ++ [.int .i64 p.n]
def qcells (q : Pr) : List Value := pcells q.d ++ pcells q.s
theorem acells_len (a : Ad) : (acells a).length = 16 := by simp [acells, bcells, a.len]
theorem pcells_len (p : Pf) : (pcells p).length = 17 := by simp [pcells, acells_len]
theorem qcells_len (p : Pr) : (qcells p).length = 34 := by simp [qcells, pcells_len]
theorem acells_one (a : Ad) : ∀ u ∈ acells a, u.oneCell' = true := bcells_one _
theorem infoA : (Try.prog.info? 29).map (·.size) = some 16 := by kernel_rfl
theorem rangeAt_new (w : World) (cs : List Value) (t : TypeId) : (w.alloc (.cells cs.toArray t)).rangeAt w.heap.size 0 cs := by
  intro j v hv
  have h : (w.alloc (.cells cs.toArray t)).heap[w.heap.size]? = some (.cells cs.toArray t (0, 0)) := by
    show (w.heap.push _)[w.heap.size]? = _
    simp
  rw [Nat.zero_add, cell_of_row _ _ j cs.toArray t (0, 0) h]
  simpa using hv
theorem rangeAt_below {w w' : World} {B b o : Nat} {cs : List Value} (h : w.rangeAt b o cs) (hb : Below B w w') (hlt : b < B) : w'.rangeAt b o cs := fun j v hv =>
  (hb.cell (p := ⟨b, o + j, none⟩) hlt).trans (h j v hv)
theorem rangeAt_left {w : World} {b o : Nat} {cs ds : List Value} (h : w.rangeAt b o (cs ++ ds)) : w.rangeAt b o cs := fun j v hv =>
  h j v (by rw [List.getElem?_append_left (List.getElem?_eq_some_iff.1 hv).1]; exact hv)
theorem rangeAt_right {w : World} {b o k : Nat} {cs ds : List Value} (h : w.rangeAt b o (cs ++ ds)) (hk : cs.length = k) : w.rangeAt b (o + k) ds := fun j v hv => by
  subst hk
  have := h (cs.length + j) v (by rw [List.getElem?_append_right (by omega)]; simpa using hv)
  rwa [← Nat.add_assoc] at this
/-- An address, a prefix, a pair that lie somewhere. -/
def LA (w : World) (b o : Nat) (a : Ad) : Prop := w.rangeAt b o (acells a)
def LP (w : World) (b o : Nat) (p : Pf) : Prop := w.rangeAt b o (pcells p)
def LQ (w : World) (b o : Nat) (p : Pr) : Prop := w.rangeAt b o (qcells p)
theorem LP.a {w : World} {b o : Nat} {p : Pf} (h : LP w b o p) : LA w b o p.a := rangeAt_left h
theorem LP.n {w : World} {b o : Nat} {p : Pf} (h : LP w b o p) : w.cell? ⟨b, o + 16, none⟩ = some (.int .i64 p.n) := by
  have := rangeAt_right h (acells_len p.a) 0 (.int .i64 p.n) rfl
  simpa using this
theorem LQ.d {w : World} {b o : Nat} {p : Pr} (h : LQ w b o p) : LP w b o p.d := rangeAt_left h
theorem LQ.s {w : World} {b o : Nat} {p : Pr} (h : LQ w b o p) : LP w b (o + 17) p.s := rangeAt_right h (pcells_len p.d)

theorem name_world {R P : World → Prop} (w : World) (h : P w) (k : ∀ W, P W → R W) : R w := k w h
/-- A block of the call's own that holds these cells. -/
def Row (w : World) (g : Nat) (t : TypeId) (cs : List Value) : Prop := w.heap[g]? = some (.cells cs.toArray t (0, 0))
theorem Row.lt {w : World} {g : Nat} {t : TypeId} {cs : List Value} (h : Row w g t cs) : g < w.heap.size := (Array.getElem?_eq_some_iff.1 h).1
theorem Row.new (w : World) (t : TypeId) (cs : List Value) : Row (w.alloc (.cells cs.toArray t)) w.heap.size t cs := by
  show (w.heap.push _)[w.heap.size]? = _
  simp
theorem Row.alloc {w : World} {g : Nat} {t : TypeId} {cs : List Value} (h : Row w g t cs) (o : Obj) : Row (w.alloc o) g t cs := by
  show (w.heap.push _)[g]? = _
  rw [Array.getElem?_push_lt h.lt]
  exact (Array.getElem?_eq_getElem h.lt).symm.trans h
theorem Row.drew {w : World} {g : Nat} {t : TypeId} {cs : List Value} (h : Row w g t cs) : Row w.drew g t cs := h
theorem Row.below {w w' : World} {B g : Nat} {t : TypeId} {cs : List Value} (h : Row w g t cs) (hb : Below B w w') (hlt : g < B) : Row w' g t cs := (hb.block g hlt).trans h
theorem Row.cell {w : World} {g : Nat} {t : TypeId} {cs : List Value} (h : Row w g t cs) (j : Nat) : w.cell? ⟨g, j, none⟩ = cs[j]? := by
  rw [cell_of_row w g j cs.toArray t (0, 0) h]; simp
theorem Row.frozen {w : World} {g : Nat} {t : TypeId} {cs : List Value} (h : Row w g t cs) (j : Nat) : w.frozen? ⟨g, j, none⟩ = false := by
  unfold Row at h
  simp [World.frozen?, h]
theorem Row.range {w : World} {g : Nat} {t : TypeId} {cs : List Value} (h : Row w g t cs) : w.rangeAt g 0 cs := fun j v hv => by rw [Nat.zero_add, h.cell]; exact hv
theorem Row.there {w : World} {g : Nat} {t : TypeId} {cs : List Value} {n : Nat} (h : Row w g t cs) (hn : n ≤ cs.length) : w.there g 0 n := fun j hj => by
  rw [Nat.zero_add, h.cell, h.frozen]
  exact ⟨by simp; omega, rfl⟩
theorem Row.set {w : World} {g : Nat} {t : TypeId} {cs : List Value} (h : Row w g t cs) (j : Nat) (v : Value) : Row (w.setCell ⟨g, j, none⟩ v) g t (cs.set j v) := by
  unfold Row at *
  simp [World.setCell, Array.getElem?_modify, h]
theorem Row.setOther {w : World} {g : Nat} {t : TypeId} {cs : List Value} (h : Row w g t cs) (g' j : Nat) (v : Value) (hne : g' ≠ g) : Row (w.setCell ⟨g', j, none⟩ v) g t cs := by
  unfold Row at *
  simp [World.setCell, Array.getElem?_modify, h, hne]
theorem below_setCells {B : Nat} {w0 : World} (g : Nat) (h : B ≤ g) : ∀ (vs : List Value) (o : Nat) (w : World), Below B w0 w → Below B w0 (w.setCells g o vs)
  | [], _, _, hb => hb
  | v :: r, o, w, hb => by
    rw [World.setCells]
    exact below_setCells g h r (o + 1) _ (hb.setCell (p := ⟨g, o, none⟩) h v)

/-! ### Regions that draw their order -/
theorem at_lit {ops : Array Oper} {i : Nat} {o : Oper} {rest : List Oper} (h : ops.toList.drop i = o :: rest) : ops[i]? = some o := by
  have e : (ops.toList.drop i)[0]? = some o := by rw [h]; rfl
  rw [List.getElem?_drop] at e
  simpa using e
theorem take_lit {P : Program} {md : Region.Mode} {ops : Array Oper} {Q : Exit → Act → World → Prop} {S : World → Prop} {i : Nat} {oi : Oper} {rest : List Oper} {v : Value} {fuel : Nat} {listed : Array Bool} {a : Act} {w : World} (hi : ops.toList.drop i = oi :: rest)
    (hs : Region.noSelect ops = true) (hf : Region.free md ops listed i = true) (hr : (Region.ready md ops listed).contains i = true)
    (hQ : ∀ c a w, Q (.panic c) (a.put oi.dst v) w → Q (.panic c) a w) (hy : YieldsIf P ops S oi v a) (hS : S w)
    (h : wpAnyH P md ops Q S fuel (listed.setIfInBounds i true) (a.put oi.dst v) w) : wpAnyH P md ops Q S (fuel + 1) listed a w :=
  wpAnyH_take (at_lit hi) hs hf hr hQ hy hS h
theorem cons_lit {P : Program} {md : Region.Mode} {ops : Array Oper} {Q : Exit → Act → World → Prop} {S : World → Prop} {fuel : Nat} {listed : Array Bool} {a : Act} {w : World} {i : Nat} {o : Oper} {rest : List Oper} {rs : List Nat} (ho : ops.toList.drop i = o :: rest)
    (h : ∀ K' : Act → World → Prop, Shut (∀ a w, S w → (S w → wpAnyH P md ops Q S fuel (listed.setIfInBounds i true) a w) → K' a w) → if Region.wanted o (yielded ops a.tmps) = true then Oper.wp P o a w K' Q else K' (a.put o.dst undef) w)
    (hs : AllReadyH P md ops Q S fuel listed a w rs) : AllReadyH P md ops Q S fuel listed a w (i :: rs) := AllReadyH.cons (at_lit ho) h hs
theorem yA {ops : Array Oper} {S : World → Prop} {op : Oper} {a : Act} {b o : Nat} {x : Operand} (c : Ad) (hS : ∀ w, S w → LA w b o c) (hw : Region.wanted op (yielded ops a.tmps) = true) (ho : op.op = .load 29 x) (hx : a.eval x = .pointer (some ⟨b, o, none⟩)) : YieldsIf Try.prog ops S op (Value.agg (acells c).toArray) a :=
  yieldsIf_load_mid hw _ x ho b o hx (acells c) _ hS Try.underlying29 rfl (by rw [infoA, acells_len])
/-! ### Loads of whole addresses, prefixes, pairs -/
section
variable {ops : Array Oper} {rest : List Oper} {op : Oper} {a : Act} {w : World} {Q : Exit → Act → World → Prop}
theorem ldA (x : Operand) (hw : Region.wanted op (yielded ops a.tmps) = true) (ho : op.op = .load 29 x) (b o : Nat) (c : Ad) (hx : a.eval x = .pointer (some ⟨b, o, none⟩)) (hc : LA w b o c)
    (h : wpList Try.prog ops Q rest (a.put op.dst (Value.agg (acells c).toArray)) w) : wpList Try.prog ops Q (op :: rest) a w :=
  wpList_step fun K hK => by
    rw [if_pos hw]
    exact wp_load_mid _ x ho b o hx (acells c) _ hc Try.underlying29 rfl (by rw [infoA, acells_len]) (hK _ _ h)
end

section
variable {ops : Array Oper} {rest : List Oper} {op : Oper} {a : Act} {w : World} {Q : Exit → Act → World → Prop}
theorem stA (x y : Operand) (hw : Region.wanted op (yielded ops a.tmps) = true) (ho : op.op = .store 29 x y) (b o : Nat) (c : Ad) (hx : a.eval x = .pointer (some ⟨b, o, none⟩)) (hy : a.eval y = (Value.agg (acells c).toArray)) (ht : w.there b o 16)
    (h : wpList Try.prog ops Q rest (a.put op.dst undef) (w.setCells b o (acells c))) : wpList Try.prog ops Q (op :: rest) a w :=
  wpList_step fun K hK => by
    rw [if_pos hw]
    exact wp_store_mid _ x y ho b o _ hx hy (by simpa [acells_len] using ht) (by rw [infoA]; simp [acells_len]) (all_oneCell_toArray (acells_one c)) (hK _ _ (by simpa using h))
end
/-! ### Boxes -/
/-! ### Fields of values -/
/-! ### Equality -/
end Go.Proofs.Ytacadlbhgelncaa

namespace Go.Proofs.Ytacadlbhgelncaa
open Go.RowKit
set_option linter.unusedSimpArgs false

/-- What a function that only makes memory answers. -/
def Gives (w : World) (v : Value) (e : Ending) (w' : World) : Prop := e = .returned v ∧ Below w.heap.size w w'

theorem retC {P : Program} {fn : Func} {p : Tmp} {ty : TypeId} {v : Value} {w : World} (h : fn.results = #[.cell p ty]) (tmps : Array Value) (b o : Nat) (hp : tmps.getD p undef = .pointer (some ⟨b, o, none⟩))
    (hl : (loadVar ty ⟨b, o, none⟩).run P w = .ok v w) : (results fn tmps).run P w = .ok v w := by
  simp only [results, h]
  rw [Array.getD_eq_getD_getElem?] at hp
  simp [Sem.run_bind, hp, asAddr, hl, Result.andThen]
theorem retCT {P : Program} {fn : Func} {p u : Tmp} {ty : TypeId} {v : Value} {w : World} (h : fn.results = #[.cell p ty, .tmp u]) (tmps : Array Value) (b o : Nat) (hp : tmps.getD p undef = .pointer (some ⟨b, o, none⟩))
    (hl : (loadVar ty ⟨b, o, none⟩).run P w = .ok v w) : (results fn tmps).run P w = .ok (.tuple #[v, tmps.getD u undef]) w := by
  simp only [results, h]
  rw [Array.getD_eq_getD_getElem?] at hp
  simp [Sem.run_bind, hp, asAddr, hl, Result.andThen]
theorem LA.new (w : World) (a : Ad) (t : TypeId) : LA (w.alloc (.cells (acells a).toArray t)) w.heap.size 0 a := rangeAt_new w _ t
theorem LP.new (w : World) (a : Pf) (t : TypeId) : LP (w.alloc (.cells (pcells a).toArray t)) w.heap.size 0 a := rangeAt_new w _ t
theorem LQ.new (w : World) (a : Pr) (t : TypeId) : LQ (w.alloc (.cells (qcells a).toArray t)) w.heap.size 0 a := rangeAt_new w _ t
theorem LA.below {w w' : World} {B b o : Nat} {c : Ad} (h : LA w b o c) (hb : Below B w w') (hlt : b < B) : LA w' b o c := rangeAt_below h hb hlt
theorem LP.below {w w' : World} {B b o : Nat} {c : Pf} (h : LP w b o c) (hb : Below B w w') (hlt : b < B) : LP w' b o c := rangeAt_below h hb hlt
theorem LQ.below {w w' : World} {B b o : Nat} {c : Pr} (h : LQ w b o c) (hb : Below B w w') (hlt : b < B) : LQ w' b o c := rangeAt_below h hb hlt
theorem LA.alloc {w : World} {b o : Nat} {c : Ad} (h : LA w b o c) (ob : Obj) : LA (w.alloc ob) b o c := World.rangeAt_alloc h ob
theorem LP.alloc {w : World} {b o : Nat} {c : Pf} (h : LP w b o c) (ob : Obj) : LP (w.alloc ob) b o c := World.rangeAt_alloc h ob
theorem LQ.alloc {w : World} {b o : Nat} {c : Pr} (h : LQ w b o c) (ob : Obj) : LQ (w.alloc ob) b o c := World.rangeAt_alloc h ob

def zeroA : Ad := ⟨List.replicate 16 0, rfl⟩
end Go.Proofs.Ytacadlbhgelncaa

namespace Go.Proofs.Ytacadlbhgelncaa
open Go.RowKit
set_option linter.unusedSimpArgs false
theorem bt {w w1 w2 : World} (h : Below w.heap.size w w1) (k : Below w1.heap.size w1 w2) : Below w.heap.size w w2 := h.trans (k.mono h.size)
theorem ba (w : World) (o : Obj) : Below w.heap.size w (w.alloc o) := (Below.refl _ _).alloc (Nat.le_refl _) o
theorem grownBy_trans {a b c : World} {r : Option Nat} (h : a.grownBy b r) (k : b.grownBy c r) : a.grownBy c r :=
  ⟨k.os.trans h.os, k.tape.trans h.tape, k.output.trans h.output, Nat.le_trans h.size k.size, fun i hi hne => (k.block i (Nat.lt_of_lt_of_le hi h.size) hne).trans (h.block i hi hne)⟩
theorem grownBy_setCell (w : World) (g o : Nat) (v : Value) : w.grownBy (w.setCell ⟨g, o, none⟩ v) (some g) :=
  ⟨rfl, rfl, rfl, by simp [World.setCell], fun i _ hne => Below.heap_setCell _ _ _ _ (fun e => hne (by rw [e]))⟩
theorem grownBy_setCells (g : Nat) : ∀ (vs : List Value) (o : Nat) (w : World), w.grownBy (w.setCells g o vs) (some g)
  | [], _, w => World.grownBy.refl _ _
  | v :: r, o, w => by
    rw [World.setCells]
    exact grownBy_trans (grownBy_setCell w g o v) (grownBy_setCells g r (o + 1) _)
theorem Row.setCells {t : TypeId} {g : Nat} : ∀ (vs pre : List Value) (w : World) (cs : List Value), Row w g t (pre ++ cs) → vs.length = cs.length → Row (w.setCells g pre.length vs) g t (pre ++ vs)
  | [], pre, w, cs, h, hl => by
    have : cs = [] := List.eq_nil_of_length_eq_zero hl.symm
    subst this
    exact h
  | v :: vs, pre, w, [], h, hl => by simp at hl
  | v :: vs, pre, w, c :: cs, h, hl => by
    rw [World.setCells]
    have h1 := h.set pre.length v
    have e : (pre ++ c :: cs).set pre.length v = (pre ++ [v]) ++ cs := by simp
    rw [e] at h1
    have h2 := Row.setCells vs (pre ++ [v]) _ cs h1 (by simpa using hl)
    rw [List.length_append] at h2
    simpa using h2
theorem Row.keep {w w' : World} {b g : Nat} {t : TypeId} {cs : List Value} (h : Row w g t cs) (hg : w.grownBy w' (some b)) (hne : g ≠ b) : Row w' g t cs :=
  (hg.block g h.lt (fun e => hne (by cases e; rfl))).trans h
theorem grown_below {w w' : World} {b B : Nat} {w0 : World} (hg : w.grownBy w' (some b)) (hb : Below B w0 w) (hB : B ≤ b) (hs : B ≤ w.heap.size) : Below B w0 w' :=
  ⟨hg.os.trans hb.os, hg.tape.trans hb.tape, hg.output.trans hb.output, Nat.le_trans hb.size hg.size, fun k hk => (hg.block k (by omega) (fun e => by cases e; omega)).trans (hb.block k hk)⟩
end Go.Proofs.Ytacadlbhgelncaa

namespace Go.Proofs.Ytacadlbhgelncaa
open Go.RowKit
set_option linter.unusedSimpArgs false

/-- The id of a router: eight bytes. -/
structure Id8 where
  l : List UInt8
  len : l.length = 8
theorem Id8.ext {a b : Id8} (h : a.l = b.l) : a = b := by
  cases a; cases b; cases h; rfl
def zeroI : Id8 := ⟨List.replicate 8 0, rfl⟩
def icells (i : Id8) : List Value := bcells i.l
theorem icells_len (i : Id8) : (icells i).length = 8 := by simp [icells, bcells, i.len]
def zeroP : Pf := ⟨zeroA, 0⟩
def zeroQ : Pr := ⟨zeroP, zeroP⟩
/-- A Tlv: its fields; of Stamps where they lie, how many they are, their room, and the numbers. -/
structure Tl where
  ty : Nat
  nonce : Nat
  intv : Nat
  seq : Nat
  rx : Nat
  met : Nat
  hops : Nat
  uni : Bool
  all : Bool
  id : Id8
  ad : Ad
  pr : Pr
  sa : Option Addr
  sn : Nat
  sc : Nat
  st : List UInt32
def tnum (t : Tl) : List Value := [.int .u8 (t.ty : Int), .int .u16 (t.nonce : Int), .int .u16 (t.intv : Int), .int .u16 (t.seq : Int), .int .u16 (t.rx : Int), .int .u16 (t.met : Int), .int .u8 (t.hops : Int), .bool t.uni, .bool t.all]
def tcells (t : Tl) : List Value := tnum t ++ (icells t.id ++ (acells t.ad ++ (qcells t.pr ++ [.slice t.sa t.sn t.sc])))
theorem tcells_len (t : Tl) : (tcells t).length = 68 := by simp [tcells, tnum, icells_len, acells_len, qcells_len]
def zeroT : Tl := ⟨0, 0, 0, 0, 0, 0, 0, false, false, zeroI, zeroA, zeroQ, none, 0, 0, []⟩

theorem infoTs : (Try.prog.info? 39).map (·.size) = some 68 := by kernel_rfl
theorem infoAz : (Try.prog.info? 29).map (·.zero) = some (some (.agg (acells zeroA).toArray)) := by kernel_rfl
/-! ### Allocations -/
theorem run_alG {T : TypeId} {Z : List Value} {i : TypeInfo} (hi : Try.prog.info? T = some i) (hz : i.zero = some (.agg Z.toArray)) (w : World) : (Instr.alloc T true (.tuple #[])).run Try.prog w = .ok (.pointer (some ⟨w.heap.size, 0, none⟩)) (w.alloc (.cells Z.toArray T)) := by
  generalize Z.toArray = Z' at *
  simp [Instr.alloc, zeroValue, typeInfo, hi, hz, newVar, newRow, newObj, Value.cells]
  rfl
section
variable {ops : Array Oper} {rest : List Oper} {op : Oper} {a : Act} {w : World} {Q : Exit → Act → World → Prop} {K : Act → World → Prop} {E : Prop}
theorem wp_alG {T : TypeId} {Z : List Value} (hT : (Try.prog.info? T).map (·.zero) = some (some (.agg Z.toArray))) (ho : op.op = .alloc T)
    (h : ∀ g W, w.heap.size ≤ g → g < W.heap.size → Below w.heap.size w W → Row W g T Z → K (a.put op.dst (.pointer (some ⟨g, 0, none⟩))) W) : Oper.wp Try.prog op a w K Q := by
  obtain ⟨i, hi, hz⟩ : ∃ i, Try.prog.info? T = some i ∧ i.zero = some (.agg Z.toArray) := by
    cases hq : Try.prog.info? T with
    | none => simp [hq] at hT
    | some i => exact ⟨i, rfl, by simpa [hq] using hT⟩
  have h1 := h _ _ (Nat.le_refl _) (by simp) (ba w (.cells Z.toArray T)) (Row.new w T Z)
  unfold Oper.wp execOp
  simp only [ho, Sem.run_bind, run_alG hi hz, Result.andThen_ok, Sem.run_pure]
  exact h1
theorem alG {T : TypeId} {Z : List Value} (hT : (Try.prog.info? T).map (·.zero) = some (some (.agg Z.toArray))) (hw : Region.wanted op (yielded ops a.tmps) = true) (ho : op.op = .alloc T)
    (h : ∀ g W, w.heap.size ≤ g → g < W.heap.size → Below w.heap.size w W → Row W g T Z → wpList Try.prog ops Q rest (a.put op.dst (.pointer (some ⟨g, 0, none⟩))) W) : wpList Try.prog ops Q (op :: rest) a w :=
  wpList_step fun K hK => by
    rw [if_pos hw]
    exact wp_alG hT ho fun g W h1 h2 h3 h4 => hK _ _ (h g W h1 h2 h3 h4)
theorem sAlG {T : TypeId} {Z : List Value} (hT : (Try.prog.info? T).map (·.zero) = some (some (.agg Z.toArray))) (hw : Region.wanted op (yielded ops a.tmps) = true) (ho : op.op = .alloc T)
    (h : ∀ g W, w.heap.size ≤ g → g < W.heap.size → Below w.heap.size w W → Row W g T Z → K (a.put op.dst (.pointer (some ⟨g, 0, none⟩))) W) : if Region.wanted op (yielded ops a.tmps) = true then Oper.wp Try.prog op a w K Q else E := by
  rw [if_pos hw]
  exact wp_alG hT ho h
end

/-! ### Loads, stores -/
theorem Row.setMid {t : TypeId} {g : Nat} : ∀ (ds pre mid post : List Value) (w : World), Row w g t (pre ++ (mid ++ post)) → ds.length = mid.length → Row (w.setCells g pre.length ds) g t (pre ++ (ds ++ post))
  | [], pre, mid, post, w, h, hl => by
    obtain rfl : mid = [] := List.eq_nil_of_length_eq_zero hl.symm
    exact h
  | v :: ds, pre, [], post, w, h, hl => by simp at hl
  | v :: ds, pre, c :: mid, post, w, h, hl => by
    rw [World.setCells]
    have h1 := h.set pre.length v
    have e : (pre ++ ((c :: mid) ++ post)).set pre.length v = (pre ++ [v]) ++ (mid ++ post) := by simp
    rw [e] at h1
    have h2 := Row.setMid ds (pre ++ [v]) mid post _ h1 (by simpa using hl)
    rw [List.length_append] at h2
    simpa using h2
theorem Row.thereMid {w : World} {g : Nat} {t : TypeId} {cs : List Value} {o n : Nat} (h : Row w g t cs) (hn : o + n ≤ cs.length) : w.there g o n := fun j hj => by
  rw [h.cell, h.frozen]
  exact ⟨by simp; omega, rfl⟩
section
variable {ops : Array Oper} {rest : List Oper} {op : Oper} {a : Act} {w : World} {Q : Exit → Act → World → Prop} {K : Act → World → Prop} {E : Prop} {S : World → Prop}
theorem ldT (x : Operand) (hw : Region.wanted op (yielded ops a.tmps) = true) (ho : op.op = .load 39 x) (b : Nat) (t : Tl) (hx : a.eval x = .pointer (some ⟨b, 0, none⟩)) (hc : Row w b 39 (tcells t))
    (h : wpList Try.prog ops Q rest (a.put op.dst (.agg (tcells t).toArray)) w) : wpList Try.prog ops Q (op :: rest) a w :=
  wpList_step fun K hK => by
    rw [if_pos hw]
    exact wp_load_mid _ x ho b 0 hx (tcells t) _ hc.range Try.underlying39 rfl (by rw [infoTs, tcells_len]) (hK _ _ h)
theorem stA0 (x y : Operand) (hw : Region.wanted op (yielded ops a.tmps) = true) (ho : op.op = .store 29 x y) (b : Nat) (i : Ad) (cs : List Value) (hl : cs.length = 16) (hx : a.eval x = .pointer (some ⟨b, 0, none⟩)) (hy : a.eval y = (Value.agg (acells i).toArray)) (hr : Row w b 29 cs)
    (h : ∀ W, w.grownBy W (some b) → Row W b 29 (acells i) → wpList Try.prog ops Q rest (a.put op.dst undef) W) : wpList Try.prog ops Q (op :: rest) a w :=
  stA x y hw ho b 0 i hx hy (hr.there (by omega)) (h _ (grownBy_setCells b _ _ _) (by simpa using Row.setCells (acells i) [] w cs hr (by rw [acells_len, hl])))
theorem tcells_get (t : Tl) : (tcells t)[67]? = some (.slice t.sa t.sn t.sc) := by
  unfold tcells
  rw [List.getElem?_append_right (by simp [tnum]), List.getElem?_append_right (by simp [tnum, icells_len]), List.getElem?_append_right (by simp [tnum, icells_len, acells_len]), List.getElem?_append_right (by simp [tnum, icells_len, acells_len, qcells_len])]
  simp [tnum, icells_len, acells_len, qcells_len]
end
/-! ### Literals -/
section
variable {ops : Array Oper} {rest : List Oper} {op : Oper} {a : Act} {w : World} {Q : Exit → Act → World → Prop} {S : World → Prop} {T : TypeId} {v : Value}
theorem bdG (parts : List (Nat × Operand)) (hw : Region.wanted op (yielded ops a.tmps) = true) (ho : op.op = .build T parts.toArray)
    (hv : (Instr.build T (parts.map fun p => (p.1, a.eval p.2)).toArray).run Try.prog w = .ok v w)
    (h : wpList Try.prog ops Q rest (a.put op.dst v) w) : wpList Try.prog ops Q (op :: rest) a w :=
  wpList_step fun K hK => by
    rw [if_pos hw]
    unfold Oper.wp execOp
    simp only [ho, List.map_toArray, Sem.run_bind, hv, Result.andThen_ok, Sem.run_pure]
    exact hK _ _ h
theorem yB (parts : List (Nat × Operand)) (hw : Region.wanted op (yielded ops a.tmps) = true) (ho : op.op = .build T parts.toArray)
    (hv : ∀ w, (Instr.build T (parts.map fun p => (p.1, a.eval p.2)).toArray).run Try.prog w = .ok v w) : YieldsIf Try.prog ops S op v a :=
  .inl ⟨hw, fun w _ => by
    unfold execOp
    simp only [ho, List.map_toArray, Sem.run_bind, hv, Result.andThen_ok, Sem.run_pure]⟩
end
/-! ### Equality of ids -/
end Go.Proofs.Ytacadlbhgelncaa

namespace Go.Proofs.Ytacadlbhgelncaa.Lk
open Go.RowKit
set_option linter.unusedSimpArgs false
theorem name_world {R P : World → Prop} (w : World) (h : P w) (k : ∀ W, P W → R W) : R w := k w h
theorem at_lit {ops : Array Oper} {i : Nat} {o : Oper} {rest : List Oper} (h : ops.toList.drop i = o :: rest) : ops[i]? = some o := by
  have e : (ops.toList.drop i)[0]? = some o := by rw [h]; rfl
  rw [List.getElem?_drop] at e
  simpa using e
theorem take_lit {P : Program} {md : Region.Mode} {ops : Array Oper} {Q : Exit → Act → World → Prop} {S : World → Prop} {i : Nat} {oi : Oper} {rest : List Oper} {v : Value} {fuel : Nat} {listed : Array Bool} {a : Act} {w : World} (hi : ops.toList.drop i = oi :: rest)
    (hs : Region.noSelect ops = true) (hf : Region.free md ops listed i = true) (hr : (Region.ready md ops listed).contains i = true)
    (hQ : ∀ c a w, Q (.panic c) (a.put oi.dst v) w → Q (.panic c) a w) (hy : YieldsIf P ops S oi v a) (hS : S w)
    (h : wpAnyH P md ops Q S fuel (listed.setIfInBounds i true) (a.put oi.dst v) w) : wpAnyH P md ops Q S (fuel + 1) listed a w :=
  wpAnyH_take (at_lit hi) hs hf hr hQ hy hS h
theorem cons_lit {P : Program} {md : Region.Mode} {ops : Array Oper} {Q : Exit → Act → World → Prop} {S : World → Prop} {fuel : Nat} {listed : Array Bool} {a : Act} {w : World} {i : Nat} {o : Oper} {rest : List Oper} {rs : List Nat} (ho : ops.toList.drop i = o :: rest)
    (h : ∀ K' : Act → World → Prop, Shut (∀ a w, S w → (S w → wpAnyH P md ops Q S fuel (listed.setIfInBounds i true) a w) → K' a w) → if Region.wanted o (yielded ops a.tmps) = true then Oper.wp P o a w K' Q else K' (a.put o.dst undef) w)
    (hs : AllReadyH P md ops Q S fuel listed a w rs) : AllReadyH P md ops Q S fuel listed a w (i :: rs) := AllReadyH.cons (at_lit ho) h hs
/-- What a function that only makes memory answers. -/
def Gives (w : World) (v : Value) (e : Ending) (w' : World) : Prop := e = .returned v ∧ Below w.heap.size w w'
theorem wrap16 (z : Int) : IntKind.u16.wrap z = z % 65536 := by simp [IntKind.wrap, IntKind.signed, IntKind.bits]
theorem w64 (z : Int) (h : -9223372036854775808 ≤ z) (h' : z ≤ 9223372036854775807) : wrap64 z = z := by
  unfold wrap64; omega
theorem retC {P : Program} {fn : Func} {p : Tmp} {ty : TypeId} {v : Value} {w : World} (h : fn.results = #[.cell p ty]) (tmps : Array Value) (b o : Nat) (hp : tmps.getD p undef = .pointer (some ⟨b, o, none⟩))
    (hl : (loadVar ty ⟨b, o, none⟩).run P w = .ok v w) : (results fn tmps).run P w = .ok v w := by
  simp only [results, h]
  rw [Array.getD_eq_getD_getElem?] at hp
  simp [Sem.run_bind, hp, asAddr, hl, Result.andThen]
/-- A block of the call's own that holds these cells. -/
def Row (w : World) (g : Nat) (t : TypeId) (cs : List Value) : Prop := w.heap[g]? = some (.cells cs.toArray t (0, 0))
theorem Row.lt {w : World} {g : Nat} {t : TypeId} {cs : List Value} (h : Row w g t cs) : g < w.heap.size := (Array.getElem?_eq_some_iff.1 h).1
theorem Row.new (w : World) (t : TypeId) (cs : List Value) : Row (w.alloc (.cells cs.toArray t)) w.heap.size t cs := by
  show (w.heap.push _)[w.heap.size]? = _
  simp
theorem Row.alloc {w : World} {g : Nat} {t : TypeId} {cs : List Value} (h : Row w g t cs) (o : Obj) : Row (w.alloc o) g t cs := by
  show (w.heap.push _)[g]? = _
  rw [Array.getElem?_push_lt h.lt]
  exact (Array.getElem?_eq_getElem h.lt).symm.trans h
theorem Row.drew {w : World} {g : Nat} {t : TypeId} {cs : List Value} (h : Row w g t cs) : Row w.drew g t cs := h
theorem Row.below {w w' : World} {B g : Nat} {t : TypeId} {cs : List Value} (h : Row w g t cs) (hb : Below B w w') (hlt : g < B) : Row w' g t cs := (hb.block g hlt).trans h
theorem Row.cell {w : World} {g : Nat} {t : TypeId} {cs : List Value} (h : Row w g t cs) (j : Nat) : w.cell? ⟨g, j, none⟩ = cs[j]? := by
  rw [cell_of_row w g j cs.toArray t (0, 0) h]; simp
theorem Row.frozen {w : World} {g : Nat} {t : TypeId} {cs : List Value} (h : Row w g t cs) (j : Nat) : w.frozen? ⟨g, j, none⟩ = false := by
  unfold Row at h
  simp [World.frozen?, h]
theorem Row.range {w : World} {g : Nat} {t : TypeId} {cs : List Value} (h : Row w g t cs) : w.rangeAt g 0 cs := fun j v hv => by rw [Nat.zero_add, h.cell]; exact hv
theorem Row.there {w : World} {g : Nat} {t : TypeId} {cs : List Value} {n : Nat} (h : Row w g t cs) (hn : n ≤ cs.length) : w.there g 0 n := fun j hj => by
  rw [Nat.zero_add, h.cell, h.frozen]
  exact ⟨by simp; omega, rfl⟩
theorem Row.set {w : World} {g : Nat} {t : TypeId} {cs : List Value} (h : Row w g t cs) (j : Nat) (v : Value) : Row (w.setCell ⟨g, j, none⟩ v) g t (cs.set j v) := by
  unfold Row at *
  simp [World.setCell, Array.getElem?_modify, h]
theorem Row.setOther {w : World} {g : Nat} {t : TypeId} {cs : List Value} (h : Row w g t cs) (g' j : Nat) (v : Value) (hne : g' ≠ g) : Row (w.setCell ⟨g', j, none⟩ v) g t cs := by
  unfold Row at *
  simp [World.setCell, Array.getElem?_modify, h, hne]
theorem Row.setCellsOther {g : Nat} {t : TypeId} {cs : List Value} (g' : Nat) (hne : g' ≠ g) : ∀ (vs : List Value) (o : Nat) (w : World), Row w g t cs → Row (w.setCells g' o vs) g t cs
  | [], _, _, h => h
  | v :: r, o, w, h => by
    rw [World.setCells]
    exact Row.setCellsOther g' hne r (o + 1) _ (h.setOther g' o v hne)
theorem below_setCells {B : Nat} {w0 : World} (g : Nat) (h : B ≤ g) : ∀ (vs : List Value) (o : Nat) (w : World), Below B w0 w → Below B w0 (w.setCells g o vs)
  | [], _, _, hb => hb
  | v :: r, o, w, hb => by
    rw [World.setCells]
    exact below_setCells g h r (o + 1) _ (hb.setCell (p := ⟨g, o, none⟩) h v)
/-- A history. -/
structure Hi where
  b : Int
  n : Int
  k : Bool
def hcs (h : Hi) : List Value := [.int .u16 h.b, .int .u16 h.n, .bool h.k]
/-- What may be. -/
structure Hi.ok (h : Hi) : Prop where
  b0 : 0 ≤ h.b
  b1 : h.b < 65536
  n0 : 0 ≤ h.n
  n1 : h.n < 65536
theorem hcs_one (h : Hi) : ∀ u ∈ hcs h, u.oneCell' = true := by
  intro u hu
  simp [hcs] at hu
  rcases hu with rfl | rfl | rfl <;> rfl
theorem infoH : (Try.prog.info? 52).map (·.size) = some 3 := by kernel_rfl
/-- Where a history lies. -/
def LH (w : World) (g : Nat) (h : Hi) : Prop := w.rangeAt g 0 (hcs h)
theorem LH.one {w : World} {g : Nat} {c : Hi} (h : LH w g c) : w.cell? ⟨g, 0, none⟩ = some (.int .u16 c.b) := h 0 _ rfl
theorem LH.below {w w' : World} {B g : Nat} {c : Hi} (h : LH w g c) (hb : Below B w w') (hlt : g < B) : LH w' g c := fun j v hv =>
  (hb.cell (p := ⟨g, 0 + j, none⟩) hlt).trans (h j v hv)
theorem LH.range {w : World} {g : Nat} {t : TypeId} {c : Hi} (h : Row w g t (hcs c)) : LH w g c := h.range
theorem lvH {w : World} {g : Nat} {c : Hi} (h : LH w g c) : (loadVar 52 ⟨g, 0, none⟩).run Try.prog w = .ok (.agg #[.int .u16 c.b, .int .u16 c.n, .bool c.k]) w :=
  run_loadVar_mid w g 0 _ (hcs c) _ h Try.underlying52 rfl (by rw [infoH]; rfl)
section
variable {ops : Array Oper} {rest : List Oper} {op : Oper} {a : Act} {w : World} {Q : Exit → Act → World → Prop}
theorem ldH (x : Operand) (hw : Region.wanted op (yielded ops a.tmps) = true) (ho : op.op = .load 52 x) (b o : Nat) (c : Hi) (hx : a.eval x = .pointer (some ⟨b, o, none⟩)) (hc : w.rangeAt b o (hcs c))
    (h : wpList Try.prog ops Q rest (a.put op.dst (.agg #[.int .u16 c.b, .int .u16 c.n, .bool c.k])) w) : wpList Try.prog ops Q (op :: rest) a w :=
  wpList_step fun K hK => by
    rw [if_pos hw]
    exact wp_load_mid _ x ho b o hx (hcs c) _ hc Try.underlying52 rfl (by rw [infoH]; rfl) (hK _ _ h)
theorem stH (x y : Operand) (hw : Region.wanted op (yielded ops a.tmps) = true) (ho : op.op = .store 52 x y) (b : Nat) (c d : Hi) (hx : a.eval x = .pointer (some ⟨b, 0, none⟩)) (hy : a.eval y = .agg #[.int .u16 c.b, .int .u16 c.n, .bool c.k]) (hr : Row w b 52 (hcs d))
    (h : ∀ w', Below b w w' → (∀ g t cs, g ≠ b → Row w g t cs → Row w' g t cs) → Row w' b 52 (hcs c) → wpList Try.prog ops Q rest (a.put op.dst undef) w') : wpList Try.prog ops Q (op :: rest) a w :=
  wpList_step fun K hK => by
    rw [if_pos hw]
    refine wp_store_mid _ x y ho b 0 _ hx hy (by simpa using hr.there (n := 3) (by simp [hcs])) (by rw [infoH]; simp) (all_oneCell_toArray (hcs_one c)) (hK _ _ (h _ (below_setCells b (Nat.le_refl _) _ _ _ (Below.refl _ _)) (fun g t cs hne hg => Row.setCellsOther b hne.symm _ _ _ hg) ?_))
    have q := ((hr.set 0 (.int .u16 c.b)).set 1 (.int .u16 c.n)).set 2 (.bool c.k)
    simpa [World.setCells, hcs] using q
end
/-! ### Equality -/
end Go.Proofs.Ytacadlbhgelncaa.Lk

namespace Go.Proofs.Ytacadlbhgelncaa.Lk
open Go.RowKit
set_option linter.unusedSimpArgs false
/-- A history that is handed in, and room for the answer. -/
theorem rows_two (w : World) (b m : Int) (k : Bool) : Below w.heap.size w ((w.alloc (.cells #[.int .u16 b, .int .u16 m, .bool k] 52)).alloc (.cells #[.int .u16 0, .int .u16 0, .bool false] 52))
    ∧ Row ((w.alloc (.cells #[.int .u16 b, .int .u16 m, .bool k] 52)).alloc (.cells #[.int .u16 0, .int .u16 0, .bool false] 52)) w.heap.size 52 (hcs ⟨b, m, k⟩)
    ∧ Row ((w.alloc (.cells #[.int .u16 b, .int .u16 m, .bool k] 52)).alloc (.cells #[.int .u16 0, .int .u16 0, .bool false] 52)) (w.heap.size + 1) 52 (hcs ⟨0, 0, false⟩) := by
  have q1 := Row.new (w.alloc (.cells (hcs ⟨b, m, k⟩).toArray 52)) 52 (hcs ⟨0, 0, false⟩)
  rw [World.size_alloc] at q1
  exact ⟨((Below.refl _ _).alloc (Nat.le_refl _) _).alloc (by simp) _, (Row.new w 52 (hcs ⟨b, m, k⟩)).alloc _, q1⟩
theorem ret_row (w : World) (o : Obj) (b m : Int) (k : Bool) (t : TypeId) : LH ((w.alloc o).alloc (.cells #[.int .u16 b, .int .u16 m, .bool k] t)) (w.heap.size + 1) ⟨b, m, k⟩ := by
  have q := Row.new (w.alloc o) t (hcs ⟨b, m, k⟩)
  rw [World.size_alloc] at q
  exact LH.range q
theorem two_below (w : World) (o p : Obj) : Below w.heap.size w ((w.alloc o).alloc p) := ((Below.refl _ _).alloc (Nat.le_refl _) _).alloc (by simp) _
/-- n hellos that did not come. -/
def missH (h : Hi) (n : Int) : Hi := if h.k = true ∧ 1 ≤ n then ⟨h.b / 2 ^ min n.toNat 16, (h.n + n) % 65536, true⟩ else h
theorem miss_any (h : Hi) (n : Int) (w : World) : Calls Try.prog 68 #[.agg #[.int .u16 h.b, .int .u16 h.n, .bool h.k], .int .i64 n] w (Gives w (.agg #[.int .u16 (missH h n).b, .int .u16 (missH h n).n, .bool (missH h n).k])) := by
  obtain ⟨b, m, k⟩ := h
  dsimp only
  cases k with
  | false =>
    rw [show missH ⟨b, m, false⟩ n = ⟨b, m, false⟩ by simp [missH]]
    go_enter Try.func68, Try.ntmps68
    go_wp2
    exact bodyPost_ret (retC rfl _ _ 0 rfl (lvH (ret_row _ _ _ _ _ _))) rfl ⟨rfl, two_below _ _ _⟩
  | true =>
    by_cases hn : n < 1
    · rw [show missH ⟨b, m, true⟩ n = ⟨b, m, true⟩ by simp [missH]; omega]
      go_enter Try.func68, Try.ntmps68
      go_wp2
      exact bodyPost_ret (retC rfl _ _ 0 rfl (lvH (ret_row _ _ _ _ _ _))) rfl ⟨rfl, two_below _ _ _⟩
    · rw [show missH ⟨b, m, true⟩ n = ⟨b / 2 ^ min n.toNat 16, (m + n) % 65536, true⟩ by unfold missH; rw [if_pos ⟨rfl, by omega⟩]]
      have hn0 : 0 ≤ n := by omega
      have e : IntKind.u16.wrap (m + IntKind.u16.wrap n) = (m + n) % 65536 := by rw [wrap16, wrap16]; omega
      go_enter Try.func68, Try.ntmps68
      go_wp2
      exact bodyPost_ret (retC rfl _ _ 0 rfl (lvH (ret_row _ _ _ _ _ _))) rfl ⟨rfl, two_below _ _ _⟩
/-- The bits of the hellos ahead of a seqno. -/
def befZ (h : Hi) (s : Int) : Int :=
  if h.k = false then 0 else if (s - h.n) % 65536 ≤ 16 then h.b / 2 ^ ((s - h.n) % 65536).toNat else if (h.n - s) % 65536 ≤ 16 then h.b * 2 ^ ((h.n - s) % 65536).toNat % 65536 else 0
theorem before_any (h : Hi) (s : Int) (w : World) : Calls Try.prog 67 #[.agg #[.int .u16 h.b, .int .u16 h.n, .bool h.k], .int .u16 s] w (Gives w (.int .u16 (befZ h s))) := by
  obtain ⟨b, m, k⟩ := h
  dsimp only
  have e1 : IntKind.u16.wrap (s - m) = (s - m) % 65536 := wrap16 _
  have e2 : IntKind.u16.wrap (m - s) = (m - s) % 65536 := wrap16 _
  have HB : ∀ nq, Below w.heap.size w ((w.alloc (.cells #[.int .u16 b, .int .u16 m, .bool k] 52)).drewN nq) := fun nq => below_drewN ((Below.refl _ _).alloc (Nat.le_refl _) _) nq
  generalize hx : befZ ⟨b, m, k⟩ s = x
  have HX : Hid (befZ ⟨b, m, k⟩ s = x) := hx
  clear hx
  have g1 : 0 ≤ (s - m) % 65536 := by omega
  have g2 : 0 ≤ (m - s) % 65536 := by omega
  generalize hc : (s - m) % 65536 = c at *
  generalize hd : (m - s) % 65536 = d at *
  have HC : Hid ((s - m) % 65536 = c) := hc
  have HD : Hid ((m - s) % 65536 = d) := hd
  clear hc hd
  cases k with
  | false =>
    obtain rfl : x = 0 := by rw [← HX.out]; simp [befZ]
    go_enter Try.func67, Try.ntmps67
    go_wp2
    go_quiet (fail)
    go_wp2
    go_ret
    exact ⟨rfl, HB _⟩
  | true =>
    by_cases h1 : c ≤ 16
    · have ex : b / 2 ^ c.toNat = x := by
        rw [← HX.out]; unfold befZ; dsimp only; rw [HC.out, if_neg (by simp), if_pos h1]
      go_enter Try.func67, Try.ntmps67
      go_wp2
      go_quiet (fail)
      go_wp2
      go_ret
      exact ⟨rfl, HB _⟩
    · by_cases h2 : d ≤ 16
      · have ex : IntKind.u16.wrap (b * 2 ^ d.toNat) = x := by
          rw [← HX.out, wrap16]; unfold befZ; dsimp only; rw [HC.out, HD.out, if_neg (by simp), if_neg h1, if_pos h2]
        go_enter Try.func67, Try.ntmps67
        go_wp2
        go_quiet (fail)
        go_wp2
        go_ret
        exact ⟨rfl, HB _⟩
      · obtain rfl : x = 0 := by
          rw [← HX.out]; unfold befZ; dsimp only; rw [HC.out, HD.out, if_neg (by simp), if_neg h1, if_neg h2]
        go_enter Try.func67, Try.ntmps67
        go_wp2
        go_quiet (fail)
        go_wp2
        go_ret
        exact ⟨rfl, HB _⟩
/-- Behind a hello that was heard. -/
def hearH (h : Hi) (s : Int) : Hi := ⟨befZ h s / 2 + 32768, (s + 1) % 65536, true⟩
theorem bef_ok {h : Hi} (s : Int) (o : h.ok) : 0 ≤ befZ h s ∧ befZ h s < 65536 := by
  have p : ∀ n : Nat, (0 : Int) < 2 ^ n := fun n => Int.pow_pos (by decide)
  have b0 := o.b0
  have b1 := o.b1
  unfold befZ
  split
  · omega
  · split
    · exact ⟨Int.ediv_nonneg b0 (Int.le_of_lt (p _)), Int.lt_of_le_of_lt (Int.ediv_le_self _ b0) b1⟩
    · split
      · exact ⟨Int.emod_nonneg _ (by decide), Int.emod_lt_of_pos _ (by decide)⟩
      · omega
theorem hear_ok {h : Hi} (s : Int) (o : h.ok) : (hearH h s).ok := by
  have := bef_ok s o
  refine ⟨?_, ?_, ?_, ?_⟩ <;> simp only [hearH] <;> omega
theorem or_high (x : Int) (h0 : 0 ≤ x) (h1 : x < 32768) : bits BinOp.or IntKind.u16 x 32768 = x + 32768 := by
  rw [u16_or x 32768 h0 (by omega) (by decide) (by decide)]
  have : x.toNat ||| 32768 = x.toNat + 32768 := by
    have := Nat.two_pow_add_eq_or_of_lt (i := 15) (b := x.toNat) (by omega) 1
    rw [Nat.or_comm, Nat.add_comm]; simpa using this.symm
  show ((x.toNat ||| 32768 : Nat) : Int) = _
  rw [this]; omega
theorem hear_any (h : Hi) (s : Int) (w : World) (o : h.ok) : Calls Try.prog 48 #[.agg #[.int .u16 h.b, .int .u16 h.n, .bool h.k], .int .u16 s] w (Gives w (.agg #[.int .u16 (hearH h s).b, .int .u16 (hearH h s).n, .bool (hearH h s).k])) := by
  have hx := bef_ok s o
  have C := fun w => before_any h s w
  obtain ⟨b, m, k⟩ := h
  dsimp only at *
  unfold hearH
  dsimp only
  generalize befZ ⟨b, m, k⟩ s = x at *
  clear o
  have e1 := or_high (x / 2) (by omega) (by omega)
  have e2 : IntKind.u16.wrap (s + 1) = (s + 1) % 65536 := wrap16 _
  obtain ⟨hb, -, q1⟩ := rows_two w b m k
  clear hx
  go_enter Try.func48, Try.ntmps48
  go_wp2_with (first
    | (go_at_call 67; refine (C _).mono ?_; rintro e w' ⟨rfl, hw⟩; replace q1 := q1.below hw (by simp); replace hb := hb.trans (hw.mono (by simp; omega)); clear hw)
    | (refine stH (.tmp 4) (.tmp 12) (by rfl) rfl _ ⟨x / 2 + 32768, (s + 1) % 65536, true⟩ ⟨0, 0, false⟩ rfl rfl q1 ?_; intro w2 hw _ r1; clear q1; replace hb := hb.trans (hw.mono (by omega)); clear hw))
  exact bodyPost_ret (retC rfl _ _ 0 rfl (lvH (LH.range r1))) rfl ⟨rfl, hb⟩
end Go.Proofs.Ytacadlbhgelncaa.Lk

namespace Go.Proofs.Ytacadlbhgelncaa.Lk
open Go.RowKit
set_option linter.unusedSimpArgs false
/-- How many of the lowest i bits are 1. -/
def lowc (b : Nat) : Nat → Nat
  | 0 => 0
  | i + 1 => lowc b i + b / 2 ^ i % 2
theorem lowc_le (b : Nat) : ∀ i, lowc b i ≤ i
  | 0 => Nat.le_refl _
  | i + 1 => by have := lowc_le b i; simp only [lowc]; omega
theorem lowc_add (b k : Nat) : ∀ i, lowc b (k + i) = lowc b k + lowc (b / 2 ^ k) i
  | 0 => rfl
  | i + 1 => by
    show lowc b (k + i) + b / 2 ^ (k + i) % 2 = lowc b k + (lowc (b / 2 ^ k) i + b / 2 ^ k / 2 ^ i % 2)
    rw [lowc_add b k i, Nat.div_div_eq_div_mul, ← Nat.pow_add]; omega
theorem lowc_mod (b : Nat) : lowc b 8 = lowc (b % 256) 8 := by
  have h0 : b % 256 / 1 % 2 = b / 1 % 2 := by omega
  have h1 : b % 256 / 2 % 2 = b / 2 % 2 := by omega
  have h2 : b % 256 / 4 % 2 = b / 4 % 2 := by omega
  have h3 : b % 256 / 8 % 2 = b / 8 % 2 := by omega
  have h4 : b % 256 / 16 % 2 = b / 16 % 2 := by omega
  have h5 : b % 256 / 32 % 2 = b / 32 % 2 := by omega
  have h6 : b % 256 / 64 % 2 = b / 64 % 2 := by omega
  have h7 : b % 256 / 128 % 2 = b / 128 % 2 := by omega
  simp only [lowc, Nat.reducePow, h0, h1, h2, h3, h4, h5, h6, h7]
theorem lowc_sum (b : Nat) : lowc b 16 = lowc (b / 256) 8 + lowc (b % 256) 8 := by
  have h := lowc_add b 8 8
  rw [lowc_mod b] at h
  rw [Nat.add_comm]
  exact h
theorem and_low8 (z : Int) (h0 : 0 ≤ z) (h1 : z < 65536) : bits BinOp.and IntKind.u16 z 255 = z % 256 := by
  rw [u16_and z 255 h0 h1 (by decide) (by decide)]
  show ((z.toNat &&& 255 : Nat) : Int) = _
  have := Nat.and_two_pow_sub_one_eq_mod z.toNat 8
  simp at this
  rw [this]; omega
/-- The library's table. -/
def tab8 : ByteArray := ⟨#[0, 1, 1, 2, 1, 2, 2, 3, 1, 2, 2, 3, 2, 3, 3, 4, 1, 2, 2, 3, 2, 3, 3, 4, 2, 3, 3, 4, 3, 4, 4, 5, 1, 2, 2, 3, 2, 3, 3, 4, 2, 3, 3, 4, 3, 4, 4, 5, 2, 3, 3, 4, 3, 4, 4, 5, 3, 4, 4, 5, 4, 5, 5, 6, 1, 2, 2, 3, 2, 3, 3, 4, 2, 3, 3, 4, 3, 4, 4, 5, 2, 3, 3, 4, 3, 4, 4, 5, 3, 4, 4, 5, 4, 5, 5, 6, 2, 3, 3, 4, 3, 4, 4, 5, 3, 4, 4, 5, 4, 5, 5, 6, 3, 4, 4, 5, 4, 5, 5, 6, 4, 5, 5, 6, 5, 6, 6, 7, 1, 2, 2, 3, 2, 3, 3, 4, 2, 3, 3, 4, 3, 4, 4, 5, 2, 3, 3, 4, 3, 4, 4, 5, 3, 4, 4, 5, 4, 5, 5, 6, 2, 3, 3, 4, 3, 4, 4, 5, 3, 4, 4, 5, 4, 5, 5, 6, 3, 4, 4, 5, 4, 5, 5, 6, 4, 5, 5, 6, 5, 6, 6, 7, 2, 3, 3, 4, 3, 4, 4, 5, 3, 4, 4, 5, 4, 5, 5, 6, 3, 4, 4, 5, 4, 5, 5, 6, 4, 5, 5, 6, 5, 6, 6, 7, 3, 4, 4, 5, 4, 5, 5, 6, 4, 5, 5, 6, 5, 6, 6, 7, 4, 5, 5, 6, 5, 6, 6, 7, 5, 6, 6, 7, 6, 7, 7, 8]⟩
set_option maxRecDepth 100000 in
theorem tab8_eq : ∀ n : Fin 256, (tab8[n.val]'(show n.val < 256 from n.isLt)).toNat = lowc n.val 8 := by decide +kernel
theorem tab8_at (x : Nat) (h : x < 256) (h' : x < tab8.size) : (tab8[x]).toNat = lowc x 8 := tab8_eq ⟨x, h⟩
theorem tab8_sum (b : Nat) (hb : b < 65536) (h1 : b / 256 < tab8.size) (h2 : b % 256 < tab8.size) : (((tab8[b / 256]).toNat : Int) + ((tab8[b % 256]).toNat : Int)) % 256 = ((lowc b 16 : Nat) : Int) := by
  have l1 := lowc_le (b / 256) 8
  have l2 := lowc_le (b % 256) 8
  rw [tab8_at _ (by omega), tab8_at _ (by omega), lowc_sum]
  omega
set_option maxRecDepth 100000 in
theorem ones_any (b : Nat) (w : World) (hb : b < 65536) : Calls Try.prog 86 #[.int .u16 (b : Int)] w fun e w' => e = .returned (.int .i64 (lowc b 16 : Nat)) ∧ ∃ n, w.drewN n = w' := by
  have e1 := and_low8 b (by omega) (by omega)
  have g1 : 0 ≤ (b : Int) / 256 ∧ (b : Int) / 256 < 256 := by omega
  have g2 : 0 ≤ (b : Int) % 256 ∧ (b : Int) % 256 < 256 := by omega
  have HT := tab8_sum b hb (show b / 256 < 256 by omega) (show b % 256 < 256 by omega)
  have HH : Hid ((((tab8[b / 256]'(show b / 256 < 256 by omega)).toNat : Int) + ((tab8[b % 256]'(show b % 256 < 256 by omega)).toNat : Int)) % 256 = ((lowc b 16 : Nat) : Int)) := HT
  clear HT
  go_enter Try.func86, Try.ntmps86
  go_wp2
  go_quiet (fail)
  go_wp2
  go_ret
  exact ⟨congrArg (fun z => Ending.returned (.int .i64 z)) HH.out, nq, rfl⟩
end Go.Proofs.Ytacadlbhgelncaa.Lk

namespace Go.Proofs.Ytacadlbhgelncaa.Lk
open Go.RowKit
set_option linter.unusedSimpArgs false
theorem wrap32 (z : Int) : IntKind.u32.wrap z = z % 4294967296 := by simp [IntKind.wrap, IntKind.signed, IntKind.bits]
theorem finite_any (z : Int) (w : World) (h0 : 0 ≤ z) : Calls Try.prog 60 #[.int .u32 z] w fun e w' => e = .returned (.int .u16 (min z 65534)) ∧ w = w' := by
  by_cases h : 65534 < z
  · rw [show min z 65534 = 65534 by omega]
    go_enter Try.func60, Try.ntmps60
    go_wp2
    go_ret
    exact ⟨rfl, rfl⟩
  · rw [show min z 65534 = z by omega]
    have h' : z ≤ 65534 := by omega
    clear h
    go_enter Try.func60, Try.ntmps60
    go_wp2
    go_ret
    exact ⟨rfl, rfl⟩
def rxZ (kind cost : Int) (b : Nat) : Int :=
  if kind = 0 then (if 2 ≤ lowc (b / 8192) 16 then cost else 65535) else if kind = 1 then (if 0 < lowc b 16 then min (cost * 16 / (lowc b 16 : Nat)) 65534 else 65535) else 65535
theorem rxOf_any (kind cost : Int) (b : Nat) (w : World) (hc : 0 ≤ cost) (hc' : cost < 65536) (hb : b < 65536) : Calls Try.prog 74 #[.int .i64 kind, .int .u16 cost, .int .u16 (b : Int)] w fun e w' => e = .returned (.int .u16 (rxZ kind cost b)) ∧ ∃ n, w.drewN n = w' := by
  by_cases k0 : kind = 0
  · have k : (kind == 0) = true := by simpa using k0
    have eb : (b : Int) / 8192 = ((b / 8192 : Nat) : Int) := by omega
    have C : ∀ w, Calls Try.prog 86 #[.int .u16 ((b : Int) / 8192)] w fun e w' => e = .returned (.int .i64 (lowc (b / 8192) 16 : Nat)) ∧ ∃ n, w.drewN n = w' := fun w => by
      rw [eb]
      exact ones_any (b / 8192) w (by omega)
    clear eb
    have HX : Hid (rxZ kind cost b = if 2 ≤ lowc (b / 8192) 16 then cost else 65535) := by unfold rxZ; rw [if_pos k0]; exact rfl
    clear k0
    generalize rxZ kind cost b = x at *
    generalize lowc (b / 8192) 16 = n at *
    by_cases h2 : 2 ≤ n
    · obtain rfl : x = cost := by rw [HX.out, if_pos h2]
      go_enter Try.func74, Try.ntmps74
      go_wp2_with (go_at_call 86; refine (C _).mono ?_; rintro e w' ⟨rfl, nq, rfl⟩)
      go_ret
      exact ⟨rfl, nq, rfl⟩
    · obtain rfl : x = 65535 := by rw [HX.out, if_neg h2]
      go_enter Try.func74, Try.ntmps74
      go_wp2_with (go_at_call 86; refine (C _).mono ?_; rintro e w' ⟨rfl, nq, rfl⟩)
      go_ret
      exact ⟨rfl, nq, rfl⟩
  · by_cases k1 : kind = 1
    · have k : (kind == 0) = false := by simpa using k0
      have k' : (kind == 1) = true := by simpa using k1
      have C := fun w => ones_any b w hb
      have HX : Hid (rxZ kind cost b = if 0 < lowc b 16 then min (cost * 16 / (lowc b 16 : Nat)) 65534 else 65535) := by unfold rxZ; rw [if_neg k0, if_pos k1]; exact rfl
      have hle := lowc_le b 16
      clear k0 k1
      generalize rxZ kind cost b = x at *
      generalize lowc b 16 = n at *
      by_cases h2 : 0 < n
      · obtain rfl : x = min (cost * 16 / n) 65534 := by rw [HX.out, if_pos h2]
        have e1 : IntKind.u32.wrap cost = cost := by rw [wrap32]; omega
        have e2 : IntKind.u32.wrap (cost * 16) = cost * 16 := by rw [wrap32]; omega
        have e3 : IntKind.u32.wrap (n : Int) = n := by rw [wrap32]; omega
        have p1 : 0 ≤ cost * 16 / (n : Int) := Int.ediv_nonneg (by omega) (by omega)
        have p2 : cost * 16 / (n : Int) ≤ cost * 16 := Int.ediv_le_self _ (by omega)
        have e4 : IntKind.u32.wrap ((cost * 16).tdiv (n : Int)) = cost * 16 / (n : Int) := by rw [wrap32, Int.tdiv_eq_ediv_of_nonneg (by omega)]; omega
        have D := fun w => finite_any (cost * 16 / (n : Int)) w p1
        clear p1 p2
        go_enter Try.func74, Try.ntmps74
        go_wp2_with (first
          | (go_at_call 86; refine (C _).mono ?_; rintro e w' ⟨rfl, nq, rfl⟩)
          | (go_at_call 60; refine (D _).mono ?_; rintro e w' ⟨rfl, rfl⟩))
        go_ret
        exact ⟨rfl, nq, rfl⟩
      · obtain rfl : x = 65535 := by rw [HX.out, if_neg h2]
        go_enter Try.func74, Try.ntmps74
        go_wp2_with (go_at_call 86; refine (C _).mono ?_; rintro e w' ⟨rfl, nq, rfl⟩)
        go_ret
        exact ⟨rfl, nq, rfl⟩
    · have k : (kind == 0) = false := by simpa using k0
      have k' : (kind == 1) = false := by simpa using k1
      have HX : rxZ kind cost b = 65535 := by unfold rxZ; rw [if_neg k0, if_neg k1]
      rw [HX]
      go_enter Try.func74, Try.ntmps74
      go_wp2_with (fail)
      go_ret
      exact ⟨rfl, 0, rfl⟩
def costZ (kind rx tx : Int) : Int := if rx = 65535 ∨ tx = 65535 then 65535 else if kind = 0 then tx else if kind = 1 then min (max tx 256 * rx / 256) 65534 else 65535
theorem cost_any (kind rx tx : Int) (w : World) (hr : 0 ≤ rx) (hr' : rx < 65536) (ht : 0 ≤ tx) (ht' : tx < 65536) : Calls Try.prog 38 #[.int .i64 kind, .int .u16 rx, .int .u16 tx] w fun e w' => e = .returned (.int .u16 (costZ kind rx tx)) ∧ w = w' := by
  have HX : Hid (costZ kind rx tx = if rx = 65535 ∨ tx = 65535 then 65535 else if kind = 0 then tx else if kind = 1 then min (max tx 256 * rx / 256) 65534 else 65535) := rfl
  generalize costZ kind rx tx = x at *
  by_cases r1 : rx = 65535
  · obtain rfl : x = 65535 := by rw [HX.out, if_pos (.inl r1)]
    subst r1
    go_enter Try.func38, Try.ntmps38
    go_wp2_with (fail)
    go_ret
    exact ⟨rfl, rfl⟩
  by_cases r2 : tx = 65535
  · obtain rfl : x = 65535 := by rw [HX.out, if_pos (.inr r2)]
    have r3 : (rx == 65535) = false := by simpa using r1
    subst r2
    go_enter Try.func38, Try.ntmps38
    go_wp2_with (fail)
    go_ret
    exact ⟨rfl, rfl⟩
  have r3 : (rx == 65535) = false := by simpa using r1
  have r4 : (tx == 65535) = false := by simpa using r2
  have r5 : ¬ (rx = 65535 ∨ tx = 65535) := by omega
  by_cases k0 : kind = 0
  · obtain rfl : x = tx := by rw [HX.out, if_neg r5, if_pos k0]
    subst k0
    go_enter Try.func38, Try.ntmps38
    go_wp2_with (fail)
    go_ret
    exact ⟨rfl, rfl⟩
  by_cases k1 : kind = 1
  · obtain rfl : x = min (max tx 256 * rx / 256) 65534 := by rw [HX.out, if_neg r5, if_neg k0, if_pos k1]
    by_cases ht2 : tx < 256
    · have p0 : 0 ≤ 256 * rx := by omega
      rw [show max tx 256 = 256 by omega, show 256 * rx / 256 = rx by omega]
      have D := fun w => finite_any rx w hr
      have e4 : 256 * rx / 256 = rx := by omega
      have e3 : 256 * rx % 4294967296 = 256 * rx := by omega
      clear HX r5 r1 r2
      subst k1
      go_enter Try.func38, Try.ntmps38
      go_wp2_with (go_at_call 60; (try rw [e4]); refine (D _).mono ?_; rintro e w' ⟨rfl, rfl⟩)
      go_ret
      exact ⟨rfl, rfl⟩
    · have p0 : 0 ≤ tx * rx := Int.mul_nonneg ht hr
      have p1 : tx * rx ≤ 65535 * 65535 := Int.mul_le_mul (by omega) (by omega) hr (by omega)
      rw [show max tx 256 = tx by omega]
      have D := fun w => finite_any (tx * rx / 256) w (by omega)
      have e3 : tx * rx % 4294967296 = tx * rx := by omega
      clear HX r5 r1 r2
      subst k1
      go_enter Try.func38, Try.ntmps38
      go_wp2_with (go_at_call 60; refine (D _).mono ?_; rintro e w' ⟨rfl, rfl⟩)
      go_ret
      exact ⟨rfl, rfl⟩
  · obtain rfl : x = 65535 := by rw [HX.out, if_neg r5, if_neg k0, if_neg k1]
    have k : (kind == 0) = false := by simpa using k0
    have k' : (kind == 1) = false := by simpa using k1
    go_enter Try.func38, Try.ntmps38
    go_wp2_with (fail)
    go_ret
    exact ⟨rfl, rfl⟩
end Go.Proofs.Ytacadlbhgelncaa.Lk

namespace Go.Proofs.Ytacadlbhgelncaa.Lk
open Go.RowKit
set_option linter.unusedSimpArgs false
/-- A slice value that leads to these histories. -/
structure Hs (w : World) (ad : Option Addr) (n : Nat) (l : List Hi) : Prop where
  len : l.length = n
  small : ∀ h ∈ l, h.ok
  lies : n = 0 ∨ ∃ g o, ad = some ⟨g, o, none⟩ ∧ g < w.heap.size ∧ ∀ j h, l[j]? = some h → w.rangeAt g (o + j * 3) (hcs h)
theorem Hs.below {w w' : World} {ad : Option Addr} {n : Nat} {l : List Hi} (h : Hs w ad n l) (hb : Below w.heap.size w w') : Hs w' ad n l :=
  ⟨h.len, h.small, h.lies.imp id fun ⟨g, o, e, hg, hl⟩ => ⟨g, o, e, Nat.lt_of_lt_of_le hg hb.size, fun j c hc i v hv => (hb.cell (p := ⟨g, o + j * 3 + i, none⟩) hg).trans (hl j c hc i v hv)⟩⟩
def rxL (kind cost : Int) (l : List Hi) : Int := l.foldl (fun m h => min m (rxZ kind cost h.b.toNat)) 65535
theorem rxL_step (kind cost : Int) (l : List Hi) (j : Nat) (h : j < l.length) : rxL kind cost (l.take (j + 1)) = min (rxL kind cost (l.take j)) (rxZ kind cost l[j].b.toNat) := by
  unfold rxL
  rw [List.take_succ_eq_append_getElem h, List.foldl_append]
  rfl
theorem rxZ_ok (kind cost : Int) (b : Nat) (hc : 0 ≤ cost) (hc' : cost < 65536) : 0 ≤ rxZ kind cost b ∧ rxZ kind cost b < 65536 := by
  have p : 0 ≤ cost * 16 / (lowc b 16 : Nat) := Int.ediv_nonneg (by omega) (by omega)
  unfold rxZ
  split
  · split <;> omega
  · split
    · split <;> omega
    · omega
theorem rxOf_hi (kind cost : Int) (h : Hi) (w : World) (hc : 0 ≤ cost) (hc' : cost < 65536) (o : h.ok) : Calls Try.prog 74 #[.int .i64 kind, .int .u16 cost, .int .u16 h.b] w fun e w' => e = .returned (.int .u16 (rxZ kind cost h.b.toNat)) ∧ ∃ n, w.drewN n = w' := by
  have b0 := o.b0
  have b1 := o.b1
  generalize h.b = b at *
  obtain ⟨c, rfl⟩ := Int.eq_ofNat_of_zero_le b0
  exact rxOf_any kind cost c w hc hc' (by omega)
theorem rx_any (kind cost : Int) (ad : Option Addr) (n c : Nat) (l : List Hi) (w : World) (hc : 0 ≤ cost) (hc' : cost < 65536) (hn : n ≤ 140737488355328) (hs : Hs w ad n l) :
    Calls Try.prog 59 #[.int .i64 kind, .int .u16 cost, .slice ad n c] w (Gives w (.int .u16 (rxL kind cost l))) := by
  have HL : Hid (l.length = n) := hs.len
  go_enter Try.func59, Try.ntmps59
  go_wp2
  go_loopw [7, 12] (fun v i wr => ∃ j : Nat, j ≤ n ∧ i = .int .i64 j ∧ v = .int .u16 (rxL kind cost (l.take j)) ∧ Below w.heap.size w wr) (fun _ i _ => n - (intOf i).toNat)
  case atStart => exact ⟨0, Nat.zero_le _, rfl, rfl, Below.refl _ _⟩
  case round =>
    obtain ⟨j, hj, rfl, rfl, hb⟩ := hrel
    rename World => W
    by_cases hlt : j < n
    · rcases hs.lies with h0 | ⟨g, o, rfl, hg, hl⟩
      · omega
      have hjl : j < l.length := by rw [HL.out]; exact hlt
      have hq := hl j _ (List.getElem?_eq_getElem hjl)
      have ok := hs.small l[j] (List.getElem_mem hjl)
      have HS : Hid (rxL kind cost (l.take (j + 1)) = min (rxL kind cost (l.take j)) (rxZ kind cost l[j].b.toNat)) := rxL_step kind cost l j hjl
      have C := fun w => rxOf_hi kind cost l[j] w hc hc' ok
      generalize l[j] = q at *
      obtain ⟨b, m, k⟩ := q
      have c1 : W.cell? ⟨g, o + j * 3, none⟩ = some (.int .u16 b) := (hb.cell (p := ⟨g, o + j * 3, none⟩) hg).trans (hq 0 _ rfl)
      have c2 : W.cell? ⟨g, o + j * 3 + 1, none⟩ = some (.int .u16 m) := (hb.cell (p := ⟨g, o + j * 3 + 1, none⟩) hg).trans (hq 1 _ rfl)
      have c3 : W.cell? ⟨g, o + j * 3 + 2, none⟩ = some (.bool k) := (hb.cell (p := ⟨g, o + j * 3 + 2, none⟩) hg).trans (hq 2 _ rfl)
      have hji : (j : Int) < (n : Int) := by omega
      generalize rxL kind cost (l.take j) = V at *
      dsimp only at C HS
      clear hl hq ok
      by_cases hv : rxZ kind cost b.toNat < V
      · generalize rxZ kind cost b.toNat = x at *
        go_wp2_with (go_at_call 74; refine (C _).mono ?_; rintro e w' ⟨rfl, nq, rfl⟩)
        go_roundw
        case rel => exact ⟨j + 1, by omega, by go_num, by rw [HS.out]; congr 1; omega, below_drewN (hb.alloc hb.size _) nq⟩
        case measure => simp [intOf]; omega
      · generalize rxZ kind cost b.toNat = x at *
        have hv' : V ≤ x := by omega
        clear hv
        go_wp2_with (go_at_call 74; refine (C _).mono ?_; rintro e w' ⟨rfl, nq, rfl⟩)
        go_roundw
        case rel => exact ⟨j + 1, by omega, by go_num, by rw [HS.out]; congr 1; omega, below_drewN (hb.alloc hb.size _) nq⟩
        case measure => simp [intOf]; omega
    · go_wp2
      go_ret
      refine ⟨?_, hb⟩
      rw [List.take_of_length_le (by rw [HL.out]; omega)]
      rfl
/-! ### The document's -/
end Go.Proofs.Ytacadlbhgelncaa.Lk

namespace Go.Proofs.Ytacadlbhgelncaa.Rk
open Go.RowKit
set_option linter.unusedSimpArgs false
theorem name_world {R P : World → Prop} (w : World) (h : P w) (k : ∀ W, P W → R W) : R w := k w h
theorem at_lit {ops : Array Oper} {i : Nat} {o : Oper} {rest : List Oper} (h : ops.toList.drop i = o :: rest) : ops[i]? = some o := by
  have e : (ops.toList.drop i)[0]? = some o := by rw [h]; rfl
  rw [List.getElem?_drop] at e
  simpa using e
theorem take_lit {P : Program} {md : Region.Mode} {ops : Array Oper} {Q : Exit → Act → World → Prop} {S : World → Prop} {i : Nat} {oi : Oper} {rest : List Oper} {v : Value} {fuel : Nat} {listed : Array Bool} {a : Act} {w : World} (hi : ops.toList.drop i = oi :: rest)
    (hs : Region.noSelect ops = true) (hf : Region.free md ops listed i = true) (hr : (Region.ready md ops listed).contains i = true)
    (hQ : ∀ c a w, Q (.panic c) (a.put oi.dst v) w → Q (.panic c) a w) (hy : YieldsIf P ops S oi v a) (hS : S w)
    (h : wpAnyH P md ops Q S fuel (listed.setIfInBounds i true) (a.put oi.dst v) w) : wpAnyH P md ops Q S (fuel + 1) listed a w :=
  wpAnyH_take (at_lit hi) hs hf hr hQ hy hS h
theorem cons_lit {P : Program} {md : Region.Mode} {ops : Array Oper} {Q : Exit → Act → World → Prop} {S : World → Prop} {fuel : Nat} {listed : Array Bool} {a : Act} {w : World} {i : Nat} {o : Oper} {rest : List Oper} {rs : List Nat} (ho : ops.toList.drop i = o :: rest)
    (h : ∀ K' : Act → World → Prop, Shut (∀ a w, S w → (S w → wpAnyH P md ops Q S fuel (listed.setIfInBounds i true) a w) → K' a w) → if Region.wanted o (yielded ops a.tmps) = true then Oper.wp P o a w K' Q else K' (a.put o.dst undef) w)
    (hs : AllReadyH P md ops Q S fuel listed a w rs) : AllReadyH P md ops Q S fuel listed a w (i :: rs) := AllReadyH.cons (at_lit ho) h hs
/-- What a function that only makes memory answers. -/
def Gives (w : World) (v : Value) (e : Ending) (w' : World) : Prop := e = .returned v ∧ Below w.heap.size w w'
theorem wrap16 (z : Int) : IntKind.u16.wrap z = z % 65536 := by simp [IntKind.wrap, IntKind.signed, IntKind.bits]
theorem w64 (z : Int) (h : -9223372036854775808 ≤ z) (h' : z ≤ 9223372036854775807) : wrap64 z = z := by
  unfold wrap64; omega
theorem retC {P : Program} {fn : Func} {p : Tmp} {ty : TypeId} {v : Value} {w : World} (h : fn.results = #[.cell p ty]) (tmps : Array Value) (b o : Nat) (hp : tmps.getD p undef = .pointer (some ⟨b, o, none⟩))
    (hl : (loadVar ty ⟨b, o, none⟩).run P w = .ok v w) : (results fn tmps).run P w = .ok v w := by
  simp only [results, h]
  rw [Array.getD_eq_getD_getElem?] at hp
  simp [Sem.run_bind, hp, asAddr, hl, Result.andThen]
/-- A block of the call's own that holds these cells. -/
def Row (w : World) (g : Nat) (t : TypeId) (cs : List Value) : Prop := w.heap[g]? = some (.cells cs.toArray t (0, 0))
theorem Row.lt {w : World} {g : Nat} {t : TypeId} {cs : List Value} (h : Row w g t cs) : g < w.heap.size := (Array.getElem?_eq_some_iff.1 h).1
theorem Row.new (w : World) (t : TypeId) (cs : List Value) : Row (w.alloc (.cells cs.toArray t)) w.heap.size t cs := by
  show (w.heap.push _)[w.heap.size]? = _
  simp
theorem Row.alloc {w : World} {g : Nat} {t : TypeId} {cs : List Value} (h : Row w g t cs) (o : Obj) : Row (w.alloc o) g t cs := by
  show (w.heap.push _)[g]? = _
  rw [Array.getElem?_push_lt h.lt]
  exact (Array.getElem?_eq_getElem h.lt).symm.trans h
theorem Row.drew {w : World} {g : Nat} {t : TypeId} {cs : List Value} (h : Row w g t cs) : Row w.drew g t cs := h
theorem Row.below {w w' : World} {B g : Nat} {t : TypeId} {cs : List Value} (h : Row w g t cs) (hb : Below B w w') (hlt : g < B) : Row w' g t cs := (hb.block g hlt).trans h
theorem Row.cell {w : World} {g : Nat} {t : TypeId} {cs : List Value} (h : Row w g t cs) (j : Nat) : w.cell? ⟨g, j, none⟩ = cs[j]? := by
  rw [cell_of_row w g j cs.toArray t (0, 0) h]; simp
theorem Row.frozen {w : World} {g : Nat} {t : TypeId} {cs : List Value} (h : Row w g t cs) (j : Nat) : w.frozen? ⟨g, j, none⟩ = false := by
  unfold Row at h
  simp [World.frozen?, h]
theorem Row.range {w : World} {g : Nat} {t : TypeId} {cs : List Value} (h : Row w g t cs) : w.rangeAt g 0 cs := fun j v hv => by rw [Nat.zero_add, h.cell]; exact hv
theorem Row.there {w : World} {g : Nat} {t : TypeId} {cs : List Value} {n : Nat} (h : Row w g t cs) (hn : n ≤ cs.length) : w.there g 0 n := fun j hj => by
  rw [Nat.zero_add, h.cell, h.frozen]
  exact ⟨by simp; omega, rfl⟩
theorem Row.set {w : World} {g : Nat} {t : TypeId} {cs : List Value} (h : Row w g t cs) (j : Nat) (v : Value) : Row (w.setCell ⟨g, j, none⟩ v) g t (cs.set j v) := by
  unfold Row at *
  simp [World.setCell, Array.getElem?_modify, h]
theorem Row.setOther {w : World} {g : Nat} {t : TypeId} {cs : List Value} (h : Row w g t cs) (g' j : Nat) (v : Value) (hne : g' ≠ g) : Row (w.setCell ⟨g', j, none⟩ v) g t cs := by
  unfold Row at *
  simp [World.setCell, Array.getElem?_modify, h, hne]
theorem Row.setCellsOther {g : Nat} {t : TypeId} {cs : List Value} (g' : Nat) (hne : g' ≠ g) : ∀ (vs : List Value) (o : Nat) (w : World), Row w g t cs → Row (w.setCells g' o vs) g t cs
  | [], _, _, h => h
  | v :: r, o, w, h => by
    rw [World.setCells]
    exact Row.setCellsOther g' hne r (o + 1) _ (h.setOther g' o v hne)
theorem below_setCells {B : Nat} {w0 : World} (g : Nat) (h : B ≤ g) : ∀ (vs : List Value) (o : Nat) (w : World), Below B w0 w → Below B w0 (w.setCells g o vs)
  | [], _, _, hb => hb
  | v :: r, o, w, hb => by
    rw [World.setCells]
    exact below_setCells g h r (o + 1) _ (hb.setCell (p := ⟨g, o, none⟩) h v)
/-- A configuration of times. -/
structure Rt where
  on : Bool
  mi : Int
  ma : Int
  co : Int
  de : Int
def rcs (c : Rt) : List Value := [.bool c.on, .int .i64 c.mi, .int .i64 c.ma, .int .i64 c.co, .int .i64 c.de]
abbrev rtV (c : Rt) : Value := .agg #[.bool c.on, .int .i64 c.mi, .int .i64 c.ma, .int .i64 c.co, .int .i64 c.de]
/-- A slice of numbers. -/
structure Is (w : World) (ad : Option Addr) (n : Nat) (l : List Int) : Prop where
  len : l.length = n
  lies : n = 0 ∨ ∃ g o, ad = some ⟨g, o, none⟩ ∧ g < w.heap.size ∧ ∀ (j : Nat) (v : Int), l[j]? = some v → w.cell? ⟨g, o + j, none⟩ = some (.int .i64 v)
theorem Is.below {w w' : World} {B : Nat} {ad : Option Addr} {n : Nat} {l : List Int} (h : Is w ad n l) (hB : w.heap.size ≤ B) (hb : Below B w w') : Is w' ad n l :=
  ⟨h.len, h.lies.imp id fun ⟨g, o, e, hg, hl⟩ => ⟨g, o, e, Nat.lt_of_lt_of_le hg hb.size, fun j c hc => (hb.cell (p := ⟨g, o + j, none⟩) (Nat.lt_of_lt_of_le hg hB)).trans (hl j c hc)⟩⟩
/-! ### Samples -/
theorem wrap32 (z : Int) : IntKind.u32.wrap z = z % 4294967296 := by simp [IntKind.wrap, IntKind.signed, IntKind.bits]
/-! ### The clock -/
/-! ### Smoothed times -/
end Go.Proofs.Ytacadlbhgelncaa.Rk

namespace Go.Proofs.Ytacadlbhgelncaa.Rk
open Go.RowKit
set_option linter.unusedSimpArgs false
/-- What may be. -/
structure Rt.ok (c : Rt) : Prop where
  m0 : 0 ≤ c.mi
  m1 : c.mi < c.ma
  m2 : c.ma ≤ 1000000
  c0 : 1 ≤ c.co
  c1 : c.co ≤ 65534
  d0 : 1 ≤ c.de
  d1 : c.de ≤ 256
def costR (c : Rt) (t : Int) : Int := if c.on = false ∨ t ≤ c.mi then 0 else if c.ma ≤ t then c.co else c.co * (t - c.mi) / (c.ma - c.mi)
theorem wrap16_id (z : Int) (h : 0 ≤ z) (h' : z < 65536) : IntKind.u16.wrap z = z := by rw [wrap16]; omega
theorem cost_mid (mi ma co t : Int) (m1 : mi < t) (m2 : t < ma) (c0 : 0 ≤ co) : 0 ≤ co * (t - mi) / (ma - mi) ∧ co * (t - mi) / (ma - mi) ≤ co := by
  have p0 : 0 ≤ co * (t - mi) := Int.mul_nonneg c0 (by omega)
  have p1 : co * (t - mi) ≤ co * (ma - mi) := Int.mul_le_mul_of_nonneg_left (by omega) c0
  exact ⟨Int.ediv_nonneg p0 (by omega), Int.le_trans (Int.ediv_le_ediv (by omega) p1) (by rw [Int.mul_ediv_cancel _ (by omega)]; exact Int.le_refl _)⟩
theorem cost_facts (mi ma co t : Int) (m0 : 0 ≤ mi) (m1 : mi < t) (m2 : t < ma) (m3 : ma ≤ 1000000) (c0 : 0 ≤ co) (c1 : co ≤ 65534) :
    wrap64 (t - mi) = t - mi ∧ wrap64 (co * (t - mi)) = co * (t - mi) ∧ wrap64 (ma - mi) = ma - mi ∧ (co * (t - mi)).tdiv (ma - mi) = co * (t - mi) / (ma - mi) ∧ wrap64 (co * (t - mi) / (ma - mi)) = co * (t - mi) / (ma - mi) ∧ co * (t - mi) / (ma - mi) % 65536 = co * (t - mi) / (ma - mi) ∧ (ma - mi == 0) = false := by
  have p0 : 0 ≤ co * (t - mi) := Int.mul_nonneg c0 (by omega)
  have p1 : co * (t - mi) ≤ 65534 * (t - mi) := Int.mul_le_mul_of_nonneg_right c1 (by omega)
  have q := cost_mid mi ma co t m1 m2 c0
  exact ⟨w64 _ (by omega) (by omega), w64 _ (by omega) (by omega), w64 _ (by omega) (by omega), Int.tdiv_eq_ediv_of_nonneg p0, w64 _ (by omega) (by omega), by omega, by simp; omega⟩
theorem alloc_b (w : World) (o : Obj) : Below w.heap.size w (w.alloc o) := (Below.refl _ _).alloc (Nat.le_refl _) _
theorem cost_any (c : Rt) (t : Int) (w : World) (m0 : 0 ≤ c.mi) (m3 : c.ma ≤ 1000000) (c0 : 0 ≤ c.co) (c1 : c.co ≤ 65534) : Calls Try.prog 40 #[rtV c, .int .i64 t] w (Gives w (.int .u16 (costR c t))) := by
  have HX : Hid (costR c t = if c.on = false ∨ t ≤ c.mi then 0 else if c.ma ≤ t then c.co else c.co * (t - c.mi) / (c.ma - c.mi)) := rfl
  generalize costR c t = X at *
  obtain ⟨on, mi, ma, co, de⟩ := c
  dsimp only at m0 m3 c0 c1 HX ⊢
  have HB := alloc_b w (.cells #[.bool on, .int .i64 mi, .int .i64 ma, .int .i64 co, .int .i64 de] 64)
  cases on with
  | false =>
    obtain rfl : X = 0 := by rw [HX.out, if_pos (.inl rfl)]
    go_enter Try.func40, Try.ntmps40
    go_wp2
    go_ret
    exact ⟨rfl, HB⟩
  | true =>
    by_cases h : t ≤ mi
    · obtain rfl : X = 0 := by rw [HX.out, if_pos (.inr h)]
      go_enter Try.func40, Try.ntmps40
      go_wp2
      go_ret
      exact ⟨rfl, HB⟩
    · have hn : ¬ (true = false ∨ t ≤ mi) := by simp; omega
      have h' : mi < t := by omega
      by_cases g : ma ≤ t
      · obtain rfl : X = co := by rw [HX.out, if_neg hn, if_pos g]
        have e1 : X % 65536 = X := by omega
        clear h hn HX
        go_enter Try.func40, Try.ntmps40
        go_wp2
        go_ret
        refine ⟨?_, HB⟩
        first | rfl | exact congrArg (fun z => Ending.returned (Value.int .u16 z)) e1 | exact congrArg (fun z => Ending.returned (Value.int .u16 z)) (wrap16_id X (by omega) (by omega))
      · obtain rfl : X = co * (t - mi) / (ma - mi) := by rw [HX.out, if_neg hn, if_neg g]
        have g' : t < ma := by omega
        obtain ⟨e1, e2, e3, e4, e5, e6, e7⟩ := cost_facts mi ma co t m0 h' g' m3 c0 c1
        have e8 : Hid (IntKind.u16.wrap (co * (t - mi) / (ma - mi)) = co * (t - mi) / (ma - mi)) := by have := cost_mid mi ma co t h' g' c0; exact wrap16_id _ this.1 (by omega)
        clear h g hn HX m0 m3 c0 c1
        go_enter Try.func40, Try.ntmps40
        go_wp2
        go_ret
        refine ⟨?_, HB⟩
        first | rfl | exact congrArg (fun z => Ending.returned (Value.int .u16 z)) e6 | exact congrArg (fun z => Ending.returned (Value.int .u16 z)) e8.out
end Go.Proofs.Ytacadlbhgelncaa.Rk

namespace Go.Proofs.Ytacadlbhgelncaa.Sq
open Go.RowKit
set_option linter.unusedSimpArgs false
theorem wrap16 (z : Int) : IntKind.u16.wrap z = z % 65536 := by simp [IntKind.wrap, IntKind.signed, IntKind.bits]
theorem w64 (z : Int) (h : -9223372036854775808 ≤ z) (h' : z ≤ 9223372036854775807) : wrap64 z = z := by
  unfold wrap64; omega
end Go.Proofs.Ytacadlbhgelncaa.Sq

namespace Go.Proofs.Ytacadlbhgelncaa
open Go.RowKit Go.Maps
set_option linter.unusedSimpArgs false
set_option maxRecDepth 20000
export Lk (Hi hcs hcs_one)
/-- A neighbour. -/
structure Ng where
  i : Int
  a : Ad
  m : Hi
  u : Hi
  mg : Int
  ug : Int
  ma : Int
  ua : Int
  tx : Int
  ta : Int
  se : Int
  he : Int
  hs : Bool
  rt : Int
  hr : Bool
def ntl (n : Ng) : List Value := [.int .i64 n.mg, .int .i64 n.ug, .int .i64 n.ma, .int .i64 n.ua, .int .u16 n.tx, .int .i64 n.ta, .int .u32 n.se, .int .i64 n.he, .bool n.hs, .int .i64 n.rt, .bool n.hr]
def ncs (n : Ng) : List Value := .int .i64 n.i :: (acells n.a ++ (hcs n.m ++ (hcs n.u ++ ntl n)))
theorem hcs_len (h : Hi) : (hcs h).length = 3 := rfl
theorem ncs_len (n : Ng) : (ncs n).length = 34 := by simp [ncs, acells_len, hcs_len, ntl]
theorem ncs_one (n : Ng) : ∀ u ∈ ncs n, u.oneCell' = true := by
  intro u hu
  simp only [ncs, List.mem_cons, List.mem_append] at hu
  rcases hu with rfl | h | h | h | h
  · rfl
  · exact acells_one _ u h
  · exact hcs_one _ u h
  · exact hcs_one _ u h
  · simp [ntl] at h
    rcases h with rfl | rfl | rfl | rfl | rfl | rfl | rfl | rfl | rfl | rfl | rfl <;> rfl
def zeroN : Ng := ⟨0, zeroA, ⟨0, 0, false⟩, ⟨0, 0, false⟩, 0, 0, 0, 0, 0, 0, 0, 0, false, 0, false⟩
def newN (i : Int) (a : Ad) : Ng := ⟨i, a, ⟨0, 0, false⟩, ⟨0, 0, false⟩, 0, 0, 0, 0, 65535, 0, 0, 0, false, 0, false⟩
theorem infoNs : (Try.prog.info? 55).map (·.size) = some 34 := by kernel_rfl
theorem infoNz : (Try.prog.info? 55).map (·.zero) = some (some (.agg (ncs zeroN).toArray)) := by kernel_rfl
theorem zeroNv (w : World) : (zeroValue 55).run Try.prog w = .ok (.agg (ncs zeroN).toArray) w := by kernel_rfl
theorem bdN0 (w : World) : (Instr.build 55 #[]).run Try.prog w = .ok (.agg (ncs zeroN).toArray) w := by kernel_rfl
theorem bdNn (i : Int) (c : Ad) (w : World) : (Instr.build 55 #[(0, .int .i64 i), (1, (Value.agg (acells c).toArray)), (8, .int .u16 65535)]).run Try.prog w = .ok (.agg (ncs (newN i c)).toArray) w := by
  obtain ⟨l, hl⟩ := c
  match l, hl with
  | [b0, b1, b2, b3, b4, b5, b6, b7, b8, b9, b10, b11, b12, b13, b14, b15], _ =>
    show _ = _
    kernel_rfl
/-- A key: an interface and an address. -/
def kcs (i : Int) (a : Ad) : List Value := .int .i64 i :: acells a
theorem kcs_len (i : Int) (a : Ad) : (kcs i a).length = 17 := by simp [kcs, acells_len]
theorem kcs_one (i : Int) (a : Ad) : ∀ u ∈ kcs i a, u.oneCell' = true := by
  intro u hu
  simp only [kcs, List.mem_cons] at hu
  rcases hu with rfl | h
  · rfl
  · exact acells_one _ u h
theorem bdK (i : Int) (c : Ad) (w : World) : (Instr.build 85 #[(0, .int .i64 i), (1, (Value.agg (acells c).toArray))]).run Try.prog w = .ok (.agg (kcs i c).toArray) w := by
  obtain ⟨l, hl⟩ := c
  match l, hl with
  | [b0, b1, b2, b3, b4, b5, b6, b7, b8, b9, b10, b11, b12, b13, b14, b15], _ =>
    show _ = _
    kernel_rfl
theorem infoKs : (Try.prog.info? 85).map (·.size) = some 17 := by kernel_rfl
theorem infoKz : (Try.prog.info? 85).map (·.zero) = some (some (.agg (kcs 0 zeroA).toArray)) := by kernel_rfl
/-! ### The cells of a neighbour -/
theorem ncs_at (n : Ng) : (ncs n)[0]? = some (.int .i64 n.i) ∧ (ncs n)[17]? = some (.int .u16 n.m.b) ∧ (ncs n)[20]? = some (.int .u16 n.u.b) ∧ (ncs n)[23]? = some (.int .i64 n.mg) ∧ (ncs n)[24]? = some (.int .i64 n.ug) ∧ (ncs n)[25]? = some (.int .i64 n.ma) ∧ (ncs n)[26]? = some (.int .i64 n.ua) ∧ (ncs n)[27]? = some (.int .u16 n.tx) ∧ (ncs n)[28]? = some (.int .i64 n.ta) ∧ (ncs n)[29]? = some (.int .u32 n.se) ∧ (ncs n)[30]? = some (.int .i64 n.he) ∧ (ncs n)[31]? = some (.bool n.hs) ∧ (ncs n)[32]? = some (.int .i64 n.rt) ∧ (ncs n)[33]? = some (.bool n.hr) := by
  obtain ⟨i, ⟨l, hl⟩, m, u, mg, ug, ma, ua, tx, ta, se, he, hs, rt, hr⟩ := n
  match l, hl with
  | [b0, b1, b2, b3, b4, b5, b6, b7, b8, b9, b10, b11, b12, b13, b14, b15], _ =>
    exact ⟨rfl, rfl, rfl, rfl, rfl, rfl, rfl, rfl, rfl, rfl, rfl, rfl, rfl, rfl⟩
theorem ncs_set (n : Ng) : (∀ v, (ncs n).set 23 (.int .i64 v) = ncs { n with mg := v }) ∧ (∀ v, (ncs n).set 24 (.int .i64 v) = ncs { n with ug := v }) ∧ (∀ v, (ncs n).set 25 (.int .i64 v) = ncs { n with ma := v }) ∧ (∀ v, (ncs n).set 26 (.int .i64 v) = ncs { n with ua := v }) ∧ (∀ v, (ncs n).set 27 (.int .u16 v) = ncs { n with tx := v }) ∧ (∀ v, (ncs n).set 28 (.int .i64 v) = ncs { n with ta := v }) ∧ (∀ v, (ncs n).set 29 (.int .u32 v) = ncs { n with se := v }) ∧ (∀ v, (ncs n).set 30 (.int .i64 v) = ncs { n with he := v }) ∧ (∀ v, (ncs n).set 31 (.bool v) = ncs { n with hs := v }) ∧ (∀ v, (ncs n).set 32 (.int .i64 v) = ncs { n with rt := v }) ∧ (∀ v, (ncs n).set 33 (.bool v) = ncs { n with hr := v }) := by
  obtain ⟨i, ⟨l, hl⟩, m, u, mg, ug, ma, ua, tx, ta, se, he, hs, rt, hr⟩ := n
  match l, hl with
  | [b0, b1, b2, b3, b4, b5, b6, b7, b8, b9, b10, b11, b12, b13, b14, b15], _ =>
    exact ⟨fun _ => rfl, fun _ => rfl, fun _ => rfl, fun _ => rfl, fun _ => rfl, fun _ => rfl, fun _ => rfl, fun _ => rfl, fun _ => rfl, fun _ => rfl, fun _ => rfl⟩
theorem Row.nA {w : World} {g : Nat} {t : TypeId} {n : Ng} (h : Row w g t (ncs n)) : LA w g 1 n.a := by
  have h1 : w.rangeAt g 0 ([.int .i64 n.i] ++ (acells n.a ++ (hcs n.m ++ (hcs n.u ++ ntl n)))) := h.range
  exact rangeAt_left (rangeAt_right h1 rfl)
theorem Row.nM {w : World} {g : Nat} {t : TypeId} {n : Ng} (h : Row w g t (ncs n)) : w.rangeAt g 17 (hcs n.m) := by
  have h1 : w.rangeAt g 0 ((.int .i64 n.i :: acells n.a) ++ (hcs n.m ++ (hcs n.u ++ ntl n))) := h.range
  exact rangeAt_left (by simpa using rangeAt_right h1 (k := 17) (by simp [acells_len]))
theorem Row.nU {w : World} {g : Nat} {t : TypeId} {n : Ng} (h : Row w g t (ncs n)) : w.rangeAt g 20 (hcs n.u) := by
  have h1 : w.rangeAt g 0 ((.int .i64 n.i :: (acells n.a ++ hcs n.m)) ++ (hcs n.u ++ ntl n)) := by simpa [ncs] using h.range
  exact rangeAt_left (by simpa using rangeAt_right h1 (k := 20) (by simp [acells_len, hcs_len]))
theorem Row.sM {w : World} {g : Nat} {t : TypeId} {n : Ng} (h : Row w g t (ncs n)) (c : Hi) : Row (w.setCells g 17 (hcs c)) g t (ncs { n with m := c }) := by
  have := Row.setMid (hcs c) (.int .i64 n.i :: acells n.a) (hcs n.m) (hcs n.u ++ ntl n) w h rfl
  rw [show (Value.int .i64 n.i :: acells n.a).length = 17 by simp [acells_len]] at this
  exact this
theorem Row.sU {w : World} {g : Nat} {t : TypeId} {n : Ng} (h : Row w g t (ncs n)) (c : Hi) : Row (w.setCells g 20 (hcs c)) g t (ncs { n with u := c }) := by
  have := Row.setMid (hcs c) (.int .i64 n.i :: (acells n.a ++ hcs n.m)) (hcs n.u) (ntl n) w (by simpa [ncs] using h) rfl
  rw [show (Value.int .i64 n.i :: (acells n.a ++ hcs n.m)).length = 20 by simp [acells_len, hcs_len]] at this
  simpa [ncs, ntl] using this
/-! ### Loads, stores -/
section
variable {ops : Array Oper} {rest : List Oper} {op : Oper} {a : Act} {w : World} {Q : Exit → Act → World → Prop} {K : Act → World → Prop} {E : Prop} {S : World → Prop}
theorem ldN (x : Operand) (hw : Region.wanted op (yielded ops a.tmps) = true) (ho : op.op = .load 55 x) (b o : Nat) (n : Ng) (hx : a.eval x = .pointer (some ⟨b, o, none⟩)) (hc : w.rangeAt b o (ncs n))
    (h : wpList Try.prog ops Q rest (a.put op.dst (.agg (ncs n).toArray)) w) : wpList Try.prog ops Q (op :: rest) a w :=
  wpList_step fun K hK => by
    rw [if_pos hw]
    exact wp_load_mid _ x ho b o hx (ncs n) _ hc Try.underlying55 rfl (by rw [infoNs, ncs_len]) (hK _ _ h)
theorem yN {b o : Nat} {x : Operand} (n : Ng) (hS : ∀ w, S w → w.rangeAt b o (ncs n)) (hw : Region.wanted op (yielded ops a.tmps) = true) (ho : op.op = .load 55 x) (hx : a.eval x = .pointer (some ⟨b, o, none⟩)) : YieldsIf Try.prog ops S op (.agg (ncs n).toArray) a :=
  yieldsIf_load_mid hw _ x ho b o hx (ncs n) _ hS Try.underlying55 rfl (by rw [infoNs, ncs_len])
theorem stN (x y : Operand) (hw : Region.wanted op (yielded ops a.tmps) = true) (ho : op.op = .store 55 x y) (b : Nat) (n u : Ng) (hx : a.eval x = .pointer (some ⟨b, 0, none⟩)) (hy : a.eval y = .agg (ncs n).toArray) (hr : Row w b 55 (ncs u))
    (h : ∀ W, w.grownBy W (some b) → Row W b 55 (ncs n) → wpList Try.prog ops Q rest (a.put op.dst undef) W) : wpList Try.prog ops Q (op :: rest) a w :=
  wpList_step fun K hK => by
    rw [if_pos hw]
    refine wp_store_mid _ x y ho b 0 _ hx hy (by simpa [ncs_len] using hr.there (n := 34) (by rw [ncs_len]; omega)) (by rw [infoNs]; simp [ncs_len]) (all_oneCell_toArray (ncs_one n)) (hK _ _ (h _ (grownBy_setCells b _ _ _) ?_))
    have := Row.setCells (ncs n) [] w (ncs u) hr (by rw [ncs_len, ncs_len])
    simpa using this
theorem stK (x y : Operand) (hw : Region.wanted op (yielded ops a.tmps) = true) (ho : op.op = .store 85 x y) (b : Nat) (i : Int) (c : Ad) (j : Int) (d : Ad) (hx : a.eval x = .pointer (some ⟨b, 0, none⟩)) (hy : a.eval y = .agg (kcs i c).toArray) (hr : Row w b 85 (kcs j d))
    (h : ∀ W, w.grownBy W (some b) → Row W b 85 (kcs i c) → wpList Try.prog ops Q rest (a.put op.dst undef) W) : wpList Try.prog ops Q (op :: rest) a w :=
  wpList_step fun K hK => by
    rw [if_pos hw]
    refine wp_store_mid _ x y ho b 0 _ hx hy (by simpa [kcs_len] using hr.there (n := 17) (by rw [kcs_len]; omega)) (by rw [infoKs]; simp [kcs_len]) (all_oneCell_toArray (kcs_one i c)) (hK _ _ (h _ (grownBy_setCells b _ _ _) ?_))
    have := Row.setCells (kcs i c) [] w (kcs j d) hr (by rw [kcs_len, kcs_len])
    simpa using this
theorem ldH (x : Operand) (hw : Region.wanted op (yielded ops a.tmps) = true) (ho : op.op = .load 52 x) (b o : Nat) (c : Hi) (hx : a.eval x = .pointer (some ⟨b, o, none⟩)) (hc : w.rangeAt b o (hcs c))
    (h : wpList Try.prog ops Q rest (a.put op.dst (.agg #[.int .u16 c.b, .int .u16 c.n, .bool c.k])) w) : wpList Try.prog ops Q (op :: rest) a w := Lk.ldH x hw ho b o c hx hc h
theorem stH (x y : Operand) (hw : Region.wanted op (yielded ops a.tmps) = true) (ho : op.op = .store 52 x y) (b o : Nat) (c : Hi) (hx : a.eval x = .pointer (some ⟨b, o, none⟩)) (hy : a.eval y = .agg #[.int .u16 c.b, .int .u16 c.n, .bool c.k]) (ht : w.there b o 3)
    (h : wpList Try.prog ops Q rest (a.put op.dst undef) (w.setCells b o (hcs c))) : wpList Try.prog ops Q (op :: rest) a w :=
  wpList_step fun K hK => by
    rw [if_pos hw]
    exact wp_store_mid _ x y ho b o _ hx hy ht (by rw [Lk.infoH]; rfl) (all_oneCell_toArray (hcs_one c)) (hK _ _ h)
end
theorem lvN {w : World} {g : Nat} {n : Ng} (h : Row w g 55 (ncs n)) : (loadVar 55 ⟨g, 0, none⟩).run Try.prog w = .ok (.agg (ncs n).toArray) w :=
  run_loadVar_mid w g 0 _ (ncs n) _ h.range Try.underlying55 rfl (by rw [infoNs, ncs_len])
theorem lvK {w : World} {g : Nat} {i : Int} {c : Ad} (h : Row w g 85 (kcs i c)) : (loadVar 85 ⟨g, 0, none⟩).run Try.prog w = .ok (.agg (kcs i c).toArray) w :=
  run_loadVar_mid w g 0 _ (kcs i c) _ h.range Try.underlying85 rfl (by rw [infoKs, kcs_len])
/-! ### Keys -/
theorem keyLaw : Keyed Try.prog 85 := Keyed.of_law (deep_law_laid (m := 3) (by kernel_rfl) (by omega) (of_decide_eq_true (by kernel_rfl)) (by kernel_rfl) (by kernel_rfl))
theorem wf_u8 (b : UInt8) : (Lit.int .u8 (b.toNat : Int)).wf = true := by
  have := b.toNat_lt
  simp [Lit.wf, IntKind.min, IntKind.max, IntKind.signed, IntKind.bits]
  omega
theorem key_some (i : Int) (c : Ad) (hi : (Lit.int .i64 i).wf = true) : ∃ l, keyOf Try.prog 85 (.agg (kcs i c).toArray) = some l := by
  have k3 : ∀ d, Try.prog.keyLits (d + 1) 3 [.int .i64 i] = some [.int .i64 i] := fun d => by simp [Program.keyLits, Try.underlying3, hi]
  have k8 : ∀ d (b : UInt8), Try.prog.keyLits (d + 1) 5 [.int .u8 (b.toNat : Int)] = some [.int .u8 b.toNat] := fun d b => by simp [Program.keyLits, Try.underlying5, wf_u8]
  have c8 : Try.prog.cellsOf 5 = 1 := by kernel_rfl
  have cA : Try.prog.cellsOf 29 = 16 := by kernel_rfl
  have cI : Try.prog.cellsOf 3 = 1 := by kernel_rfl
  have cK : Try.prog.cellsOf 85 = 17 := by kernel_rfl
  have kt : Try.prog.keyType 85 = true := by kernel_rfl
  have sz : 2 ≤ Try.prog.types.size := of_decide_eq_true (by kernel_rfl)
  obtain ⟨d, hd⟩ : ∃ d, Try.prog.types.size + 1 = d + 3 := ⟨Try.prog.types.size - 2, by omega⟩
  have kA : ∃ ls, Try.prog.keyLits (d + 2) 29 (acells c) = some ls := by
    obtain ⟨l, hl⟩ := c
    match l, hl with
    | [b0, b1, b2, b3, b4, b5, b6, b7, b8, b9, b10, b11, b12, b13, b14, b15], _ =>
      unfold Program.keyLits
      simp [Try.underlying29, acells, bcells, cA, c8, k8, List.range, List.range.loop]
  obtain ⟨ls, hA⟩ := kA
  unfold keyOf
  rw [Try.underlying85, hd]
  simp only [kt, Value.formed, Try.underlying85, cK, Bool.true_and, Value.cells]
  unfold Program.keyLits
  simp [Try.underlying85, cK, cI, cA, kcs_len, kcs, k3, acells_len, hA, List.take_of_length_le]
end Go.Proofs.Ytacadlbhgelncaa

namespace Go.Proofs.Ytacadlbhgelncaa
open Go.RowKit Go.Maps
set_option linter.unusedSimpArgs false
set_option maxRecDepth 20000
/-- Every value reads as itself. -/
def elV (v : Value) : Option (DataW Value × List MemPlace) := some (.held v, [])
theorem elV_inv {v u : Value} {ps : List MemPlace} (h : elV v = some (.held u, ps)) : v = u := by
  unfold elV at h; simp at h; exact h.1
def wfI (i : Int) : Prop := (Lit.int .i64 i).wf = true
open Classical in
noncomputable def kl (i : Int) (c : Ad) : Lit := if h : (Lit.int .i64 i).wf = true then Classical.choose (key_some i c h) else .bool false
theorem kl_of {i : Int} (c : Ad) (h : wfI i) : keyOf Try.prog 85 (.agg (kcs i c).toArray) = some (kl i c) := by
  unfold kl
  rw [dif_pos (show (Lit.int .i64 i).wf = true from h)]
  exact Classical.choose_spec (key_some i c h)
theorem acells_inj {a b : Ad} (h : acells a = acells b) : a = b := by
  apply Ad.ext
  unfold acells bcells at h
  apply List.ext_getElem (by rw [a.len, b.len])
  intro j h1 h2
  have := congrArg (fun l => l[j]?) h
  simp [h1, h2] at this
  exact UInt8.toNat_inj.1 (by omega)
theorem kl_inj {i j : Int} {c d : Ad} (hi : wfI i) (hj : wfI j) (h : kl i c = kl j d) : i = j ∧ c = d := by
  have e := keyLaw.inj (kl_of c hi) (h ▸ kl_of d hj)
  have e' := congrArg Array.toList (Value.agg.inj e)
  simp only [kcs, List.cons.injEq, Value.int.injEq, true_and] at e'
  exact ⟨e'.1, acells_inj e'.2⟩
theorem kl_key {i : Int} (c : Ad) (hi : wfI i) : WideAt.IsKeyLit (kl i c) := keyLaw.key (kl_of c hi)
/-- Of one key. -/
def keyB (i : Int) (c : Ad) (m : Ng) : Bool := decide (m.i = i) && decide (m.a.l = c.l)
theorem keyB_iff {i : Int} {c : Ad} {m : Ng} : keyB i c m = true ↔ m.i = i ∧ m.a = c := by
  unfold keyB
  simp only [Bool.and_eq_true, decide_eq_true_eq]
  exact ⟨fun ⟨h1, h2⟩ => ⟨h1, Ad.ext h2⟩, fun ⟨h1, h2⟩ => ⟨h1, by rw [h2]⟩⟩
def keyN (n : Ng) : Int × List UInt8 := (n.i, n.a.l)
theorem keyN_iff {n m : Ng} : keyN m = keyN n ↔ keyB n.i n.a m = true := by
  rw [keyB_iff]
  unfold keyN
  simp only [Prod.mk.injEq]
  exact ⟨fun ⟨h1, h2⟩ => ⟨h1, Ad.ext h2⟩, fun ⟨h1, h2⟩ => ⟨h1, by rw [h2]⟩⟩
/-- One is kept in place of what was kept of it. -/
def putN (L : List Ng) (n : Ng) : List Ng := if L.any (keyB n.i n.a) then L.map (fun m => if keyB n.i n.a m then n else m) else L ++ [n]
theorem mem_putN {L : List Ng} {n x : Ng} : x ∈ putN L n ↔ x = n ∨ (x ∈ L ∧ keyB n.i n.a x = false) := by
  unfold putN
  split
  · rename_i h
    obtain ⟨y, hy, hk⟩ := List.any_eq_true.1 h
    rw [List.mem_map]
    constructor
    · rintro ⟨m, hm, rfl⟩
      cases hb : keyB n.i n.a m
      · exact .inr (by simp [hb, hm])
      · simp [hb]
    · rintro (rfl | ⟨h1, h2⟩)
      · exact ⟨y, hy, by simp [hk]⟩
      · exact ⟨x, h1, by simp [h2]⟩
  · rename_i h
    rw [List.mem_append]
    constructor
    · rintro (h1 | h1)
      · refine .inr ⟨h1, ?_⟩
        cases hb : keyB n.i n.a x
        · rfl
        · exact absurd (List.any_eq_true.2 ⟨x, h1, hb⟩) h
      · simp at h1; exact .inl h1
    · rintro (rfl | ⟨h1, h2⟩)
      · exact .inr (by simp)
      · exact .inl h1
theorem putN_len {L : List Ng} {n : Ng} : (putN L n).length = if L.any (keyB n.i n.a) then L.length else L.length + 1 := by
  unfold putN
  split <;> simp
theorem putN_nd {L : List Ng} {n : Ng} (h : (L.map keyN).Nodup) : ((putN L n).map keyN).Nodup := by
  unfold putN
  split
  · have e : (L.map (fun m => if keyB n.i n.a m then n else m)).map keyN = L.map keyN := by
      rw [List.map_map]
      apply List.map_congr_left
      intro m _
      simp only [Function.comp_def]
      split
      · rename_i hb; exact (keyN_iff.2 hb).symm
      · rfl
    rw [e]; exact h
  · rename_i hn
    rw [List.map_append, List.nodup_append]
    refine ⟨h, by simp, ?_⟩
    intro a ha b hb
    obtain ⟨m, hm, rfl⟩ := List.mem_map.1 ha
    simp at hb
    subst hb
    intro e
    exact hn (List.any_eq_true.2 ⟨m, hm, keyN_iff.1 e⟩)
/-- The map leads from just these keys to these neighbours. -/
structure Mp (w : World) (mb : Nat) (L : List Ng) : Prop where
  nd : (L.map keyN).Nodup
  wf : ∀ n ∈ L, wfI n.i
  ex : ∃ D : DataW Value, w.ownsMap Try.prog 85 elV mb L.length D ∧ size D = L.length ∧ (∀ l : Lit, has D l = true ↔ ∃ n ∈ L, kl n.i n.a = l) ∧ ∀ n ∈ L, ∀ z, D.atKey (kl n.i n.a) z = .held (.agg (ncs n).toArray)
theorem tight {w : World} {b n : Nat} {D : DataW Value} (h : w.ownsMap Try.prog 85 elV b n D) : w.ownsMap Try.prog 85 elV b (size D) D := by
  obtain ⟨es, clock, hb, F, hs, rfl⟩ := h
  exact ⟨es, clock, hb, F, by simp [size, length_sorted], rfl⟩
theorem Mp.obj {w : World} {mb : Nat} {L : List Ng} (h : Mp w mb L) : ∃ es cl, w.heap[mb]? = some (.map es cl) := by
  obtain ⟨D, ⟨es, clock, hb, _⟩, _⟩ := h.ex
  exact ⟨es, clock, hb⟩
theorem Mp.lt {w : World} {mb : Nat} {L : List Ng} (h : Mp w mb L) : mb < w.heap.size := by
  obtain ⟨es, cl, h⟩ := h.obj
  exact (Array.getElem?_eq_some_iff.1 h).1
theorem Mp.same {w w' : World} {mb : Nat} {L : List Ng} (h : Mp w mb L) (hb : w'.heap[mb]? = w.heap[mb]?) : Mp w' mb L := by
  obtain ⟨D, ⟨es, clock, h1, h5⟩, h2, h3, h4⟩ := h.ex
  exact ⟨h.nd, h.wf, D, ⟨es, clock, hb.trans h1, h5⟩, h2, h3, h4⟩
theorem Mp.below {w w' : World} {mb B : Nat} {L : List Ng} (h : Mp w mb L) (hb : Below B w w') (hlt : mb < B) : Mp w' mb L := h.same (hb.block mb hlt)
theorem Mp.keep {w w' : World} {mb b : Nat} {L : List Ng} (h : Mp w mb L) (hg : w.grownBy w' (some b)) (hne : mb ≠ b) : Mp w' mb L := h.same (hg.block mb h.lt (fun e => hne (by cases e; rfl)))
theorem Mp.ne_row {w : World} {mb g : Nat} {L : List Ng} {t : TypeId} {cs : List Value} (h : Mp w mb L) (hr : Row w g t cs) : g ≠ mb := by
  obtain ⟨es, cl, h⟩ := h.obj
  intro e
  unfold Row at hr
  rw [e, h] at hr
  cases hr
theorem Mp.new (w : World) : Mp (w.alloc (.map #[] 0)) w.heap.size [] :=
  ⟨by simp, by simp, .map [], World.ownsMap_made w _ _ _, rfl, fun l => by simp [has_eq], by simp⟩
/-- What is found at a key. -/
def getN (L : List Ng) (i : Int) (c : Ad) : Option Ng := L.find? (keyB i c)
theorem getN_some {L : List Ng} {i : Int} {c : Ad} {n : Ng} (h : getN L i c = some n) : n ∈ L ∧ n.i = i ∧ n.a = c := by
  have h1 := List.find?_some h
  exact ⟨List.mem_of_find?_eq_some h, (keyB_iff.1 h1).1, (keyB_iff.1 h1).2⟩
theorem getN_none {L : List Ng} {i : Int} {c : Ad} (h : getN L i c = none) : ∀ n ∈ L, keyB i c n = false := by
  intro n hn
  have := List.find?_eq_none.1 h n hn
  simpa using this
def getV (o : Option Ng) : Value := .tuple #[.agg (ncs (o.getD zeroN)).toArray, .bool o.isSome]
theorem Mp.look {w : World} {mb : Nat} {L : List Ng} (h : Mp w mb L) {i : Int} (hi : wfI i) (c : Ad) : (Instr.lookup 74 (.map (some mb)) (.agg (kcs i c).toArray) true).run Try.prog w = .ok (getV (getN L i c)) w := by
  obtain ⟨D, h1, _, h3, h4⟩ := h.ex
  obtain ⟨v, ps, hr, hv⟩ := h1.look_ok keyLaw Try.underlying74 (zeroNv w) rfl (kl_of c hi)
  cases hg : getN L i c with
  | some n =>
    obtain ⟨hn, e1, e2⟩ := getN_some hg
    have hh := (h3 (kl i c)).2 ⟨n, hn, by rw [e1, e2]⟩
    have ha := h4 n hn
    rw [e1, e2] at ha
    rw [ha] at hv
    rw [hh, elV_inv hv] at hr
    exact hr
  | none =>
    have hf : has D (kl i c) = false := by
      cases hc : has D (kl i c) with
      | false => rfl
      | true =>
        obtain ⟨n, hn, e⟩ := (h3 _).1 hc
        obtain ⟨e1, e2⟩ := kl_inj (h.wf n hn) hi e
        have := getN_none hg n hn
        rw [keyB_iff.2 ⟨e1, e2⟩] at this
        cases this
    rw [atKey_of_not_has hf] at hv
    rw [hf, elV_inv hv] at hr
    exact hr
theorem Mp.len {w : World} {mb : Nat} {L : List Ng} (h : Mp w mb L) (ty : TypeId) : (Builtin.len_ #[74] ty #[.map (some mb)]).run Try.prog w = .ok (.int .i64 (L.length : Nat)) w := by
  obtain ⟨D, h1, h2, _⟩ := h.ex
  rw [← h2]
  exact h1.len Try.underlying74 ty
theorem Mp.put {w : World} {mb : Nat} {L : List Ng} (h : Mp w mb L) (n : Ng) (hi : wfI n.i) (hl : L.length < maxLen) : ∃ w', (Instr.mapUpdate 74 (.map (some mb)) (.agg (kcs n.i n.a).toArray) (.agg (ncs n).toArray)).run Try.prog w = .ok () w' ∧ Mp w' mb (putN L n) ∧ w.grownBy w' (some mb) := by
  obtain ⟨D, h1, h2, h3, h4⟩ := h.ex
  obtain ⟨w', hr, hw, ht⟩ := h1.store keyLaw Try.underlying74 hl (val := .agg (ncs n).toArray) (kl_of n.a hi) rfl
  refine ⟨w', hr, ?_, ht.grown⟩
  have ti := h1.tidy keyLaw
  have hh : has D (kl n.i n.a) = L.any (keyB n.i n.a) := by
    rw [Bool.eq_iff_iff, h3, List.any_eq_true]
    constructor
    · rintro ⟨m, hm, e⟩
      exact ⟨m, hm, keyB_iff.2 (kl_inj (h.wf m hm) hi e)⟩
    · rintro ⟨m, hm, e⟩
      obtain ⟨e1, e2⟩ := keyB_iff.1 e
      exact ⟨m, hm, by rw [e1, e2]⟩
  have hsz : size (D.put (kl n.i n.a) (.held (.agg (ncs n).toArray))) = (putN L n).length := by
    rw [size_put ti, hh, putN_len, h2]
  refine ⟨putN_nd h.nd, ?_, _, (by rw [← hsz]; exact tight hw), hsz, ?_, ?_⟩
  · intro x hx
    rcases mem_putN.1 hx with rfl | ⟨hx, _⟩
    · exact hi
    · exact h.wf x hx
  · intro l
    by_cases e : l = kl n.i n.a
    · subst e
      rw [has_put_same ti.isMap (kl_key _ hi)]
      exact ⟨fun _ => ⟨n, mem_putN.2 (.inl rfl), rfl⟩, fun _ => rfl⟩
    · rw [has_put_other e, h3]
      constructor
      · rintro ⟨m, hm, rfl⟩
        refine ⟨m, mem_putN.2 (.inr ⟨hm, ?_⟩), rfl⟩
        cases hb : keyB n.i n.a m
        · rfl
        · obtain ⟨e1, e2⟩ := keyB_iff.1 hb
          exact absurd (by rw [e1, e2]) e
      · rintro ⟨m, hm, rfl⟩
        rcases mem_putN.1 hm with rfl | ⟨hm, _⟩
        · exact absurd rfl e
        · exact ⟨m, hm, rfl⟩
  · intro m hm z
    rcases mem_putN.1 hm with rfl | ⟨hm, hb⟩
    · exact atKey_put_same ti.isMap (kl_key _ hi) _ _
    · rw [atKey_put_other]
      · exact h4 m hm z
      · intro e
        rw [keyB_iff.2 (kl_inj (h.wf m hm) hi e)] at hb
        cases hb
end Go.Proofs.Ytacadlbhgelncaa

namespace Go.Proofs.Ytacadlbhgelncaa
open Go.RowKit Go.Maps
set_option linter.unusedSimpArgs false
set_option linter.unusedVariables false
set_option maxRecDepth 20000
abbrev hV (h : Hi) : Value := .agg #[.int .u16 h.b, .int .u16 h.n, .bool h.k]
abbrev nV (n : Ng) : Value := .agg (ncs n).toArray
def awB (h : Hi) (g : Int) : Bool := (h.b != 0) && (g != 0)
theorem awaited_any (h : Hi) (g : Int) (w : World) : Calls Try.prog 58 #[hV h, .int .i64 g] w (Gives w (.bool (awB h g))) := by
  obtain ⟨b, m, k⟩ := h
  unfold awB
  dsimp only
  cases h1 : b != 0 with
  | false =>
    go_enter Try.func58, Try.ntmps58
    go_wp2
    go_ret
    exact ⟨by simp, ba _ _⟩
  | true =>
    cases h2 : g != 0 <;>
    · go_enter Try.func58, Try.ntmps58
      go_wp2
      go_ret
      exact ⟨by simp, ba _ _⟩
/-- A history whose hellos are missed until t. -/
def late : Nat → Hi → Int → Int → Int → Hi × Int
  | 0, h, _, a, _ => (h, a)
  | f + 1, h, g, a, t => if awB h g = true ∧ a ≤ t then late f (Lk.missH h 1) g (a + g) t else (h, a)
theorem late_stop {f : Nat} {h : Hi} {g a t : Int} (hn : ¬ (awB h g = true ∧ a ≤ t)) : late f h g a t = (h, a) := by
  cases f with
  | zero => rfl
  | succ f => rw [late, if_neg hn]
theorem late_step {f : Nat} {h : Hi} {g a t : Int} (hb : h.b < 2 ^ f) (h0 : 0 ≤ h.b) (hn : awB h g = true ∧ a ≤ t) : ∃ f', f = f' + 1 ∧ late f h g a t = late f' (Lk.missH h 1) g (a + g) t := by
  cases f with
  | zero =>
    have : h.b = 0 := by simp at hb; omega
    simp [awB, this] at hn
  | succ f => exact ⟨f, rfl, by rw [late, if_pos hn]⟩
theorem miss_half {h : Hi} (hk : h.k = true) : Lk.missH h 1 = ⟨h.b / 2, (h.n + 1) % 65536, true⟩ := by
  unfold Lk.missH
  rw [if_pos ⟨hk, by omega⟩]
  simp
theorem low_rows (w : World) (cs ds : List Value) (t u : TypeId) : Below w.heap.size w ((w.alloc (.cells cs.toArray t)).alloc (.cells ds.toArray u)) ∧ Row ((w.alloc (.cells cs.toArray t)).alloc (.cells ds.toArray u)) w.heap.size t cs ∧ Row ((w.alloc (.cells cs.toArray t)).alloc (.cells ds.toArray u)) (w.heap.size + 1) u ds := by
  have q1 := Row.new (w.alloc (.cells cs.toArray t)) u ds
  rw [World.size_alloc] at q1
  exact ⟨bt (ba _ _) (ba _ _), (Row.new w t cs).alloc _, q1⟩
set_option maxHeartbeats 2000000 in
theorem missed_any (h : Hi) (g a t : Int) (w : World) (ok : h.ok) (hk : h.b ≠ 0 → h.k = true) (g0 : 0 ≤ g) (g1 : g ≤ 655350) (a0 : -1125899906842624 ≤ a) (a1 : a ≤ 2251799813685248) (t1 : t ≤ 1125899906842624) :
    Calls Try.prog 49 #[hV h, .int .i64 g, .int .i64 a, .int .i64 t] w (Gives w (.tuple #[hV (late 16 h g a t).1, .int .i64 (late 16 h g a t).2])) := by
  have HR : Hid (∃ f, late f h g a t = late 16 h g a t ∧ h.b < 2 ^ f) := ⟨16, rfl, by have := ok.b1; omega⟩
  generalize late 16 h g a t = R at *
  go_enter Try.func49, Try.ntmps49
  go_wp2_with fail
  obtain ⟨hB, r0, r1⟩ := low_rows w (hcs h) (hcs ⟨0, 0, false⟩) 52 52
  refine name_world (R := fun W => Code.wp _ _ _ _ W) (P := fun W => Below w.heap.size w W ∧ Row W w.heap.size 52 (hcs h) ∧ Row W (w.heap.size + 1) 52 (hcs ⟨0, 0, false⟩)) _ ⟨hB, r0, r1⟩ ?_
  clear hB r0 r1
  rintro X ⟨hB, r0, r1⟩
  go_loopw [2] (fun v wr => ∃ (c : Hi) (z : Int), v = .int .i64 z ∧ Row wr w.heap.size 52 (hcs c) ∧ Row wr (w.heap.size + 1) 52 (hcs ⟨0, 0, false⟩) ∧ Below w.heap.size w wr ∧ (∃ f, late f c g z t = R ∧ c.b < 2 ^ f) ∧ c.ok ∧ (c.b ≠ 0 → c.k = true) ∧ -1125899906842624 ≤ z ∧ z ≤ 2251799813685248) (fun _ wr => match wr.cell? ⟨w.heap.size, 0, none⟩ with | some (.int .u16 b) => b.toNat | _ => 0)
  case atStart => exact ⟨h, a, rfl, r0, r1, hB, HR.out, ok, hk, a0, a1⟩
  case round =>
    obtain ⟨c, z, rfl, r2, r3, hB2, hf, okc, hkc, z0, z1⟩ := hrel
    have g4 : w.heap.size < wr.heap.size := r2.lt
    have g5 : w.heap.size + 1 < wr.heap.size := r3.lt
    by_cases hc : awB c g = true ∧ z ≤ t
    · have HA := awaited_any c g
      rw [hc.1] at HA
      have hzt := hc.2
      have hbn : c.b ≠ 0 := by
        have := hc.1
        intro e
        simp [awB, e] at this
      obtain ⟨f, hf1, hf2⟩ := hf
      obtain ⟨f', rfl, hf3⟩ := late_step hf2 okc.b0 hc
      have hm := miss_half (hkc hbn)
      have HM : Hid (Row wr w.heap.size 52 (hcs c) ∧ late f' (Lk.missH c 1) g (z + g) t = R ∧ (Lk.missH c 1).b < 2 ^ f' ∧ (Lk.missH c 1).ok ∧ ((Lk.missH c 1).b ≠ 0 → (Lk.missH c 1).k = true) ∧ (Lk.missH c 1).b.toNat < c.b.toNat ∧ -1125899906842624 ≤ z + g ∧ z + g ≤ 2251799813685248) := by
        have b0 := okc.b0
        have b1 := okc.b1
        refine ⟨r2, hf3 ▸ hf1, ?_, ?_, ?_, ?_, by omega, by omega⟩ <;> rw [hm] <;> try dsimp only
        · rw [Int.pow_succ] at hf2; omega
        · exact ⟨by show 0 ≤ c.b / 2; omega, by show c.b / 2 < 65536; omega, by show 0 ≤ (c.n + 1) % 65536; omega, by show (c.n + 1) % 65536 < 65536; omega⟩
        · intro _; rfl
        · omega
      have hz : wrap64 (z + g) = z + g := by unfold wrap64; omega
      clear hm hf1 hf2 hf3 okc hkc hc z0 z1 hbn a0 a1 t1 g0 g1 HR
      have HN := Lk.miss_any c 1
      generalize Lk.missH c 1 = d at *
      go_wp2_with (first
        | (have kk := hB3; refine stH (.tmp 4) (.tmp 19) rfl rfl _ _ d rfl rfl (r6.there (by simp [hcs])) ?_)
        | (have kk := hB1; go_at_call 68; refine (HN _).mono ?_; rintro e w3 ⟨rfl, hB3⟩; have r6 := r4.below hB3 g6; have r7 := r5.below hB3 g7)
        | (have kk := hB1; refine ldH (.tmp 4) rfl rfl _ _ c rfl r4.range ?_)
        | (go_at_call 58; refine (HA _).mono ?_; rintro e w1 ⟨rfl, hB1⟩; have r4 := r2.below hB1 g4; have r5 := r3.below hB1 g5; have g6 := r4.lt; have g7 := r5.lt)
        | (refine ldH (.tmp 4) rfl rfl _ _ c rfl r2.range ?_))
      obtain ⟨_, m1, m2, m3, m4, m5, m6, m7⟩ := HM.out
      have r8 := Row.setCells (hcs d) [] w3 (hcs c) r6 rfl
      have gb := grownBy_setCells w.heap.size (hcs d) 0 w3
      have r9 := r7.keep gb (by omega)
      have hB9 := grown_below gb (hB2.trans ((hB1.trans (hB3.mono hB1.size)).mono (by omega))) (Nat.le_refl _) (by have := hB1.size; have := hB3.size; omega)
      go_roundw
      case rel => exact ⟨d, z + g, rfl, r8, r9, hB9, ⟨f', m1, m2⟩, m3, m4, m6, m7⟩
      case measure =>
        have q1 : (w3.setCells w.heap.size 0 (hcs d)).cell? ⟨w.heap.size, 0, none⟩ = some (.int .u16 d.b) := r8.cell 0
        have q2 : wr.cell? ⟨w.heap.size, 0, none⟩ = some (.int .u16 c.b) := r2.cell 0
        rw [q1, q2]
        exact m5
    · have hs : late 16 c g z t = (c, z) := late_stop hc
      have hR : R = (c, z) := by obtain ⟨f, h1, _⟩ := hf; rw [← h1]; exact late_stop hc
      subst hR
      have HA := awaited_any c g
      clear hf okc hkc z0 z1 a0 a1 t1 g0 g1 HR hs
      cases hb : awB c g with
      | false =>
        rw [hb] at HA
        go_wp2_with (first
          | (have kk := r4; refine stH (.tmp 8) (.tmp 23) rfl rfl _ _ c rfl rfl (r5.there (by simp [hcs])) ?_)
          | (have kk := r4; refine ldH (.tmp 4) rfl rfl _ _ c rfl r4.range ?_)
          | (go_at_call 58; refine (HA _).mono ?_; rintro e w1 ⟨rfl, hB1⟩; have r4 := r2.below hB1 g4; have r5 := r3.below hB1 g5)
          | (refine ldH (.tmp 4) rfl rfl _ _ c rfl r2.range ?_))
        have r8 := Row.setCells (hcs c) [] w1 (hcs ⟨0, 0, false⟩) r5 rfl
        have gb := grownBy_setCells (w.heap.size + 1) (hcs c) 0 w1
        have hB9 := grown_below gb (hB2.trans (hB1.mono (by omega))) (by omega) (by have := hB1.size; omega)
        exact bodyPost_ret (retCT rfl _ _ 0 rfl (Lk.lvH (Lk.LH.range r8))) rfl ⟨rfl, hB9⟩
      | true =>
        have hzt : t < z := by
          have : ¬ z ≤ t := fun h => hc ⟨hb, h⟩
          omega
        rw [hb] at HA
        clear hc
        go_wp2_with (first
          | (have kk := r4; refine stH (.tmp 8) (.tmp 23) rfl rfl _ _ c rfl rfl (r5.there (by simp [hcs])) ?_)
          | (have kk := r4; refine ldH (.tmp 4) rfl rfl _ _ c rfl r4.range ?_)
          | (go_at_call 58; refine (HA _).mono ?_; rintro e w1 ⟨rfl, hB1⟩; have r4 := r2.below hB1 g4; have r5 := r3.below hB1 g5)
          | (refine ldH (.tmp 4) rfl rfl _ _ c rfl r2.range ?_))
        have r8 := Row.setCells (hcs c) [] w1 (hcs ⟨0, 0, false⟩) r5 rfl
        have gb := grownBy_setCells (w.heap.size + 1) (hcs c) 0 w1
        have hB9 := grown_below gb (hB2.trans (hB1.mono (by omega))) (by omega) (by have := hB1.size; omega)
        exact bodyPost_ret (retCT rfl _ _ 0 rfl (Lk.lvH (Lk.LH.range r8))) rfl ⟨rfl, hB9⟩
end Go.Proofs.Ytacadlbhgelncaa

namespace Go.Proofs.Ytacadlbhgelncaa
open Go.RowKit Go.Maps
set_option linter.unusedSimpArgs false
set_option linter.unusedVariables false
set_option maxRecDepth 20000
theorem nc17 (n : Ng) : (ncs n)[17]? = some (.int .u16 n.m.b) := (ncs_at n).2.1
theorem nc20 (n : Ng) : (ncs n)[20]? = some (.int .u16 n.u.b) := (ncs_at n).2.2.1
theorem nc23 (n : Ng) : (ncs n)[23]? = some (.int .i64 n.mg) := (ncs_at n).2.2.2.1
theorem nc24 (n : Ng) : (ncs n)[24]? = some (.int .i64 n.ug) := (ncs_at n).2.2.2.2.1
theorem nc25 (n : Ng) : (ncs n)[25]? = some (.int .i64 n.ma) := (ncs_at n).2.2.2.2.2.1
theorem nc26 (n : Ng) : (ncs n)[26]? = some (.int .i64 n.ua) := (ncs_at n).2.2.2.2.2.2.1
theorem nc27 (n : Ng) : (ncs n)[27]? = some (.int .u16 n.tx) := (ncs_at n).2.2.2.2.2.2.2.1
theorem nc28 (n : Ng) : (ncs n)[28]? = some (.int .i64 n.ta) := (ncs_at n).2.2.2.2.2.2.2.2.1
theorem nc33 (n : Ng) : (ncs n)[33]? = some (.bool n.hr) := (ncs_at n).2.2.2.2.2.2.2.2.2.2.2.2.2
theorem Row.s25 {w : World} {g : Nat} {t : TypeId} {n : Ng} (h : Row w g t (ncs n)) (v : Int) : Row (w.setCell ⟨g, 25, none⟩ (.int .i64 v)) g t (ncs { n with ma := v }) := (ncs_set n).2.2.1 v ▸ h.set 25 _
theorem Row.s26 {w : World} {g : Nat} {t : TypeId} {n : Ng} (h : Row w g t (ncs n)) (v : Int) : Row (w.setCell ⟨g, 26, none⟩ (.int .i64 v)) g t (ncs { n with ua := v }) := (ncs_set n).2.2.2.1 v ▸ h.set 26 _
theorem Row.s27 {w : World} {g : Nat} {t : TypeId} {n : Ng} (h : Row w g t (ncs n)) (v : Int) : Row (w.setCell ⟨g, 27, none⟩ (.int .u16 v)) g t (ncs { n with tx := v }) := (ncs_set n).2.2.2.2.1 v ▸ h.set 27 _
theorem stepRow {w W1 : World} {cs : List Value} {t : TypeId} (h : Below (w.alloc (.cells cs.toArray t)).heap.size (w.alloc (.cells cs.toArray t)) W1) : Below w.heap.size w W1 ∧ Row W1 w.heap.size t cs ∧ w.heap.size < W1.heap.size :=
  ⟨bt (ba _ _) h, (Row.new w t cs).below h (by simp), by have := h.size; simp at this; omega⟩
theorem keyOf_any (n : Ng) (w : World) : Calls Try.prog 28 #[nV n] w (Gives w (.agg (kcs n.i n.a).toArray)) := by
  go_enter Try.func28, Try.ntmps28
  go_upto_region 1 with (first
    | (refine alG infoKz rfl rfl ?_; intro g1 W1 hge hgl hB1 hr1))
  obtain ⟨hB, r0, hs⟩ := stepRow hB1
  have c0 := (r0.cell 0).trans (ncs_at n).1
  have hg : w.heap.size < g1 := by simp at hge; omega
  clear hB1 hge
  go_wp2_with (first
    | (refine ldA (.tmp 5) rfl rfl _ _ n.a rfl r0.nA ?_)
    | ((with_reducible refine bdG (T := 85) (v := .agg (kcs n.i n.a).toArray) [(0, .tmp 4), (1, .tmp 6)] ?_ ?_ ?_ ?_); (focus rfl); (focus rfl); (focus exact bdK n.i n.a _))
    | (refine stK (.tmp 2) (.tmp 7) rfl rfl g1 n.i n.a _ _ rfl rfl hr1 ?_; intro W2 hg2 hr2))
  exact bodyPost_ret (retC rfl _ _ 0 rfl (lvK hr2)) rfl ⟨rfl, grown_below hg2 hB (by omega) (by omega)⟩
/-- What may be of a neighbour. -/
structure Ng.ok (n : Ng) : Prop where
  mo : n.m.ok
  mj : n.m.b ≠ 0 → n.m.k = true
  uo : n.u.ok
  uj : n.u.b ≠ 0 → n.u.k = true
  mg0 : 0 ≤ n.mg
  mg1 : n.mg ≤ 655350
  ug0 : 0 ≤ n.ug
  ug1 : n.ug ≤ 655350
  ma0 : -1125899906842624 ≤ n.ma
  ma1 : n.ma ≤ 2251799813685248
  ua0 : -1125899906842624 ≤ n.ua
  ua1 : n.ua ≤ 2251799813685248
  tx0 : 0 ≤ n.tx
  tx1 : n.tx < 65536
  rt0 : 0 ≤ n.rt
  rt1 : n.rt ≤ 2147483648
def agedN (n : Ng) (t : Int) : Ng := { n with m := (late 16 n.m n.mg n.ma t).1, ma := (late 16 n.m n.mg n.ma t).2, u := (late 16 n.u n.ug n.ua t).1, ua := (late 16 n.u n.ug n.ua t).2, tx := if n.tx ≠ 65535 ∧ n.ta ≤ t then 65535 else n.tx }
set_option maxHeartbeats 2000000 in
theorem aged_any (n : Ng) (t : Int) (w : World) (ok : n.ok) (t1 : t ≤ 1125899906842624) : Calls Try.prog 27 #[nV n, .int .i64 t] w (Gives w (nV (agedN n t))) := by
  have HM := fun W => missed_any n.m n.mg n.ma t W ok.mo ok.mj ok.mg0 ok.mg1 ok.ma0 ok.ma1 t1
  have HU := fun W => missed_any n.u n.ug n.ua t W ok.uo ok.uj ok.ug0 ok.ug1 ok.ua0 ok.ua1 t1
  have HX : Hid (agedN n t = { n with m := (late 16 n.m n.mg n.ma t).1, ma := (late 16 n.m n.mg n.ma t).2, u := (late 16 n.u n.ug n.ua t).1, ua := (late 16 n.u n.ug n.ua t).2, tx := if n.tx ≠ 65535 ∧ n.ta ≤ t then 65535 else n.tx }) := rfl
  generalize agedN n t = X at *
  generalize late 16 n.m n.mg n.ma t = a at *
  generalize late 16 n.u n.ug n.ua t = b at *
  obtain ⟨a1, a2⟩ := a
  obtain ⟨b1, b2⟩ := b
  dsimp only at HM HU HX
  clear ok t1
  go_enter Try.func27, Try.ntmps27
  go_upto_region 1 with (first
    | (refine alG infoNz rfl rfl ?_; intro g1 W1 hge hgl hB1 hr1))
  obtain ⟨hB, r0, hs⟩ := stepRow hB1
  have hg : w.heap.size < g1 := by simp at hge; omega
  have hd : Hid (w.heap.size < g1) := hg
  clear hB1 hge
  have c23 := (r0.cell 23).trans (nc23 n)
  have c25 := (r0.cell 25).trans (nc25 n)
  go_upto_region 2 with (first
    | (have kk := hBm; refine stH (.tmp 16) (.tmp 14) rfl rfl _ _ a1 rfl rfl (r2.thereMid (by rw [ncs_len]; omega)) ?_; have r3 := r2.sM a1; have gb := grownBy_setCells w.heap.size (hcs a1) 17 wm; generalize hW3 : wm.setCells w.heap.size 17 (hcs a1) = W3 at *; clear hW3; have f25 := r3.frozen 25; have c25' := (r3.cell 25).trans (nc25 _))
    | (go_at_call 49; refine (HM _).mono ?_; rintro e wm ⟨rfl, hBm⟩; have r2 := r0.below hBm hs)
    | (refine ldH (.tmp 6) rfl rfl _ _ n.m rfl r0.nM ?_))
  have r4 := r3.s25 a2
  have gc := grownBy_setCell W3 w.heap.size 25 (.int .i64 a2)
  have gd := grownBy_trans gb gc
  have hr4 := (hr1.below hBm hgl).keep gd (by omega)
  have hB4 := grown_below gd (hB.trans (hBm.mono (by omega))) (Nat.le_refl _) (by have := hBm.size; omega)
  refine name_world (R := fun W => Code.wp _ _ _ _ W) (P := fun W => Row W w.heap.size 55 (ncs { n with m := a1, ma := a2 }) ∧ Row W g1 55 (ncs zeroN) ∧ Below w.heap.size w W) _ ⟨r4, hr4, hB4⟩ ?_
  clear r4 hr4 hB4 gd gc c25' f25 gb r3 r2 hBm c23 c25 r0 hB hr1 hs hgl
  rintro W5 ⟨r0, hr1, hB⟩
  have hs := r0.lt
  have hgl := hr1.lt
  have c24 := (r0.cell 24).trans (nc24 _)
  have c26 := (r0.cell 26).trans (nc26 _)
  go_upto_region 3 with (first
    | (have kk := hBm; refine stH (.tmp 29) (.tmp 27) rfl rfl _ _ b1 rfl rfl (r2.thereMid (by rw [ncs_len]; omega)) ?_; have r3 := r2.sU b1; have gb := grownBy_setCells w.heap.size (hcs b1) 20 wm; generalize hW3 : wm.setCells w.heap.size 20 (hcs b1) = W3 at *; clear hW3; have f26 := r3.frozen 26; have c26' := (r3.cell 26).trans (nc26 _))
    | (go_at_call 49; refine (HU _).mono ?_; rintro e wm ⟨rfl, hBm⟩; have r2 := r0.below hBm hs)
    | (refine ldH (.tmp 19) rfl rfl _ _ n.u rfl r0.nU ?_))
  have r4 := r3.s26 b2
  have gc := grownBy_setCell W3 w.heap.size 26 (.int .i64 b2)
  have gd := grownBy_trans gb gc
  have hr4 := (hr1.below hBm hgl).keep gd (by omega)
  have hB4 := grown_below gd (hB.trans (hBm.mono (by omega))) (Nat.le_refl _) (by have := hBm.size; omega)
  refine name_world (R := fun W => Code.wp _ _ _ _ W) (P := fun W => Row W w.heap.size 55 (ncs { n with m := a1, ma := a2, u := b1, ua := b2 }) ∧ Row W g1 55 (ncs zeroN) ∧ Below w.heap.size w W) _ ⟨r4, hr4, hB4⟩ ?_
  clear r4 hr4 hB4 gd gc c26' f26 gb r3 r2 hBm c24 c26 r0 hB hr1 hs hgl HM HU
  rintro W6 ⟨r0, hr1, hB⟩
  have hs := r0.lt
  have hgl := hr1.lt
  have c27 := (r0.cell 27).trans (nc27 _)
  have c28 := (r0.cell 28).trans (nc28 _)
  have f27 := r0.frozen 27
  dsimp only at c27 c28
  by_cases hx : n.tx = 65535
  · have hx' : (n.tx != 65535) = false := by simp [hx]
    have hX := HX.out
    rw [if_neg (by simp [hx])] at hX
    subst hX
    clear hx HX
    go_wp2_with (first
      | (refine ldN (.tmp 2) rfl rfl _ _ _ rfl r0.range ?_)
      | (refine stN (.tmp 4) (.tmp 41) rfl rfl g1 _ _ rfl rfl hr1 ?_; intro W2 hg2 hr2))
    exact bodyPost_ret (retC rfl _ _ 0 rfl (lvN hr2)) rfl ⟨rfl, grown_below hg2 hB (by omega) (by omega)⟩
  have hx' : (n.tx != 65535) = true := by simp [hx]
  by_cases hy : n.ta ≤ t
  · have hX := HX.out
    rw [if_pos ⟨hx, hy⟩] at hX
    subst hX
    have r1 := r0.s27 65535
    have gc := grownBy_setCell W6 w.heap.size 27 (.int .u16 65535)
    have hr2 := hr1.keep gc (by omega)
    have hB2 := grown_below gc hB (Nat.le_refl _) (by omega)
    have hs2 := r1.lt
    clear hx HX
    go_wp2_with (first
      | (refine ldN (.tmp 2) rfl rfl _ _ _ rfl r1.range ?_)
      | (refine stN (.tmp 4) (.tmp 41) rfl rfl g1 _ _ rfl rfl hr2 ?_; intro W2 hg2 hr3))
    exact bodyPost_ret (retC rfl _ _ 0 rfl (lvN hr3)) rfl ⟨rfl, grown_below hg2 hB2 (by omega) (by omega)⟩
  · have hX := HX.out
    rw [if_neg (fun h => hy h.2)] at hX
    subst hX
    have hy' : t < n.ta := by omega
    clear hx HX hy
    go_wp2_with (first
      | (refine ldN (.tmp 2) rfl rfl _ _ _ rfl r0.range ?_)
      | (refine stN (.tmp 4) (.tmp 41) rfl rfl g1 _ _ rfl rfl hr1 ?_; intro W2 hg2 hr2))
    exact bodyPost_ret (retC rfl _ _ 0 rfl (lvN hr2)) rfl ⟨rfl, grown_below hg2 hB (by omega) (by omega)⟩
end Go.Proofs.Ytacadlbhgelncaa

namespace Go.Proofs.Ytacadlbhgelncaa
open Go.RowKit Go.Maps
set_option linter.unusedSimpArgs false
set_option linter.unusedVariables false
set_option maxRecDepth 20000
export Rk (Rt rcs rtV)
/-- What of an interface has a part in costs. -/
structure Fc where
  k : Int
  c : Int
  r : Rt
def fcs (f : Fc) : List Value := [.int .i64 f.k, .int .u16 f.c, .bool f.r.on, .int .i64 f.r.mi, .int .i64 f.r.ma, .int .i64 f.r.co, .int .i64 f.r.de]
structure Fc.ok (f : Fc) : Prop where
  c0 : 0 ≤ f.c
  c1 : f.c < 65536
  ro : f.r.on = true → f.r.ok
theorem fcs_one (f : Fc) : ∀ u ∈ fcs f, u.oneCell' = true := by
  intro u hu
  simp [fcs] at hu
  rcases hu with rfl | rfl | rfl | rfl | rfl | rfl | rfl <;> rfl
theorem infoFs : (Try.prog.info? 79).map (·.size) = some 7 := by kernel_rfl
/-- Faces in memory: where a slice of them leads. -/
structure Fs (w : World) (ad : Option Addr) (l : List Fc) : Prop where
  lies : l = [] ∨ ∃ g o, ad = some ⟨g, o, none⟩ ∧ g < w.heap.size ∧ ∀ (j : Nat) (f : Fc), l[j]? = some f → w.rangeAt g (o + j * 7) (fcs f)
  obj : ∀ g o, ad = some ⟨g, o, none⟩ → ∃ cs T f, w.heap[g]? = some (.cells cs T f)
theorem Fs.below {w w' : World} {B : Nat} {ad : Option Addr} {l : List Fc} (h : Fs w ad l) (hb : Below B w w') (hB : ∀ g o, ad = some ⟨g, o, none⟩ → g < B) : Fs w' ad l :=
  ⟨h.lies.imp id fun ⟨g, o, e, hg, hl⟩ => ⟨g, o, e, Nat.lt_of_lt_of_le hg hb.size, fun j f hf => rangeAt_below (hl j f hf) hb (hB g o e)⟩, fun g o e => by
    obtain ⟨cs, T, f, h1⟩ := h.obj g o e
    exact ⟨cs, T, f, (hb.block g (hB g o e)).trans h1⟩⟩
theorem rangeAt_keep {w w' : World} {b g o : Nat} {cs : List Value} (h : w.rangeAt g o cs) (hg : w.grownBy w' (some b)) (hne : g ≠ b) (hlt : g < w.heap.size) : w'.rangeAt g o cs := fun j v hv => by
  have e := hg.block g hlt (fun e => hne (by cases e; rfl))
  have := h j v hv
  unfold World.cell? at *
  rw [e]
  exact this
theorem Fs.keep {w w' : World} {b : Nat} {ad : Option Addr} {l : List Fc} (h : Fs w ad l) (hg : w.grownBy w' (some b)) (hne : ∀ g o, ad = some ⟨g, o, none⟩ → g ≠ b) (hl : ∀ g o, ad = some ⟨g, o, none⟩ → g < w.heap.size) : Fs w' ad l :=
  ⟨h.lies.imp id fun ⟨g, o, e, hlt, hf⟩ => ⟨g, o, e, Nat.lt_of_lt_of_le hlt hg.size, fun j f hj => rangeAt_keep (hf j f hj) hg (hne g o e) hlt⟩, fun g o e => by
    obtain ⟨cs, T, f, h1⟩ := h.obj g o e
    exact ⟨cs, T, f, (hg.block g (hl g o e) (fun e' => hne g o e (by cases e'; rfl))).trans h1⟩⟩
/-- The table: its block, its map, how many it has room for, its interfaces, its neighbours. -/
structure Tb (w : World) (t mb : Nat) (most : Int) (F : List Fc) (L : List Ng) : Prop where
  ex : ∃ fa fc, Row w t 77 [.int .i64 most, .slice fa F.length fc, .map (some mb)] ∧ Fs w fa F
  map : Mp w mb L
  fok : ∀ f ∈ F, f.ok
  nok : ∀ n ∈ L, n.ok ∧ 0 ≤ n.i ∧ n.i < F.length ∧ (n.hr = true → ∀ f, F[n.i.toNat]? = some f → f.r.on = true)
  fl : F.length ≤ 1000000
  ll : L.length ≤ 1000000
theorem Fs.lt {w : World} {ad : Option Addr} {l : List Fc} (h : Fs w ad l) : ∀ g o, ad = some ⟨g, o, none⟩ → g < w.heap.size := fun g o e => by
  obtain ⟨cs, T, f, h1⟩ := h.obj g o e
  exact (Array.getElem?_eq_some_iff.1 h1).1
theorem Fs.ne_map {w : World} {ad : Option Addr} {l : List Fc} {mb : Nat} {L : List Ng} (h : Fs w ad l) (hm : Mp w mb L) : ∀ g o, ad = some ⟨g, o, none⟩ → g ≠ mb := fun g o e => by
  obtain ⟨cs, T, f, h1⟩ := h.obj g o e
  obtain ⟨es, cl, h2⟩ := hm.obj
  intro e'
  rw [e', h2] at h1
  cases h1
theorem Tb.lt {w : World} {t mb : Nat} {most : Int} {F : List Fc} {L : List Ng} (h : Tb w t mb most F L) : t < w.heap.size := by
  obtain ⟨fa, fc, hr, _⟩ := h.ex
  exact hr.lt
theorem Tb.below {w w' : World} {t mb : Nat} {most : Int} {F : List Fc} {L : List Ng} (h : Tb w t mb most F L) (hb : Below w.heap.size w w') : Tb w' t mb most F L := by
  obtain ⟨fa, fc, hr, hf⟩ := h.ex
  exact ⟨⟨fa, fc, hr.below hb hr.lt, hf.below hb hf.lt⟩, h.map.below hb h.map.lt, h.fok, h.nok, h.fl, h.ll⟩
/-- A block of the call's own is written. -/
theorem Tb.own {w w' W : World} {t mb g : Nat} {most : Int} {F : List Fc} {L : List Ng} (h : Tb w t mb most F L) (hb : Below w.heap.size w w') (hg : w'.grownBy W (some g)) (hge : w.heap.size ≤ g) : Tb W t mb most F L :=
  h.below (grown_below hg hb hge hb.size)
theorem Tb.turn {w w' : World} {t mb : Nat} {most : Int} {F : List Fc} {L L' : List Ng} (h : Tb w t mb most F L) (hm : Mp w' mb L') (hg : w.grownBy w' (some mb)) (hn : ∀ n ∈ L', n.ok ∧ 0 ≤ n.i ∧ n.i < F.length ∧ (n.hr = true → ∀ f, F[n.i.toNat]? = some f → f.r.on = true)) (hl : L'.length ≤ 1000000) : Tb w' t mb most F L' := by
  obtain ⟨fa, fc, hr, hf⟩ := h.ex
  exact ⟨⟨fa, fc, hr.keep hg (h.map.ne_row hr), hf.keep hg (hf.ne_map h.map) hf.lt⟩, hm, h.fok, hn, h.fl, hl⟩
section
variable {ops : Array Oper} {rest : List Oper} {op : Oper} {a : Act} {w : World} {Q : Exit → Act → World → Prop} {K : Act → World → Prop} {E : Prop} {S : World → Prop}
theorem sStN (x y : Operand) (hw : Region.wanted op (yielded ops a.tmps) = true) (ho : op.op = .store 55 x y) (b : Nat) (n u : Ng) (hx : a.eval x = .pointer (some ⟨b, 0, none⟩)) (hy : a.eval y = .agg (ncs n).toArray) (hr : Row w b 55 (ncs u))
    (h : ∀ W, w.grownBy W (some b) → Row W b 55 (ncs n) → K (a.put op.dst undef) W) : if Region.wanted op (yielded ops a.tmps) = true then Oper.wp Try.prog op a w K Q else E := by
  rw [if_pos hw]
  refine wp_store_mid _ x y ho b 0 _ hx hy (by simpa [ncs_len] using hr.there (n := 34) (by rw [ncs_len]; omega)) (by rw [infoNs]; simp [ncs_len]) (all_oneCell_toArray (ncs_one n)) (h _ (grownBy_setCells b _ _ _) ?_)
  have := Row.setCells (ncs n) [] w (ncs u) hr (by rw [ncs_len, ncs_len])
  simpa using this
end
theorem hasIf_any {w : World} {t mb : Nat} {most : Int} {F : List Fc} {L : List Ng} (h : Tb w t mb most F L) (i : Int) : Calls Try.prog 24 #[.pointer (some ⟨t, 0, none⟩), .int .i64 i] w fun e w' => e = .returned (.bool (decide (0 ≤ i) && decide (i < F.length))) ∧ w = w' := by
  obtain ⟨fa, fc, hr, _⟩ := h.ex
  have c1 : w.cell? ⟨t, 1, none⟩ = some (.slice fa F.length fc) := hr.cell 1
  generalize F.length = k at *
  by_cases h1 : 0 ≤ i
  · by_cases h2 : i < (k : Int)
    · go_enter Try.func24, Try.ntmps24
      go_wp2
      go_ret
      exact ⟨by simp [h1, h2], rfl⟩
    · go_enter Try.func24, Try.ntmps24
      go_wp2
      go_ret
      exact ⟨by simp [h1, h2], rfl⟩
  · go_enter Try.func24, Try.ntmps24
    go_wp2
    go_ret
    exact ⟨by rw [decide_eq_false (by omega : ¬ 0 ≤ i)]; rfl, rfl⟩
theorem get_nil (i : Int) (c : Ad) (w : World) : Calls Try.prog 17 #[.pointer none, .int .i64 i, (Value.agg (acells c).toArray)] w (Gives w (getV none)) := by
  go_enter Try.func17, Try.ntmps17
  go_upto_region 1 with (first
    | (refine alG infoNz rfl rfl ?_; intro g1 W1 hge hgl hB1 hr1))
  obtain ⟨hB, r0, hs⟩ := stepRow hB1
  have hg : w.heap.size < g1 := by simp at hge; omega
  clear hB1 hge
  go_wp2_with (first
    | ((with_reducible refine bdG (T := 55) (v := nV zeroN) [] ?_ ?_ ?_ ?_); (focus rfl); (focus rfl); (focus exact bdN0 _))
    | (refine stN (.tmp 6) (.tmp 12) rfl rfl g1 zeroN _ rfl rfl hr1 ?_; intro W2 hg2 hr2))
  exact bodyPost_ret (retCT rfl _ _ 0 rfl (lvN hr2)) rfl ⟨rfl, grown_below hg2 hB (by omega) (by omega)⟩
set_option maxHeartbeats 2000000 in
theorem get_any {w : World} {t mb : Nat} {most : Int} {F : List Fc} {L : List Ng} (h : Tb w t mb most F L) (i : Int) (c : Ad) (hi : wfI i) : Calls Try.prog 17 #[.pointer (some ⟨t, 0, none⟩), .int .i64 i, (Value.agg (acells c).toArray)] w (Gives w (getV (getN L i c))) := by
  have hlk : ∀ W, Below w.heap.size w W → (Instr.lookup 74 (.map (some mb)) (.agg (kcs i c).toArray) true).run Try.prog W = .ok (getV (getN L i c)) W := fun W hW => (h.map.below hW h.map.lt).look hi c
  obtain ⟨fa, fc, hr, _⟩ := h.ex
  have ht := hr.lt
  generalize getN L i c = R at *
  have hv : getV R = .tuple #[nV (R.getD zeroN), .bool R.isSome] := rfl
  rw [hv] at hlk ⊢
  clear hv
  generalize R.getD zeroN = x at *
  generalize R.isSome = b at *
  go_enter Try.func17, Try.ntmps17
  go_upto_region 1 with (first
    | (refine alG infoNz rfl rfl ?_; intro g1 W1 hge hgl hB1 hr1))
  obtain ⟨hB, r0, hs⟩ := stepRow hB1
  have hg : w.heap.size < g1 := by simp at hge; omega
  clear hB1 hge
  go_upto_region 3 with fail
  have hlk1 : ∀ W, Below W1.heap.size W1 W → (Instr.lookup 74 (.map (some mb)) (.agg (kcs i c).toArray) true).run Try.prog W = .ok (.tuple #[nV x, .bool b]) W := fun W hW => hlk W (bt hB hW)
  have hr0 := hr.below hB ht
  have HK : ∀ W, Below W1.heap.size W1 W → W.cell? ⟨t, 2, none⟩ = some (.map (some mb)) := fun W hW => (hr0.below hW hr0.lt).cell 2
  clear hlk h hr
  refine wp_region_noPanic ?_
  refine wp_region_held_drew (S := fun W => Below W1.heap.size W1 W) (by kernel_rfl) ((Below.refl _ _).drew) (fun hHeld => ?_)
  refine take_lit (i := 0) (v := ?_) rfl (by kernel_rfl) (by kernel_rfl) (by kernel_rfl) (fun _ _ _ h => h) (Or.inl ⟨by rfl, ?_⟩) (by assumption) ?_
  rotate_left
  · (intro w hSw; (try dsimp only at hSw); go_simp <;> with_reducible rfl)
  try simp only [Act.put, List.setIfInBounds_toArray, List.set_cons_zero, List.set_cons_succ]
  refine take_lit (i := 1) (v := ?_) rfl (by kernel_rfl) (by kernel_rfl) (by kernel_rfl) (fun _ _ _ h => h) (Or.inl ⟨by rfl, ?_⟩) (by assumption) ?_
  rotate_left
  · (intro w hSw; (try dsimp only at hSw); go_simp <;> with_reducible rfl)
  try simp only [Act.put, List.setIfInBounds_toArray, List.set_cons_zero, List.set_cons_succ]
  refine take_lit (i := 2) (v := ?_) rfl (by kernel_rfl) (by kernel_rfl) (by kernel_rfl) (fun _ _ _ h => h) (Or.inl ⟨by rfl, ?_⟩) (by assumption) ?_
  rotate_left
  · (intro w hSw; (try dsimp only at hSw); go_simp <;> with_reducible rfl)
  try simp only [Act.put, List.setIfInBounds_toArray, List.set_cons_zero, List.set_cons_succ]
  refine take_lit (i := 3) (v := ?_) rfl (by kernel_rfl) (by kernel_rfl) (by kernel_rfl) (fun _ _ _ h => h) (Or.inl ⟨by rfl, ?_⟩) (by assumption) ?_
  rotate_left
  · (intro w hSw; (try dsimp only at hSw); have z := HK _ hSw; go_simp <;> with_reducible rfl)
  try simp only [Act.put, List.setIfInBounds_toArray, List.set_cons_zero, List.set_cons_succ]
  refine take_lit (i := 4) (v := ?_) rfl (by kernel_rfl) (by kernel_rfl) (by kernel_rfl) (fun _ _ _ h => h) (Or.inl ⟨by rfl, ?_⟩) (by assumption) ?_
  rotate_left
  · (intro w hSw; (try dsimp only at hSw); go_simp <;> with_reducible rfl)
  try simp only [Act.put, List.setIfInBounds_toArray, List.set_cons_zero, List.set_cons_succ]
  refine take_lit (i := 5) rfl (by kernel_rfl) (by kernel_rfl) (by kernel_rfl) (fun _ _ _ h => h) (yA c (fun w h => (LA.below r0.range h hs)) (by rfl) rfl rfl) (by assumption) ?_
  try simp only [Act.put, List.setIfInBounds_toArray, List.set_cons_zero, List.set_cons_succ]
  refine take_lit (i := 6) rfl (by kernel_rfl) (by kernel_rfl) (by kernel_rfl) (fun _ _ _ h => h) (yB (v := .agg (kcs i c).toArray) [(0, .tmp 18), (1, .tmp 19)] (by rfl) rfl (fun w => bdK i c w)) (by assumption) ?_
  try simp only [Act.put, List.setIfInBounds_toArray, List.set_cons_zero, List.set_cons_succ]
  refine take_lit (i := 7) (v := ?_) rfl (by kernel_rfl) (by kernel_rfl) (by kernel_rfl) (fun _ _ _ h => h) (Or.inl ⟨by rfl, ?_⟩) (by assumption) ?_
  rotate_left
  · (intro w hSw; (try dsimp only at hSw); have z := hlk1 _ hSw; go_simp <;> with_reducible rfl)
  try simp only [Act.put, List.setIfInBounds_toArray, List.set_cons_zero, List.set_cons_succ]
  refine take_lit (i := 8) (v := ?_) rfl (by kernel_rfl) (by kernel_rfl) (by kernel_rfl) (fun _ _ _ h => h) (Or.inl ⟨by rfl, ?_⟩) (by assumption) ?_
  rotate_left
  · (intro w hSw; (try dsimp only at hSw); go_simp <;> with_reducible rfl)
  try simp only [Act.put, List.setIfInBounds_toArray, List.set_cons_zero, List.set_cons_succ]
  refine take_lit (i := 9) (v := ?_) rfl (by kernel_rfl) (by kernel_rfl) (by kernel_rfl) (fun _ _ _ h => h) (Or.inl ⟨by rfl, ?_⟩) (by assumption) ?_
  rotate_left
  · (intro w hSw; (try dsimp only at hSw); go_simp <;> with_reducible rfl)
  try simp only [Act.put, List.setIfInBounds_toArray, List.set_cons_zero, List.set_cons_succ]
  refine take_lit (i := 10) (v := ?_) rfl (by kernel_rfl) (by kernel_rfl) (by kernel_rfl) (fun _ _ _ h => h) (Or.inl ⟨by rfl, ?_⟩) (by assumption) ?_
  rotate_left
  · (intro w hSw; (try dsimp only at hSw); go_simp <;> with_reducible rfl)
  try simp only [Act.put, List.setIfInBounds_toArray, List.set_cons_zero, List.set_cons_succ]
  refine wpAnyH_ready (rs := [11]) (by kernel_rfl) (by simp) ?_
  refine cons_lit rfl (fun K hK => ?_) ?_
  · skip
    refine sAlG infoNz (by rfl) rfl ?_
    intro g2 W2 hge2 hgl2 hB2 hr2
    refine hK.out _ _ ?_ (fun hHeld => ?_)
    · exact bt hHeld hB2
    clear hK K
    try simp only [Act.put, List.setIfInBounds_toArray, List.set_cons_zero, List.set_cons_succ]
    refine wpAnyH_ready (rs := [12]) (by kernel_rfl) (by simp) ?_
    refine cons_lit rfl (fun K hK => ?_) ?_
    · skip
      refine sStN (.tmp 8) (.tmp 22) (by rfl) rfl g2 x _ rfl rfl hr2 ?_
      intro W3 hg3 hr3
      refine hK.out _ _ ?_ (fun hHeld => ?_)
      · exact grown_below hg3 hHeld (show W1.heap.size ≤ g2 from hge2) hHeld.size
      clear hK K
      try simp only [Act.put, List.setIfInBounds_toArray, List.set_cons_zero, List.set_cons_succ]
      refine take_lit (i := 13) (v := ?_) rfl (by kernel_rfl) (by kernel_rfl) (by kernel_rfl) (fun _ _ _ h => h) (Or.inl ⟨by rfl, ?_⟩) (by assumption) ?_
      rotate_left
      · (intro w hSw; (try dsimp only at hSw); go_simp <;> with_reducible rfl)
      try simp only [Act.put, List.setIfInBounds_toArray, List.set_cons_zero, List.set_cons_succ]
      refine wpAnyH_done (by kernel_rfl) ?_ _
      refine NoPanic.normal ?_
      have hr4 := hr1.below hHeld hgl
      have hg4 : g1 < W3.heap.size := hr4.lt
      go_wp2_with (first
        | (refine ldN (.tmp 8) rfl rfl _ _ _ rfl hr3.range ?_)
        | (refine stN (.tmp 6) (.tmp 24) rfl rfl g1 _ _ rfl rfl hr4 ?_; intro W5 hg5 hr5))
      exact bodyPost_ret (retCT rfl _ _ 0 rfl (lvN hr5)) rfl ⟨rfl, grown_below hg5 (bt hB hHeld) (by omega) (by omega)⟩
    exact AllReadyH.nil
  exact AllReadyH.nil
end Go.Proofs.Ytacadlbhgelncaa

namespace Go.Proofs.Ytacadlbhgelncaa
open Go.RowKit
set_option linter.unusedSimpArgs false
section
variable {P : Program} {ops : Array Oper} {Q : Exit → Act → World → Prop} {md : Region.Mode} {S : World → Prop} {N : Nat}
/-- Whatever order is picked from here on; S holds behind every operation but number N. -/
def wpAnyN (P : Program) (md : Region.Mode) (ops : Array Oper) (Q : Exit → Act → World → Prop) (S : World → Prop) (N : Nat) : Nat → Array Bool → Act → World → Prop
  | 0, listed, a, w => Region.ready md ops listed = [] ∧ Q .normal a w
  | fuel + 1, listed, a, w =>
    (Region.ready md ops listed = [] → Q .normal a w) ∧
    ∀ i ∈ Region.ready md ops listed, wpOp P ops Q i (fun a' w' => (i = N ∨ S w') ∧ wpAnyN P md ops Q S N fuel (listed.setIfInBounds i true) a' w') a w
theorem wpAny_of_N : ∀ (fuel : Nat) (listed : Array Bool) (a : Act) (w : World), wpAnyN P md ops Q S N fuel listed a w → wpAny P md ops Q fuel listed a w
  | 0, _, _, _, h => h
  | fuel + 1, _, _, _, h => ⟨h.1, fun i hi => wpOp_mono (fun a' w' h' => wpAny_of_N fuel _ a' w' h'.2) (h.2 i hi)⟩
theorem set_sub {listed F : Array Bool} {j : Nat} (h : ∀ k, listed.getD k false = true → F.getD k false = true) (hj : F.getD j false = true) : ∀ k, (listed.setIfInBounds j true).getD k false = true → F.getD k false = true := by
  intro k hk
  by_cases e : j = k
  · subst e; exact hj
  · rw [getD_set_ne false e] at hk
    exact h k hk
theorem wpAnyN_first {i : Nat} {oi : Oper} {v : Value} (hi : ops[i]? = some oi) (hsel : ∀ (j : Nat) (o : Oper) cs b, ops[j]? = some o → o.op ≠ .select cs b)
    (hQ : ∀ c a w, Q (.panic c) (a.put oi.dst v) w → Q (.panic c) a w) (F : Array Bool) (hN : F.getD N false = false)
    (hF : ∀ j oj, ops[j]? = some oj → j ≠ i → (∀ e ∈ oj.after, Region.binds md e = true → F.getD e.on false = true) → F.getD j false = true) :
    ∀ (fuel : Nat) (listed : Array Bool) (a : Act) (w : World), (∀ k, listed.getD k false = true → F.getD k false = true) →
      (∀ j oj, ops[j]? = some oj → j ≠ i → listed.getD j true = false → (∀ e ∈ oj.after, Region.binds md e = true → e.on ≠ i) → oi.apart ops oj = true) →
      i ∈ Region.ready md ops listed → YieldsIf P ops S oi v a → S w →
      wpAnyN P md ops Q S N fuel (listed.setIfInBounds i true) (a.put oi.dst v) w → wpAnyN P md ops Q S N (fuel + 1) listed a w := by
  intro fuel
  induction fuel with
  | zero =>
    intro listed a w _ _ hr hy hS H
    refine ⟨fun h => (by rw [h] at hr; cases hr), fun j hj => ?_⟩
    by_cases hji : j = i
    · subst hji; exact hy.wpOp hi hS ⟨.inr hS, H⟩
    · have := ready_mono hj hji
      rw [H.1] at this
      cases this
  | succ fuel ih =>
    intro listed a w hsub hfree hr hy hS H
    refine ⟨fun h => (by rw [h] at hr; cases hr), fun j hj => ?_⟩
    by_cases hji : j = i
    · subst hji; exact hy.wpOp hi hS ⟨.inr hS, H⟩
    · have h1 := H.2 j (ready_mono hj hji)
      obtain ⟨hjun, oj, hoj, hall⟩ := mem_ready.1 hj
      have hjF : F.getD j false = true := hF j oj hoj hji (fun e he hb => hsub _ (hall e he hb))
      have hjN : j ≠ N := fun e => by rw [e, hN] at hjF; cases hjF
      have hnot : ∀ e ∈ oj.after, Region.binds md e = true → e.on ≠ i := fun e he hb heq => by
        have h1 := hall e he hb
        have h0 := (mem_ready.1 hr).1
        rw [heq] at h1
        rcases Nat.lt_or_ge i listed.size with h' | h'
        · simp [h'] at h0 h1; rw [h0] at h1; cases h1
        · simp [Array.getElem?_eq_none h'] at h1
      have h2 := wpOp_putIf hoj (hfree j oj hoj hji hjun hnot) (fun cs b => hsel i oi cs b hi) (fun cs b => hsel j oj cs b hoj) hQ hy h1
      have hfree' : ∀ k ok, ops[k]? = some ok → k ≠ i → (listed.setIfInBounds j true).getD k true = false →
          (∀ e ∈ ok.after, Region.binds md e = true → e.on ≠ i) → oi.apart ops ok = true := fun k ok hk hki hun hno => by
        refine hfree k ok hk hki ?_ hno
        by_cases hjk : j = k
        · subst hjk; exact hjun
        · rw [getD_set_ne true hjk] at hun; exact hun
      refine wpOp_mono (fun a' w' h3 => ⟨h3.2.1, ih (listed.setIfInBounds j true) a' w' (set_sub hsub hjF) hfree' (ready_mono hr (Ne.symm hji)) h3.1 (h3.2.1.resolve_left hjN) ?_⟩) h2
      rw [Array.setIfInBounds_comm _ _ hji]
      exact h3.2.2
/-- F holds what may come up ahead of number i; N is not in it. -/
def closedB (md : Region.Mode) (ops : Array Oper) (F listed : Array Bool) (i N : Nat) : Bool :=
  (List.range ops.size).all (fun j => j == i || F.getD j false || (match ops[j]? with | some o => o.after.any (fun e => Region.binds md e && !F.getD e.on false) | none => true)) && !F.getD N false && (List.range listed.size).all (fun k => !listed.getD k false || F.getD k false)
theorem takeN_lit {i : Nat} {oi : Oper} {rest : List Oper} {v : Value} {fuel : Nat} {listed : Array Bool} {a : Act} {w : World} (F : Array Bool) (hi : ops.toList.drop i = oi :: rest)
    (hs : Region.noSelect ops = true) (hf : Region.free md ops listed i = true) (hr : (Region.ready md ops listed).contains i = true) (hc : closedB md ops F listed i N = true)
    (hQ : ∀ c a w, Q (.panic c) (a.put oi.dst v) w → Q (.panic c) a w) (hy : YieldsIf P ops S oi v a) (hS : S w)
    (h : wpAnyN P md ops Q S N fuel (listed.setIfInBounds i true) (a.put oi.dst v) w) : wpAnyN P md ops Q S N (fuel + 1) listed a w := by
  unfold closedB at hc
  rw [Bool.and_eq_true, Bool.and_eq_true, List.all_eq_true, List.all_eq_true] at hc
  obtain ⟨⟨h1, h2⟩, h3⟩ := hc
  refine wpAnyN_first (at_lit hi) (Region.noSelect_spec hs) hQ F (by simpa using h2) (fun j oj hoj hji hall => ?_) fuel listed a w (fun k hk => ?_) (Region.free_spec (at_lit hi) hf) (by simpa using hr) hy hS h
  · have hjl : j < ops.size := (Array.getElem?_eq_some_iff.1 hoj).1
    have := h1 j (List.mem_range.2 hjl)
    rw [hoj] at this
    simp only [Bool.or_eq_true, beq_iff_eq] at this
    rcases this with (h5 | h5) | h5
    · exact absurd h5 hji
    · exact h5
    · rw [Array.any_eq_true'] at h5
      obtain ⟨e, he, h6⟩ := h5
      rw [Bool.and_eq_true] at h6
      rw [hall e he h6.1] at h6
      cases h6.2
  · rcases Nat.lt_or_ge k listed.size with h' | h'
    · have := h3 k (List.mem_range.2 h')
      rw [hk] at this
      simpa using this
    · rw [Array.getD_eq_getD_getElem?, Array.getElem?_eq_none h'] at hk
      cases hk
/-- Each of the operations rs comes up next. -/
def AllReadyN (P : Program) (md : Region.Mode) (ops : Array Oper) (Q : Exit → Act → World → Prop) (S : World → Prop) (N fuel : Nat) (listed : Array Bool) (a : Act) (w : World) (rs : List Nat) : Prop :=
  ∀ i ∈ rs, wpOp P ops Q i (fun a' w' => (i = N ∨ S w') ∧ wpAnyN P md ops Q S N fuel (listed.setIfInBounds i true) a' w') a w
theorem AllReadyN.nil {fuel : Nat} {listed : Array Bool} {a : Act} {w : World} : AllReadyN P md ops Q S N fuel listed a w [] := fun _ h => by cases h
theorem consN_lit {fuel : Nat} {listed : Array Bool} {a : Act} {w : World} {i : Nat} {o : Oper} {rest : List Oper} {rs : List Nat} (ho : ops.toList.drop i = o :: rest)
    (h : ∀ K' : Act → World → Prop, Shut (∀ a w, (i = N ∨ S w) → ((i = N ∨ S w) → wpAnyN P md ops Q S N fuel (listed.setIfInBounds i true) a w) → K' a w) → if Region.wanted o (yielded ops a.tmps) = true then Oper.wp P o a w K' Q else K' (a.put o.dst undef) w)
    (hs : AllReadyN P md ops Q S N fuel listed a w rs) : AllReadyN P md ops Q S N fuel listed a w (i :: rs) := fun j hj => by
  rcases List.mem_cons.1 hj with rfl | hj
  · exact wpOp_step (at_lit ho) (fun K' hK => h K' (fun a w hS hW => hK a w ⟨hS, hW hS⟩))
  · exact hs j hj
theorem wpAnyN_ready {rs : List Nat} {fuel : Nat} {listed : Array Bool} {a : Act} {w : World} (hr : Region.ready md ops listed = rs) (hne : rs ≠ [])
    (h : AllReadyN P md ops Q S N fuel listed a w rs) : wpAnyN P md ops Q S N (fuel + 1) listed a w := ⟨fun h0 => absurd (hr ▸ h0) hne, hr ▸ h⟩
theorem wpAnyN_done {listed : Array Bool} {a : Act} {w : World} (hr : Region.ready md ops listed = []) (h : Q .normal a w) : ∀ fuel, wpAnyN P md ops Q S N fuel listed a w
  | 0 => ⟨hr, h⟩
  | _ + 1 => ⟨fun _ => h, by rw [hr]; simp⟩
theorem wp_region_N {id : Nat} {a : Act} {w : World} (N : Nat) (hm : P.follows .mixedOrders = true) (hS : S w.drew)
    (h : S w.drew → wpAnyN P .any ops Q S N ops.size (Array.replicate ops.size false) a w.drew) : (Code.region id ops true).wp P Q a w :=
  wp_region_any hm (wpAny_of_N _ _ _ _ (h hS))
end
end Go.Proofs.Ytacadlbhgelncaa

namespace Go.Proofs.Ytacadlbhgelncaa
open Go.RowKit Go.Maps
set_option linter.unusedSimpArgs false
set_option linter.unusedVariables false
set_option maxRecDepth 20000
section
variable {ops : Array Oper} {rest : List Oper} {op : Oper} {a : Act} {w w' : World} {Q : Exit → Act → World → Prop} {K : Act → World → Prop} {E : Prop} {S : World → Prop}
theorem sMu {T : TypeId} (m k v : Operand) {mv kv vv : Value} (hw : Region.wanted op (yielded ops a.tmps) = true) (ho : op.op = .mapUpdate T m k v) (hm : a.eval m = mv) (hk : a.eval k = kv) (hv : a.eval v = vv)
    (hr : (Instr.mapUpdate T mv kv vv).run Try.prog w = .ok () w') (h : K (a.put op.dst undef) w') : if Region.wanted op (yielded ops a.tmps) = true then Oper.wp Try.prog op a w K Q else E := by
  rw [if_pos hw]
  unfold Oper.wp
  simp [execOp, ho, hm, hk, hv, hr, Result.andThen]
  exact h
end
/-- The table behind an act: its neighbours are others; nothing else has turned but its map. -/
structure Turn (w w' : World) (t mb : Nat) (most : Int) (F : List Fc) (L : List Ng) : Prop where
  tb : Tb w' t mb most F L
  os : w'.os = w.os
  tape : w'.tape = w.tape
  out : w'.output = w.output
  size : w.heap.size ≤ w'.heap.size
  block : ∀ i, i < w.heap.size → i ≠ mb → w'.heap[i]? = w.heap[i]?
theorem Turn.below {w w' : World} {t mb : Nat} {most : Int} {F : List Fc} {L : List Ng} (h : Turn w w' t mb most F L) {B : Nat} {w0 : World} (hb : Below B w0 w) (hB : B ≤ mb) (hs : B ≤ w.heap.size) : Below B w0 w' :=
  ⟨h.os.trans hb.os, h.tape.trans hb.tape, h.out.trans hb.output, Nat.le_trans hb.size h.size, fun k hk => (h.block k (by omega) (by omega)).trans (hb.block k hk)⟩
theorem Turn.row {w w' : World} {t mb g : Nat} {most : Int} {F : List Fc} {L : List Ng} {T : TypeId} {cs : List Value} (h : Turn w w' t mb most F L) (hr : Row w g T cs) (hne : g ≠ mb) : Row w' g T cs := (h.block g hr.lt hne).trans hr
set_option maxHeartbeats 2000000 in
theorem put_any {w : World} {t mb : Nat} {most : Int} {F : List Fc} {L : List Ng} (h : Tb w t mb most F L) (n : Ng) (hi : wfI n.i) (hn : n.ok ∧ 0 ≤ n.i ∧ n.i < F.length ∧ (n.hr = true → ∀ f, F[n.i.toNat]? = some f → f.r.on = true)) (hl : (putN L n).length ≤ 1000000) :
    Calls Try.prog 25 #[.pointer (some ⟨t, 0, none⟩), nV n] w fun e w' => e = .returned (.tuple #[]) ∧ Turn w w' t mb most F (putN L n) := by
  have hP : ∀ W, Below w.heap.size w W → ∃ W', (Instr.mapUpdate 74 (.map (some mb)) (.agg (kcs n.i n.a).toArray) (.agg (ncs n).toArray)).run Try.prog W = .ok () W' ∧ Turn w W' t mb most F (putN L n) := fun W hW => by
    have h' := h.below hW
    obtain ⟨W', h1, h2, h3⟩ := h'.map.put n hi (by have := h.ll; unfold maxLen; omega)
    refine ⟨W', h1, h'.turn h2 h3 (fun x hx => ?_) hl, h3.os.trans hW.os, h3.tape.trans hW.tape, h3.output.trans hW.output, Nat.le_trans hW.size h3.size, fun i hi hne => (h3.block i (Nat.lt_of_lt_of_le hi hW.size) (fun e => hne (by cases e; rfl))).trans (hW.block i hi)⟩
    rcases mem_putN.1 hx with rfl | ⟨hx, _⟩
    · exact hn
    · exact h.nok x hx
  obtain ⟨fa, fc, hr, _⟩ := h.ex
  have ht := hr.lt
  have HK : ∀ W, Below w.heap.size w W → W.cell? ⟨t, 2, none⟩ = some (.map (some mb)) := fun W hW => (hr.below hW ht).cell 2
  have hKO := keyOf_any n
  clear h hr hi hn hl
  go_enter Try.func25, Try.ntmps25
  go_upto_region 1 with fail
  have r0 := Row.new w 55 (ncs n)
  refine name_world (R := fun W => Code.wp _ _ _ _ W) (P := fun W => Below w.heap.size w W ∧ Row W w.heap.size 55 (ncs n)) _ ⟨ba _ _, r0⟩ ?_
  clear r0
  rintro X ⟨hB, r0⟩
  have hs := r0.lt
  refine wp_region_noPanic ?_
  refine wp_region_N (S := fun W => Below X.heap.size X W) 7 (by kernel_rfl) ((Below.refl _ _).drew) (fun hHeld => ?_)
  refine takeN_lit (i := 0) (v := ?_) (F := #[false, false, false, false, true, true, true, false]) rfl (by kernel_rfl) (by kernel_rfl) (by kernel_rfl) (by kernel_rfl) (fun _ _ _ h => h) (Or.inl ⟨by rfl, ?_⟩) (by assumption) ?_
  rotate_left
  · (intro w hSw; (try dsimp only at hSw); go_simp <;> with_reducible rfl)
  try simp only [Act.put, List.setIfInBounds_toArray, List.set_cons_zero, List.set_cons_succ]
  refine takeN_lit (i := 1) (v := ?_) (F := #[true, false, false, false, true, true, true, false]) rfl (by kernel_rfl) (by kernel_rfl) (by kernel_rfl) (by kernel_rfl) (fun _ _ _ h => h) (Or.inl ⟨by rfl, ?_⟩) (by assumption) ?_
  rotate_left
  · (intro w hSw; (try dsimp only at hSw); go_simp <;> with_reducible rfl)
  try simp only [Act.put, List.setIfInBounds_toArray, List.set_cons_zero, List.set_cons_succ]
  refine takeN_lit (i := 2) (v := ?_) (F := #[true, true, false, false, true, true, true, false]) rfl (by kernel_rfl) (by kernel_rfl) (by kernel_rfl) (by kernel_rfl) (fun _ _ _ h => h) (Or.inl ⟨by rfl, ?_⟩) (by assumption) ?_
  rotate_left
  · (intro w hSw; (try dsimp only at hSw); go_simp <;> with_reducible rfl)
  try simp only [Act.put, List.setIfInBounds_toArray, List.set_cons_zero, List.set_cons_succ]
  refine takeN_lit (i := 3) (v := ?_) (F := #[true, true, true, false, true, true, true, false]) rfl (by kernel_rfl) (by kernel_rfl) (by kernel_rfl) (by kernel_rfl) (fun _ _ _ h => h) (Or.inl ⟨by rfl, ?_⟩) (by assumption) ?_
  rotate_left
  · (intro w hSw; (try dsimp only at hSw); have z := HK _ (bt hB hSw); go_simp <;> with_reducible rfl)
  try simp only [Act.put, List.setIfInBounds_toArray, List.set_cons_zero, List.set_cons_succ]
  refine takeN_lit (i := 4) (F := #[true, true, true, true, false, false, true, false]) rfl (by kernel_rfl) (by kernel_rfl) (by kernel_rfl) (by kernel_rfl) (fun _ _ _ h => h) (yN n (fun w h => (r0.below h hs).range) (by rfl) rfl rfl) (by assumption) ?_
  try simp only [Act.put, List.setIfInBounds_toArray, List.set_cons_zero, List.set_cons_succ]
  refine takeN_lit (i := 6) (F := #[true, true, true, true, true, true, false, false]) rfl (by kernel_rfl) (by kernel_rfl) (by kernel_rfl) (by kernel_rfl) (fun _ _ _ h => h) (yN n (fun w h => (r0.below h hs).range) (by rfl) rfl rfl) (by assumption) ?_
  try simp only [Act.put, List.setIfInBounds_toArray, List.set_cons_zero, List.set_cons_succ]
  refine wpAnyN_ready (rs := [5]) (by kernel_rfl) (by simp) ?_
  refine consN_lit rfl (fun K hK => ?_) ?_
  · go_simp
    refine (hKO _).mono ?_
    rintro e w1 ⟨rfl, hB1⟩
    refine hK.out _ _ (Or.inr ?_) (fun hHeld => ?_)
    · exact bt hHeld hB1
    replace hHeld := hHeld.resolve_left (by decide)
    clear hK K
    try simp only [Act.put, List.setIfInBounds_toArray, List.set_cons_zero, List.set_cons_succ]
    refine wpAnyN_ready (rs := [7]) (by kernel_rfl) (by simp) ?_
    refine consN_lit rfl (fun K hK => ?_) ?_
    · skip
      obtain ⟨W', hrun, hT⟩ := hP _ (bt hB hHeld)
      refine sMu (.tmp 7) (.tmp 9) (.tmp 10) (by rfl) rfl rfl rfl rfl hrun ?_
      refine hK.out _ _ (Or.inl rfl) (fun _ => ?_)
      clear hK K
      try simp only [Act.put, List.setIfInBounds_toArray, List.set_cons_zero, List.set_cons_succ]
      refine wpAnyN_done (by kernel_rfl) ?_ _
      refine NoPanic.normal ?_
      go_wp2
      go_end0
      exact ⟨rfl, hT⟩
    exact AllReadyN.nil
  exact AllReadyN.nil
end Go.Proofs.Ytacadlbhgelncaa
