/-
  Addresses, prefixes and pairs as values and in memory: their cells, loads, stores, boxes, fields, and equality, and regions that draw their order.
-/
import Derived.Test.YthofoocknmkdjaaRows
import Derived.WalkKit
import Derived.ProofKit
import Derived.WalkSpells
import Derived.WalkLawsBesides
import Derived.Deep.MidRow
import Derived.Deep.RegionHeld3
import Derived.Laws.CopyOwn
import Derived.ChangeKeysEq
import Derived.Laws.AppendOwnNone
namespace Go.Proofs.Ythofoocknmkdjaa
open Go.RowKit
set_option linter.unusedSimpArgs false

/-- The cells of bytes. -/
def bcells (l : List UInt8) : List Value := l.map fun b => Value.int .u8 b.toNat
theorem bcells_length (l : List UInt8) : (bcells l).length = l.length := by simp [bcells]
theorem bcells_one (l : List UInt8) : ∀ u ∈ bcells l, u.oneCell' = true := by
  intro u hu
  obtain ⟨_, _, rfl⟩ := List.mem_map.1 hu
  rfl
theorem bcells_get {l : List UInt8} {j : Nat} {b : UInt8} (h : l[j]? = some b) : (bcells l)[j]? = some (.int .u8 b.toNat) := by simp [bcells, h]
/-- An address: sixteen bytes. -/
structure Ad where
  l : List UInt8
  len : l.length = 16
theorem Ad.ext {a b : Ad} (h : a.l = b.l) : a = b := by
  cases a; cases b; cases h; rfl
/-- A prefix. -/
structure Pf where
  a : Ad
  n : Int
structure Pr where
  d : Pf
  s : Pf
def acells (a : Ad) : List Value := bcells a.l
def pcells (p : Pf) : List Value := acells p.a ++ [.int .i64 p.n]
def qcells (q : Pr) : List Value := pcells q.d ++ pcells q.s
theorem acells_len (a : Ad) : (acells a).length = 16 := by simp [acells, bcells, a.len]
theorem pcells_len (p : Pf) : (pcells p).length = 17 := by simp [pcells, acells_len]
theorem qcells_len (p : Pr) : (qcells p).length = 34 := by simp [qcells, pcells_len]
theorem acells_one (a : Ad) : ∀ u ∈ acells a, u.oneCell' = true := bcells_one _
theorem pcells_one (p : Pf) : ∀ u ∈ pcells p, u.oneCell' = true := by
  intro u hu
  rcases List.mem_append.1 hu with h | h
  · exact acells_one _ u h
  · simp at h; subst h; rfl
theorem qcells_one (p : Pr) : ∀ u ∈ qcells p, u.oneCell' = true := by
  intro u hu
  rcases List.mem_append.1 hu with h | h
  · exact pcells_one _ u h
  · exact pcells_one _ u h

theorem infoA : (Try.prog.info? 32).map (·.size) = some 16 := by kernel_rfl
theorem infoP : (Try.prog.info? 34).map (·.size) = some 17 := by kernel_rfl
theorem infoQ : (Try.prog.info? 36).map (·.size) = some 34 := by kernel_rfl

theorem rangeAt_new (w : World) (cs : List Value) (t : TypeId) : (w.alloc (.cells cs.toArray t)).rangeAt w.heap.size 0 cs := by
  intro j v hv
  have h : (w.alloc (.cells cs.toArray t)).heap[w.heap.size]? = some (.cells cs.toArray t (0, 0)) := by
    show (w.heap.push _)[w.heap.size]? = _
    simp
  rw [Nat.zero_add, cell_of_row _ _ j cs.toArray t (0, 0) h]
  simpa using hv
theorem rangeAt_below {w w' : World} {B b o : Nat} {cs : List Value} (h : w.rangeAt b o cs) (hb : Below B w w') (hlt : b < B) : w'.rangeAt b o cs := fun j v hv =>
  (hb.cell (p := ⟨b, o + j, none⟩) hlt).trans (h j v hv)
theorem rangeAt_left {w : World} {b o : Nat} {cs ds : List Value} (h : w.rangeAt b o (cs ++ ds)) : w.rangeAt b o cs := fun j v hv =>
  h j v (by rw [List.getElem?_append_left (List.getElem?_eq_some_iff.1 hv).1]; exact hv)
theorem rangeAt_right {w : World} {b o k : Nat} {cs ds : List Value} (h : w.rangeAt b o (cs ++ ds)) (hk : cs.length = k) : w.rangeAt b (o + k) ds := fun j v hv => by
  subst hk
  have := h (cs.length + j) v (by rw [List.getElem?_append_right (by omega)]; simpa using hv)
  rwa [← Nat.add_assoc] at this
/-- An address, a prefix, a pair that lie somewhere. -/
def LA (w : World) (b o : Nat) (a : Ad) : Prop := w.rangeAt b o (acells a)
def LP (w : World) (b o : Nat) (p : Pf) : Prop := w.rangeAt b o (pcells p)
def LQ (w : World) (b o : Nat) (p : Pr) : Prop := w.rangeAt b o (qcells p)
theorem LP.a {w : World} {b o : Nat} {p : Pf} (h : LP w b o p) : LA w b o p.a := rangeAt_left h
theorem LP.n {w : World} {b o : Nat} {p : Pf} (h : LP w b o p) : w.cell? ⟨b, o + 16, none⟩ = some (.int .i64 p.n) := by
  have := rangeAt_right h (acells_len p.a) 0 (.int .i64 p.n) rfl
  simpa using this
theorem LQ.d {w : World} {b o : Nat} {p : Pr} (h : LQ w b o p) : LP w b o p.d := rangeAt_left h
theorem LQ.s {w : World} {b o : Nat} {p : Pr} (h : LQ w b o p) : LP w b (o + 17) p.s := rangeAt_right h (pcells_len p.d)

theorem name_world {R P : World → Prop} (w : World) (h : P w) (k : ∀ W, P W → R W) : R w := k w h
theorem take_get {α : Type} {l : List α} {k j : Nat} {v : α} (h : (l.take k)[j]? = some v) : l[j]? = some v := by
  rw [List.getElem?_take] at h
  split at h
  · exact h
  · cases h
/-- A block of the call's own that holds these cells. -/
def Row (w : World) (g : Nat) (t : TypeId) (cs : List Value) : Prop := w.heap[g]? = some (.cells cs.toArray t (0, 0))
theorem Row.lt {w : World} {g : Nat} {t : TypeId} {cs : List Value} (h : Row w g t cs) : g < w.heap.size := (Array.getElem?_eq_some_iff.1 h).1
theorem Row.new (w : World) (t : TypeId) (cs : List Value) : Row (w.alloc (.cells cs.toArray t)) w.heap.size t cs := by
  show (w.heap.push _)[w.heap.size]? = _
  simp
theorem Row.alloc {w : World} {g : Nat} {t : TypeId} {cs : List Value} (h : Row w g t cs) (o : Obj) : Row (w.alloc o) g t cs := by
  show (w.heap.push _)[g]? = _
  rw [Array.getElem?_push_lt h.lt]
  exact (Array.getElem?_eq_getElem h.lt).symm.trans h
theorem Row.drew {w : World} {g : Nat} {t : TypeId} {cs : List Value} (h : Row w g t cs) : Row w.drew g t cs := h
theorem Row.below {w w' : World} {B g : Nat} {t : TypeId} {cs : List Value} (h : Row w g t cs) (hb : Below B w w') (hlt : g < B) : Row w' g t cs := (hb.block g hlt).trans h
theorem Row.cell {w : World} {g : Nat} {t : TypeId} {cs : List Value} (h : Row w g t cs) (j : Nat) : w.cell? ⟨g, j, none⟩ = cs[j]? := by
  rw [cell_of_row w g j cs.toArray t (0, 0) h]; simp
theorem Row.frozen {w : World} {g : Nat} {t : TypeId} {cs : List Value} (h : Row w g t cs) (j : Nat) : w.frozen? ⟨g, j, none⟩ = false := by
  unfold Row at h
  simp [World.frozen?, h]
theorem Row.range {w : World} {g : Nat} {t : TypeId} {cs : List Value} (h : Row w g t cs) : w.rangeAt g 0 cs := fun j v hv => by rw [Nat.zero_add, h.cell]; exact hv
theorem Row.there {w : World} {g : Nat} {t : TypeId} {cs : List Value} {n : Nat} (h : Row w g t cs) (hn : n ≤ cs.length) : w.there g 0 n := fun j hj => by
  rw [Nat.zero_add, h.cell, h.frozen]
  exact ⟨by simp; omega, rfl⟩
theorem Row.set {w : World} {g : Nat} {t : TypeId} {cs : List Value} (h : Row w g t cs) (j : Nat) (v : Value) : Row (w.setCell ⟨g, j, none⟩ v) g t (cs.set j v) := by
  unfold Row at *
  simp [World.setCell, Array.getElem?_modify, h]
/-! ### Regions that draw their order -/
theorem at_lit {ops : Array Oper} {i : Nat} {o : Oper} {rest : List Oper} (h : ops.toList.drop i = o :: rest) : ops[i]? = some o := by
  have e : (ops.toList.drop i)[0]? = some o := by rw [h]; rfl
  rw [List.getElem?_drop] at e
  simpa using e
theorem take_lit {P : Program} {md : Region.Mode} {ops : Array Oper} {Q : Exit → Act → World → Prop} {S : World → Prop} {i : Nat} {oi : Oper} {rest : List Oper} {v : Value} {fuel : Nat} {listed : Array Bool} {a : Act} {w : World} (hi : ops.toList.drop i = oi :: rest)
    (hs : Region.noSelect ops = true) (hf : Region.free md ops listed i = true) (hr : (Region.ready md ops listed).contains i = true)
    (hQ : ∀ c a w, Q (.panic c) (a.put oi.dst v) w → Q (.panic c) a w) (hy : YieldsIf P ops S oi v a) (hS : S w)
    (h : wpAnyH P md ops Q S fuel (listed.setIfInBounds i true) (a.put oi.dst v) w) : wpAnyH P md ops Q S (fuel + 1) listed a w :=
  wpAnyH_take (at_lit hi) hs hf hr hQ hy hS h
theorem cons_lit {P : Program} {md : Region.Mode} {ops : Array Oper} {Q : Exit → Act → World → Prop} {S : World → Prop} {fuel : Nat} {listed : Array Bool} {a : Act} {w : World} {i : Nat} {o : Oper} {rest : List Oper} {rs : List Nat} (ho : ops.toList.drop i = o :: rest)
    (h : ∀ K' : Act → World → Prop, Shut (∀ a w, S w → (S w → wpAnyH P md ops Q S fuel (listed.setIfInBounds i true) a w) → K' a w) → if Region.wanted o (yielded ops a.tmps) = true then Oper.wp P o a w K' Q else K' (a.put o.dst undef) w)
    (hs : AllReadyH P md ops Q S fuel listed a w rs) : AllReadyH P md ops Q S fuel listed a w (i :: rs) := AllReadyH.cons (at_lit ho) h hs
theorem yA {ops : Array Oper} {S : World → Prop} {op : Oper} {a : Act} {b o : Nat} {x : Operand} (c : Ad) (hS : ∀ w, S w → LA w b o c) (hw : Region.wanted op (yielded ops a.tmps) = true) (ho : op.op = .load 32 x) (hx : a.eval x = .pointer (some ⟨b, o, none⟩)) : YieldsIf Try.prog ops S op (Value.agg (acells c).toArray) a :=
  yieldsIf_load_mid hw _ x ho b o hx (acells c) _ hS Try.underlying32 rfl (by rw [infoA, acells_len])
theorem yP {ops : Array Oper} {S : World → Prop} {op : Oper} {a : Act} {b o : Nat} {x : Operand} (c : Pf) (hS : ∀ w, S w → LP w b o c) (hw : Region.wanted op (yielded ops a.tmps) = true) (ho : op.op = .load 34 x) (hx : a.eval x = .pointer (some ⟨b, o, none⟩)) : YieldsIf Try.prog ops S op (Value.agg (pcells c).toArray) a :=
  yieldsIf_load_mid hw _ x ho b o hx (pcells c) _ hS Try.underlying34 rfl (by rw [infoP, pcells_len])
theorem yQ {ops : Array Oper} {S : World → Prop} {op : Oper} {a : Act} {b o : Nat} {x : Operand} (c : Pr) (hS : ∀ w, S w → LQ w b o c) (hw : Region.wanted op (yielded ops a.tmps) = true) (ho : op.op = .load 36 x) (hx : a.eval x = .pointer (some ⟨b, o, none⟩)) : YieldsIf Try.prog ops S op (Value.agg (qcells c).toArray) a :=
  yieldsIf_load_mid hw _ x ho b o hx (qcells c) _ hS Try.underlying36 rfl (by rw [infoQ, qcells_len])

/-! ### Loads of whole addresses, prefixes, pairs -/
section
variable {ops : Array Oper} {rest : List Oper} {op : Oper} {a : Act} {w : World} {Q : Exit → Act → World → Prop}
theorem ldA (x : Operand) (hw : Region.wanted op (yielded ops a.tmps) = true) (ho : op.op = .load 32 x) (b o : Nat) (c : Ad) (hx : a.eval x = .pointer (some ⟨b, o, none⟩)) (hc : LA w b o c)
    (h : wpList Try.prog ops Q rest (a.put op.dst (Value.agg (acells c).toArray)) w) : wpList Try.prog ops Q (op :: rest) a w :=
  wpList_step fun K hK => by
    rw [if_pos hw]
    exact wp_load_mid _ x ho b o hx (acells c) _ hc Try.underlying32 rfl (by rw [infoA, acells_len]) (hK _ _ h)
theorem ldP (x : Operand) (hw : Region.wanted op (yielded ops a.tmps) = true) (ho : op.op = .load 34 x) (b o : Nat) (c : Pf) (hx : a.eval x = .pointer (some ⟨b, o, none⟩)) (hc : LP w b o c)
    (h : wpList Try.prog ops Q rest (a.put op.dst (Value.agg (pcells c).toArray)) w) : wpList Try.prog ops Q (op :: rest) a w :=
  wpList_step fun K hK => by
    rw [if_pos hw]
    exact wp_load_mid _ x ho b o hx (pcells c) _ hc Try.underlying34 rfl (by rw [infoP, pcells_len]) (hK _ _ h)
theorem ldQ (x : Operand) (hw : Region.wanted op (yielded ops a.tmps) = true) (ho : op.op = .load 36 x) (b o : Nat) (c : Pr) (hx : a.eval x = .pointer (some ⟨b, o, none⟩)) (hc : LQ w b o c)
    (h : wpList Try.prog ops Q rest (a.put op.dst (Value.agg (qcells c).toArray)) w) : wpList Try.prog ops Q (op :: rest) a w :=
  wpList_step fun K hK => by
    rw [if_pos hw]
    exact wp_load_mid _ x ho b o hx (qcells c) _ hc Try.underlying36 rfl (by rw [infoQ, qcells_len]) (hK _ _ h)
end

section
variable {ops : Array Oper} {rest : List Oper} {op : Oper} {a : Act} {w : World} {Q : Exit → Act → World → Prop}
end
/-! ### Boxes -/
/-! ### Fields of values -/
/-! ### Equality -/
theorem eqItems_u8 (d : Nat) (l m : List UInt8) (w : World) : ∀ is : List Nat, (∀ i ∈ is, i < l.length ∧ i < m.length) →
    (Op.eqItems (d + 1) 5 1 (bcells l).toArray (bcells m).toArray is).run Try.prog w = .ok (decide (∀ i ∈ is, l[i]? = m[i]?)) w
  | [], _ => by simp [Op.eqItems]
  | i :: is, h => by
    have ih := eqItems_u8 d l m w is (fun j hj => h j (by simp [hj]))
    obtain ⟨h1, h2⟩ := h i (by simp)
    have e1 : (bcells l)[i]? = some (.int .u8 l[i].toNat) := by simp [bcells, h1]
    have e2 : (bcells m)[i]? = some (.int .u8 m[i].toNat) := by simp [bcells, h2]
    have hag : ∀ w, (isAgg 5).run Try.prog w = .ok false w := fun w => by simp [isAgg, run_underlying Try.underlying5]
    have he : ∀ w a b, (Op.equalIn (d + 1) 5 (.int .u8 a) (.int .u8 b)).run Try.prog w = .ok (a == b) w := fun w a b => run_equalIn_int w d _ _ _ a b Try.underlying5
    simp only [Op.eqItems, Sem.run_bind, part, Nat.mul_one, hag, Result.andThen_ok, Bool.false_eq_true, if_false, List.getElem?_toArray, e1, e2, Sem.run_pure, he, Sem.run_ite]
    have e3 : ((l[i].toNat : Int) == (m[i].toNat : Int)) = decide (l[i] = m[i]) := by
      by_cases hh : l[i] = m[i]
      · simp [hh]
      · have : l[i].toNat ≠ m[i].toNat := fun e => hh (UInt8.toNat.inj e)
        have h4 : ¬ ((l[i].toNat : Int) = (m[i].toNat : Int)) := by omega
        simp only [beq_eq_false_iff_ne.2 h4, hh, decide_false]
    by_cases hh : l[i] = m[i]
    · simp [hh, ih, h1, h2]
    · simp [e3, hh, h1, h2]
theorem same_of {l m : List UInt8} {n : Nat} (hl : l.length = n) (hm : m.length = n) : (∀ i ∈ List.range n, l[i]? = m[i]?) ↔ l = m := by
  constructor
  · intro h
    apply List.ext_getElem?
    intro i
    by_cases hi : i < n
    · exact h i (by simp [hi])
    · rw [List.getElem?_eq_none (by omega), List.getElem?_eq_none (by omega)]
  · rintro rfl; simp
theorem two_of {α : Type} : ∀ {l : List α}, l.length = 2 → ∃ a b, l = [a, b]
  | [a, b], _ => ⟨a, b, rfl⟩
set_option maxRecDepth 4000 in
theorem eqA (d : Nat) (a b : Ad) (w : World) : (Op.equalIn (d + 2) 32 (Value.agg (acells a).toArray) (Value.agg (acells b).toArray)).run Try.prog w = .ok (decide (a.l = b.l)) w := by
  obtain ⟨i, hi⟩ : ∃ i, Try.prog.info? 5 = some i := Option.isSome_iff_exists.1 (by kernel_rfl)
  rw [run_equalIn_array w (d + 1) _ _ Try.underlying32 hi, show Try.prog.cellsOf 5 = 1 by kernel_rfl]
  unfold acells
  rw [eqItems_u8 d a.l b.l w _ (fun i hi => by rw [a.len, b.len]; exact ⟨List.mem_range.1 hi, List.mem_range.1 hi⟩)]
  congr 1
  exact decide_eq_decide.2 (same_of a.len b.len)
theorem eqP (d : Nat) (p q : Pf) (w : World) : (Op.equalIn (d + 3) 34 (Value.agg (pcells p).toArray) (Value.agg (pcells q).toArray)).run Try.prog w = .ok (decide (p.a.l = q.a.l) && decide (p.n = q.n)) w := by
  have e1 : List.take 16 (pcells p) = acells p.a := by simp [pcells, acells_len]
  have e2 : List.take 16 (pcells q) = acells q.a := by simp [pcells, acells_len]
  have h1 : (pcells p)[16]? = some (.int .i64 p.n) := by simp [pcells, acells_len]
  have h2 : (pcells q)[16]? = some (.int .i64 q.n) := by simp [pcells, acells_len]
  have h3 := eqA d p.a q.a w
  have he : ∀ w a b, (Op.equalIn (d + 2) 3 (.int .i64 a) (.int .i64 b)).run Try.prog w = .ok (a == b) w := fun w a b => run_equalIn_int w (d + 1) _ _ _ a b Try.underlying3
  have hf : (Try.prog.fieldsOf 34).toList.map (fun f => (f.name, f.type, f.offset)) = [("A", 32, 0), ("Len", 3, 16)] := by kernel_rfl
  rw [run_equalIn_struct w (d + 2) 34 _ _ (by kernel_rfl) (by kernel_rfl)]
  generalize (Try.prog.fieldsOf 34).toList = fs at hf
  obtain ⟨f1, f2, rfl⟩ : ∃ f1 f2, fs = [f1, f2] := two_of (by have := congrArg List.length hf; simpa using this)
  · simp only [List.map_cons, List.map_nil, List.cons.injEq, Prod.mk.injEq, and_true] at hf
    obtain ⟨⟨n1, t1, o1⟩, n2, t2, o2⟩ := hf
    have ha : ∀ w, (isAgg 32).run Try.prog w = .ok true w := fun w => by simp [isAgg, run_underlying Try.underlying32]
    have hb : ∀ w, (isAgg 3).run Try.prog w = .ok false w := fun w => by simp [isAgg, run_underlying Try.underlying3]
    have hs : ∀ w, (sizeOf 32).run Try.prog w = .ok 16 w := fun w => by kernel_rfl
    simp [Op.eqFields, n1, n2, t1, t2, o1, o2, Sem.run_bind, Sem.run_ite, part, ha, hb, hs, Result.andThen_ok, if_true, Nat.zero_add, e1, e2, h3, Sem.run_pure, Bool.false_eq_true, if_false, List.getElem?_toArray, h1, h2, he]
    by_cases hh : p.a.l = q.a.l <;> by_cases hn : p.n = q.n <;> simp [hh, hn]
theorem eqQ (d : Nat) (p q : Pr) (w : World) : (Op.equalIn (d + 4) 36 (Value.agg (qcells p).toArray) (Value.agg (qcells q).toArray)).run Try.prog w = .ok ((decide (p.d.a.l = q.d.a.l) && decide (p.d.n = q.d.n)) && (decide (p.s.a.l = q.s.a.l) && decide (p.s.n = q.s.n))) w := by
  have e1 : List.take 17 (qcells p) = pcells p.d := by simp [qcells, pcells_len]
  have e2 : List.take 17 (qcells q) = pcells q.d := by simp [qcells, pcells_len]
  have e3 : List.take 17 (List.drop 17 (qcells p)) = pcells p.s := by simp [qcells, pcells_len, List.take_of_length_le]
  have e4 : List.take 17 (List.drop 17 (qcells q)) = pcells q.s := by simp [qcells, pcells_len, List.take_of_length_le]
  have h3 := eqP d p.d q.d w
  have h4 := eqP d p.s q.s w
  have hf : (Try.prog.fieldsOf 36).toList.map (fun f => (f.name, f.type, f.offset)) = [("Dst", 34, 0), ("Src", 34, 17)] := by kernel_rfl
  rw [run_equalIn_struct w (d + 3) 36 _ _ (by kernel_rfl) (by kernel_rfl)]
  generalize (Try.prog.fieldsOf 36).toList = fs at hf
  obtain ⟨f1, f2, rfl⟩ : ∃ f1 f2, fs = [f1, f2] := two_of (by have := congrArg List.length hf; simpa using this)
  · simp only [List.map_cons, List.map_nil, List.cons.injEq, Prod.mk.injEq, and_true] at hf
    obtain ⟨⟨n1, t1, o1⟩, n2, t2, o2⟩ := hf
    have ha : ∀ w, (isAgg 34).run Try.prog w = .ok true w := fun w => by simp [isAgg, run_underlying Try.underlying34]
    have hs : ∀ w, (sizeOf 34).run Try.prog w = .ok 17 w := fun w => by kernel_rfl
    simp [Op.eqFields, n1, n2, t1, t2, o1, o2, Sem.run_bind, Sem.run_ite, part, ha, hs, Result.andThen_ok, if_true, Nat.zero_add, e1, e2, e3, e4, h3, h4, Nat.reduceAdd]
    by_cases hh : p.d.a.l = q.d.a.l <;> by_cases hn : p.d.n = q.d.n <;> simp [hh, hn] <;> by_cases h5 : p.s.a.l = q.s.a.l <;> by_cases h6 : p.s.n = q.s.n <;> simp [h5, h6]
theorem run_eqlA (a b : Ad) (w : World) : (binOp .eql 32 (Value.agg (acells a).toArray) (Value.agg (acells b).toArray)).run Try.prog w = .ok (.bool (decide (a.l = b.l))) w := by
  have h := eqA 9998 a b w
  rw [run_eql_struct w, h]; rfl
theorem run_eqlQ (p q : Pr) (w : World) : (binOp .eql 36 (Value.agg (qcells p).toArray) (Value.agg (qcells q).toArray)).run Try.prog w = .ok (.bool ((decide (p.d.a.l = q.d.a.l) && decide (p.d.n = q.d.n)) && (decide (p.s.a.l = q.s.a.l) && decide (p.s.n = q.s.n)))) w := by
  have h := eqQ 9996 p q w
  rw [run_eql_struct w, h]; rfl
theorem guardA (op : BinOp) (x y : Operand) (a b : Ad) (w : World) : (eqGuard op 32 x y (Value.agg (acells a).toArray) (Value.agg (acells b).toArray)).run Try.prog w = .ok () w := by
  exact run_eqGuard_agg w op _ x y _ _ (by kernel_rfl)
theorem guardQ (op : BinOp) (x y : Operand) (a b : Pr) (w : World) : (eqGuard op 36 x y (Value.agg (qcells a).toArray) (Value.agg (qcells b).toArray)).run Try.prog w = .ok () w := by
  exact run_eqGuard_agg w op _ x y _ _ (by kernel_rfl)
end Go.Proofs.Ythofoocknmkdjaa

namespace Go.Proofs.Ythofoocknmkdjaa
open Go.RowKit
set_option linter.unusedSimpArgs false

/-- What a function that only makes memory answers. -/
def Gives (w : World) (v : Value) (e : Ending) (w' : World) : Prop := e = .returned v ∧ Below w.heap.size w w'

theorem retC {P : Program} {fn : Func} {p : Tmp} {ty : TypeId} {v : Value} {w : World} (h : fn.results = #[.cell p ty]) (tmps : Array Value) (b o : Nat) (hp : tmps.getD p undef = .pointer (some ⟨b, o, none⟩))
    (hl : (loadVar ty ⟨b, o, none⟩).run P w = .ok v w) : (results fn tmps).run P w = .ok v w := by
  simp only [results, h]
  rw [Array.getD_eq_getD_getElem?] at hp
  simp [Sem.run_bind, hp, asAddr, hl, Result.andThen]
theorem retCT {P : Program} {fn : Func} {p u : Tmp} {ty : TypeId} {v : Value} {w : World} (h : fn.results = #[.cell p ty, .tmp u]) (tmps : Array Value) (b o : Nat) (hp : tmps.getD p undef = .pointer (some ⟨b, o, none⟩))
    (hl : (loadVar ty ⟨b, o, none⟩).run P w = .ok v w) : (results fn tmps).run P w = .ok (.tuple #[v, tmps.getD u undef]) w := by
  simp only [results, h]
  rw [Array.getD_eq_getD_getElem?] at hp
  simp [Sem.run_bind, hp, asAddr, hl, Result.andThen]
theorem LA.new (w : World) (a : Ad) (t : TypeId) : LA (w.alloc (.cells (acells a).toArray t)) w.heap.size 0 a := rangeAt_new w _ t
theorem LP.new (w : World) (a : Pf) (t : TypeId) : LP (w.alloc (.cells (pcells a).toArray t)) w.heap.size 0 a := rangeAt_new w _ t
theorem LQ.new (w : World) (a : Pr) (t : TypeId) : LQ (w.alloc (.cells (qcells a).toArray t)) w.heap.size 0 a := rangeAt_new w _ t
theorem LA.below {w w' : World} {B b o : Nat} {c : Ad} (h : LA w b o c) (hb : Below B w w') (hlt : b < B) : LA w' b o c := rangeAt_below h hb hlt
theorem LP.below {w w' : World} {B b o : Nat} {c : Pf} (h : LP w b o c) (hb : Below B w w') (hlt : b < B) : LP w' b o c := rangeAt_below h hb hlt
theorem LQ.below {w w' : World} {B b o : Nat} {c : Pr} (h : LQ w b o c) (hb : Below B w w') (hlt : b < B) : LQ w' b o c := rangeAt_below h hb hlt
theorem LA.alloc {w : World} {b o : Nat} {c : Ad} (h : LA w b o c) (ob : Obj) : LA (w.alloc ob) b o c := World.rangeAt_alloc h ob
theorem LP.alloc {w : World} {b o : Nat} {c : Pf} (h : LP w b o c) (ob : Obj) : LP (w.alloc ob) b o c := World.rangeAt_alloc h ob
theorem LQ.alloc {w : World} {b o : Nat} {c : Pr} (h : LQ w b o c) (ob : Obj) : LQ (w.alloc ob) b o c := World.rangeAt_alloc h ob

def zeroA : Ad := ⟨List.replicate 16 0, rfl⟩
end Go.Proofs.Ythofoocknmkdjaa

namespace Go.Proofs.Ythofoocknmkdjaa
open Go.RowKit
set_option linter.unusedSimpArgs false
theorem bt {w w1 w2 : World} (h : Below w.heap.size w w1) (k : Below w1.heap.size w1 w2) : Below w.heap.size w w2 := h.trans (k.mono h.size)
theorem ba (w : World) (o : Obj) : Below w.heap.size w (w.alloc o) := (Below.refl _ _).alloc (Nat.le_refl _) o
theorem grownBy_trans {a b c : World} {r : Option Nat} (h : a.grownBy b r) (k : b.grownBy c r) : a.grownBy c r :=
  ⟨k.os.trans h.os, k.tape.trans h.tape, k.output.trans h.output, Nat.le_trans h.size k.size, fun i hi hne => (k.block i (Nat.lt_of_lt_of_le hi h.size) hne).trans (h.block i hi hne)⟩
theorem grownBy_setCell (w : World) (g o : Nat) (v : Value) : w.grownBy (w.setCell ⟨g, o, none⟩ v) (some g) :=
  ⟨rfl, rfl, rfl, by simp [World.setCell], fun i _ hne => Below.heap_setCell _ _ _ _ (fun e => hne (by rw [e]))⟩
theorem grownBy_setCells (g : Nat) : ∀ (vs : List Value) (o : Nat) (w : World), w.grownBy (w.setCells g o vs) (some g)
  | [], _, w => World.grownBy.refl _ _
  | v :: r, o, w => by
    rw [World.setCells]
    exact grownBy_trans (grownBy_setCell w g o v) (grownBy_setCells g r (o + 1) _)
theorem Row.setCells {t : TypeId} {g : Nat} : ∀ (vs pre : List Value) (w : World) (cs : List Value), Row w g t (pre ++ cs) → vs.length = cs.length → Row (w.setCells g pre.length vs) g t (pre ++ vs)
  | [], pre, w, cs, h, hl => by
    have : cs = [] := List.eq_nil_of_length_eq_zero hl.symm
    subst this
    exact h
  | v :: vs, pre, w, [], h, hl => by simp at hl
  | v :: vs, pre, w, c :: cs, h, hl => by
    rw [World.setCells]
    have h1 := h.set pre.length v
    have e : (pre ++ c :: cs).set pre.length v = (pre ++ [v]) ++ cs := by simp
    rw [e] at h1
    have h2 := Row.setCells vs (pre ++ [v]) _ cs h1 (by simpa using hl)
    rw [List.length_append] at h2
    simpa using h2
theorem Row.keep {w w' : World} {b g : Nat} {t : TypeId} {cs : List Value} (h : Row w g t cs) (hg : w.grownBy w' (some b)) (hne : g ≠ b) : Row w' g t cs :=
  (hg.block g h.lt (fun e => hne (by cases e; rfl))).trans h
theorem grown_below {w w' : World} {b B : Nat} {w0 : World} (hg : w.grownBy w' (some b)) (hb : Below B w0 w) (hB : B ≤ b) (hs : B ≤ w.heap.size) : Below B w0 w' :=
  ⟨hg.os.trans hb.os, hg.tape.trans hb.tape, hg.output.trans hb.output, Nat.le_trans hb.size hg.size, fun k hk => (hg.block k (by omega) (fun e => by cases e; omega)).trans (hb.block k hk)⟩
end Go.Proofs.Ythofoocknmkdjaa

namespace Go.Proofs.Ythofoocknmkdjaa
open Go.RowKit
set_option linter.unusedSimpArgs false
set_option linter.unusedVariables false
set_option maxRecDepth 20000
/-- The id of a router: eight bytes. -/
structure Id8 where
  l : List UInt8
  len : l.length = 8
theorem Id8.ext {a b : Id8} (h : a.l = b.l) : a = b := by
  cases a; cases b; cases h; rfl
def zeroI : Id8 := ⟨List.replicate 8 0, rfl⟩
def icells (i : Id8) : List Value := bcells i.l
theorem icells_len (i : Id8) : (icells i).length = 8 := by simp [icells, bcells, i.len]
theorem icells_one (i : Id8) : ∀ u ∈ icells i, u.oneCell' = true := bcells_one _
def zeroP : Pf := ⟨zeroA, 0⟩
def zeroQ : Pr := ⟨zeroP, zeroP⟩
abbrev idV (i : Id8) : Value := .agg (icells i).toArray
theorem infoI : (Try.prog.info? 38).map (·.size) = some 8 := by kernel_rfl
theorem infoQz : (Try.prog.info? 36).map (·.zero) = some (some (.agg (qcells zeroQ).toArray)) := by kernel_rfl
def LI (w : World) (b o : Nat) (r : Id8) : Prop := w.rangeAt b o (icells r)
theorem LI.new (w : World) (a : Id8) (t : TypeId) : LI (w.alloc (.cells (icells a).toArray t)) w.heap.size 0 a := rangeAt_new w _ t
theorem LI.below {w w' : World} {B b o : Nat} {c : Id8} (h : LI w b o c) (hb : Below B w w') (hlt : b < B) : LI w' b o c := rangeAt_below h hb hlt
theorem LI.alloc {w : World} {b o : Nat} {c : Id8} (h : LI w b o c) (ob : Obj) : LI (w.alloc ob) b o c := World.rangeAt_alloc h ob
section
variable {ops : Array Oper} {rest : List Oper} {op : Oper} {a : Act} {w : World} {Q : Exit → Act → World → Prop} {S : World → Prop}
theorem ldI (x : Operand) (hw : Region.wanted op (yielded ops a.tmps) = true) (ho : op.op = .load 38 x) (b o : Nat) (c : Id8) (hx : a.eval x = .pointer (some ⟨b, o, none⟩)) (hc : LI w b o c)
    (h : wpList Try.prog ops Q rest (a.put op.dst (idV c)) w) : wpList Try.prog ops Q (op :: rest) a w :=
  wpList_step fun K hK => by
    rw [if_pos hw]
    exact wp_load_mid _ x ho b o hx (icells c) _ hc Try.underlying38 rfl (by rw [infoI, icells_len]) (hK _ _ h)
theorem yI {b o : Nat} {x : Operand} (c : Id8) (hS : ∀ w, S w → LI w b o c) (hw : Region.wanted op (yielded ops a.tmps) = true) (ho : op.op = .load 38 x) (hx : a.eval x = .pointer (some ⟨b, o, none⟩)) : YieldsIf Try.prog ops S op (idV c) a :=
  yieldsIf_load_mid hw _ x ho b o hx (icells c) _ hS Try.underlying38 rfl (by rw [infoI, icells_len])
end
/-! ### Equality of ids -/
set_option maxRecDepth 4000 in
theorem eqI (d : Nat) (a b : Id8) (w : World) : (Op.equalIn (d + 2) 38 (.agg (icells a).toArray) (.agg (icells b).toArray)).run Try.prog w = .ok (decide (a.l = b.l)) w := by
  obtain ⟨i, hi⟩ : ∃ i, Try.prog.info? 5 = some i := Option.isSome_iff_exists.1 (by kernel_rfl)
  rw [run_equalIn_array w (d + 1) _ _ Try.underlying38 hi, show Try.prog.cellsOf 5 = 1 by kernel_rfl]
  unfold icells
  rw [eqItems_u8 d a.l b.l w _ (fun i hi => by rw [a.len, b.len]; exact ⟨List.mem_range.1 hi, List.mem_range.1 hi⟩)]
  congr 1
  exact decide_eq_decide.2 (same_of a.len b.len)
theorem run_eqlI (a b : Id8) (w : World) : (binOp .eql 38 (.agg (icells a).toArray) (.agg (icells b).toArray)).run Try.prog w = .ok (.bool (decide (a.l = b.l))) w := by
  have h := eqI 9998 a b w
  rw [run_eql_struct w, h]; rfl
theorem guardI (op : BinOp) (x y : Operand) (a b : Id8) (w : World) : (eqGuard op 38 x y (.agg (icells a).toArray) (.agg (icells b).toArray)).run Try.prog w = .ok () w := by
  exact run_eqGuard_agg w op _ x y _ _ (by kernel_rfl)
/-! ### Allocations -/
theorem run_alG {T : TypeId} {Z : List Value} {i : TypeInfo} (hi : Try.prog.info? T = some i) (hz : i.zero = some (.agg Z.toArray)) (w : World) : (Instr.alloc T true (.tuple #[])).run Try.prog w = .ok (.pointer (some ⟨w.heap.size, 0, none⟩)) (w.alloc (.cells Z.toArray T)) := by
  generalize Z.toArray = Z' at *
  simp [Instr.alloc, zeroValue, typeInfo, hi, hz, newVar, newRow, newObj, Value.cells]
  rfl
section
variable {ops : Array Oper} {rest : List Oper} {op : Oper} {a : Act} {w : World} {Q : Exit → Act → World → Prop} {K : Act → World → Prop} {E : Prop}
theorem wp_alG {T : TypeId} {Z : List Value} (hT : (Try.prog.info? T).map (·.zero) = some (some (.agg Z.toArray))) (ho : op.op = .alloc T)
    (h : ∀ g W, w.heap.size ≤ g → g < W.heap.size → Below w.heap.size w W → Row W g T Z → K (a.put op.dst (.pointer (some ⟨g, 0, none⟩))) W) : Oper.wp Try.prog op a w K Q := by
  obtain ⟨i, hi, hz⟩ : ∃ i, Try.prog.info? T = some i ∧ i.zero = some (.agg Z.toArray) := by
    cases hq : Try.prog.info? T with
    | none => simp [hq] at hT
    | some i => exact ⟨i, rfl, by simpa [hq] using hT⟩
  have h1 := h _ _ (Nat.le_refl _) (by simp) (ba w (.cells Z.toArray T)) (Row.new w T Z)
  unfold Oper.wp execOp
  simp only [ho, Sem.run_bind, run_alG hi hz, Result.andThen_ok, Sem.run_pure]
  exact h1
theorem alG {T : TypeId} {Z : List Value} (hT : (Try.prog.info? T).map (·.zero) = some (some (.agg Z.toArray))) (hw : Region.wanted op (yielded ops a.tmps) = true) (ho : op.op = .alloc T)
    (h : ∀ g W, w.heap.size ≤ g → g < W.heap.size → Below w.heap.size w W → Row W g T Z → wpList Try.prog ops Q rest (a.put op.dst (.pointer (some ⟨g, 0, none⟩))) W) : wpList Try.prog ops Q (op :: rest) a w :=
  wpList_step fun K hK => by
    rw [if_pos hw]
    exact wp_alG hT ho fun g W h1 h2 h3 h4 => hK _ _ (h g W h1 h2 h3 h4)
theorem sAlG {T : TypeId} {Z : List Value} (hT : (Try.prog.info? T).map (·.zero) = some (some (.agg Z.toArray))) (hw : Region.wanted op (yielded ops a.tmps) = true) (ho : op.op = .alloc T)
    (h : ∀ g W, w.heap.size ≤ g → g < W.heap.size → Below w.heap.size w W → Row W g T Z → K (a.put op.dst (.pointer (some ⟨g, 0, none⟩))) W) : if Region.wanted op (yielded ops a.tmps) = true then Oper.wp Try.prog op a w K Q else E := by
  rw [if_pos hw]
  exact wp_alG hT ho h
end

theorem Row.setMid {t : TypeId} {g : Nat} : ∀ (ds pre mid post : List Value) (w : World), Row w g t (pre ++ (mid ++ post)) → ds.length = mid.length → Row (w.setCells g pre.length ds) g t (pre ++ (ds ++ post))
  | [], pre, mid, post, w, h, hl => by
    obtain rfl : mid = [] := List.eq_nil_of_length_eq_zero hl.symm
    exact h
  | v :: ds, pre, [], post, w, h, hl => by simp at hl
  | v :: ds, pre, c :: mid, post, w, h, hl => by
    rw [World.setCells]
    have h1 := h.set pre.length v
    have e : (pre ++ ((c :: mid) ++ post)).set pre.length v = (pre ++ [v]) ++ (mid ++ post) := by simp
    rw [e] at h1
    have h2 := Row.setMid ds (pre ++ [v]) mid post _ h1 (by simpa using hl)
    rw [List.length_append] at h2
    simpa using h2
theorem Row.thereMid {w : World} {g : Nat} {t : TypeId} {cs : List Value} {o n : Nat} (h : Row w g t cs) (hn : o + n ≤ cs.length) : w.there g o n := fun j hj => by
  rw [h.cell, h.frozen]
  exact ⟨by simp; omega, rfl⟩
/-! ### Literals -/
section
variable {ops : Array Oper} {rest : List Oper} {op : Oper} {a : Act} {w : World} {Q : Exit → Act → World → Prop} {S : World → Prop} {T : TypeId} {v : Value}
theorem bdG (parts : List (Nat × Operand)) (hw : Region.wanted op (yielded ops a.tmps) = true) (ho : op.op = .build T parts.toArray)
    (hv : (Instr.build T (parts.map fun p => (p.1, a.eval p.2)).toArray).run Try.prog w = .ok v w)
    (h : wpList Try.prog ops Q rest (a.put op.dst v) w) : wpList Try.prog ops Q (op :: rest) a w :=
  wpList_step fun K hK => by
    rw [if_pos hw]
    unfold Oper.wp execOp
    simp only [ho, List.map_toArray, Sem.run_bind, hv, Result.andThen_ok, Sem.run_pure]
    exact hK _ _ h
theorem yB (parts : List (Nat × Operand)) (hw : Region.wanted op (yielded ops a.tmps) = true) (ho : op.op = .build T parts.toArray)
    (hv : ∀ w, (Instr.build T (parts.map fun p => (p.1, a.eval p.2)).toArray).run Try.prog w = .ok v w) : YieldsIf Try.prog ops S op v a :=
  .inl ⟨hw, fun w _ => by
    unfold execOp
    simp only [ho, List.map_toArray, Sem.run_bind, hv, Result.andThen_ok, Sem.run_pure]⟩
end
section
variable {ops : Array Oper} {rest : List Oper} {op : Oper} {a : Act} {w : World} {Q : Exit → Act → World → Prop} {K : Act → World → Prop} {E : Prop} {S : World → Prop}
theorem wp_bsG {T U : TypeId} {n : Nat} (parts : List (Nat × Operand)) (Z : List Value) (ho : op.op = .buildSlice T n parts.toArray)
    (hrun : ∀ w, (Instr.buildSlice T n (parts.map fun p => (p.1, a.eval p.2)).toArray).run Try.prog w = .ok (.slice (some ⟨w.heap.size, 0, none⟩) n n) (w.alloc (.cells Z.toArray U)))
    (h : ∀ W, Row W w.heap.size U Z → Below w.heap.size w W → K (a.put op.dst (.slice (some ⟨w.heap.size, 0, none⟩) n n)) W) : Oper.wp Try.prog op a w K Q := by
  have h1 := h _ (Row.new w U Z) (ba w _)
  unfold Oper.wp execOp
  simp only [ho, List.map_toArray, Sem.run_bind, hrun, Result.andThen_ok, Sem.run_pure]
  exact h1
theorem bsG {T U : TypeId} {n : Nat} (parts : List (Nat × Operand)) (Z : List Value) (hw : Region.wanted op (yielded ops a.tmps) = true) (ho : op.op = .buildSlice T n parts.toArray)
    (hrun : ∀ w, (Instr.buildSlice T n (parts.map fun p => (p.1, a.eval p.2)).toArray).run Try.prog w = .ok (.slice (some ⟨w.heap.size, 0, none⟩) n n) (w.alloc (.cells Z.toArray U)))
    (h : ∀ W, Row W w.heap.size U Z → Below w.heap.size w W → wpList Try.prog ops Q rest (a.put op.dst (.slice (some ⟨w.heap.size, 0, none⟩) n n)) W) : wpList Try.prog ops Q (op :: rest) a w :=
  wpList_step fun K hK => by
    rw [if_pos hw]
    exact wp_bsG parts Z ho hrun fun W k1 k2 => hK _ _ (h W k1 k2)
end
/-- A kind of elements: how they lie in memory. -/
structure Kd (α : Type) where
  enc : α → List Value
  T : TypeId
  ST : TypeId
  s : Nat
  by_ : Nat
  z : List Value
  len : ∀ x, (enc x).length = s
  one : ∀ x, ∀ u ∈ enc x, u.oneCell' = true
  und : Try.prog.underlying ST = some (.slice T)
  info : (Try.prog.info? T).map (fun i => (i.zero, i.size, i.bytes)) = some (some (.agg z.toArray), s, by_)
  zl : z.length = s
  sp : 0 < s
  bl : by_ ≤ 1000
variable {α : Type}
def Kd.cs (k : Kd α) (l : List α) : List Value := l.flatMap k.enc
theorem Kd.cs_len (k : Kd α) (l : List α) : (k.cs l).length = l.length * k.s := by
  induction l with
  | nil => simp [Kd.cs]
  | cons p ps ih => simp only [Kd.cs, List.flatMap_cons, List.length_append, List.length_cons] at *; rw [ih, k.len, Nat.add_mul]; omega
theorem Kd.cs_append (k : Kd α) (l m : List α) : k.cs (l ++ m) = k.cs l ++ k.cs m := by simp [Kd.cs]
theorem Kd.cs_one (k : Kd α) (l : List α) : ∀ u ∈ k.cs l, u.oneCell' = true := by
  intro u hu
  obtain ⟨p, _, hu⟩ := List.mem_flatMap.1 hu
  exact k.one p u hu
theorem Kd.cs_get (k : Kd α) : ∀ (l : List α) (j : Nat) (p : α), l[j]? = some p → ∀ i, i < k.s → (k.cs l)[j * k.s + i]? = (k.enc p)[i]?
  | [], j, p, h, _, _ => by simp at h
  | q :: l, 0, p, h, i, hi => by
    simp at h
    subst h
    have e : k.cs (q :: l) = k.enc q ++ k.cs l := by simp [Kd.cs]
    rw [e, List.getElem?_append_left (by rw [k.len]; omega)]
    simp
  | q :: l, j + 1, p, h, i, hi => by
    have e : k.cs (q :: l) = k.enc q ++ k.cs l := by simp [Kd.cs]
    rw [e, List.getElem?_append_right (by rw [k.len, Nat.add_mul]; omega)]
    have e2 : (j + 1) * k.s + i - (k.enc q).length = j * k.s + i := by rw [k.len, Nat.add_mul]; omega
    rw [e2]
    exact Kd.cs_get k l j p (by simpa using h) i hi
theorem info_parts {t : TypeId} {z : Value} {s b : Nat} (h : (Try.prog.info? t).map (fun i => (i.zero, i.size, i.bytes)) = some (some z, s, b)) : ∃ i, Try.prog.info? t = some i ∧ i.zero = some z ∧ i.size = s ∧ i.bytes = b := by
  cases hq : Try.prog.info? t with
  | none => simp [hq] at h
  | some i => simp [hq] at h; exact ⟨i, rfl, h.1, h.2.1, h.2.2⟩
theorem own_below {W W' : World} {B t s k : Nat} {xs : List Value} {v : Value} (ho : W.ownsRow B t s v k xs) (hb : Below W.heap.size W W') : W'.ownsRow B t s v k xs :=
  ho.kept (row := none) ⟨hb.os, hb.tape, hb.output, hb.size, fun i hi _ => hb.block i hi⟩ (by cases v.ownBlock <;> simp)
/-- A slice that is a row of the call's own, of these elements. -/
def Kd.Own (k : Kd α) (w : World) (B : Nat) (v : Value) (l : List α) : Prop := w.ownsRow B k.T k.s v l.length (k.cs l)
theorem Kd.own_at {k : Kd α} {w : World} {B : Nat} {v : Value} {l : List α} (h : k.Own w B v l) : ∃ ad c, v = .slice ad l.length c ∧ (l ≠ [] → ∃ g, ad = some ⟨g, 0, none⟩ ∧ B ≤ g ∧ g < w.heap.size ∧ (∃ cs f, w.heap[g]? = some (.cells cs k.T f)) ∧ ∀ (j : Nat) (p : α), l[j]? = some p → w.rangeAt g (j * k.s) (k.enc p)) := by
  rcases h.2 with ⟨rfl, h1⟩ | ⟨g, cap, cur, e, hB, hh, _⟩
  · refine ⟨none, 0, by rw [h1], fun hn => absurd (List.eq_nil_of_length_eq_zero h1) hn⟩
  · refine ⟨some ⟨g, 0, none⟩, cap, e, fun _ => ⟨g, rfl, hB, (Array.getElem?_eq_some_iff.1 hh).1, ⟨_, _, hh⟩, fun j p hp i u hu => ?_⟩⟩
    have hi : i < k.s := by have := (List.getElem?_eq_some_iff.1 hu).1; rwa [k.len] at this
    have h2 := World.ownsRow.cells (g := g) h (by rw [e]; rfl) (j * k.s + i) u (by rw [k.cs_get l j p hp i hi]; exact hu)
    rw [Addr.add_mid, Nat.zero_add] at h2
    exact h2
section
variable {w : World} {ops : Array Oper} {rest : List Oper} {o : Oper} {a : Act} {Q : Exit → Act → World → Prop} {K : Act → World → Prop} {E : Prop}
theorem Kd.wp_append (k : Kd α) (s x : Operand) (ho : o.op = .call { callee := .builtin .append, args := #[s, x], argTypes := #[k.ST, k.ST] })
    (B : Nat) (v : Value) (l : List α) (hs : a.eval s = v) (hown : k.Own w B v l) (g c : Nat) (p : α) (hx : a.eval x = .slice (some ⟨g, 0, none⟩) 1 c) (hr : Row w g k.T (k.enc p)) (hl : l.length ≤ 10000000) (hB : B ≤ w.heap.size)
    (h : ∀ v' w', k.Own w' B v' (l ++ [p]) → w.grownBy w' v.ownBlock → K (a.put o.dst v') w') : Oper.wp Try.prog o a w K Q := by
  obtain ⟨i0, hi, hz0, hz1, hz2⟩ := info_parts k.info
  have hb : (l.length + 1) * k.by_ ≤ (l.length + 1) * 1000 := Nat.mul_le_mul_left _ k.bl
  refine wp_append_own w s x k.ST ho B k.T i0 (.agg k.z.toArray) k.s k.by_ k.und hi hz0 hz1 hz2 (by simp [Value.cells, k.zl]) k.sp v l.length (k.cs l) hs hown ⟨g, 0, none⟩ 1 c (k.enc p) hx (by rw [k.len]; omega) (fun j u hu => ?_) (k.one p) (by unfold maxLen; omega) (by omega) hB (fun v' w' h1 h2 _ => h v' w' ?_ h2)
  · rw [Addr.add_mid, Nat.zero_add]
    rw [hr.cell]; exact hu
  · unfold Kd.Own
    rw [k.cs_append, List.length_append]
    have e : k.cs [p] = k.enc p := by simp [Kd.cs]
    rw [e]
    exact h1
theorem Kd.append (k : Kd α) (s x : Operand) (hw : Region.wanted o (yielded ops a.tmps) = true) (ho : o.op = .call { callee := .builtin .append, args := #[s, x], argTypes := #[k.ST, k.ST] })
    (B : Nat) (v : Value) (l : List α) (hs : a.eval s = v) (hown : k.Own w B v l) (g c : Nat) (p : α) (hx : a.eval x = .slice (some ⟨g, 0, none⟩) 1 c) (hr : Row w g k.T (k.enc p)) (hl : l.length ≤ 10000000) (hB : B ≤ w.heap.size)
    (h : ∀ v' w', k.Own w' B v' (l ++ [p]) → w.grownBy w' v.ownBlock → wpList Try.prog ops Q rest (a.put o.dst v') w') : wpList Try.prog ops Q (o :: rest) a w :=
  wpList_step fun K hK => by
    rw [if_pos hw]
    exact k.wp_append s x ho B v l hs hown g c p hx hr hl hB fun v' w' h1 h2 => hK _ _ (h v' w' h1 h2)
theorem sBsG {T U : TypeId} {n : Nat} (parts : List (Nat × Operand)) (Z : List Value) (hw : Region.wanted o (yielded ops a.tmps) = true) (ho : o.op = .buildSlice T n parts.toArray)
    (hrun : ∀ w, (Instr.buildSlice T n (parts.map fun p => (p.1, a.eval p.2)).toArray).run Try.prog w = .ok (.slice (some ⟨w.heap.size, 0, none⟩) n n) (w.alloc (.cells Z.toArray U)))
    (h : ∀ W, Row W w.heap.size U Z → Below w.heap.size w W → K (a.put o.dst (.slice (some ⟨w.heap.size, 0, none⟩) n n)) W) : if Region.wanted o (yielded ops a.tmps) = true then Oper.wp Try.prog o a w K Q else E := by
  rw [if_pos hw]
  exact wp_bsG parts Z ho hrun h
end
theorem own_ne_row {w : World} {B : Nat} {T T' : TypeId} {sz : Nat} {v : Value} {n : Nat} {xs : List Value} {g : Nat} {cs : List Value} (h : w.ownsRow B T sz v n xs) (hr : Row w g T' cs) (hT : T ≠ T') : v.ownBlock ≠ some g := by
  rcases h.2 with ⟨rfl, _⟩ | ⟨g', cap, cur, rfl, _, hh, _⟩
  · simp [Value.ownBlock]
  · intro e
    simp [Value.ownBlock] at e
    subst e
    unfold Row at hr
    rw [hh] at hr
    cases hr
    exact hT rfl
theorem own_ne_lt {w : World} {B : Nat} {T : TypeId} {sz : Nat} {v : Value} {n : Nat} {xs : List Value} {g : Nat} (h : w.ownsRow B T sz v n xs) (hg : g < B) : v.ownBlock ≠ some g := by
  rcases h.2 with ⟨rfl, _⟩ | ⟨g', cap, cur, rfl, hB, hh, _⟩
  · simp [Value.ownBlock]
  · intro e
    simp [Value.ownBlock] at e
    omega
theorem Row.keepO {w w' : World} {o : Option Nat} {g : Nat} {t : TypeId} {cs : List Value} (h : Row w g t cs) (hg : w.grownBy w' o) (hne : o ≠ some g) : Row w' g t cs :=
  (hg.block g h.lt (fun e => hne e.symm)).trans h
theorem below_keepO {w0 w w' : World} {o : Option Nat} {B : Nat} (hb : Below B w0 w) (hg : w.grownBy w' o) (hne : ∀ g, g < B → o ≠ some g) (hs : B ≤ w.heap.size) : Below B w0 w' :=
  ⟨hg.os.trans hb.os, hg.tape.trans hb.tape, hg.output.trans hb.output, Nat.le_trans hb.size hg.size, fun k hk => (hg.block k (by omega) (fun e => hne k hk e.symm)).trans (hb.block k hk)⟩
theorem rangeAt_keep {w w' : World} {b g o : Nat} {cs : List Value} (h : w.rangeAt g o cs) (hg : w.grownBy w' (some b)) (hne : g ≠ b) (hlt : g < w.heap.size) : w'.rangeAt g o cs := fun j v hv => by
  have e := hg.block g hlt (fun e => hne (by cases e; rfl))
  have := h j v hv
  unfold World.cell? at *
  rw [e]
  exact this
theorem low_rows (w : World) (cs ds : List Value) (t u : TypeId) : Below w.heap.size w ((w.alloc (.cells cs.toArray t)).alloc (.cells ds.toArray u)) ∧ Row ((w.alloc (.cells cs.toArray t)).alloc (.cells ds.toArray u)) w.heap.size t cs ∧ Row ((w.alloc (.cells cs.toArray t)).alloc (.cells ds.toArray u)) (w.heap.size + 1) u ds := by
  have q1 := Row.new (w.alloc (.cells cs.toArray t)) u ds
  rw [World.size_alloc] at q1
  exact ⟨bt (ba _ _) (ba _ _), (Row.new w t cs).alloc _, q1⟩
theorem below_more {w w1 w2 : World} {B : Nat} (h : Below w.heap.size w w1) (k : Below B w1 w2) (hB : w.heap.size ≤ B := by omega) : Below w.heap.size w w2 := h.trans (k.mono hB)
theorem Kd.own_up {α : Type} {k : Kd α} {w : World} {B B' : Nat} {v : Value} {l : List α} (h : k.Own w B v l) (hB : B' ≤ B) : k.Own w B' v l := by
  rcases h.2 with ⟨e, h1⟩ | ⟨g, cap, cur, e, hb, h2⟩
  · exact ⟨h.1, .inl ⟨e, h1⟩⟩
  · exact ⟨h.1, .inr ⟨g, cap, cur, e, by omega, h2⟩⟩
end Go.Proofs.Ythofoocknmkdjaa
