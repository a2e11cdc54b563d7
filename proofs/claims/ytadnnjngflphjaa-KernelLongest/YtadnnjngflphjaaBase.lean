/-
  Addresses, prefixes and pairs as values and in memory: their cells, loads, stores, boxes, fields, and equality, and regions that draw their order.
-/
import Derived.Test.YtadnnjngflphjaaRows
import Derived.WalkKit
import Derived.ProofKit
import Derived.WalkSpells
import Derived.WalkLawsBesides
import Derived.Deep.MidRow
import Derived.Deep.RegionHeld3
import Derived.Laws.CopyOwn
import Derived.ChangeKeysEq
namespace Go.Proofs.Ytadnnjngflphjaa
open Go.RowKit
set_option linter.unusedSimpArgs false

/-- The cells of bytes. -/
def bcells (l : List UInt8) : List Value := l.map fun b => Value.int .u8 b.toNat
theorem bcells_length (l : List UInt8) : (bcells l).length = l.length := by simp [bcells]
theorem bcells_append (l m : List UInt8) : bcells (l ++ m) = bcells l ++ bcells m := by simp [bcells]
theorem bcells_one (l : List UInt8) : ∀ u ∈ bcells l, u.oneCell' = true := by
  intro u hu
  obtain ⟨_, _, rfl⟩ := List.mem_map.1 hu
  rfl
theorem bcells_get {l : List UInt8} {j : Nat} {b : UInt8} (h : l[j]? = some b) : (bcells l)[j]? = some (.int .u8 b.toNat) := by simp [bcells, h]
/-- An address: sixteen bytes. -/
structure Ad where
  l : List UInt8
  len : l.length = 16
theorem Ad.ext {a b : Ad} (h : a.l = b.l) : a = b := by
  cases a; cases b; cases h; rfl
/-- A prefix. -/
structure Pf where
  a : Ad
  n : Int
structure Pr where
  d : Pf
  s : Pf
def acells (a : Ad) : List Value := bcells a.l
def pcells (p : Pf) : List Value := acells p.a ++ [.int .i64 p.n]
def qcells (q : Pr) : List Value := pcells q.d ++ pcells q.s
theorem acells_len (a : Ad) : (acells a).length = 16 := by simp [acells, bcells, a.len]
theorem pcells_len (p : Pf) : (pcells p).length = 17 := by simp [pcells, acells_len]
theorem qcells_len (p : Pr) : (qcells p).length = 34 := by simp [qcells, pcells_len]
theorem acells_one (a : Ad) : ∀ u ∈ acells a, u.oneCell' = true := bcells_one _
theorem pcells_one (p : Pf) : ∀ u ∈ pcells p, u.oneCell' = true := by
  intro u hu
  rcases List.mem_append.1 hu with h | h
  · exact acells_one _ u h
  · simp at h; subst h; rfl
theorem qcells_one (p : Pr) : ∀ u ∈ qcells p, u.oneCell' = true := by
  intro u hu
  rcases List.mem_append.1 hu with h | h
  · exact pcells_one _ u h
  · exact pcells_one _ u h

theorem infoA : (Try.prog.info? 31).map (·.size) = some 16 := by kernel_rfl
theorem infoP : (Try.prog.info? 33).map (·.size) = some 17 := by kernel_rfl
theorem infoQ : (Try.prog.info? 35).map (·.size) = some 34 := by kernel_rfl

theorem rangeAt_new (w : World) (cs : List Value) (t : TypeId) : (w.alloc (.cells cs.toArray t)).rangeAt w.heap.size 0 cs := by
  intro j v hv
  have h : (w.alloc (.cells cs.toArray t)).heap[w.heap.size]? = some (.cells cs.toArray t (0, 0)) := by
    show (w.heap.push _)[w.heap.size]? = _
    simp
  rw [Nat.zero_add, cell_of_row _ _ j cs.toArray t (0, 0) h]
  simpa using hv
theorem rangeAt_below {w w' : World} {B b o : Nat} {cs : List Value} (h : w.rangeAt b o cs) (hb : Below B w w') (hlt : b < B) : w'.rangeAt b o cs := fun j v hv =>
  (hb.cell (p := ⟨b, o + j, none⟩) hlt).trans (h j v hv)
theorem rangeAt_left {w : World} {b o : Nat} {cs ds : List Value} (h : w.rangeAt b o (cs ++ ds)) : w.rangeAt b o cs := fun j v hv =>
  h j v (by rw [List.getElem?_append_left (List.getElem?_eq_some_iff.1 hv).1]; exact hv)
theorem rangeAt_right {w : World} {b o k : Nat} {cs ds : List Value} (h : w.rangeAt b o (cs ++ ds)) (hk : cs.length = k) : w.rangeAt b (o + k) ds := fun j v hv => by
  subst hk
  have := h (cs.length + j) v (by rw [List.getElem?_append_right (by omega)]; simpa using hv)
  rwa [← Nat.add_assoc] at this
/-- An address, a prefix, a pair that lie somewhere. -/
def LA (w : World) (b o : Nat) (a : Ad) : Prop := w.rangeAt b o (acells a)
def LP (w : World) (b o : Nat) (p : Pf) : Prop := w.rangeAt b o (pcells p)
def LQ (w : World) (b o : Nat) (p : Pr) : Prop := w.rangeAt b o (qcells p)
theorem LP.a {w : World} {b o : Nat} {p : Pf} (h : LP w b o p) : LA w b o p.a := rangeAt_left h
theorem LP.n {w : World} {b o : Nat} {p : Pf} (h : LP w b o p) : w.cell? ⟨b, o + 16, none⟩ = some (.int .i64 p.n) := by
  have := rangeAt_right h (acells_len p.a) 0 (.int .i64 p.n) rfl
  simpa using this
theorem LQ.d {w : World} {b o : Nat} {p : Pr} (h : LQ w b o p) : LP w b o p.d := rangeAt_left h
theorem LQ.s {w : World} {b o : Nat} {p : Pr} (h : LQ w b o p) : LP w b (o + 17) p.s := rangeAt_right h (pcells_len p.d)

theorem name_world {R P : World → Prop} (w : World) (h : P w) (k : ∀ W, P W → R W) : R w := k w h
theorem take_get {α : Type} {l : List α} {k j : Nat} {v : α} (h : (l.take k)[j]? = some v) : l[j]? = some v := by
  rw [List.getElem?_take] at h
  split at h
  · exact h
  · cases h
/-- A block of the call's own that holds these cells. -/
def Row (w : World) (g : Nat) (t : TypeId) (cs : List Value) : Prop := w.heap[g]? = some (.cells cs.toArray t (0, 0))
theorem Row.lt {w : World} {g : Nat} {t : TypeId} {cs : List Value} (h : Row w g t cs) : g < w.heap.size := (Array.getElem?_eq_some_iff.1 h).1
theorem Row.new (w : World) (t : TypeId) (cs : List Value) : Row (w.alloc (.cells cs.toArray t)) w.heap.size t cs := by
  show (w.heap.push _)[w.heap.size]? = _
  simp
theorem Row.alloc {w : World} {g : Nat} {t : TypeId} {cs : List Value} (h : Row w g t cs) (o : Obj) : Row (w.alloc o) g t cs := by
  show (w.heap.push _)[g]? = _
  rw [Array.getElem?_push_lt h.lt]
  exact (Array.getElem?_eq_getElem h.lt).symm.trans h
theorem Row.drew {w : World} {g : Nat} {t : TypeId} {cs : List Value} (h : Row w g t cs) : Row w.drew g t cs := h
theorem Row.below {w w' : World} {B g : Nat} {t : TypeId} {cs : List Value} (h : Row w g t cs) (hb : Below B w w') (hlt : g < B) : Row w' g t cs := (hb.block g hlt).trans h
theorem Row.cell {w : World} {g : Nat} {t : TypeId} {cs : List Value} (h : Row w g t cs) (j : Nat) : w.cell? ⟨g, j, none⟩ = cs[j]? := by
  rw [cell_of_row w g j cs.toArray t (0, 0) h]; simp
theorem Row.frozen {w : World} {g : Nat} {t : TypeId} {cs : List Value} (h : Row w g t cs) (j : Nat) : w.frozen? ⟨g, j, none⟩ = false := by
  unfold Row at h
  simp [World.frozen?, h]
theorem Row.range {w : World} {g : Nat} {t : TypeId} {cs : List Value} (h : Row w g t cs) : w.rangeAt g 0 cs := fun j v hv => by rw [Nat.zero_add, h.cell]; exact hv
theorem Row.there {w : World} {g : Nat} {t : TypeId} {cs : List Value} {n : Nat} (h : Row w g t cs) (hn : n ≤ cs.length) : w.there g 0 n := fun j hj => by
  rw [Nat.zero_add, h.cell, h.frozen]
  exact ⟨by simp; omega, rfl⟩
theorem Row.set {w : World} {g : Nat} {t : TypeId} {cs : List Value} (h : Row w g t cs) (j : Nat) (v : Value) : Row (w.setCell ⟨g, j, none⟩ v) g t (cs.set j v) := by
  unfold Row at *
  simp [World.setCell, Array.getElem?_modify, h]
theorem Row.setOther {w : World} {g : Nat} {t : TypeId} {cs : List Value} (h : Row w g t cs) (g' j : Nat) (v : Value) (hne : g' ≠ g) : Row (w.setCell ⟨g', j, none⟩ v) g t cs := by
  unfold Row at *
  simp [World.setCell, Array.getElem?_modify, h, hne]
theorem below_setCells {B : Nat} {w0 : World} (g : Nat) (h : B ≤ g) : ∀ (vs : List Value) (o : Nat) (w : World), Below B w0 w → Below B w0 (w.setCells g o vs)
  | [], _, _, hb => hb
  | v :: r, o, w, hb => by
    rw [World.setCells]
    exact below_setCells g h r (o + 1) _ (hb.setCell (p := ⟨g, o, none⟩) h v)

/-! ### Regions that draw their order -/
/-- At the end this frame, and a world of which PP is known; no panic. -/
def Meets (a' : Act) (PP : World → Prop) : Exit → Act → World → Prop
  | .normal, a, w => a = a' ∧ PP w
  | _, _, _ => False
theorem region_then {P : Program} {c : Code} {Q : Exit → Act → World → Prop} {a : Act} {w : World} {PP : World → Prop} (a' : Act) (h1 : Code.wp P c (Meets a' PP) a w) (h2 : ∀ W, PP W → Q .normal a' W) : Code.wp P c Q a w :=
  Code.wp_mono (fun e b v h => by
    cases e with
    | normal => obtain ⟨rfl, h⟩ := h; exact h2 v h
    | _ => exact (h : False).elim) h1
theorem at_lit {ops : Array Oper} {i : Nat} {o : Oper} {rest : List Oper} (h : ops.toList.drop i = o :: rest) : ops[i]? = some o := by
  have e : (ops.toList.drop i)[0]? = some o := by rw [h]; rfl
  rw [List.getElem?_drop] at e
  simpa using e
theorem take_lit {P : Program} {md : Region.Mode} {ops : Array Oper} {Q : Exit → Act → World → Prop} {S : World → Prop} {i : Nat} {oi : Oper} {rest : List Oper} {v : Value} {fuel : Nat} {listed : Array Bool} {a : Act} {w : World} (hi : ops.toList.drop i = oi :: rest)
    (hs : Region.noSelect ops = true) (hf : Region.free md ops listed i = true) (hr : (Region.ready md ops listed).contains i = true)
    (hQ : ∀ c a w, Q (.panic c) (a.put oi.dst v) w → Q (.panic c) a w) (hy : YieldsIf P ops S oi v a) (hS : S w)
    (h : wpAnyH P md ops Q S fuel (listed.setIfInBounds i true) (a.put oi.dst v) w) : wpAnyH P md ops Q S (fuel + 1) listed a w :=
  wpAnyH_take (at_lit hi) hs hf hr hQ hy hS h
theorem cons_lit {P : Program} {md : Region.Mode} {ops : Array Oper} {Q : Exit → Act → World → Prop} {S : World → Prop} {fuel : Nat} {listed : Array Bool} {a : Act} {w : World} {i : Nat} {o : Oper} {rest : List Oper} {rs : List Nat} (ho : ops.toList.drop i = o :: rest)
    (h : ∀ K' : Act → World → Prop, Shut (∀ a w, S w → (S w → wpAnyH P md ops Q S fuel (listed.setIfInBounds i true) a w) → K' a w) → if Region.wanted o (yielded ops a.tmps) = true then Oper.wp P o a w K' Q else K' (a.put o.dst undef) w)
    (hs : AllReadyH P md ops Q S fuel listed a w rs) : AllReadyH P md ops Q S fuel listed a w (i :: rs) := AllReadyH.cons (at_lit ho) h hs
theorem yA {ops : Array Oper} {S : World → Prop} {op : Oper} {a : Act} {b o : Nat} {x : Operand} (c : Ad) (hS : ∀ w, S w → LA w b o c) (hw : Region.wanted op (yielded ops a.tmps) = true) (ho : op.op = .load 31 x) (hx : a.eval x = .pointer (some ⟨b, o, none⟩)) : YieldsIf Try.prog ops S op (Value.agg (acells c).toArray) a :=
  yieldsIf_load_mid hw _ x ho b o hx (acells c) _ hS Try.underlying31 rfl (by rw [infoA, acells_len])
theorem yP {ops : Array Oper} {S : World → Prop} {op : Oper} {a : Act} {b o : Nat} {x : Operand} (c : Pf) (hS : ∀ w, S w → LP w b o c) (hw : Region.wanted op (yielded ops a.tmps) = true) (ho : op.op = .load 33 x) (hx : a.eval x = .pointer (some ⟨b, o, none⟩)) : YieldsIf Try.prog ops S op (Value.agg (pcells c).toArray) a :=
  yieldsIf_load_mid hw _ x ho b o hx (pcells c) _ hS Try.underlying33 rfl (by rw [infoP, pcells_len])
theorem yQ {ops : Array Oper} {S : World → Prop} {op : Oper} {a : Act} {b o : Nat} {x : Operand} (c : Pr) (hS : ∀ w, S w → LQ w b o c) (hw : Region.wanted op (yielded ops a.tmps) = true) (ho : op.op = .load 35 x) (hx : a.eval x = .pointer (some ⟨b, o, none⟩)) : YieldsIf Try.prog ops S op (Value.agg (qcells c).toArray) a :=
  yieldsIf_load_mid hw _ x ho b o hx (qcells c) _ hS Try.underlying35 rfl (by rw [infoQ, qcells_len])

/-! ### Loads of whole addresses, prefixes, pairs -/
section
variable {ops : Array Oper} {rest : List Oper} {op : Oper} {a : Act} {w : World} {Q : Exit → Act → World → Prop}
theorem ldA (x : Operand) (hw : Region.wanted op (yielded ops a.tmps) = true) (ho : op.op = .load 31 x) (b o : Nat) (c : Ad) (hx : a.eval x = .pointer (some ⟨b, o, none⟩)) (hc : LA w b o c)
    (h : wpList Try.prog ops Q rest (a.put op.dst (Value.agg (acells c).toArray)) w) : wpList Try.prog ops Q (op :: rest) a w :=
  wpList_step fun K hK => by
    rw [if_pos hw]
    exact wp_load_mid _ x ho b o hx (acells c) _ hc Try.underlying31 rfl (by rw [infoA, acells_len]) (hK _ _ h)
theorem ldP (x : Operand) (hw : Region.wanted op (yielded ops a.tmps) = true) (ho : op.op = .load 33 x) (b o : Nat) (c : Pf) (hx : a.eval x = .pointer (some ⟨b, o, none⟩)) (hc : LP w b o c)
    (h : wpList Try.prog ops Q rest (a.put op.dst (Value.agg (pcells c).toArray)) w) : wpList Try.prog ops Q (op :: rest) a w :=
  wpList_step fun K hK => by
    rw [if_pos hw]
    exact wp_load_mid _ x ho b o hx (pcells c) _ hc Try.underlying33 rfl (by rw [infoP, pcells_len]) (hK _ _ h)
theorem ldQ (x : Operand) (hw : Region.wanted op (yielded ops a.tmps) = true) (ho : op.op = .load 35 x) (b o : Nat) (c : Pr) (hx : a.eval x = .pointer (some ⟨b, o, none⟩)) (hc : LQ w b o c)
    (h : wpList Try.prog ops Q rest (a.put op.dst (Value.agg (qcells c).toArray)) w) : wpList Try.prog ops Q (op :: rest) a w :=
  wpList_step fun K hK => by
    rw [if_pos hw]
    exact wp_load_mid _ x ho b o hx (qcells c) _ hc Try.underlying35 rfl (by rw [infoQ, qcells_len]) (hK _ _ h)
end

section
variable {ops : Array Oper} {rest : List Oper} {op : Oper} {a : Act} {w : World} {Q : Exit → Act → World → Prop}
theorem stA (x y : Operand) (hw : Region.wanted op (yielded ops a.tmps) = true) (ho : op.op = .store 31 x y) (b o : Nat) (c : Ad) (hx : a.eval x = .pointer (some ⟨b, o, none⟩)) (hy : a.eval y = (Value.agg (acells c).toArray)) (ht : w.there b o 16)
    (h : wpList Try.prog ops Q rest (a.put op.dst undef) (w.setCells b o (acells c))) : wpList Try.prog ops Q (op :: rest) a w :=
  wpList_step fun K hK => by
    rw [if_pos hw]
    exact wp_store_mid _ x y ho b o _ hx hy (by simpa [acells_len] using ht) (by rw [infoA]; simp [acells_len]) (all_oneCell_toArray (acells_one c)) (hK _ _ (by simpa using h))
theorem stP (x y : Operand) (hw : Region.wanted op (yielded ops a.tmps) = true) (ho : op.op = .store 33 x y) (b o : Nat) (c : Pf) (hx : a.eval x = .pointer (some ⟨b, o, none⟩)) (hy : a.eval y = (Value.agg (pcells c).toArray)) (ht : w.there b o 17)
    (h : wpList Try.prog ops Q rest (a.put op.dst undef) (w.setCells b o (pcells c))) : wpList Try.prog ops Q (op :: rest) a w :=
  wpList_step fun K hK => by
    rw [if_pos hw]
    exact wp_store_mid _ x y ho b o _ hx hy (by simpa [pcells_len] using ht) (by rw [infoP]; simp [pcells_len]) (all_oneCell_toArray (pcells_one c)) (hK _ _ (by simpa using h))
theorem stQ (x y : Operand) (hw : Region.wanted op (yielded ops a.tmps) = true) (ho : op.op = .store 35 x y) (b o : Nat) (c : Pr) (hx : a.eval x = .pointer (some ⟨b, o, none⟩)) (hy : a.eval y = (Value.agg (qcells c).toArray)) (ht : w.there b o 34)
    (h : wpList Try.prog ops Q rest (a.put op.dst undef) (w.setCells b o (qcells c))) : wpList Try.prog ops Q (op :: rest) a w :=
  wpList_step fun K hK => by
    rw [if_pos hw]
    exact wp_store_mid _ x y ho b o _ hx hy (by simpa [qcells_len] using ht) (by rw [infoQ]; simp [qcells_len]) (all_oneCell_toArray (qcells_one c)) (hK _ _ (by simpa using h))
end
theorem LA.stored {w : World} {b o : Nat} {c : Ad} (ht : w.there b o 16) : LA (w.setCells b o (acells c)) b o c := World.rangeAt_setCells_same _ _ _ _ (by rw [acells_len]; exact ht)
theorem LP.stored {w : World} {b o : Nat} {c : Pf} (ht : w.there b o 17) : LP (w.setCells b o (pcells c)) b o c := World.rangeAt_setCells_same _ _ _ _ (by rw [pcells_len]; exact ht)
theorem LQ.stored {w : World} {b o : Nat} {c : Pr} (ht : w.there b o 34) : LQ (w.setCells b o (qcells c)) b o c := World.rangeAt_setCells_same _ _ _ _ (by rw [qcells_len]; exact ht)

/-! ### Boxes -/
theorem run_boxA (c : Ad) (w : World) : (Instr.box 31 (Value.agg (acells c).toArray)).run Try.prog w = .ok (.pointer (some ⟨w.heap.size, 0, none⟩)) (w.alloc (.cells (acells c).toArray 31)) := by
  go_simp
theorem run_boxP (c : Pf) (w : World) : (Instr.box 33 (Value.agg (pcells c).toArray)).run Try.prog w = .ok (.pointer (some ⟨w.heap.size, 0, none⟩)) (w.alloc (.cells (pcells c).toArray 33)) := by
  go_simp
theorem run_boxQ (c : Pr) (w : World) : (Instr.box 35 (Value.agg (qcells c).toArray)).run Try.prog w = .ok (.pointer (some ⟨w.heap.size, 0, none⟩)) (w.alloc (.cells (qcells c).toArray 35)) := by
  go_simp

/-! ### Fields of values -/
theorem extractA (p : Pf) : (pcells p).toArray.extract 0 16 = (acells p.a).toArray := by
  simp [pcells, acells_len]
theorem extractD (p : Pr) : (qcells p).toArray.extract 0 17 = (pcells p.d).toArray := by
  simp [qcells, pcells_len]
theorem extractS (p : Pr) : (qcells p).toArray.extract 17 34 = (pcells p.s).toArray := by
  simp [qcells, pcells_len, List.take_of_length_le]
theorem run_fieldA (p : Pf) (w : World) : (Instr.field 33 (Value.agg (pcells p).toArray) 0).run Try.prog w = .ok (Value.agg (acells p.a).toArray) w := by
  have h := extractA p
  unfold Instr.field
  go_simp
  simp only [asAgg, Sem.run_pure, Result.andThen_ok, h]
theorem run_fieldN (p : Pf) (w : World) : (Instr.field 33 (Value.agg (pcells p).toArray) 1).run Try.prog w = .ok (.int .i64 p.n) w := by
  have h : (pcells p)[16]? = some (.int .i64 p.n) := by simp [pcells, acells_len]
  unfold Instr.field
  go_simp
  simp [asAgg, h]
theorem run_fieldD (p : Pr) (w : World) : (Instr.field 35 (Value.agg (qcells p).toArray) 0).run Try.prog w = .ok (Value.agg (pcells p.d).toArray) w := by
  have h := extractD p
  unfold Instr.field
  go_simp
  simp only [asAgg, Sem.run_pure, Result.andThen_ok, h]
theorem run_fieldS (p : Pr) (w : World) : (Instr.field 35 (Value.agg (qcells p).toArray) 1).run Try.prog w = .ok (Value.agg (pcells p.s).toArray) w := by
  have h := extractS p
  unfold Instr.field
  go_simp
  simp only [asAgg, Sem.run_pure, Result.andThen_ok, h]

/-! ### Equality -/
theorem eqItems_u8 (d : Nat) (l m : List UInt8) (w : World) : ∀ is : List Nat, (∀ i ∈ is, i < l.length ∧ i < m.length) →
    (Op.eqItems (d + 1) 5 1 (bcells l).toArray (bcells m).toArray is).run Try.prog w = .ok (decide (∀ i ∈ is, l[i]? = m[i]?)) w
  | [], _ => by simp [Op.eqItems]
  | i :: is, h => by
    have ih := eqItems_u8 d l m w is (fun j hj => h j (by simp [hj]))
    obtain ⟨h1, h2⟩ := h i (by simp)
    have e1 : (bcells l)[i]? = some (.int .u8 l[i].toNat) := by simp [bcells, h1]
    have e2 : (bcells m)[i]? = some (.int .u8 m[i].toNat) := by simp [bcells, h2]
    have hag : ∀ w, (isAgg 5).run Try.prog w = .ok false w := fun w => by simp [isAgg, run_underlying Try.underlying5]
    have he : ∀ w a b, (Op.equalIn (d + 1) 5 (.int .u8 a) (.int .u8 b)).run Try.prog w = .ok (a == b) w := fun w a b => run_equalIn_int w d _ _ _ a b Try.underlying5
    simp only [Op.eqItems, Sem.run_bind, part, Nat.mul_one, hag, Result.andThen_ok, Bool.false_eq_true, if_false, List.getElem?_toArray, e1, e2, Sem.run_pure, he, Sem.run_ite]
    have e3 : ((l[i].toNat : Int) == (m[i].toNat : Int)) = decide (l[i] = m[i]) := by
      by_cases hh : l[i] = m[i]
      · simp [hh]
      · have : l[i].toNat ≠ m[i].toNat := fun e => hh (UInt8.toNat.inj e)
        have h4 : ¬ ((l[i].toNat : Int) = (m[i].toNat : Int)) := by omega
        simp only [beq_eq_false_iff_ne.2 h4, hh, decide_false]
    by_cases hh : l[i] = m[i]
    · simp [hh, ih, h1, h2]
    · simp [e3, hh, h1, h2]
theorem same_of {l m : List UInt8} {n : Nat} (hl : l.length = n) (hm : m.length = n) : (∀ i ∈ List.range n, l[i]? = m[i]?) ↔ l = m := by
  constructor
  · intro h
    apply List.ext_getElem?
    intro i
    by_cases hi : i < n
    · exact h i (by simp [hi])
    · rw [List.getElem?_eq_none (by omega), List.getElem?_eq_none (by omega)]
  · rintro rfl; simp
theorem two_of {α : Type} : ∀ {l : List α}, l.length = 2 → ∃ a b, l = [a, b]
  | [a, b], _ => ⟨a, b, rfl⟩
set_option maxRecDepth 4000 in
theorem eqA (d : Nat) (a b : Ad) (w : World) : (Op.equalIn (d + 2) 31 (Value.agg (acells a).toArray) (Value.agg (acells b).toArray)).run Try.prog w = .ok (decide (a.l = b.l)) w := by
  obtain ⟨i, hi⟩ : ∃ i, Try.prog.info? 5 = some i := Option.isSome_iff_exists.1 (by kernel_rfl)
  rw [run_equalIn_array w (d + 1) _ _ Try.underlying31 hi, show Try.prog.cellsOf 5 = 1 by kernel_rfl]
  unfold acells
  rw [eqItems_u8 d a.l b.l w _ (fun i hi => by rw [a.len, b.len]; exact ⟨List.mem_range.1 hi, List.mem_range.1 hi⟩)]
  congr 1
  exact decide_eq_decide.2 (same_of a.len b.len)
theorem eqP (d : Nat) (p q : Pf) (w : World) : (Op.equalIn (d + 3) 33 (Value.agg (pcells p).toArray) (Value.agg (pcells q).toArray)).run Try.prog w = .ok (decide (p.a.l = q.a.l) && decide (p.n = q.n)) w := by
  have e1 : List.take 16 (pcells p) = acells p.a := by simp [pcells, acells_len]
  have e2 : List.take 16 (pcells q) = acells q.a := by simp [pcells, acells_len]
  have h1 : (pcells p)[16]? = some (.int .i64 p.n) := by simp [pcells, acells_len]
  have h2 : (pcells q)[16]? = some (.int .i64 q.n) := by simp [pcells, acells_len]
  have h3 := eqA d p.a q.a w
  have he : ∀ w a b, (Op.equalIn (d + 2) 3 (.int .i64 a) (.int .i64 b)).run Try.prog w = .ok (a == b) w := fun w a b => run_equalIn_int w (d + 1) _ _ _ a b Try.underlying3
  have hf : (Try.prog.fieldsOf 33).toList.map (fun f => (f.name, f.type, f.offset)) = [("A", 31, 0), ("Len", 3, 16)] := by kernel_rfl
  rw [run_equalIn_struct w (d + 2) 33 _ _ (by kernel_rfl) (by kernel_rfl)]
  generalize (Try.prog.fieldsOf 33).toList = fs at hf
  obtain ⟨f1, f2, rfl⟩ : ∃ f1 f2, fs = [f1, f2] := two_of (by have := congrArg List.length hf; simpa using this)
  · simp only [List.map_cons, List.map_nil, List.cons.injEq, Prod.mk.injEq, and_true] at hf
    obtain ⟨⟨n1, t1, o1⟩, n2, t2, o2⟩ := hf
    have ha : ∀ w, (isAgg 31).run Try.prog w = .ok true w := fun w => by simp [isAgg, run_underlying Try.underlying31]
    have hb : ∀ w, (isAgg 3).run Try.prog w = .ok false w := fun w => by simp [isAgg, run_underlying Try.underlying3]
    have hs : ∀ w, (sizeOf 31).run Try.prog w = .ok 16 w := fun w => by kernel_rfl
    simp [Op.eqFields, n1, n2, t1, t2, o1, o2, Sem.run_bind, Sem.run_ite, part, ha, hb, hs, Result.andThen_ok, if_true, Nat.zero_add, e1, e2, h3, Sem.run_pure, Bool.false_eq_true, if_false, List.getElem?_toArray, h1, h2, he]
    by_cases hh : p.a.l = q.a.l <;> by_cases hn : p.n = q.n <;> simp [hh, hn]
theorem eqQ (d : Nat) (p q : Pr) (w : World) : (Op.equalIn (d + 4) 35 (Value.agg (qcells p).toArray) (Value.agg (qcells q).toArray)).run Try.prog w = .ok ((decide (p.d.a.l = q.d.a.l) && decide (p.d.n = q.d.n)) && (decide (p.s.a.l = q.s.a.l) && decide (p.s.n = q.s.n))) w := by
  have e1 : List.take 17 (qcells p) = pcells p.d := by simp [qcells, pcells_len]
  have e2 : List.take 17 (qcells q) = pcells q.d := by simp [qcells, pcells_len]
  have e3 : List.take 17 (List.drop 17 (qcells p)) = pcells p.s := by simp [qcells, pcells_len, List.take_of_length_le]
  have e4 : List.take 17 (List.drop 17 (qcells q)) = pcells q.s := by simp [qcells, pcells_len, List.take_of_length_le]
  have h3 := eqP d p.d q.d w
  have h4 := eqP d p.s q.s w
  have hf : (Try.prog.fieldsOf 35).toList.map (fun f => (f.name, f.type, f.offset)) = [("Dst", 33, 0), ("Src", 33, 17)] := by kernel_rfl
  rw [run_equalIn_struct w (d + 3) 35 _ _ (by kernel_rfl) (by kernel_rfl)]
  generalize (Try.prog.fieldsOf 35).toList = fs at hf
  obtain ⟨f1, f2, rfl⟩ : ∃ f1 f2, fs = [f1, f2] := two_of (by have := congrArg List.length hf; simpa using this)
  · simp only [List.map_cons, List.map_nil, List.cons.injEq, Prod.mk.injEq, and_true] at hf
    obtain ⟨⟨n1, t1, o1⟩, n2, t2, o2⟩ := hf
    have ha : ∀ w, (isAgg 33).run Try.prog w = .ok true w := fun w => by simp [isAgg, run_underlying Try.underlying33]
    have hs : ∀ w, (sizeOf 33).run Try.prog w = .ok 17 w := fun w => by kernel_rfl
    simp [Op.eqFields, n1, n2, t1, t2, o1, o2, Sem.run_bind, Sem.run_ite, part, ha, hs, Result.andThen_ok, if_true, Nat.zero_add, e1, e2, e3, e4, h3, h4, Nat.reduceAdd]
    by_cases hh : p.d.a.l = q.d.a.l <;> by_cases hn : p.d.n = q.d.n <;> simp [hh, hn] <;> by_cases h5 : p.s.a.l = q.s.a.l <;> by_cases h6 : p.s.n = q.s.n <;> simp [h5, h6]
theorem run_eqlA (a b : Ad) (w : World) : (binOp .eql 31 (Value.agg (acells a).toArray) (Value.agg (acells b).toArray)).run Try.prog w = .ok (.bool (decide (a.l = b.l))) w := by
  have h := eqA 9998 a b w
  rw [run_eql_struct w, h]; rfl
theorem run_neqA (a b : Ad) (w : World) : (binOp .neq 31 (Value.agg (acells a).toArray) (Value.agg (acells b).toArray)).run Try.prog w = .ok (.bool (!decide (a.l = b.l))) w := by
  have h := eqA 9998 a b w
  rw [run_neq_struct w, h]; rfl
theorem run_eqlP (a b : Pf) (w : World) : (binOp .eql 33 (Value.agg (pcells a).toArray) (Value.agg (pcells b).toArray)).run Try.prog w = .ok (.bool (decide (a.a.l = b.a.l) && decide (a.n = b.n))) w := by
  have h := eqP 9997 a b w
  rw [run_eql_struct w, h]; rfl
theorem run_neqP (a b : Pf) (w : World) : (binOp .neq 33 (Value.agg (pcells a).toArray) (Value.agg (pcells b).toArray)).run Try.prog w = .ok (.bool (!(decide (a.a.l = b.a.l) && decide (a.n = b.n)))) w := by
  have h := eqP 9997 a b w
  rw [run_neq_struct w, h]; rfl
theorem run_eqlQ (p q : Pr) (w : World) : (binOp .eql 35 (Value.agg (qcells p).toArray) (Value.agg (qcells q).toArray)).run Try.prog w = .ok (.bool ((decide (p.d.a.l = q.d.a.l) && decide (p.d.n = q.d.n)) && (decide (p.s.a.l = q.s.a.l) && decide (p.s.n = q.s.n)))) w := by
  have h := eqQ 9996 p q w
  rw [run_eql_struct w, h]; rfl
theorem guardA (op : BinOp) (x y : Operand) (a b : Ad) (w : World) : (eqGuard op 31 x y (Value.agg (acells a).toArray) (Value.agg (acells b).toArray)).run Try.prog w = .ok () w := by
  exact run_eqGuard_agg w op _ x y _ _ (by kernel_rfl)
theorem guardP (op : BinOp) (x y : Operand) (a b : Pf) (w : World) : (eqGuard op 33 x y (Value.agg (pcells a).toArray) (Value.agg (pcells b).toArray)).run Try.prog w = .ok () w := by
  exact run_eqGuard_agg w op _ x y _ _ (by kernel_rfl)
theorem guardQ (op : BinOp) (x y : Operand) (a b : Pr) (w : World) : (eqGuard op 35 x y (Value.agg (qcells a).toArray) (Value.agg (qcells b).toArray)).run Try.prog w = .ok () w := by
  exact run_eqGuard_agg w op _ x y _ _ (by kernel_rfl)
end Go.Proofs.Ytadnnjngflphjaa
