/-
  Addresses, prefixes and pairs as values and in memory: their cells, loads, stores, boxes, fields, and equality, and regions that draw their order.
-/
import Derived.Test.YtognnfknbkedgaaM03
import Derived.WalkKit
import Derived.ProofKit
import Derived.WalkSpells
import Derived.WalkLawsBesides
import Derived.Deep.MidRow
import Derived.Deep.RegionHeld3
import Derived.Laws.CopyOwn
import Derived.ChangeKeysEq
import Derived.Deep.QuietTactic
import Derived.BigQuiet
namespace Go.Proofs.Ytognnfknbkedgaa
open Go.RowKit
set_option linter.unusedSimpArgs false

theorem bcells_get {l : List UInt8} {j : Nat} {b : UInt8} (h : l[j]? = some b) : (bcells l)[j]? = some (.int .u8 b.toNat) := by simp [bcells, h]
/-- An address: sixteen bytes. -/
structure Ad where
  l : List UInt8
  len : l.length = 16
theorem Ad.ext {a b : Ad} (h : a.l = b.l) : a = b := by
  cases a; cases b; cases h; rfl
/-- A prefix. -/
structure Pf where
  a : Ad
  n : Int
structure Pr where
  d : Pf
  s : Pf
def acells (a : Ad) : List Value := bcells a.l
def pcells (p : Pf) : List Value := acells p.a ++ [.int .i64 p.n]
def qcells (q : Pr) : List Value := pcells q.d ++ pcells q.s
theorem acells_len (a : Ad) : (acells a).length = 16 := by simp [acells, bcells, a.len]
theorem pcells_len (p : Pf) : (pcells p).length = 17 := by simp [pcells, acells_len]
theorem qcells_len (p : Pr) : (qcells p).length = 34 := by simp [qcells, pcells_len]
theorem acells_one (a : Ad) : ∀ u ∈ acells a, u.oneCell' = true := bcells_one _
theorem pcells_one (p : Pf) : ∀ u ∈ pcells p, u.oneCell' = true := by
  intro u hu
  rcases List.mem_append.1 hu with h | h
  · exact acells_one _ u h
  · simp at h; subst h; rfl
theorem qcells_one (p : Pr) : ∀ u ∈ qcells p, u.oneCell' = true := by
  intro u hu
  rcases List.mem_append.1 hu with h | h
  · exact pcells_one _ u h
  · exact pcells_one _ u h

theorem infoA : (Try.prog.info? 26).map (·.size) = some 16 := by kernel_rfl
theorem infoP : (Try.prog.info? 28).map (·.size) = some 17 := by kernel_rfl
theorem infoQ : (Try.prog.info? 30).map (·.size) = some 34 := by kernel_rfl

theorem rangeAt_new (w : World) (cs : List Value) (t : TypeId) : (w.alloc (.cells cs.toArray t)).rangeAt w.heap.size 0 cs := by
  intro j v hv
  have h : (w.alloc (.cells cs.toArray t)).heap[w.heap.size]? = some (.cells cs.toArray t (0, 0)) := by
    show (w.heap.push _)[w.heap.size]? = _
    simp
  rw [Nat.zero_add, cell_of_row _ _ j cs.toArray t (0, 0) h]
  simpa using hv
theorem rangeAt_below {w w' : World} {B b o : Nat} {cs : List Value} (h : w.rangeAt b o cs) (hb : Below B w w') (hlt : b < B) : w'.rangeAt b o cs := fun j v hv =>
  (hb.cell (p := ⟨b, o + j, none⟩) hlt).trans (h j v hv)
theorem rangeAt_left {w : World} {b o : Nat} {cs ds : List Value} (h : w.rangeAt b o (cs ++ ds)) : w.rangeAt b o cs := fun j v hv =>
  h j v (by rw [List.getElem?_append_left (List.getElem?_eq_some_iff.1 hv).1]; exact hv)
theorem rangeAt_right {w : World} {b o k : Nat} {cs ds : List Value} (h : w.rangeAt b o (cs ++ ds)) (hk : cs.length = k) : w.rangeAt b (o + k) ds := fun j v hv => by
  subst hk
  have := h (cs.length + j) v (by rw [List.getElem?_append_right (by omega)]; simpa using hv)
  rwa [← Nat.add_assoc] at this
/-- An address, a prefix, a pair that lie somewhere. -/
def LA (w : World) (b o : Nat) (a : Ad) : Prop := w.rangeAt b o (acells a)
def LP (w : World) (b o : Nat) (p : Pf) : Prop := w.rangeAt b o (pcells p)
def LQ (w : World) (b o : Nat) (p : Pr) : Prop := w.rangeAt b o (qcells p)
theorem LP.a {w : World} {b o : Nat} {p : Pf} (h : LP w b o p) : LA w b o p.a := rangeAt_left h
theorem LP.n {w : World} {b o : Nat} {p : Pf} (h : LP w b o p) : w.cell? ⟨b, o + 16, none⟩ = some (.int .i64 p.n) := by
  have := rangeAt_right h (acells_len p.a) 0 (.int .i64 p.n) rfl
  simpa using this
theorem LQ.d {w : World} {b o : Nat} {p : Pr} (h : LQ w b o p) : LP w b o p.d := rangeAt_left h
theorem LQ.s {w : World} {b o : Nat} {p : Pr} (h : LQ w b o p) : LP w b (o + 17) p.s := rangeAt_right h (pcells_len p.d)

theorem name_world {R P : World → Prop} (w : World) (h : P w) (k : ∀ W, P W → R W) : R w := k w h
theorem take_get {α : Type} {l : List α} {k j : Nat} {v : α} (h : (l.take k)[j]? = some v) : l[j]? = some v := by
  rw [List.getElem?_take] at h
  split at h
  · exact h
  · cases h
theorem Row.drew {w : World} {g : Nat} {t : TypeId} {cs : List Value} (h : Row w g t cs) : Row w.drew g t cs := h
theorem Row.setOther {w : World} {g : Nat} {t : TypeId} {cs : List Value} (h : Row w g t cs) (g' j : Nat) (v : Value) (hne : g' ≠ g) : Row (w.setCell ⟨g', j, none⟩ v) g t cs := by
  unfold Row at *
  simp [World.setCell, Array.getElem?_modify, h, hne]
/-! ### Regions that draw their order -/
theorem at_lit {ops : Array Oper} {i : Nat} {o : Oper} {rest : List Oper} (h : ops.toList.drop i = o :: rest) : ops[i]? = some o := by
  have e : (ops.toList.drop i)[0]? = some o := by rw [h]; rfl
  rw [List.getElem?_drop] at e
  simpa using e
theorem take_lit {P : Program} {md : Region.Mode} {ops : Array Oper} {Q : Exit → Act → World → Prop} {S : World → Prop} {i : Nat} {oi : Oper} {rest : List Oper} {v : Value} {fuel : Nat} {listed : Array Bool} {a : Act} {w : World} (hi : ops.toList.drop i = oi :: rest)
    (hs : Region.noSelect ops = true) (hf : Region.free md ops listed i = true) (hr : (Region.ready md ops listed).contains i = true)
    (hQ : ∀ c a w, Q (.panic c) (a.put oi.dst v) w → Q (.panic c) a w) (hy : YieldsIf P ops S oi v a) (hS : S w)
    (h : wpAnyH P md ops Q S fuel (listed.setIfInBounds i true) (a.put oi.dst v) w) : wpAnyH P md ops Q S (fuel + 1) listed a w :=
  wpAnyH_take (at_lit hi) hs hf hr hQ hy hS h
theorem cons_lit {P : Program} {md : Region.Mode} {ops : Array Oper} {Q : Exit → Act → World → Prop} {S : World → Prop} {fuel : Nat} {listed : Array Bool} {a : Act} {w : World} {i : Nat} {o : Oper} {rest : List Oper} {rs : List Nat} (ho : ops.toList.drop i = o :: rest)
    (h : ∀ K' : Act → World → Prop, Shut (∀ a w, S w → (S w → wpAnyH P md ops Q S fuel (listed.setIfInBounds i true) a w) → K' a w) → if Region.wanted o (yielded ops a.tmps) = true then Oper.wp P o a w K' Q else K' (a.put o.dst undef) w)
    (hs : AllReadyH P md ops Q S fuel listed a w rs) : AllReadyH P md ops Q S fuel listed a w (i :: rs) := AllReadyH.cons (at_lit ho) h hs
theorem tA {P : Program} {md : Region.Mode} {ops : Array Oper} {Q : Exit → Act → World → Prop} {S : World → Prop} (i : Nat) {oi : Oper} {rest : List Oper} {v : Value} {fuel : Nat} {listed : Array Bool} {a a' : Act} {w : World} (h : wpAnyH P md ops Q S fuel (listed.setIfInBounds i true) a' w) (hi : ops.toList.drop i = oi :: rest := by rfl)
    (hs : Region.noSelect ops = true := by kernel_rfl) (hf : Region.free md ops listed i = true := by kernel_rfl) (hr : (Region.ready md ops listed).contains i = true := by kernel_rfl)
    (hw : Region.wanted oi (yielded ops a.tmps) = true := by rfl) (hv : ∀ w, S w → (execOp a.eval oi).run P w = .ok (.value v) w := by (intro w hSw; (try dsimp only at hSw); go_simp <;> with_reducible rfl))
    (hQ : ∀ c a w, Q (.panic c) (a.put oi.dst v) w → Q (.panic c) a w := by exact fun _ _ _ h => h) (hS : S w := by assumption)
    (ha : a.put oi.dst v = a' := by (try simp only [Act.put, List.setIfInBounds_toArray, List.set_cons_zero, List.set_cons_succ]); exact rfl) : wpAnyH P md ops Q S (fuel + 1) listed a w := by
  subst ha
  exact take_lit hi hs hf hr hQ (.inl ⟨hw, hv⟩) hS h
theorem tL {P : Program} {md : Region.Mode} {ops : Array Oper} {Q : Exit → Act → World → Prop} {S : World → Prop} (i : Nat) {oi : Oper} {rest : List Oper} {v : Value} {fuel : Nat} {listed : Array Bool} {a a' : Act} {w : World} (hi : ops.toList.drop i = oi :: rest) (hy : YieldsIf P ops S oi v a) (h : wpAnyH P md ops Q S fuel (listed.setIfInBounds i true) a' w)
    (hs : Region.noSelect ops = true := by kernel_rfl) (hf : Region.free md ops listed i = true := by kernel_rfl) (hr : (Region.ready md ops listed).contains i = true := by kernel_rfl)
    (hQ : ∀ c a w, Q (.panic c) (a.put oi.dst v) w → Q (.panic c) a w := by exact fun _ _ _ h => h) (hS : S w := by assumption)
    (ha : a.put oi.dst v = a' := by (try simp only [Act.put, List.setIfInBounds_toArray, List.set_cons_zero, List.set_cons_succ]); exact rfl) : wpAnyH P md ops Q S (fuel + 1) listed a w := by
  subst ha
  exact take_lit hi hs hf hr hQ hy hS h
theorem tN {P : Program} {md : Region.Mode} {ops : Array Oper} {Q : Exit → Act → World → Prop} {S : World → Prop} (i : Nat) {oi : Oper} {rest : List Oper} {fuel : Nat} {listed : Array Bool} {a a' : Act} {w : World} (h : wpAnyH P md ops Q S fuel (listed.setIfInBounds i true) a' w) (hi : ops.toList.drop i = oi :: rest := by rfl)
    (hs : Region.noSelect ops = true := by kernel_rfl) (hf : Region.free md ops listed i = true := by kernel_rfl) (hr : (Region.ready md ops listed).contains i = true := by kernel_rfl)
    (hw : Region.wanted oi (yielded ops a.tmps) = false := by rfl)
    (hQ : ∀ c a w, Q (.panic c) (a.put oi.dst undef) w → Q (.panic c) a w := by exact fun _ _ _ h => h) (hS : S w := by assumption)
    (ha : a.put oi.dst undef = a' := by (try simp only [Act.put, List.setIfInBounds_toArray, List.set_cons_zero, List.set_cons_succ]); exact rfl) : wpAnyH P md ops Q S (fuel + 1) listed a w := by
  subst ha
  exact take_lit hi hs hf hr hQ (.inr ⟨hw, rfl⟩) hS h
theorem cL {P : Program} {md : Region.Mode} {ops : Array Oper} {Q : Exit → Act → World → Prop} {S : World → Prop} {fuel : Nat} {listed : Array Bool} {a : Act} {w : World} {i : Nat} {o : Oper} {rest : List Oper} {rs : List Nat}
    (h : ∀ K' : Act → World → Prop, Shut (∀ a w, S w → (S w → wpAnyH P md ops Q S fuel (listed.setIfInBounds i true) a w) → K' a w) → if Region.wanted o (yielded ops a.tmps) = true then Oper.wp P o a w K' Q else K' (a.put o.dst undef) w)
    (hs : AllReadyH P md ops Q S fuel listed a w rs) (ho : ops.toList.drop i = o :: rest := by rfl) : AllReadyH P md ops Q S fuel listed a w (i :: rs) := AllReadyH.cons (at_lit ho) h hs
theorem cE {P : Program} {md : Region.Mode} {ops : Array Oper} {Q : Exit → Act → World → Prop} {S : World → Prop} {fuel : Nat} {listed : Array Bool} {a : Act} {w : World} {i : Nat} {o : Oper} {rest : List Oper}
    (h : ∀ K' : Act → World → Prop, Shut (∀ a w, S w → (S w → wpAnyH P md ops Q S fuel (listed.setIfInBounds i true) a w) → K' a w) → if Region.wanted o (yielded ops a.tmps) = true then Oper.wp P o a w K' Q else K' (a.put o.dst undef) w)
    (ho : ops.toList.drop i = o :: rest := by rfl) : AllReadyH P md ops Q S fuel listed a w [i] := AllReadyH.cons (at_lit ho) h .nil
theorem rM {P : Program} {md : Region.Mode} {ops : Array Oper} {Q : Exit → Act → World → Prop} {S : World → Prop} (rs : List Nat) {fuel : Nat} {listed : Array Bool} {a : Act} {w : World} (h : AllReadyH P md ops Q S fuel listed a w rs) (hr : Region.ready md ops listed = rs := by kernel_rfl) (hne : rs ≠ [] := by simp) : wpAnyH P md ops Q S (fuel + 1) listed a w := wpAnyH_ready hr hne h
theorem r1 {P : Program} {md : Region.Mode} {ops : Array Oper} {Q : Exit → Act → World → Prop} {S : World → Prop} (i : Nat) {fuel : Nat} {listed : Array Bool} {a : Act} {w : World} {o : Oper} {rest : List Oper}
    (h : ∀ K' : Act → World → Prop, Shut (∀ a w, S w → (S w → wpAnyH P md ops Q S fuel (listed.setIfInBounds i true) a w) → K' a w) → if Region.wanted o (yielded ops a.tmps) = true then Oper.wp P o a w K' Q else K' (a.put o.dst undef) w)
    (ho : ops.toList.drop i = o :: rest := by rfl) (hr : Region.ready md ops listed = [i] := by kernel_rfl) : wpAnyH P md ops Q S (fuel + 1) listed a w := wpAnyH_ready hr (by simp) (AllReadyH.cons (at_lit ho) h .nil)
theorem oK {P : Program} {md : Region.Mode} {ops : Array Oper} {Q : Exit → Act → World → Prop} {S : World → Prop} {fuel : Nat} {l : Array Bool} {a a' : Act} {w : World} {K : Act → World → Prop} (hK : Shut (∀ a w, S w → (S w → wpAnyH P md ops Q S fuel l a w) → K a w)) (hS : S w) (h : S w → wpAnyH P md ops Q S fuel l a' w)
    (ha : a = a' := by (try simp only [Act.put, List.setIfInBounds_toArray, List.set_cons_zero, List.set_cons_succ]); exact rfl) : K a w := by
  subst ha
  exact hK.out _ _ hS h
theorem dN {P : Program} {md : Region.Mode} {ops : Array Oper} {Q : Exit → Act → World → Prop} {S : World → Prop} {fuel : Nat} {listed : Array Bool} {a : Act} {w : World} (h : Q .normal a w) (hr : Region.ready md ops listed = [] := by kernel_rfl) : wpAnyH P md ops Q S fuel listed a w := wpAnyH_done hr h _
theorem yA {ops : Array Oper} {S : World → Prop} {op : Oper} {a : Act} {b o : Nat} {x : Operand} (c : Ad) (hS : ∀ w, S w → LA w b o c) (hw : Region.wanted op (yielded ops a.tmps) = true) (ho : op.op = .load 26 x) (hx : a.eval x = .pointer (some ⟨b, o, none⟩)) : YieldsIf Try.prog ops S op (Value.agg (acells c).toArray) a :=
  yieldsIf_load_mid hw _ x ho b o hx (acells c) _ hS Try.underlying26 rfl (by rw [infoA, acells_len])
theorem yP {ops : Array Oper} {S : World → Prop} {op : Oper} {a : Act} {b o : Nat} {x : Operand} (c : Pf) (hS : ∀ w, S w → LP w b o c) (hw : Region.wanted op (yielded ops a.tmps) = true) (ho : op.op = .load 28 x) (hx : a.eval x = .pointer (some ⟨b, o, none⟩)) : YieldsIf Try.prog ops S op (Value.agg (pcells c).toArray) a :=
  yieldsIf_load_mid hw _ x ho b o hx (pcells c) _ hS Try.underlying28 rfl (by rw [infoP, pcells_len])
theorem yQ {ops : Array Oper} {S : World → Prop} {op : Oper} {a : Act} {b o : Nat} {x : Operand} (c : Pr) (hS : ∀ w, S w → LQ w b o c) (hw : Region.wanted op (yielded ops a.tmps) = true) (ho : op.op = .load 30 x) (hx : a.eval x = .pointer (some ⟨b, o, none⟩)) : YieldsIf Try.prog ops S op (Value.agg (qcells c).toArray) a :=
  yieldsIf_load_mid hw _ x ho b o hx (qcells c) _ hS Try.underlying30 rfl (by rw [infoQ, qcells_len])

/-! ### Loads of whole addresses, prefixes, pairs -/
section
variable {ops : Array Oper} {rest : List Oper} {op : Oper} {a : Act} {w : World} {Q : Exit → Act → World → Prop}
theorem ldA (x : Operand) (hw : Region.wanted op (yielded ops a.tmps) = true) (ho : op.op = .load 26 x) (b o : Nat) (c : Ad) (hx : a.eval x = .pointer (some ⟨b, o, none⟩)) (hc : LA w b o c)
    (h : wpList Try.prog ops Q rest (a.put op.dst (Value.agg (acells c).toArray)) w) : wpList Try.prog ops Q (op :: rest) a w :=
  wpList_step fun K hK => by
    rw [if_pos hw]
    exact wp_load_mid _ x ho b o hx (acells c) _ hc Try.underlying26 rfl (by rw [infoA, acells_len]) (hK _ _ h)
theorem ldP (x : Operand) (hw : Region.wanted op (yielded ops a.tmps) = true) (ho : op.op = .load 28 x) (b o : Nat) (c : Pf) (hx : a.eval x = .pointer (some ⟨b, o, none⟩)) (hc : LP w b o c)
    (h : wpList Try.prog ops Q rest (a.put op.dst (Value.agg (pcells c).toArray)) w) : wpList Try.prog ops Q (op :: rest) a w :=
  wpList_step fun K hK => by
    rw [if_pos hw]
    exact wp_load_mid _ x ho b o hx (pcells c) _ hc Try.underlying28 rfl (by rw [infoP, pcells_len]) (hK _ _ h)
theorem ldQ (x : Operand) (hw : Region.wanted op (yielded ops a.tmps) = true) (ho : op.op = .load 30 x) (b o : Nat) (c : Pr) (hx : a.eval x = .pointer (some ⟨b, o, none⟩)) (hc : LQ w b o c)
    (h : wpList Try.prog ops Q rest (a.put op.dst (Value.agg (qcells c).toArray)) w) : wpList Try.prog ops Q (op :: rest) a w :=
  wpList_step fun K hK => by
    rw [if_pos hw]
    exact wp_load_mid _ x ho b o hx (qcells c) _ hc Try.underlying30 rfl (by rw [infoQ, qcells_len]) (hK _ _ h)
end

section
variable {ops : Array Oper} {rest : List Oper} {op : Oper} {a : Act} {w : World} {Q : Exit → Act → World → Prop}
theorem stA (x y : Operand) (hw : Region.wanted op (yielded ops a.tmps) = true) (ho : op.op = .store 26 x y) (b o : Nat) (c : Ad) (hx : a.eval x = .pointer (some ⟨b, o, none⟩)) (hy : a.eval y = (Value.agg (acells c).toArray)) (ht : w.there b o 16)
    (h : wpList Try.prog ops Q rest (a.put op.dst undef) (w.setCells b o (acells c))) : wpList Try.prog ops Q (op :: rest) a w :=
  wpList_step fun K hK => by
    rw [if_pos hw]
    exact wp_store_mid _ x y ho b o _ hx hy (by simpa [acells_len] using ht) (by rw [infoA]; simp [acells_len]) (all_oneCell_toArray (acells_one c)) (hK _ _ (by simpa using h))
theorem stP (x y : Operand) (hw : Region.wanted op (yielded ops a.tmps) = true) (ho : op.op = .store 28 x y) (b o : Nat) (c : Pf) (hx : a.eval x = .pointer (some ⟨b, o, none⟩)) (hy : a.eval y = (Value.agg (pcells c).toArray)) (ht : w.there b o 17)
    (h : wpList Try.prog ops Q rest (a.put op.dst undef) (w.setCells b o (pcells c))) : wpList Try.prog ops Q (op :: rest) a w :=
  wpList_step fun K hK => by
    rw [if_pos hw]
    exact wp_store_mid _ x y ho b o _ hx hy (by simpa [pcells_len] using ht) (by rw [infoP]; simp [pcells_len]) (all_oneCell_toArray (pcells_one c)) (hK _ _ (by simpa using h))
theorem stQ (x y : Operand) (hw : Region.wanted op (yielded ops a.tmps) = true) (ho : op.op = .store 30 x y) (b o : Nat) (c : Pr) (hx : a.eval x = .pointer (some ⟨b, o, none⟩)) (hy : a.eval y = (Value.agg (qcells c).toArray)) (ht : w.there b o 34)
    (h : wpList Try.prog ops Q rest (a.put op.dst undef) (w.setCells b o (qcells c))) : wpList Try.prog ops Q (op :: rest) a w :=
  wpList_step fun K hK => by
    rw [if_pos hw]
    exact wp_store_mid _ x y ho b o _ hx hy (by simpa [qcells_len] using ht) (by rw [infoQ]; simp [qcells_len]) (all_oneCell_toArray (qcells_one c)) (hK _ _ (by simpa using h))
end
theorem LA.stored {w : World} {b o : Nat} {c : Ad} (ht : w.there b o 16) : LA (w.setCells b o (acells c)) b o c := World.rangeAt_setCells_same _ _ _ _ (by rw [acells_len]; exact ht)
theorem LP.stored {w : World} {b o : Nat} {c : Pf} (ht : w.there b o 17) : LP (w.setCells b o (pcells c)) b o c := World.rangeAt_setCells_same _ _ _ _ (by rw [pcells_len]; exact ht)
theorem LQ.stored {w : World} {b o : Nat} {c : Pr} (ht : w.there b o 34) : LQ (w.setCells b o (qcells c)) b o c := World.rangeAt_setCells_same _ _ _ _ (by rw [qcells_len]; exact ht)

/-! ### Boxes -/
/-! ### Fields of values -/
theorem extractA (p : Pf) : (pcells p).toArray.extract 0 16 = (acells p.a).toArray := by
  simp [pcells, acells_len]
theorem run_fieldA (p : Pf) (w : World) : (Instr.field 28 (Value.agg (pcells p).toArray) 0).run Try.prog w = .ok (Value.agg (acells p.a).toArray) w := by
  have h := extractA p
  unfold Instr.field
  go_simp
  simp only [asAgg, Sem.run_pure, Result.andThen_ok, h]
/-! ### Equality -/
theorem eqItems_u8 (d : Nat) (l m : List UInt8) (w : World) : ∀ is : List Nat, (∀ i ∈ is, i < l.length ∧ i < m.length) →
    (Op.eqItems (d + 1) 5 1 (bcells l).toArray (bcells m).toArray is).run Try.prog w = .ok (decide (∀ i ∈ is, l[i]? = m[i]?)) w
  | [], _ => by simp [Op.eqItems]
  | i :: is, h => by
    have ih := eqItems_u8 d l m w is (fun j hj => h j (by simp [hj]))
    obtain ⟨h1, h2⟩ := h i (by simp)
    have e1 : (bcells l)[i]? = some (.int .u8 l[i].toNat) := by simp [bcells, h1]
    have e2 : (bcells m)[i]? = some (.int .u8 m[i].toNat) := by simp [bcells, h2]
    have hag : ∀ w, (isAgg 5).run Try.prog w = .ok false w := fun w => by simp [isAgg, run_underlying Try.underlying5]
    have he : ∀ w a b, (Op.equalIn (d + 1) 5 (.int .u8 a) (.int .u8 b)).run Try.prog w = .ok (a == b) w := fun w a b => run_equalIn_int w d _ _ _ a b Try.underlying5
    simp only [Op.eqItems, Sem.run_bind, part, Nat.mul_one, hag, Result.andThen_ok, Bool.false_eq_true, if_false, List.getElem?_toArray, e1, e2, Sem.run_pure, he, Sem.run_ite]
    have e3 : ((l[i].toNat : Int) == (m[i].toNat : Int)) = decide (l[i] = m[i]) := by
      by_cases hh : l[i] = m[i]
      · simp [hh]
      · have : l[i].toNat ≠ m[i].toNat := fun e => hh (UInt8.toNat.inj e)
        have h4 : ¬ ((l[i].toNat : Int) = (m[i].toNat : Int)) := by omega
        simp only [beq_eq_false_iff_ne.2 h4, hh, decide_false]
    by_cases hh : l[i] = m[i]
    · simp [hh, ih, h1, h2]
    · simp [e3, hh, h1, h2]
theorem same_of {l m : List UInt8} {n : Nat} (hl : l.length = n) (hm : m.length = n) : (∀ i ∈ List.range n, l[i]? = m[i]?) ↔ l = m := by
  constructor
  · intro h
    apply List.ext_getElem?
    intro i
    by_cases hi : i < n
    · exact h i (by simp [hi])
    · rw [List.getElem?_eq_none (by omega), List.getElem?_eq_none (by omega)]
  · rintro rfl; simp
theorem two_of {α : Type} : ∀ {l : List α}, l.length = 2 → ∃ a b, l = [a, b]
  | [a, b], _ => ⟨a, b, rfl⟩
set_option maxRecDepth 4000 in
theorem eqA (d : Nat) (a b : Ad) (w : World) : (Op.equalIn (d + 2) 26 (Value.agg (acells a).toArray) (Value.agg (acells b).toArray)).run Try.prog w = .ok (decide (a.l = b.l)) w := by
  obtain ⟨i, hi⟩ : ∃ i, Try.prog.info? 5 = some i := Option.isSome_iff_exists.1 (by kernel_rfl)
  rw [run_equalIn_array w (d + 1) _ _ Try.underlying26 hi, show Try.prog.cellsOf 5 = 1 by kernel_rfl]
  unfold acells
  rw [eqItems_u8 d a.l b.l w _ (fun i hi => by rw [a.len, b.len]; exact ⟨List.mem_range.1 hi, List.mem_range.1 hi⟩)]
  congr 1
  exact decide_eq_decide.2 (same_of a.len b.len)
theorem eqP (d : Nat) (p q : Pf) (w : World) : (Op.equalIn (d + 3) 28 (Value.agg (pcells p).toArray) (Value.agg (pcells q).toArray)).run Try.prog w = .ok (decide (p.a.l = q.a.l) && decide (p.n = q.n)) w := by
  have e1 : List.take 16 (pcells p) = acells p.a := by simp [pcells, acells_len]
  have e2 : List.take 16 (pcells q) = acells q.a := by simp [pcells, acells_len]
  have h1 : (pcells p)[16]? = some (.int .i64 p.n) := by simp [pcells, acells_len]
  have h2 : (pcells q)[16]? = some (.int .i64 q.n) := by simp [pcells, acells_len]
  have h3 := eqA d p.a q.a w
  have he : ∀ w a b, (Op.equalIn (d + 2) 3 (.int .i64 a) (.int .i64 b)).run Try.prog w = .ok (a == b) w := fun w a b => run_equalIn_int w (d + 1) _ _ _ a b Try.underlying3
  have hf : (Try.prog.fieldsOf 28).toList.map (fun f => (f.name, f.type, f.offset)) = [("A", 26, 0), ("Len", 3, 16)] := by kernel_rfl
  rw [run_equalIn_struct w (d + 2) 28 _ _ (by kernel_rfl) (by kernel_rfl)]
  generalize (Try.prog.fieldsOf 28).toList = fs at hf
  obtain ⟨f1, f2, rfl⟩ : ∃ f1 f2, fs = [f1, f2] := two_of (by have := congrArg List.length hf; simpa using this)
  · simp only [List.map_cons, List.map_nil, List.cons.injEq, Prod.mk.injEq, and_true] at hf
    obtain ⟨⟨n1, t1, o1⟩, n2, t2, o2⟩ := hf
    have ha : ∀ w, (isAgg 26).run Try.prog w = .ok true w := fun w => by simp [isAgg, run_underlying Try.underlying26]
    have hb : ∀ w, (isAgg 3).run Try.prog w = .ok false w := fun w => by simp [isAgg, run_underlying Try.underlying3]
    have hs : ∀ w, (sizeOf 26).run Try.prog w = .ok 16 w := fun w => by kernel_rfl
    simp [Op.eqFields, n1, n2, t1, t2, o1, o2, Sem.run_bind, Sem.run_ite, part, ha, hb, hs, Result.andThen_ok, if_true, Nat.zero_add, e1, e2, h3, Sem.run_pure, Bool.false_eq_true, if_false, List.getElem?_toArray, h1, h2, he]
    by_cases hh : p.a.l = q.a.l <;> by_cases hn : p.n = q.n <;> simp [hh, hn]
theorem eqQ (d : Nat) (p q : Pr) (w : World) : (Op.equalIn (d + 4) 30 (Value.agg (qcells p).toArray) (Value.agg (qcells q).toArray)).run Try.prog w = .ok ((decide (p.d.a.l = q.d.a.l) && decide (p.d.n = q.d.n)) && (decide (p.s.a.l = q.s.a.l) && decide (p.s.n = q.s.n))) w := by
  have e1 : List.take 17 (qcells p) = pcells p.d := by simp [qcells, pcells_len]
  have e2 : List.take 17 (qcells q) = pcells q.d := by simp [qcells, pcells_len]
  have e3 : List.take 17 (List.drop 17 (qcells p)) = pcells p.s := by simp [qcells, pcells_len, List.take_of_length_le]
  have e4 : List.take 17 (List.drop 17 (qcells q)) = pcells q.s := by simp [qcells, pcells_len, List.take_of_length_le]
  have h3 := eqP d p.d q.d w
  have h4 := eqP d p.s q.s w
  have hf : (Try.prog.fieldsOf 30).toList.map (fun f => (f.name, f.type, f.offset)) = [("Dst", 28, 0), ("Src", 28, 17)] := by kernel_rfl
  rw [run_equalIn_struct w (d + 3) 30 _ _ (by kernel_rfl) (by kernel_rfl)]
  generalize (Try.prog.fieldsOf 30).toList = fs at hf
  obtain ⟨f1, f2, rfl⟩ : ∃ f1 f2, fs = [f1, f2] := two_of (by have := congrArg List.length hf; simpa using this)
  · simp only [List.map_cons, List.map_nil, List.cons.injEq, Prod.mk.injEq, and_true] at hf
    obtain ⟨⟨n1, t1, o1⟩, n2, t2, o2⟩ := hf
    have ha : ∀ w, (isAgg 28).run Try.prog w = .ok true w := fun w => by simp [isAgg, run_underlying Try.underlying28]
    have hs : ∀ w, (sizeOf 28).run Try.prog w = .ok 17 w := fun w => by kernel_rfl
    simp [Op.eqFields, n1, n2, t1, t2, o1, o2, Sem.run_bind, Sem.run_ite, part, ha, hs, Result.andThen_ok, if_true, Nat.zero_add, e1, e2, e3, e4, h3, h4, Nat.reduceAdd]
    by_cases hh : p.d.a.l = q.d.a.l <;> by_cases hn : p.d.n = q.d.n <;> simp [hh, hn] <;> by_cases h5 : p.s.a.l = q.s.a.l <;> by_cases h6 : p.s.n = q.s.n <;> simp [h5, h6]
end Go.Proofs.Ytognnfknbkedgaa

namespace Go.Proofs.Ytognnfknbkedgaa
open Go.RowKit
set_option linter.unusedSimpArgs false

/-- What a function that only makes memory answers. -/
def Gives (w : World) (v : Value) (e : Ending) (w' : World) : Prop := e = .returned v ∧ Below w.heap.size w w'

theorem retCT {P : Program} {fn : Func} {p u : Tmp} {ty : TypeId} {v : Value} {w : World} (h : fn.results = #[.cell p ty, .tmp u]) (tmps : Array Value) (b o : Nat) (hp : tmps.getD p undef = .pointer (some ⟨b, o, none⟩))
    (hl : (loadVar ty ⟨b, o, none⟩).run P w = .ok v w) : (results fn tmps).run P w = .ok (.tuple #[v, tmps.getD u undef]) w := by
  simp only [results, h]
  rw [Array.getD_eq_getD_getElem?] at hp
  simp [Sem.run_bind, hp, asAddr, hl, Result.andThen]
theorem lvA {w : World} {b o : Nat} {a : Ad} (h : LA w b o a) : (loadVar 26 ⟨b, o, none⟩).run Try.prog w = .ok (Value.agg (acells a).toArray) w :=
  run_loadVar_mid w b o _ (acells a) _ h Try.underlying26 rfl (by rw [infoA, acells_len])
theorem lvP {w : World} {b o : Nat} {a : Pf} (h : LP w b o a) : (loadVar 28 ⟨b, o, none⟩).run Try.prog w = .ok (Value.agg (pcells a).toArray) w :=
  run_loadVar_mid w b o _ (pcells a) _ h Try.underlying28 rfl (by rw [infoP, pcells_len])
theorem lvQ {w : World} {b o : Nat} {a : Pr} (h : LQ w b o a) : (loadVar 30 ⟨b, o, none⟩).run Try.prog w = .ok (Value.agg (qcells a).toArray) w :=
  run_loadVar_mid w b o _ (qcells a) _ h Try.underlying30 rfl (by rw [infoQ, qcells_len])
theorem LA.new (w : World) (a : Ad) (t : TypeId) : LA (w.alloc (.cells (acells a).toArray t)) w.heap.size 0 a := rangeAt_new w _ t
theorem LP.new (w : World) (a : Pf) (t : TypeId) : LP (w.alloc (.cells (pcells a).toArray t)) w.heap.size 0 a := rangeAt_new w _ t
theorem LQ.new (w : World) (a : Pr) (t : TypeId) : LQ (w.alloc (.cells (qcells a).toArray t)) w.heap.size 0 a := rangeAt_new w _ t
theorem LA.below {w w' : World} {B b o : Nat} {c : Ad} (h : LA w b o c) (hb : Below B w w') (hlt : b < B) : LA w' b o c := rangeAt_below h hb hlt
theorem LP.below {w w' : World} {B b o : Nat} {c : Pf} (h : LP w b o c) (hb : Below B w w') (hlt : b < B) : LP w' b o c := rangeAt_below h hb hlt
theorem LQ.below {w w' : World} {B b o : Nat} {c : Pr} (h : LQ w b o c) (hb : Below B w w') (hlt : b < B) : LQ w' b o c := rangeAt_below h hb hlt
theorem LA.alloc {w : World} {b o : Nat} {c : Ad} (h : LA w b o c) (ob : Obj) : LA (w.alloc ob) b o c := World.rangeAt_alloc h ob
theorem LP.alloc {w : World} {b o : Nat} {c : Pf} (h : LP w b o c) (ob : Obj) : LP (w.alloc ob) b o c := World.rangeAt_alloc h ob
theorem LQ.alloc {w : World} {b o : Nat} {c : Pr} (h : LQ w b o c) (ob : Obj) : LQ (w.alloc ob) b o c := World.rangeAt_alloc h ob

def zeroA : Ad := ⟨List.replicate 16 0, rfl⟩
def mapA : Ad := ⟨[0, 0, 0, 0, 0, 0, 0, 0, 0, 0, 255, 255, 0, 0, 0, 0], rfl⟩
def anyP (f : Int) : Pf := if f = 4 then ⟨mapA, 96⟩ else ⟨zeroA, 0⟩

theorem any_any (f : Int) (w : World) : Calls Try.prog 77 #[.int .i64 f] w (Gives w (Value.agg (pcells (anyP f)).toArray)) := by
  by_cases h : f = 4
  · have h' : (f == 4) = true := by simpa using h
    rw [show anyP f = ⟨mapA, 96⟩ by simp [anyP, h]]
    clear h
    go_enter Try.func77, Try.ntmps77
    go_wp2
    exact bodyPost_ret (retC rfl _ w.heap.size 0 rfl (lvP (LP.new w ⟨mapA, 96⟩ _))) rfl ⟨rfl, (Below.refl _ _).alloc (Nat.le_refl _) _⟩
  · have h' : (f == 4) = false := by simpa using h
    rw [show anyP f = ⟨zeroA, 0⟩ by simp [anyP, h]]
    clear h
    go_enter Try.func77, Try.ntmps77
    go_wp2
    exact bodyPost_ret (retC rfl _ w.heap.size 0 rfl (lvP (LP.new w ⟨zeroA, 0⟩ _))) rfl ⟨rfl, (Below.refl _ _).alloc (Nat.le_refl _) _⟩
end Go.Proofs.Ytognnfknbkedgaa

namespace Go.Proofs.Ytognnfknbkedgaa
open Go.RowKit
set_option linter.unusedSimpArgs false
/-- The first k bits of a byte. -/
def keepB (k : Nat) (b : UInt8) : UInt8 := UInt8.ofNat (b.toNat - b.toNat % 2 ^ (8 - k))
/-- The first n bits of an address. -/
def cutA (a : Ad) (n : Nat) : Ad := ⟨a.l.mapIdx (fun i b => keepB (n - 8 * i) b), by simp [a.len]⟩
theorem keepB_all {k : Nat} (h : 8 ≤ k) (b : UInt8) : keepB k b = b := by
  have : 8 - k = 0 := by omega
  simp [keepB, this, Nat.mod_one]
theorem keepB_none (b : UInt8) : keepB 0 b = 0 := by
  have h : b.toNat % 2 ^ (8 - 0) = b.toNat := Nat.mod_eq_of_lt b.toNat_lt
  unfold keepB
  rw [h, Nat.sub_self]; rfl

theorem keepB_bits (b : UInt8) (r : Nat) (hr : r < 8) : bits BinOp.andNot IntKind.u8 (b.toNat : Int) (255 / 2 ^ r) = ((keepB r b).toNat : Int) := by
  have h : ((List.range 8).all fun r => (List.range 256).all fun b => bits BinOp.andNot IntKind.u8 (b : Int) (255 / 2 ^ r) == (((b - b % 2 ^ (8 - r)) % 256 : Nat) : Int)) = true := by kernel_rfl
  have h1 := List.all_eq_true.1 (List.all_eq_true.1 h r (by simp [hr])) b.toNat (List.mem_range.2 b.toNat_lt)
  rw [eq_of_beq h1]
  simp [keepB]
theorem cut_get (a : Ad) (n i : Nat) : (acells (cutA a n))[i]? = (a.l[i]?).map fun b => Value.int .u8 ((keepB (n - 8 * i) b).toNat : Int) := by
  unfold acells bcells cutA
  cases h : a.l[i]? <;> simp [h]
theorem splice_get (a : Ad) (k i : Nat) (hk : k ≤ 16) : (splice (acells zeroA) 0 ((acells a).take k))[i]? = if i < k then (acells a)[i]? else (acells zeroA)[i]? := by
  have hl : ((acells a).take k).length = k := by simp [acells_len]; omega
  simp only [splice, List.take_zero, List.nil_append, Nat.zero_add, hl]
  by_cases h : i < k
  · rw [List.getElem?_append_left (by omega), List.getElem?_take, if_pos h, if_pos h]
  · rw [List.getElem?_append_right (by omega), hl, List.getElem?_drop, if_neg h]
    congr 1; omega
theorem zero_get (i : Nat) (hi : i < 16) : (acells zeroA)[i]? = some (.int .u8 0) := by
  have h : acells zeroA = List.replicate 16 (.int .u8 0) := rfl
  rw [h, List.getElem?_replicate, if_pos hi]
theorem cut_cells (a : Ad) (k r : Nat) (hk : 8 * k + r ≤ 128) (hr : r < 8) (Z : List Value) (hZ : Z = splice (acells zeroA) 0 ((acells a).take k)) :
    (r = 0 → acells (cutA a (8 * k + r)) = Z) ∧ ∀ b, a.l[k]? = some b → acells (cutA a (8 * k + r)) = Z.set k (.int .u8 (bits BinOp.andNot IntKind.u8 (b.toNat : Int) (255 / 2 ^ r))) := by
  have hz : Z.length = 16 := by rw [hZ, length_splice _ _ _ (by simp [acells_len]; omega), acells_len]
  have key : ∀ i, i ≠ k ∨ r = 0 → (acells (cutA a (8 * k + r)))[i]? = Z[i]? := by
    intro i hi
    rw [cut_get, hZ, splice_get a k i (by omega)]
    by_cases h16 : i < 16
    · obtain ⟨c, hc⟩ : ∃ c, a.l[i]? = some c := ⟨_, List.getElem?_eq_getElem (by rw [a.len]; omega)⟩
      by_cases hik : i < k
      · rw [if_pos hik, hc, Option.map_some, keepB_all (by omega)]
        exact (bcells_get hc).symm
      · rw [if_neg hik, zero_get i h16, hc, Option.map_some, show 8 * k + r - 8 * i = 0 by omega, keepB_none]; rfl
    · rw [if_neg (by omega), List.getElem?_eq_none (by rw [a.len]; omega), List.getElem?_eq_none (by rw [acells_len]; omega)]; rfl
  refine ⟨fun h0 => List.ext_getElem? fun i => key i (.inr h0), fun b hb => List.ext_getElem? fun i => ?_⟩
  have hk16 : k < 16 := by have := (List.getElem?_eq_some_iff.1 hb).1; rw [a.len] at this; exact this
  rw [List.getElem?_set]
  by_cases hik : k = i
  · subst hik
    rw [if_pos rfl, if_pos (by omega), cut_get, hb, Option.map_some, show 8 * k + r - 8 * k = r by omega, keepB_bits b r hr]
  · rw [if_neg hik]
    exact key i (.inl fun h => hik h.symm)

theorem cut_any (a : Ad) (k r : Nat) (hk : 8 * k + r ≤ 128) (hr : r < 8) (w : World) : Calls Try.prog 71 #[(Value.agg (acells a).toArray), .int .i64 ((8 * k + r : Nat) : Int)] w (Gives w (Value.agg (acells (cutA a (8 * k + r))).toArray)) := by
  obtain ⟨n, hn⟩ : ∃ n : Nat, n = 8 * k + r := ⟨_, rfl⟩
  have h1 : Int.tdiv (n : Int) 8 = (k : Int) := by rw [Int.tdiv_eq_ediv_of_nonneg (by omega)]; omega
  have h2 : Int.tmod (n : Int) 8 = (r : Int) := by rw [Int.tmod_eq_emod_of_nonneg (by omega)]; omega
  have hk0 : (0 : Int) ≤ (k : Int) := by omega
  have hk' : (k : Int) ≤ 16 := by omega
  have HN : Hid (n = 8 * k + r) := hn
  rw [← hn]
  clear hn
  go_enter Try.func71, Try.ntmps71
  go_wp2
  refine name_world (R := fun W => Code.wp _ _ _ _ W) (P := fun W => Below w.heap.size w W ∧ LA W w.heap.size 0 a ∧ Row W (w.heap.size + 2) 26 (acells zeroA) ∧ Row W (w.heap.size + 1) 26 (acells zeroA) ∧ W.heap.size = w.heap.size + 3) _ ?_ ?_
  · have q1 := Row.new (w.alloc (.cells (acells a).toArray 26)) 26 (acells zeroA)
    have q2 := Row.new ((w.alloc (.cells (acells a).toArray 26)).alloc (.cells (acells zeroA).toArray 26)) 26 (acells zeroA)
    simp only [World.size_alloc] at q1 q2
    exact ⟨(((Below.refl _ _).alloc (Nat.le_refl _) _).alloc (by simp) _).alloc (by simp; omega) _, ((LA.new w a _).alloc _).alloc _, q2, q1.alloc _, by simp⟩
  rintro W ⟨hB, hA, hg, hg1, hs⟩
  have hBd : Below (w.heap.size + 2) W W.drew := (Below.refl _ _).drew
  go_region_held3 (fun w' => Below (w.heap.size + 2) W w') (first | assumption | exact hB2) (first | (refine step_copy_splice rfl (.tmp 12) (.tmp 14) 40 40 rfl 5 Try.underlying40 (by kernel_rfl) _ _ _ _ _ _ rfl rfl (w.heap.size + 2) 0 (acells zeroA) 26 hg ((acells a).take k) (by simp [acells_len]) (fun _ => ⟨rfl, _, rfl, fun j v hv => by rw [Addr.add_mid]; exact hA j v (take_get hv)⟩) (by simp [acells_len]; omega) (fun v hv => acells_one a v (List.mem_of_mem_take hv)) (w.heap.size + 2) W hBd (Nat.le_refl _) ?_; intro W2 HG2 hB2))
  have hA2 : LA W2 w.heap.size 0 a := hA.below hB2 (by omega)
  have hg2 : Row W2 (w.heap.size + 1) 26 (acells zeroA) := hg1.below hB2 (by omega)
  have hB3 : Below w.heap.size w W2 := hB.trans (Below.mono hB2 (by omega))
  clear hBd hg hA hg1 hB
  clear hB2
  obtain ⟨Z, hZ⟩ : ∃ Z, Z = splice (acells zeroA) 0 ((acells a).take k) := ⟨_, rfl⟩
  rw [← hZ] at HG2
  have HZ : Hid (Z = _) := hZ
  clear hZ
  by_cases h0 : r = 0
  · subst h0
    have hR : Row W2 (w.heap.size + 1 + 1) 26 (acells (cutA a n)) := by
      have := (cut_cells a k 0 hk (by omega) Z HZ.out).1 rfl
      rw [← HN.out] at this
      rw [this]; exact HG2.out
    clear HG2
    go_wp2_with (first
      | (refine ldA (.tmp 5) rfl rfl _ _ (cutA a n) rfl hR.range ?_)
      | (refine stA (.tmp 4) (.tmp 26) rfl rfl _ _ (cutA a n) rfl rfl (hg2.there (by rw [acells_len]; omega)) ?_))
    exact bodyPost_ret (retC rfl _ _ 0 rfl (lvA (LA.stored (hg2.there (by rw [acells_len]; omega))))) rfl ⟨rfl, below_setCells _ (by omega) _ _ _ hB3⟩
  · have h0' : (0 : Int) < (r : Int) := by omega
    have hk16 : (k : Int) < 16 := by omega
    obtain ⟨b, hb⟩ : ∃ b, a.l[k]? = some b := ⟨_, List.getElem?_eq_getElem (by rw [a.len]; omega)⟩
    have hc : W2.cell? ⟨w.heap.size, k, none⟩ = some (.int .u8 b.toNat) := by simpa using hA2 k _ (bcells_get hb)
    have hR : Row W2 (w.heap.size + 1 + 1) 26 Z := HG2.out
    have hzl : ∃ v, Z[k]? = some v := by rw [HZ.out, splice_get a k k (by omega), if_neg (by omega), zero_get k (by omega)]; exact ⟨_, rfl⟩
    obtain ⟨v, hv⟩ := hzl
    have hd : W2.cell? ⟨w.heap.size + 1 + 1, k, none⟩ = some v := (hR.cell k).trans hv
    have hf : W2.frozen? ⟨w.heap.size + 1 + 1, k, none⟩ = false := hR.frozen k
    clear HG2
    go_wp2
    go_region
    have e1 : acells (cutA a n) = Z.set k (.int .u8 (bits BinOp.andNot IntKind.u8 (b.toNat : Int) (255 / 2 ^ r))) := by rw [HN.out]; exact (cut_cells a k r hk hr Z HZ.out).2 b hb
    refine name_world (R := fun W => Exit.then _ _ _ _ W) (P := fun W3 => Below w.heap.size w W3 ∧ Row W3 (w.heap.size + 1) 26 (acells zeroA) ∧ Row W3 (w.heap.size + 1 + 1) 26 (acells (cutA a n))) _ ⟨(hB3.setCell (p := ⟨w.heap.size + 1 + 1, k, none⟩) (by simp; omega) _).drew, (hg2.setOther _ k _ (by omega)).drew, by rw [e1]; exact (hR.set k _).drew⟩ ?_
    rintro W3 ⟨hB4, hg4, hR4⟩
    clear hR hd hf hc hB3 hg2 hA2
    go_wp2_with (first
      | (refine ldA (.tmp 5) rfl rfl _ _ (cutA a n) rfl hR4.range ?_)
      | (refine stA (.tmp 4) (.tmp 26) rfl rfl _ _ (cutA a n) rfl rfl (hg4.there (by rw [acells_len]; omega)) ?_))
    exact bodyPost_ret (retC rfl _ _ 0 rfl (lvA (LA.stored (hg4.there (by rw [acells_len]; omega))))) rfl ⟨rfl, below_setCells _ (by omega) _ _ _ hB4⟩
end Go.Proofs.Ytognnfknbkedgaa

namespace Go.Proofs.Ytognnfknbkedgaa
open Go.RowKit
set_option linter.unusedSimpArgs false
set_option maxRecDepth 20000

theorem bt {w w1 w2 : World} (h : Below w.heap.size w w1) (k : Below w1.heap.size w1 w2) : Below w.heap.size w w2 := h.trans (k.mono h.size)
theorem ba (w : World) (o : Obj) : Below w.heap.size w (w.alloc o) := (Below.refl _ _).alloc (Nat.le_refl _) o
theorem cut_n (a : Ad) (n : Nat) (hn : n ≤ 128) (w : World) : Calls Try.prog 71 #[(Value.agg (acells a).toArray), .int .i64 (n : Int)] w (Gives w (Value.agg (acells (cutA a n)).toArray)) := by
  have h := cut_any a (n / 8) (n % 8) (by omega) (by omega) w
  rwa [show 8 * (n / 8) + n % 8 = n by omega] at h
/-- The family of an address. -/
def famA (a : Ad) : Int := if (cutA a 96).l = mapA.l then 4 else 6
theorem fam_any (a : Ad) (w : World) : Calls Try.prog 54 #[(Value.agg (acells a).toArray)] w (Gives w (.int .i64 (famA a))) := by
  have he := eqA 9998
  have hf := run_fieldA
  have hc := cut_n a 96 (by omega)
  have ha := any_any 4
  rw [show anyP 4 = ⟨mapA, 96⟩ from rfl] at ha
  have H : ∀ b : Bool, decide ((cutA a 96).l = mapA.l) = b → famA a = if b = true then 4 else 6 := by
    intro b hb; subst hb; simp [famA]
  obtain ⟨b, hb⟩ : ∃ b, decide ((cutA a 96).l = mapA.l) = b := ⟨_, rfl⟩
  have HF : Hid (famA a = if b = true then 4 else 6) := H b hb
  clear H
  have h0 := LA.new w a 26
  go_enter Try.func54, Try.ntmps54
  go_wp2_with (first
    | (refine ldA (.tmp 1) rfl rfl _ _ a rfl h0 ?_)
    | (go_at_call 77; refine (ha _).mono ?_; rintro e w2 ⟨rfl, hB2⟩)
    | (go_at_call 71; refine (hc _).mono ?_; rintro e w1 ⟨rfl, hB1⟩))
  · have h : b = true := by assumption
    go_ret
    exact ⟨by rw [HF.out, if_pos h]; rfl, bt (bt (ba _ _) hB1) hB2⟩
  · have h : b = false := by assumption
    go_ret
    exact ⟨by rw [HF.out, h]; rfl, bt (bt (ba _ _) hB1) hB2⟩
/-- The family of a prefix. -/
def famP (p : Pf) : Int := if 96 ≤ p.n ∧ famA p.a = 4 then 4 else 6
theorem pfam_any (p : Pf) (w : World) : Calls Try.prog 43 #[(Value.agg (pcells p).toArray)] w (Gives w (.int .i64 (famP p))) := by
  have h0 := LP.new w p 28
  have h1 := h0.n
  have h2 := h0.a
  have hF := fam_any p.a
  obtain ⟨f, hf⟩ : ∃ f, famA p.a = f := ⟨_, rfl⟩
  obtain ⟨n, hn⟩ : ∃ n, p.n = n := ⟨_, rfl⟩
  rw [hf] at hF
  have HF : Hid (famP p = if 96 ≤ n ∧ f = 4 then 4 else 6) := by show _ = _; simp [famP, hf, hn]
  rw [hn] at h1
  simp only [Nat.zero_add] at h1
  clear hf hn
  go_enter Try.func43, Try.ntmps43
  go_wp2_with (first
    | (refine ldA (.tmp 7) rfl rfl _ _ p.a rfl h2 ?_)
    | (go_at_call 54; refine (hF _).mono ?_; rintro e w1 ⟨rfl, hB1⟩))
  · have h : f = 4 := by simpa using ‹(f == 4) = true›
    have h' : 96 ≤ n := by assumption
    go_ret
    exact ⟨by rw [HF.out, if_pos ⟨h', h⟩]; rfl, bt (ba _ _) hB1⟩
  · have h : ¬ f = 4 := by simpa using ‹(f == 4) = false›
    go_ret
    exact ⟨by rw [HF.out, if_neg (fun q => h q.2)]; rfl, bt (ba _ _) hB1⟩
  · have h : n < 96 := by assumption
    go_ret
    exact ⟨by rw [HF.out, if_neg (fun q => absurd q.1 (by omega))]; rfl, ba _ _⟩
/-- What Check answers. -/
def chk (p : Pf) : Int := if 0 ≤ p.n ∧ p.n ≤ 128 ∧ (cutA p.a p.n.toNat).l = p.a.l then 0 else 21
theorem acheck_any (p : Pf) (w : World) : Calls Try.prog 42 #[(Value.agg (pcells p).toArray)] w (Gives w (.int .i64 (chk p))) := by
  have he := eqA 9998
  obtain ⟨n, hn⟩ : ∃ n, p.n = n := ⟨_, rfl⟩
  obtain ⟨b, hb⟩ : ∃ b, decide ((cutA p.a n.toNat).l = p.a.l) = b := ⟨_, rfl⟩
  have HF : Hid (chk p = if 0 ≤ n ∧ n ≤ 128 ∧ b = true then 0 else 21) := by show _ = _; simp [chk, hn, ← hb]
  have hu := Try.underlying26
  have hi : (Try.prog.info? 26).map (·.size) = some (acells p.a).length := by rw [infoA, acells_len]
  go_enter Try.func42, Try.ntmps42
  go_wp2
  refine name_world (R := fun W => Code.wp _ _ _ _ W) (P := fun W => Below w.heap.size w W ∧ LP W w.heap.size 0 p ∧ w.heap.size < W.heap.size) _ ⟨ba _ _, LP.new _ _ _, by simp⟩ ?_
  rintro X ⟨hB, hP, hs⟩
  have h1 := hP.n
  have h2 := hP.a
  rw [hn] at h1
  simp only [Nat.zero_add] at h1
  clear hn
  have HK : Hid (∀ W, Below X.heap.size X W → Below X.heap.size X W ∧ LA W w.heap.size 0 p.a ∧ W.cell? ⟨w.heap.size, 16, none⟩ = some (.int .i64 n)) :=
    fun W h => ⟨h, h2.below h hs, (h.cell (p := ⟨w.heap.size, 16, none⟩) hs).trans h1⟩
  by_cases c1 : n < 0
  · have d1 : decide (n < 0) = true := by simpa using c1
    go_quiet (fail)
    go_wp2
    go_ret
    exact ⟨by rw [HF.out, if_neg (fun q => absurd q.1 (by omega))]; rfl, below_drewN hB _⟩
  by_cases c2 : 128 < n
  · have d1 : decide (n < 0) = false := by simpa using c1
    have d2 : decide (128 < n) = true := by simpa using c2
    go_quiet (fail)
    go_wp2
    go_ret
    exact ⟨by rw [HF.out, if_neg (fun q => absurd q.2.1 (by omega))]; rfl, below_drewN hB _⟩
  · obtain ⟨k, rfl⟩ : ∃ k : Nat, n = k := ⟨n.toNat, by omega⟩
    have hk : k ≤ 128 := by omega
    have hC := cut_n p.a k hk
    have d1 : decide ((k : Int) < 0) = false := by simp
    have d2 : decide ((128 : Int) < (k : Int)) = false := by simpa using c2
    simp only [Int.toNat_natCast] at hb
    have HKk : Hid (k ≤ 128) := hk
    clear c1 c2 hk
    refine wp_region_noPanic ?_
    refine wp_region_held_drew (S := fun W => Below X.heap.size X W ∧ LA W w.heap.size 0 p.a ∧ W.cell? ⟨w.heap.size, 16, none⟩ = some (.int .i64 (k : Int))) (by kernel_rfl) (HK.out _ (Below.refl _ _).drew) (fun hHeld => ?_)
    refine tA 0 ?_
    refine tA 1 ?_
    refine tA 2 ?_
    refine tA 3 ?_
    refine tA 4 ?_
    refine tA 5 ?_
    refine tA 6 ?_
    refine tA 7 ?_
    refine tA 8 ?_
    refine tA 9 ?_
    refine tL 10 rfl (yA p.a (fun w h => h.2.1) (by rfl) rfl rfl) ?_
    refine tA 11 ?_
    refine tA 12 ?_
    refine tA 14 ?_
    refine tL 15 rfl (yA p.a (fun w h => h.2.1) (by rfl) rfl rfl) ?_
    refine r1 13 fun K hK => ?_
    go_simp
    refine (hC _).mono ?_
    rintro e w1 ⟨rfl, hB1⟩
    refine oK hK (by exact HK.out _ (hHeld.1.trans (hB1.mono hHeld.1.size))) fun hHeld => ?_
    clear hK K
    refine tA 16 ?_
    refine tA 17 ?_
    refine dN ?_
    refine NoPanic.normal ?_
    go_wp2
    · have h : b = false := by simpa using ‹(!b) = true›
      go_ret
      exact ⟨by rw [HF.out, if_neg (fun q => by rw [h] at q; exact absurd q.2.2 (by simp))]; rfl, hB.trans (hHeld.1.mono (Nat.le_of_lt hs))⟩
    · have h : b = true := by simpa using ‹(!b) = false›
      go_ret
      exact ⟨by rw [HF.out, if_pos ⟨by omega, by have := HKk.out; omega, h⟩]; rfl, hB.trans (hHeld.1.mono (Nat.le_of_lt hs))⟩
theorem chk_or (p : Pf) : chk p = 0 ∧ 0 ≤ p.n ∧ p.n ≤ 128 ∧ (cutA p.a p.n.toNat).l = p.a.l ∨ chk p = 21 := by
  unfold chk
  by_cases h : 0 ≤ p.n ∧ p.n ≤ 128 ∧ (cutA p.a p.n.toNat).l = p.a.l
  · rw [if_pos h]; exact .inl ⟨rfl, h⟩
  · rw [if_neg h]; exact .inr rfl
end Go.Proofs.Ytognnfknbkedgaa
