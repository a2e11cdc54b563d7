/-
  Histories of hellos: in blocks of a call, loads, stores, what is handed back.
-/
import Derived.Test.YtacadlbhgelncaaRows
import Derived.WalkKit
import Derived.ProofKit
import Derived.WalkSpells
import Derived.WalkLawsBesides
import Derived.Below
import Derived.Deep.MidRow
import Derived.Deep.RegionHeld3
import Derived.Laws.CopyOwn
import Derived.ChangeKeysEq
namespace Go.Proofs.Ytacadlbhgelncaa.Lk
open Go.RowKit
set_option linter.unusedSimpArgs false
theorem name_world {R P : World → Prop} (w : World) (h : P w) (k : ∀ W, P W → R W) : R w := k w h
theorem at_lit {ops : Array Oper} {i : Nat} {o : Oper} {rest : List Oper} (h : ops.toList.drop i = o :: rest) : ops[i]? = some o := by
  have e : (ops.toList.drop i)[0]? = some o := by rw [h]; rfl
  rw [List.getElem?_drop] at e
  simpa using e
theorem take_lit {P : Program} {md : Region.Mode} {ops : Array Oper} {Q : Exit → Act → World → Prop} {S : World → Prop} {i : Nat} {oi : Oper} {rest : List Oper} {v : Value} {fuel : Nat} {listed : Array Bool} {a : Act} {w : World} (hi : ops.toList.drop i = oi :: rest)
    (hs : Region.noSelect ops = true) (hf : Region.free md ops listed i = true) (hr : (Region.ready md ops listed).contains i = true)
    (hQ : ∀ c a w, Q (.panic c) (a.put oi.dst v) w → Q (.panic c) a w) (hy : YieldsIf P ops S oi v a) (hS : S w)
    (h : wpAnyH P md ops Q S fuel (listed.setIfInBounds i true) (a.put oi.dst v) w) : wpAnyH P md ops Q S (fuel + 1) listed a w :=
  wpAnyH_take (at_lit hi) hs hf hr hQ hy hS h
theorem cons_lit {P : Program} {md : Region.Mode} {ops : Array Oper} {Q : Exit → Act → World → Prop} {S : World → Prop} {fuel : Nat} {listed : Array Bool} {a : Act} {w : World} {i : Nat} {o : Oper} {rest : List Oper} {rs : List Nat} (ho : ops.toList.drop i = o :: rest)
    (h : ∀ K' : Act → World → Prop, Shut (∀ a w, S w → (S w → wpAnyH P md ops Q S fuel (listed.setIfInBounds i true) a w) → K' a w) → if Region.wanted o (yielded ops a.tmps) = true then Oper.wp P o a w K' Q else K' (a.put o.dst undef) w)
    (hs : AllReadyH P md ops Q S fuel listed a w rs) : AllReadyH P md ops Q S fuel listed a w (i :: rs) := AllReadyH.cons (at_lit ho) h hs
/-- What a function that only makes memory answers. -/
def Gives (w : World) (v : Value) (e : Ending) (w' : World) : Prop := e = .returned v ∧ Below w.heap.size w w'
theorem wrap16 (z : Int) : IntKind.u16.wrap z = z % 65536 := by simp [IntKind.wrap, IntKind.signed, IntKind.bits]
theorem w64 (z : Int) (h : -9223372036854775808 ≤ z) (h' : z ≤ 9223372036854775807) : wrap64 z = z := by
  unfold wrap64; omega
theorem retC {P : Program} {fn : Func} {p : Tmp} {ty : TypeId} {v : Value} {w : World} (h : fn.results = #[.cell p ty]) (tmps : Array Value) (b o : Nat) (hp : tmps.getD p undef = .pointer (some ⟨b, o, none⟩))
    (hl : (loadVar ty ⟨b, o, none⟩).run P w = .ok v w) : (results fn tmps).run P w = .ok v w := by
  simp only [results, h]
  rw [Array.getD_eq_getD_getElem?] at hp
  simp [Sem.run_bind, hp, asAddr, hl, Result.andThen]
/-- A block of the call's own that holds these cells. -/
def Row (w : World) (g : Nat) (t : TypeId) (cs : List Value) : Prop := w.heap[g]? = some (.cells cs.toArray t (0, 0))
theorem Row.lt {w : World} {g : Nat} {t : TypeId} {cs : List Value} (h : Row w g t cs) : g < w.heap.size := (Array.getElem?_eq_some_iff.1 h).1
theorem Row.new (w : World) (t : TypeId) (cs : List Value) : Row (w.alloc (.cells cs.toArray t)) w.heap.size t cs := by
  show (w.heap.push _)[w.heap.size]? = _
  simp
theorem Row.alloc {w : World} {g : Nat} {t : TypeId} {cs : List Value} (h : Row w g t cs) (o : Obj) : Row (w.alloc o) g t cs := by
  show (w.heap.push _)[g]? = _
  rw [Array.getElem?_push_lt h.lt]
  exact (Array.getElem?_eq_getElem h.lt).symm.trans h
theorem Row.drew {w : World} {g : Nat} {t : TypeId} {cs : List Value} (h : Row w g t cs) : Row w.drew g t cs := h
theorem Row.below {w w' : World} {B g : Nat} {t : TypeId} {cs : List Value} (h : Row w g t cs) (hb : Below B w w') (hlt : g < B) : Row w' g t cs := (hb.block g hlt).trans h
theorem Row.cell {w : World} {g : Nat} {t : TypeId} {cs : List Value} (h : Row w g t cs) (j : Nat) : w.cell? ⟨g, j, none⟩ = cs[j]? := by
  rw [cell_of_row w g j cs.toArray t (0, 0) h]; simp
theorem Row.frozen {w : World} {g : Nat} {t : TypeId} {cs : List Value} (h : Row w g t cs) (j : Nat) : w.frozen? ⟨g, j, none⟩ = false := by
  unfold Row at h
  simp [World.frozen?, h]
theorem Row.range {w : World} {g : Nat} {t : TypeId} {cs : List Value} (h : Row w g t cs) : w.rangeAt g 0 cs := fun j v hv => by rw [Nat.zero_add, h.cell]; exact hv
theorem Row.there {w : World} {g : Nat} {t : TypeId} {cs : List Value} {n : Nat} (h : Row w g t cs) (hn : n ≤ cs.length) : w.there g 0 n := fun j hj => by
  rw [Nat.zero_add, h.cell, h.frozen]
  exact ⟨by simp; omega, rfl⟩
theorem Row.set {w : World} {g : Nat} {t : TypeId} {cs : List Value} (h : Row w g t cs) (j : Nat) (v : Value) : Row (w.setCell ⟨g, j, none⟩ v) g t (cs.set j v) := by
  unfold Row at *
  simp [World.setCell, Array.getElem?_modify, h]
theorem Row.setOther {w : World} {g : Nat} {t : TypeId} {cs : List Value} (h : Row w g t cs) (g' j : Nat) (v : Value) (hne : g' ≠ g) : Row (w.setCell ⟨g', j, none⟩ v) g t cs := by
  unfold Row at *
  simp [World.setCell, Array.getElem?_modify, h, hne]
theorem Row.setCellsOther {g : Nat} {t : TypeId} {cs : List Value} (g' : Nat) (hne : g' ≠ g) : ∀ (vs : List Value) (o : Nat) (w : World), Row w g t cs → Row (w.setCells g' o vs) g t cs
  | [], _, _, h => h
  | v :: r, o, w, h => by
    rw [World.setCells]
    exact Row.setCellsOther g' hne r (o + 1) _ (h.setOther g' o v hne)
theorem below_setCells {B : Nat} {w0 : World} (g : Nat) (h : B ≤ g) : ∀ (vs : List Value) (o : Nat) (w : World), Below B w0 w → Below B w0 (w.setCells g o vs)
  | [], _, _, hb => hb
  | v :: r, o, w, hb => by
    rw [World.setCells]
    exact below_setCells g h r (o + 1) _ (hb.setCell (p := ⟨g, o, none⟩) h v)
/-- A history. -/
structure Hi where
  b : Int
  n : Int
  k : Bool
def hcs (h : Hi) : List Value := [.int .u16 h.b, .int .u16 h.n, .bool h.k]
/-- What may be. -/
structure Hi.ok (h : Hi) : Prop where
  b0 : 0 ≤ h.b
  b1 : h.b < 65536
  n0 : 0 ≤ h.n
  n1 : h.n < 65536
theorem hcs_one (h : Hi) : ∀ u ∈ hcs h, u.oneCell' = true := by
  intro u hu
  simp [hcs] at hu
  rcases hu with rfl | rfl | rfl <;> rfl
theorem infoH : (Try.prog.info? 52).map (·.size) = some 3 := by kernel_rfl
/-- Where a history lies. -/
def LH (w : World) (g : Nat) (h : Hi) : Prop := w.rangeAt g 0 (hcs h)
theorem LH.one {w : World} {g : Nat} {c : Hi} (h : LH w g c) : w.cell? ⟨g, 0, none⟩ = some (.int .u16 c.b) := h 0 _ rfl
theorem LH.two {w : World} {g : Nat} {c : Hi} (h : LH w g c) : w.cell? ⟨g, 1, none⟩ = some (.int .u16 c.n) := h 1 _ rfl
theorem LH.three {w : World} {g : Nat} {c : Hi} (h : LH w g c) : w.cell? ⟨g, 2, none⟩ = some (.bool c.k) := h 2 _ rfl
theorem LH.below {w w' : World} {B g : Nat} {c : Hi} (h : LH w g c) (hb : Below B w w') (hlt : g < B) : LH w' g c := fun j v hv =>
  (hb.cell (p := ⟨g, 0 + j, none⟩) hlt).trans (h j v hv)
theorem LH.range {w : World} {g : Nat} {t : TypeId} {c : Hi} (h : Row w g t (hcs c)) : LH w g c := h.range
theorem lvH {w : World} {g : Nat} {c : Hi} (h : LH w g c) : (loadVar 52 ⟨g, 0, none⟩).run Try.prog w = .ok (.agg #[.int .u16 c.b, .int .u16 c.n, .bool c.k]) w :=
  run_loadVar_mid w g 0 _ (hcs c) _ h Try.underlying52 rfl (by rw [infoH]; rfl)
theorem yH {ops : Array Oper} {S : World → Prop} {op : Oper} {a : Act} {b o : Nat} {x : Operand} (c : Hi) (hS : ∀ w, S w → w.rangeAt b o (hcs c)) (hw : Region.wanted op (yielded ops a.tmps) = true) (ho : op.op = .load 52 x) (hx : a.eval x = .pointer (some ⟨b, o, none⟩)) : YieldsIf Try.prog ops S op (.agg #[.int .u16 c.b, .int .u16 c.n, .bool c.k]) a :=
  yieldsIf_load_mid hw _ x ho b o hx (hcs c) _ hS Try.underlying52 rfl (by rw [infoH]; rfl)
section
variable {ops : Array Oper} {rest : List Oper} {op : Oper} {a : Act} {w : World} {Q : Exit → Act → World → Prop}
theorem ldH (x : Operand) (hw : Region.wanted op (yielded ops a.tmps) = true) (ho : op.op = .load 52 x) (b o : Nat) (c : Hi) (hx : a.eval x = .pointer (some ⟨b, o, none⟩)) (hc : w.rangeAt b o (hcs c))
    (h : wpList Try.prog ops Q rest (a.put op.dst (.agg #[.int .u16 c.b, .int .u16 c.n, .bool c.k])) w) : wpList Try.prog ops Q (op :: rest) a w :=
  wpList_step fun K hK => by
    rw [if_pos hw]
    exact wp_load_mid _ x ho b o hx (hcs c) _ hc Try.underlying52 rfl (by rw [infoH]; rfl) (hK _ _ h)
theorem stH (x y : Operand) (hw : Region.wanted op (yielded ops a.tmps) = true) (ho : op.op = .store 52 x y) (b : Nat) (c d : Hi) (hx : a.eval x = .pointer (some ⟨b, 0, none⟩)) (hy : a.eval y = .agg #[.int .u16 c.b, .int .u16 c.n, .bool c.k]) (hr : Row w b 52 (hcs d))
    (h : ∀ w', Below b w w' → (∀ g t cs, g ≠ b → Row w g t cs → Row w' g t cs) → Row w' b 52 (hcs c) → wpList Try.prog ops Q rest (a.put op.dst undef) w') : wpList Try.prog ops Q (op :: rest) a w :=
  wpList_step fun K hK => by
    rw [if_pos hw]
    refine wp_store_mid _ x y ho b 0 _ hx hy (by simpa using hr.there (n := 3) (by simp [hcs])) (by rw [infoH]; simp) (all_oneCell_toArray (hcs_one c)) (hK _ _ (h _ (below_setCells b (Nat.le_refl _) _ _ _ (Below.refl _ _)) (fun g t cs hne hg => Row.setCellsOther b hne.symm _ _ _ hg) ?_))
    have q := ((hr.set 0 (.int .u16 c.b)).set 1 (.int .u16 c.n)).set 2 (.bool c.k)
    simpa [World.setCells, hcs] using q
end
/-! ### Equality -/
theorem three_of {α : Type} : ∀ {l : List α}, l.length = 3 → ∃ a b c, l = [a, b, c]
  | [a, b, c], _ => ⟨a, b, c, rfl⟩
def hiEq (a b : Hi) : Bool := a.b == b.b && a.n == b.n && a.k == b.k
theorem hiEq_iff (a b : Hi) : hiEq a b = true ↔ a = b := by
  cases a; cases b
  simp [hiEq, and_assoc]
theorem eqH (d : Nat) (a b : Hi) (w : World) : (Op.equalIn (d + 2) 52 (.agg #[.int .u16 a.b, .int .u16 a.n, .bool a.k]) (.agg #[.int .u16 b.b, .int .u16 b.n, .bool b.k])).run Try.prog w = .ok (hiEq a b) w := by
  have he : ∀ w a b, (Op.equalIn (d + 1) 30 (.int .u16 a) (.int .u16 b)).run Try.prog w = .ok (a == b) w := fun w a b => run_equalIn_int w d _ _ _ a b Try.underlying30
  have he' : ∀ w (a b : Bool), (Op.equalIn (d + 1) 4 (.bool a) (.bool b)).run Try.prog w = .ok (a == b) w := fun w a b => run_equalIn_bool w d _ a b Try.underlying4
  have hf : (Try.prog.fieldsOf 52).toList.map (fun f => (f.name, f.type, f.offset)) = [("Bits", 30, 0), ("Next", 30, 1), ("Known", 4, 2)] := by kernel_rfl
  rw [run_equalIn_struct w (d + 1) 52 _ _ (by kernel_rfl) (by kernel_rfl)]
  generalize (Try.prog.fieldsOf 52).toList = fs at hf
  obtain ⟨f1, f2, f3, rfl⟩ : ∃ f1 f2 f3, fs = [f1, f2, f3] := three_of (by have := congrArg List.length hf; simpa using this)
  · simp only [List.map_cons, List.map_nil, List.cons.injEq, Prod.mk.injEq, and_true] at hf
    obtain ⟨⟨n1, t1, o1⟩, ⟨n2, t2, o2⟩, n3, t3, o3⟩ := hf
    have hb : ∀ w, (isAgg 30).run Try.prog w = .ok false w := fun w => by simp [isAgg, run_underlying Try.underlying30]
    have hb' : ∀ w, (isAgg 4).run Try.prog w = .ok false w := fun w => by simp [isAgg, run_underlying Try.underlying4]
    simp [Op.eqFields, n1, n2, n3, t1, t2, t3, o1, o2, o3, Sem.run_bind, Sem.run_ite, part, hb, hb', Result.andThen_ok, he, he', hiEq]
    by_cases hh : a.b = b.b <;> by_cases hn : a.n = b.n <;> by_cases hk : a.k = b.k <;> simp [hh, hn, hk]
theorem run_eqlH (a b : Hi) (w : World) : (binOp .eql 52 (.agg #[.int .u16 a.b, .int .u16 a.n, .bool a.k]) (.agg #[.int .u16 b.b, .int .u16 b.n, .bool b.k])).run Try.prog w = .ok (.bool (hiEq a b)) w := by
  have h := eqH 9998 a b w
  rw [run_eql_struct w, h]; rfl
theorem run_neqH (a b : Hi) (w : World) : (binOp .neq 52 (.agg #[.int .u16 a.b, .int .u16 a.n, .bool a.k]) (.agg #[.int .u16 b.b, .int .u16 b.n, .bool b.k])).run Try.prog w = .ok (.bool (!(hiEq a b))) w := by
  have h := eqH 9998 a b w
  rw [run_neq_struct w, h]; rfl
theorem guardH (op : BinOp) (x y : Operand) (a b : Hi) (w : World) : (eqGuard op 52 x y (.agg #[.int .u16 a.b, .int .u16 a.n, .bool a.k]) (.agg #[.int .u16 b.b, .int .u16 b.n, .bool b.k])).run Try.prog w = .ok () w :=
  run_eqGuard_agg w op _ x y _ _ (by kernel_rfl)
end Go.Proofs.Ytacadlbhgelncaa.Lk
