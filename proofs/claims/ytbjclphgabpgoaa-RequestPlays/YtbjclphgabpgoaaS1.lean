/-
  Distances in blocks of a call: loads, stores, what is handed back.
-/
import Derived.Test.YtbjclphgabpgoaaS0
namespace Go.Proofs.Ytbjclphgabpgoaa.Sn
open Go.RowKit
set_option linter.unusedSimpArgs false
theorem retC {P : Program} {fn : Func} {p : Tmp} {ty : TypeId} {v : Value} {w : World} (h : fn.results = #[.cell p ty]) (tmps : Array Value) (b o : Nat) (hp : tmps.getD p undef = .pointer (some ⟨b, o, none⟩))
    (hl : (loadVar ty ⟨b, o, none⟩).run P w = .ok v w) : (results fn tmps).run P w = .ok v w := by
  simp only [results, h]
  rw [Array.getD_eq_getD_getElem?] at hp
  simp [Sem.run_bind, hp, asAddr, hl, Result.andThen]
/-- A block of the call's own that holds these cells. -/
def Row (w : World) (g : Nat) (t : TypeId) (cs : List Value) : Prop := w.heap[g]? = some (.cells cs.toArray t (0, 0))
theorem Row.lt {w : World} {g : Nat} {t : TypeId} {cs : List Value} (h : Row w g t cs) : g < w.heap.size := (Array.getElem?_eq_some_iff.1 h).1
theorem Row.new (w : World) (t : TypeId) (cs : List Value) : Row (w.alloc (.cells cs.toArray t)) w.heap.size t cs := by
  show (w.heap.push _)[w.heap.size]? = _
  simp
theorem Row.alloc {w : World} {g : Nat} {t : TypeId} {cs : List Value} (h : Row w g t cs) (o : Obj) : Row (w.alloc o) g t cs := by
  show (w.heap.push _)[g]? = _
  rw [Array.getElem?_push_lt h.lt]
  exact (Array.getElem?_eq_getElem h.lt).symm.trans h
theorem Row.drew {w : World} {g : Nat} {t : TypeId} {cs : List Value} (h : Row w g t cs) : Row w.drew g t cs := h
theorem Row.below {w w' : World} {B g : Nat} {t : TypeId} {cs : List Value} (h : Row w g t cs) (hb : Below B w w') (hlt : g < B) : Row w' g t cs := (hb.block g hlt).trans h
theorem Row.cell {w : World} {g : Nat} {t : TypeId} {cs : List Value} (h : Row w g t cs) (j : Nat) : w.cell? ⟨g, j, none⟩ = cs[j]? := by
  rw [cell_of_row w g j cs.toArray t (0, 0) h]; simp
theorem Row.frozen {w : World} {g : Nat} {t : TypeId} {cs : List Value} (h : Row w g t cs) (j : Nat) : w.frozen? ⟨g, j, none⟩ = false := by
  unfold Row at h
  simp [World.frozen?, h]
theorem Row.range {w : World} {g : Nat} {t : TypeId} {cs : List Value} (h : Row w g t cs) : w.rangeAt g 0 cs := fun j v hv => by rw [Nat.zero_add, h.cell]; exact hv
theorem Row.there {w : World} {g : Nat} {t : TypeId} {cs : List Value} {n : Nat} (h : Row w g t cs) (hn : n ≤ cs.length) : w.there g 0 n := fun j hj => by
  rw [Nat.zero_add, h.cell, h.frozen]
  exact ⟨by simp; omega, rfl⟩
theorem Row.set {w : World} {g : Nat} {t : TypeId} {cs : List Value} (h : Row w g t cs) (j : Nat) (v : Value) : Row (w.setCell ⟨g, j, none⟩ v) g t (cs.set j v) := by
  unfold Row at *
  simp [World.setCell, Array.getElem?_modify, h]
theorem Row.setOther {w : World} {g : Nat} {t : TypeId} {cs : List Value} (h : Row w g t cs) (g' j : Nat) (v : Value) (hne : g' ≠ g) : Row (w.setCell ⟨g', j, none⟩ v) g t cs := by
  unfold Row at *
  simp [World.setCell, Array.getElem?_modify, h, hne]
theorem below_setCells {B : Nat} {w0 : World} (g : Nat) (h : B ≤ g) : ∀ (vs : List Value) (o : Nat) (w : World), Below B w0 w → Below B w0 (w.setCells g o vs)
  | [], _, _, hb => hb
  | v :: r, o, w, hb => by
    rw [World.setCells]
    exact below_setCells g h r (o + 1) _ (hb.setCell (p := ⟨g, o, none⟩) h v)

theorem LD.range {w : World} {g : Nat} {t : TypeId} {b1 b2 : Int} (h : Row w g t [.int .u16 b1, .int .u16 b2]) : LD w g 0 b1 b2 := h.range
theorem lvD {w : World} {g o : Nat} {b1 b2 : Int} (h : LD w g o b1 b2) : (loadVar 42 ⟨g, o, none⟩).run Try.prog w = .ok (.agg #[.int .u16 b1, .int .u16 b2]) w :=
  run_loadVar_mid w g o _ [.int .u16 b1, .int .u16 b2] _ h Try.underlying42 rfl (by rw [infoD]; rfl)
section
variable {ops : Array Oper} {rest : List Oper} {op : Oper} {a : Act} {w : World} {Q : Exit → Act → World → Prop}
theorem ldD (x : Operand) (hw : Region.wanted op (yielded ops a.tmps) = true) (ho : op.op = .load 42 x) {b o : Nat} (c1 c2 : Int) (hx : a.eval x = .pointer (some ⟨b, o, none⟩)) (hc : LD w b o c1 c2)
    (h : wpList Try.prog ops Q rest (a.put op.dst (.agg #[.int .u16 c1, .int .u16 c2])) w) : wpList Try.prog ops Q (op :: rest) a w :=
  wpList_step fun K hK => by
    rw [if_pos hw]
    exact wp_load_mid _ x ho b o hx [.int .u16 c1, .int .u16 c2] _ hc Try.underlying42 rfl (by rw [infoD]; rfl) (hK _ _ h)
theorem stD (x y : Operand) (hw : Region.wanted op (yielded ops a.tmps) = true) (ho : op.op = .store 42 x y) (b : Nat) (c1 c2 d1 d2 : Int) (hx : a.eval x = .pointer (some ⟨b, 0, none⟩)) (hy : a.eval y = .agg #[.int .u16 c1, .int .u16 c2]) (hr : Row w b 42 [.int .u16 d1, .int .u16 d2])
    (h : ∀ w', Below b w w' → Row w' b 42 [.int .u16 c1, .int .u16 c2] → wpList Try.prog ops Q rest (a.put op.dst undef) w') : wpList Try.prog ops Q (op :: rest) a w :=
  wpList_step fun K hK => by
    rw [if_pos hw]
    refine wp_store_mid _ x y ho b 0 _ hx hy (by simpa using hr.there (n := 2) (by simp)) (by rw [infoD]; simp) (all_oneCell_toArray (cs := [.int .u16 c1, .int .u16 c2]) (by intro u hu; simp at hu; rcases hu with rfl | rfl <;> rfl)) (hK _ _ (h _ (below_setCells b (Nat.le_refl _) _ _ _ (Below.refl _ _)) ?_))
    have q := (hr.set 0 (.int .u16 c1)).set 1 (.int .u16 c2)
    simpa [World.setCells] using q
end
end Go.Proofs.Ytbjclphgabpgoaa.Sn
