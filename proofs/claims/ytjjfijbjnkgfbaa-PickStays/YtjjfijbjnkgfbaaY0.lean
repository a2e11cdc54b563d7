/-
  Ways: what they are, slices of them.
-/
import Derived.Test.YtjjfijbjnkgfbaaRows
import Derived.WalkKit
import Derived.ProofKit
import Derived.WalkSpells
import Derived.WalkLawsBesides
import Derived.Below
import Derived.Deep.MidRow
import Derived.Deep.RegionHeld3
import Derived.Laws.CopyOwn
import Derived.ChangeKeysEq
namespace Go.Proofs.Ytjjfijbjnkgfbaa
open Go.RowKit
set_option linter.unusedSimpArgs false
theorem ba (w : World) (o : Obj) : Below w.heap.size w (w.alloc o) := (Below.refl _ _).alloc (Nat.le_refl _) _
theorem bt {w0 w1 w2 : World} (h : Below w0.heap.size w0 w1) (k : Below w1.heap.size w1 w2) : Below w0.heap.size w0 w2 := h.trans (k.mono h.size)
theorem name_world {R P : World → Prop} (w : World) (h : P w) (k : ∀ W, P W → R W) : R w := k w h
theorem at_lit {ops : Array Oper} {i : Nat} {o : Oper} {rest : List Oper} (h : ops.toList.drop i = o :: rest) : ops[i]? = some o := by
  have e : (ops.toList.drop i)[0]? = some o := by rw [h]; rfl
  rw [List.getElem?_drop] at e
  simpa using e
theorem take_lit {P : Program} {md : Region.Mode} {ops : Array Oper} {Q : Exit → Act → World → Prop} {S : World → Prop} {i : Nat} {oi : Oper} {rest : List Oper} {v : Value} {fuel : Nat} {listed : Array Bool} {a : Act} {w : World} (hi : ops.toList.drop i = oi :: rest)
    (hs : Region.noSelect ops = true) (hf : Region.free md ops listed i = true) (hr : (Region.ready md ops listed).contains i = true)
    (hQ : ∀ c a w, Q (.panic c) (a.put oi.dst v) w → Q (.panic c) a w) (hy : YieldsIf P ops S oi v a) (hS : S w)
    (h : wpAnyH P md ops Q S fuel (listed.setIfInBounds i true) (a.put oi.dst v) w) : wpAnyH P md ops Q S (fuel + 1) listed a w :=
  wpAnyH_take (at_lit hi) hs hf hr hQ hy hS h
theorem cons_lit {P : Program} {md : Region.Mode} {ops : Array Oper} {Q : Exit → Act → World → Prop} {S : World → Prop} {fuel : Nat} {listed : Array Bool} {a : Act} {w : World} {i : Nat} {o : Oper} {rest : List Oper} {rs : List Nat} (ho : ops.toList.drop i = o :: rest)
    (h : ∀ K' : Act → World → Prop, Shut (∀ a w, S w → (S w → wpAnyH P md ops Q S fuel (listed.setIfInBounds i true) a w) → K' a w) → if Region.wanted o (yielded ops a.tmps) = true then Oper.wp P o a w K' Q else K' (a.put o.dst undef) w)
    (hs : AllReadyH P md ops Q S fuel listed a w rs) : AllReadyH P md ops Q S fuel listed a w (i :: rs) := AllReadyH.cons (at_lit ho) h hs
/-- What a function that only makes memory answers. -/
def Gives (w : World) (v : Value) (e : Ending) (w' : World) : Prop := e = .returned v ∧ Below w.heap.size w w'
theorem wrap16 (z : Int) : IntKind.u16.wrap z = z % 65536 := by simp [IntKind.wrap, IntKind.signed, IntKind.bits]
theorem w64 (z : Int) (h : -9223372036854775808 ≤ z) (h' : z ≤ 9223372036854775807) : wrap64 z = z := by
  unfold wrap64; omega
theorem retC {P : Program} {fn : Func} {p : Tmp} {ty : TypeId} {v : Value} {w : World} (h : fn.results = #[.cell p ty]) (tmps : Array Value) (b o : Nat) (hp : tmps.getD p undef = .pointer (some ⟨b, o, none⟩))
    (hl : (loadVar ty ⟨b, o, none⟩).run P w = .ok v w) : (results fn tmps).run P w = .ok v w := by
  simp only [results, h]
  rw [Array.getD_eq_getD_getElem?] at hp
  simp [Sem.run_bind, hp, asAddr, hl, Result.andThen]
/-- A block of the call's own that holds these cells. -/
def Row (w : World) (g : Nat) (t : TypeId) (cs : List Value) : Prop := w.heap[g]? = some (.cells cs.toArray t (0, 0))
theorem Row.lt {w : World} {g : Nat} {t : TypeId} {cs : List Value} (h : Row w g t cs) : g < w.heap.size := (Array.getElem?_eq_some_iff.1 h).1
theorem Row.new (w : World) (t : TypeId) (cs : List Value) : Row (w.alloc (.cells cs.toArray t)) w.heap.size t cs := by
  show (w.heap.push _)[w.heap.size]? = _
  simp
theorem Row.alloc {w : World} {g : Nat} {t : TypeId} {cs : List Value} (h : Row w g t cs) (o : Obj) : Row (w.alloc o) g t cs := by
  show (w.heap.push _)[g]? = _
  rw [Array.getElem?_push_lt h.lt]
  exact (Array.getElem?_eq_getElem h.lt).symm.trans h
theorem Row.drew {w : World} {g : Nat} {t : TypeId} {cs : List Value} (h : Row w g t cs) : Row w.drew g t cs := h
theorem Row.below {w w' : World} {B g : Nat} {t : TypeId} {cs : List Value} (h : Row w g t cs) (hb : Below B w w') (hlt : g < B) : Row w' g t cs := (hb.block g hlt).trans h
theorem Row.cell {w : World} {g : Nat} {t : TypeId} {cs : List Value} (h : Row w g t cs) (j : Nat) : w.cell? ⟨g, j, none⟩ = cs[j]? := by
  rw [cell_of_row w g j cs.toArray t (0, 0) h]; simp
theorem Row.frozen {w : World} {g : Nat} {t : TypeId} {cs : List Value} (h : Row w g t cs) (j : Nat) : w.frozen? ⟨g, j, none⟩ = false := by
  unfold Row at h
  simp [World.frozen?, h]
theorem Row.range {w : World} {g : Nat} {t : TypeId} {cs : List Value} (h : Row w g t cs) : w.rangeAt g 0 cs := fun j v hv => by rw [Nat.zero_add, h.cell]; exact hv
theorem Row.there {w : World} {g : Nat} {t : TypeId} {cs : List Value} {n : Nat} (h : Row w g t cs) (hn : n ≤ cs.length) : w.there g 0 n := fun j hj => by
  rw [Nat.zero_add, h.cell, h.frozen]
  exact ⟨by simp; omega, rfl⟩
theorem Row.set {w : World} {g : Nat} {t : TypeId} {cs : List Value} (h : Row w g t cs) (j : Nat) (v : Value) : Row (w.setCell ⟨g, j, none⟩ v) g t (cs.set j v) := by
  unfold Row at *
  simp [World.setCell, Array.getElem?_modify, h]
theorem Row.setOther {w : World} {g : Nat} {t : TypeId} {cs : List Value} (h : Row w g t cs) (g' j : Nat) (v : Value) (hne : g' ≠ g) : Row (w.setCell ⟨g', j, none⟩ v) g t cs := by
  unfold Row at *
  simp [World.setCell, Array.getElem?_modify, h, hne]
theorem Row.setCellsOther {g : Nat} {t : TypeId} {cs : List Value} (g' : Nat) (hne : g' ≠ g) : ∀ (vs : List Value) (o : Nat) (w : World), Row w g t cs → Row (w.setCells g' o vs) g t cs
  | [], _, _, h => h
  | v :: r, o, w, h => by
    rw [World.setCells]
    exact Row.setCellsOther g' hne r (o + 1) _ (h.setOther g' o v hne)
theorem below_setCells {B : Nat} {w0 : World} (g : Nat) (h : B ≤ g) : ∀ (vs : List Value) (o : Nat) (w : World), Below B w0 w → Below B w0 (w.setCells g o vs)
  | [], _, _, hb => hb
  | v :: r, o, w, hb => by
    rw [World.setCells]
    exact below_setCells g h r (o + 1) _ (hb.setCell (p := ⟨g, o, none⟩) h v)
/-- A way. -/
structure Cd where
  m : Int
  f : Bool
  s : Bool
def ccs (c : Cd) : List Value := [.int .u16 c.m, .bool c.f, .bool c.s]
abbrev cdV (c : Cd) : Value := .agg #[.int .u16 c.m, .bool c.f, .bool c.s]
structure Cd.ok (c : Cd) : Prop where
  m0 : 0 ≤ c.m
  m1 : c.m < 65536
/-- A slice value that leads to these ways. -/
structure Cs (w : World) (ad : Option Addr) (n : Nat) (l : List Cd) : Prop where
  len : l.length = n
  small : ∀ h ∈ l, h.ok
  lies : n = 0 ∨ ∃ g o, ad = some ⟨g, o, none⟩ ∧ g < w.heap.size ∧ ∀ j h, l[j]? = some h → w.rangeAt g (o + j * 3) (ccs h)
theorem Cs.below {w w' : World} {B : Nat} {ad : Option Addr} {n : Nat} {l : List Cd} (h : Cs w ad n l) (hB : w.heap.size ≤ B) (hb : Below B w w') : Cs w' ad n l :=
  ⟨h.len, h.small, h.lies.imp id fun ⟨g, o, e, hg, hl⟩ => ⟨g, o, e, Nat.lt_of_lt_of_le hg hb.size, fun j c hc i v hv => (hb.cell (p := ⟨g, o + j * 3 + i, none⟩) (Nat.lt_of_lt_of_le hg hB)).trans (hl j c hc i v hv)⟩⟩
theorem Cs.nil (w : World) (ad : Option Addr) : Cs w ad 0 [] := ⟨rfl, (fun _ h => by cases h), .inl rfl⟩
theorem infoC : (Try.prog.info? 34).map (·.size) = some 3 := by kernel_rfl
/-! ### Plain: usable, the best, the taken -/
def us (c : Cd) : Bool := c.f && decide (c.m < 65535)
def st (c : Cd) : Bool := c.s && us c
/-- Where one stands behind j ways: the place of the best, whether there is one. -/
def bz (l : List Cd) : Nat → Nat × Bool
  | 0 => (0, false)
  | j + 1 => match l[j]?, l[(bz l j).1]? with
    | some c, some b => if us c && (!(bz l j).2 || decide (c.m < b.m)) then (j, true) else bz l j
    | _, _ => bz l j
end Go.Proofs.Ytjjfijbjnkgfbaa
