/-
  Seqnos, metrics and distances: what Less, Plus, Since and Better answer, and the document's own, for every input.
-/
import Derived.Test.YtbjclphgabpgoaaRows
import Derived.WalkKit
import Derived.ProofKit
import Derived.WalkSpells
import Derived.WalkLawsBesides
import Derived.Below
import Derived.Deep.MidRow
import Derived.Deep.RegionHeld3
namespace Go.Proofs.Ytbjclphgabpgoaa.Sn
open Go.RowKit
set_option linter.unusedSimpArgs false
theorem name_world {R P : World → Prop} (w : World) (h : P w) (k : ∀ W, P W → R W) : R w := k w h
theorem at_lit {ops : Array Oper} {i : Nat} {o : Oper} {rest : List Oper} (h : ops.toList.drop i = o :: rest) : ops[i]? = some o := by
  have e : (ops.toList.drop i)[0]? = some o := by rw [h]; rfl
  rw [List.getElem?_drop] at e
  simpa using e
theorem take_lit {P : Program} {md : Region.Mode} {ops : Array Oper} {Q : Exit → Act → World → Prop} {S : World → Prop} {i : Nat} {oi : Oper} {rest : List Oper} {v : Value} {fuel : Nat} {listed : Array Bool} {a : Act} {w : World} (hi : ops.toList.drop i = oi :: rest)
    (hs : Region.noSelect ops = true) (hf : Region.free md ops listed i = true) (hr : (Region.ready md ops listed).contains i = true)
    (hQ : ∀ c a w, Q (.panic c) (a.put oi.dst v) w → Q (.panic c) a w) (hy : YieldsIf P ops S oi v a) (hS : S w)
    (h : wpAnyH P md ops Q S fuel (listed.setIfInBounds i true) (a.put oi.dst v) w) : wpAnyH P md ops Q S (fuel + 1) listed a w :=
  wpAnyH_take (at_lit hi) hs hf hr hQ hy hS h
theorem cons_lit {P : Program} {md : Region.Mode} {ops : Array Oper} {Q : Exit → Act → World → Prop} {S : World → Prop} {fuel : Nat} {listed : Array Bool} {a : Act} {w : World} {i : Nat} {o : Oper} {rest : List Oper} {rs : List Nat} (ho : ops.toList.drop i = o :: rest)
    (h : ∀ K' : Act → World → Prop, Shut (∀ a w, S w → (S w → wpAnyH P md ops Q S fuel (listed.setIfInBounds i true) a w) → K' a w) → if Region.wanted o (yielded ops a.tmps) = true then Oper.wp P o a w K' Q else K' (a.put o.dst undef) w)
    (hs : AllReadyH P md ops Q S fuel listed a w rs) : AllReadyH P md ops Q S fuel listed a w (i :: rs) := AllReadyH.cons (at_lit ho) h hs
/-- What a function that only makes memory answers. -/
def Gives (w : World) (v : Value) (e : Ending) (w' : World) : Prop := e = .returned v ∧ Below w.heap.size w w'
def lessB (a b : Int) : Bool := decide (1 ≤ (b - a) % 65536) && decide ((b - a) % 65536 ≤ 32767)
def plusZ (a n : Int) : Int := (a + n) % 65536
def betB (a1 a2 b1 b2 : Int) : Bool := lessB b1 a1 || (a1 == b1 && decide (a2 < b2))
theorem wrap16 (z : Int) : IntKind.u16.wrap z = z % 65536 := by simp [IntKind.wrap, IntKind.signed, IntKind.bits]
theorem less_any (a b : Int) (w : World) : Calls Try.prog 26 #[.int .u16 a, .int .u16 b] w fun e w' => e = .returned (.bool (lessB a b)) ∧ w = w' := by
  have e := wrap16 (b - a)
  by_cases h : IntKind.u16.wrap (b - a) = 0
  · have hl : lessB a b = false := by
      rw [e] at h; unfold lessB; rw [Bool.and_eq_false_iff]; left; exact decide_eq_false (by omega)
    rw [hl]; clear e hl
    go_enter Try.func26, Try.ntmps26
    go_wp2
    go_ret
    exact ⟨rfl, rfl⟩
  · have hl : lessB a b = decide (IntKind.u16.wrap (b - a) < 32768) := by
      rw [e] at h ⊢; unfold lessB; rw [decide_eq_true (by omega), Bool.true_and]; apply decide_eq_decide.2; omega
    have hn : (IntKind.u16.wrap (b - a) != 0) = true := by simpa using h
    rw [hl]; clear e hl
    go_enter Try.func26, Try.ntmps26
    go_wp2
    go_ret
    simp
theorem w64 (z : Int) (h : -9223372036854775808 ≤ z) (h' : z ≤ 9223372036854775807) : wrap64 z = z := by
  unfold wrap64; omega
theorem rless_any (a b : Int) (w : World) (ha : 0 ≤ a) (ha' : a < 65536) (hb : 0 ≤ b) (hb' : b < 65536) : Calls Try.prog 28 #[.int .u16 a, .int .u16 b] w fun e w' => e = .returned (.bool (lessB a b)) ∧ w = w' := by
  have e1 : wrap64 a = a := w64 _ (by omega) (by omega)
  have e2 : wrap64 b = b := w64 _ (by omega) (by omega)
  have e3 : wrap64 (b - a) = b - a := w64 _ (by omega) (by omega)
  have e4 : wrap64 (b - a + 65536) = b - a + 65536 := w64 _ (by omega) (by omega)
  have e5 : (b - a + 65536).tmod 65536 = (b - a) % 65536 := by
    rw [Int.tmod_eq_emod_of_nonneg (by omega)]; omega
  clear ha ha' hb hb'
  by_cases h : (b - a) % 65536 < 1
  · have hl : lessB a b = false := by
      unfold lessB; rw [Bool.and_eq_false_iff]; left; exact decide_eq_false (by omega)
    rw [hl]; clear hl
    go_enter Try.func28, Try.ntmps28
    go_wp2
    go_ret
    exact ⟨rfl, rfl⟩
  · have hl : lessB a b = decide ((b - a) % 65536 ≤ 32767) := by
      unfold lessB; rw [decide_eq_true (by omega), Bool.true_and]
    have h' : 1 ≤ (b - a) % 65536 := by omega
    clear h
    rw [hl]; clear hl
    go_enter Try.func28, Try.ntmps28
    go_wp2
    go_ret
    exact ⟨rfl, rfl⟩
theorem plus_any (a b : Int) (w : World) : Calls Try.prog 27 #[.int .u16 a, .int .i64 b] w fun e w' => e = .returned (.int .u16 (plusZ a b)) ∧ w = w' := by
  have e : IntKind.u16.wrap (a + IntKind.u16.wrap b) = plusZ a b := by
    rw [wrap16, wrap16]; unfold plusZ; omega
  go_enter Try.func27, Try.ntmps27
  go_wp2
  go_ret
  exact ⟨rfl, rfl⟩
/-- Where a distance lies. -/
def LD (w : World) (g o : Nat) (b1 b2 : Int) : Prop := w.rangeAt g o [.int .u16 b1, .int .u16 b2]
theorem LD.one {w : World} {g o : Nat} {b1 b2 : Int} (h : LD w g o b1 b2) : w.cell? ⟨g, o, none⟩ = some (.int .u16 b1) := by simpa using h 0 _ rfl
theorem LD.two {w : World} {g o : Nat} {b1 b2 : Int} (h : LD w g o b1 b2) : w.cell? ⟨g, o + 1, none⟩ = some (.int .u16 b2) := h 1 _ rfl
theorem LD.below {w w' : World} {B g o : Nat} {b1 b2 : Int} (h : LD w g o b1 b2) (hb : Below B w w') (hlt : g < B) : LD w' g o b1 b2 := fun j v hv =>
  (hb.cell (p := ⟨g, o + j, none⟩) hlt).trans (h j v hv)
theorem LD.new (w : World) (b1 b2 : Int) (t : TypeId) : LD (w.alloc (.cells #[.int .u16 b1, .int .u16 b2] t)) w.heap.size 0 b1 b2 := by
  intro j v hv
  have h : (w.alloc (.cells #[.int .u16 b1, .int .u16 b2] t)).heap[w.heap.size]? = some (.cells #[.int .u16 b1, .int .u16 b2] t (0, 0)) := by
    show (w.heap.push _)[w.heap.size]? = _
    simp
  rw [Nat.zero_add, cell_of_row _ _ j _ t (0, 0) h]
  simpa using hv
theorem LD.lt {w : World} {g o : Nat} {b1 b2 : Int} (h : LD w g o b1 b2) : g < w.heap.size := block_lt_of_cell h.one
theorem infoD : (Try.prog.info? 42).map (·.size) = some 2 := by kernel_rfl
theorem yD {ops : Array Oper} {S : World → Prop} {op : Oper} {a : Act} {b o : Nat} {x : Operand} (c1 c2 : Int) (hS : ∀ w, S w → LD w b o c1 c2) (hw : Region.wanted op (yielded ops a.tmps) = true) (ho : op.op = .load 42 x) (hx : a.eval x = .pointer (some ⟨b, o, none⟩)) : YieldsIf Try.prog ops S op (.agg #[.int .u16 c1, .int .u16 c2]) a :=
  yieldsIf_load_mid hw _ x ho b o hx [.int .u16 c1, .int .u16 c2] _ hS Try.underlying42 rfl (by rw [infoD]; rfl)
end Go.Proofs.Ytbjclphgabpgoaa.Sn
