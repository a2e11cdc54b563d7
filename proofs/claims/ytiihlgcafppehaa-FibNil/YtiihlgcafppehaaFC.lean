/-
  What makePlan's own function lays down of a pair.
-/
import Derived.Test.YtiihlgcafppehaaFB
import Derived.Maps.AppendAt
import Derived.Test.YtiihlgcafppehaaTM
namespace Go.Proofs.Ytiihlgcafppehaa
open Go.RowKit Go.Maps Go.Shelf
set_option linter.unusedSimpArgs false
set_option linter.unusedVariables false
set_option maxRecDepth 20000
/-- Must a pair wait? -/
def waitB (A : List (Pr × Int)) (now : Int) (p : Pr) : Bool := match getN mT A p with | some a => decide (now < a.2) | none => false
def layO (o : Option Oq) (wt : Bool) : List Oq := match o with | some op => if wt = true then [] else [op] | none => []
def layU (o : Option Oq) (a : Option (Pr × Int)) (now t : Int) : Int := match o, a with | some _, some a => if now < a.2 then min t a.2 else t | _, _ => t
/-- What is laid down of a pair; till when the plan then holds. -/
def layP (W H : List En) (A : List (Pr × Int)) (now : Int) (p : Pr) : List Oq := layO (todR W H p) (waitB A now p)
def layT (W H : List En) (A : List (Pr × Int)) (now t : Int) (p : Pr) : Int := layU (todR W H p) (getN mT A p) now t
/-- What is turned while a plan is made: the Fib's own block, and rows of operations from B on. -/
structure LTurn (w w' : World) (f B : Nat) : Prop where
  os : w'.os = w.os
  tape : w'.tape = w.tape
  out : w'.output = w.output
  size : w.heap.size ≤ w'.heap.size
  block : ∀ i, i < w.heap.size → i ≠ f → (B ≤ i → ∀ cs fr, w.heap[i]? ≠ some (.cells cs 52 fr)) → w'.heap[i]? = w.heap[i]?
section
variable {w w1 w' : World} {f B : Nat} {x : Fv} {W H : List En} {A : List (Pr × Int)}
theorem LTurn.of (h : Below w.heap.size w w') : LTurn w w' f B := ⟨h.os, h.tape, h.output, h.size, fun i hi _ _ => h.block i hi⟩
theorem LTurn.self (h : w.grownBy w' (some f)) : LTurn w w' f B := ⟨h.os, h.tape, h.output, h.size, fun i hi h1 _ => h.block i hi (fun e => h1 (by cases e; rfl))⟩
theorem LTurn.ops {o : Option Nat} (h : w.grownBy w' o) (ho : ∀ g, o = some g → B ≤ g ∧ ∃ cs, Row w g 52 cs) : LTurn w w' f B :=
  ⟨h.os, h.tape, h.output, h.size, fun i hi _ h2 => h.block i hi (fun e => by
    obtain ⟨h3, cs, h4⟩ := ho i e.symm
    exact h2 h3 _ _ h4)⟩
theorem LTurn.row {g : Nat} {T : TypeId} {cs : List Value} (h : LTurn w w' f B) (hr : Row w g T cs) (hne : g ≠ f) (hT : T ≠ 52) : Row w' g T cs :=
  (h.block g hr.lt hne (fun _ cs' fr e => by
    unfold Row at hr
    rw [hr] at e
    cases e
    exact hT rfl)).trans hr
theorem LTurn.low {g : Nat} (h : LTurn w w' f B) (h1 : g < w.heap.size) (h2 : g < B) (hne : g ≠ f) : w'.heap[g]? = w.heap[g]? := h.block g h1 hne (fun h3 => by omega)
theorem LTurn.map {g : Nat} {es : Array MapEntry} {cl : Nat} (h : LTurn w w' f B) (hm : w.heap[g]? = some (.map es cl)) (hne : g ≠ f) : w'.heap[g]? = w.heap[g]? :=
  h.block g (Array.getElem?_eq_some_iff.1 hm).1 hne (fun _ cs fr e => by rw [hm] at e; cases e)
theorem LTurn.trans (h : LTurn w w1 f B) (k : LTurn w1 w' f B) : LTurn w w' f B := by
  refine ⟨k.os.trans h.os, k.tape.trans h.tape, k.out.trans h.out, Nat.le_trans h.size k.size, fun i hi h1 h2 => ?_⟩
  have e1 := h.block i hi h1 h2
  exact (k.block i (Nat.lt_of_lt_of_le hi h.size) h1 (fun h3 cs fr e => h2 h3 cs fr (e1.symm.trans e))).trans e1
end
theorem ownO_row {w : World} {B : Nat} {v : Value} {L : List Oq} (h : kO.Own w B v L) {b : Nat} (e : v.ownBlock = some b) : B ≤ b ∧ ∃ cs, Row w b 52 cs := by
  rcases h.2 with ⟨e2, _⟩ | ⟨g', cap, cur, e2, hB, hh, _⟩
  · rw [e2] at e; cases e
  · rw [e2] at e
    have e3 : g' = b := by simpa [Value.ownBlock] using e
    subst e3
    refine ⟨hB, cur.toList, ?_⟩
    unfold Row
    rw [hh]
    rfl
theorem bsO1 (n : Oq) (w : World) : (Instr.buildSlice 77 1 #[(0, oV n)]).run Try.prog w = .ok (.slice (some ⟨w.heap.size, 0, none⟩) 1 1) (w.alloc (.cells (pcs n).toArray 52)) := by
  obtain ⟨k, p, i, a⟩ := n
  induction p using Pr.lits with | h =>
  induction a using Ad.lits with | h =>
  show _ = _
  kernel_rfl
section
variable {ops : Array Oper} {rest : List Oper} {op o : Oper} {a : Act} {w w' : World} {Q : Exit → Act → World → Prop} {K : Act → World → Prop} {E : Prop} {S : World → Prop}
theorem sApO (s x : Operand) (hw : Region.wanted o (yielded ops a.tmps) = true) (ho : o.op = .call { callee := .builtin .append, args := #[s, x], argTypes := #[77, 77] })
    (B : Nat) (v : Value) (l : List Oq) (hs : a.eval s = v) (hown : kO.Own w B v l) (g c : Nat) (p : Oq) (hx : a.eval x = .slice (some ⟨g, 0, none⟩) 1 c) (hr : Row w g 52 (pcs p)) (hl : l.length ≤ 10000000) (hB : B ≤ w.heap.size)
    (h : ∀ v' w', kO.Own w' B v' (l ++ [p]) → w.grownBy w' v.ownBlock → K (a.put o.dst v') w') : if Region.wanted o (yielded ops a.tmps) = true then Oper.wp Try.prog o a w K Q else E := by
  rw [if_pos hw]
  obtain ⟨i0, hi, hz0, hz1, hz2⟩ := info_parts kO.info
  refine wp_append_own w s x 77 ho B 52 i0 (.agg (pcs zeroO).toArray) 52 80 Try.underlying77 hi hz0 hz1 hz2 (by simp [Value.cells, pcs_len]) (by decide) v l.length (kO.cs l) hs hown ⟨g, 0, none⟩ 1 c (pcs p) hx (by rw [pcs_len]) (fun j u hu => ?_) (pcs_one p) (by unfold maxLen; omega) (by omega) hB (fun v' w' h1 h2 _ => h v' w' ?_ h2)
  · rw [Addr.add_mid, Nat.zero_add]
    rw [hr.cell]; exact hu
  · unfold Kd.Own
    rw [kO.cs_append, List.length_append, show kO.cs [p] = pcs p by simp [Kd.cs, kO]]
    exact h1
theorem wp_stPl (x y : Operand) (ho : op.op = .store 77 x y) (b : Nat) (ad : Option Addr) (n c : Nat) (v : Fv) {U : TypeId} (hx : a.eval x = .pointer (some ⟨b, 55, none⟩)) (hy : a.eval y = .slice ad n c) (hr : Row w b U (fcs v))
    (h : ∀ W, w.grownBy W (some b) → Row W b U (fcs ⟨v.mW, v.mH, v.mA, v.d, .slice ad n c, v.ti⟩) → K (a.put op.dst undef) W) : Oper.wp Try.prog op a w K Q := by
  have c1 : w.cell? ⟨b, 55, none⟩ = some v.pl := hr.f55
  have c2 := hr.frozen 55
  have h1 := h _ (gb_set w b 55 (.slice ad n c)) (hr.fpl _)
  unfold Oper.wp execOp
  simp only [ho, hx, hy]
  go_simp
  exact h1
theorem sStPl (x y : Operand) (hw : Region.wanted op (yielded ops a.tmps) = true) (ho : op.op = .store 77 x y) (b : Nat) (ad : Option Addr) (n c : Nat) (v : Fv) {U : TypeId} (hx : a.eval x = .pointer (some ⟨b, 55, none⟩)) (hy : a.eval y = .slice ad n c) (hr : Row w b U (fcs v))
    (h : ∀ W, w.grownBy W (some b) → Row W b U (fcs ⟨v.mW, v.mH, v.mA, v.d, .slice ad n c, v.ti⟩) → K (a.put op.dst undef) W) : if Region.wanted op (yielded ops a.tmps) = true then Oper.wp Try.prog op a w K Q else E := by
  rw [if_pos hw]
  exact wp_stPl x y ho b ad n c v hx hy hr h
end
end Go.Proofs.Ytiihlgcafppehaa
