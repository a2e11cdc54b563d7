/-
  An act of the law on the table and on the document's table without room: what both keep.
-/
import Derived.Test.YthofoocknmkdjaaE2
namespace Go.Proofs.Ythofoocknmkdjaa
open Go.RowKit Go.Maps Go.Shelf
set_option linter.unusedSimpArgs false
set_option linter.unusedVariables false
set_option maxRecDepth 20000
theorem infoAcs : (Try.prog.info? 43).map (·.size) = some 84 := by kernel_rfl
theorem row_ne {w : World} {g h : Nat} {T U : TypeId} {cs ds : List Value} (a : Row w g T cs) (b : Row w h U ds) (hT : T ≠ U) : g ≠ h := by
  intro e
  subst e
  unfold Row at a b
  rw [a] at b
  cases b
  exact hT rfl
/-- Two blocks may have turned; what is new is new. -/
structure Wd (w W : World) (mb r : Nat) : Prop where
  os : W.os = w.os
  tape : W.tape = w.tape
  output : W.output = w.output
  size : w.heap.size ≤ W.heap.size
  block : ∀ i, i < w.heap.size → i ≠ mb → i ≠ r → W.heap[i]? = w.heap[i]?
theorem Wd.refl (w : World) (mb r : Nat) : Wd w w mb r := ⟨rfl, rfl, rfl, Nat.le_refl _, fun _ _ _ _ => rfl⟩
theorem Wd.grow {w W W' : World} {mb r : Nat} {o : Option Nat} (h : Wd w W mb r) (g : W.grownBy W' o) (ho : ∀ b, o = some b → b < w.heap.size → b = mb ∨ b = r) : Wd w W' mb r :=
  ⟨g.os.trans h.os, g.tape.trans h.tape, g.output.trans h.output, Nat.le_trans h.size g.size, fun i hi h1 h2 => (g.block i (Nat.lt_of_lt_of_le hi h.size) (fun e => by rcases ho i e.symm hi with e | e <;> contradiction)).trans (h.block i hi h1 h2)⟩
theorem Wd.below {w W W' : World} {mb r : Nat} (h : Wd w W mb r) (b : Below W.heap.size W W') : Wd w W' mb r :=
  h.grow (o := none) ⟨b.os, b.tape, b.output, b.size, fun i hi _ => b.block i hi⟩ (fun _ e => by cases e)
/-- What holds throughout an act. -/
structure DoS (w : World) (t mb r : Nat) (most : Int) (g7 g9 : Nat) (x : Ac) (W : World) : Prop where
  act : Row W g7 43 (acs x)
  row : Row W g9 41 (ocs x.r)
  inv : InvT W t mb most
  em : Em W r
  wd : Wd w W mb r
section
variable {w W W' : World} {t mb r : Nat} {most : Int} {g7 g9 : Nat} {x : Ac}
theorem DoS.below (h : DoS w t mb r most g7 g9 x W) (b : Below W.heap.size W W') : DoS w t mb r most g7 g9 x W' :=
  ⟨h.act.below b h.act.lt, h.row.below b h.row.lt, h.inv.below b, h.em.below b, h.wd.below b⟩
theorem DoS.actI (h : DoS w t mb r most g7 g9 x W) (a : ActI W t mb most W') : DoS w t mb r most g7 g9 x W' := by
  obtain ⟨L, hL, _⟩ := h.inv
  exact ⟨h.act.keep a.2 (hL.map.ne_row h.act), h.row.keep a.2 (hL.map.ne_row h.row), a.1, Row.keep h.em a.2 (hL.map.ne_row h.em), h.wd.grow a.2 fun b e _ => by cases e; exact .inl rfl⟩
theorem DoS.actE (h : DoS w t mb r most g7 g9 x W) (a : ActE W r W') : DoS w t mb r most g7 g9 x W' := by
  obtain ⟨L, hL, _⟩ := h.inv
  exact ⟨h.act.keep a.2 (row_ne h.act h.em (by decide)), h.row.keep a.2 (row_ne h.row h.em (by decide)), h.inv.other a.2 (row_ne h.em hL.row (by decide)) (hL.map.ne_row h.em), a.1, h.wd.grow a.2 fun b e _ => by cases e; exact .inr rfl⟩
theorem DoS.c34 (h : DoS w t mb r most g7 g9 x W) : W.cell? ⟨g9, 34, none⟩ = some (.int .i64 x.r.i) := (h.row.cell 34).trans (oc34 x.r)
theorem DoS.a35 (h : DoS w t mb r most g7 g9 x W) : LA W g9 35 x.r.a := by have := h.row.ro.a; simpa using this
theorem DoS.q0 (h : DoS w t mb r most g7 g9 x W) : LQ W g9 0 x.r.p := h.row.ro.q
theorem DoS.c83 (h : DoS w t mb r most g7 g9 x W) : W.cell? ⟨g7, 83, none⟩ = some (.bool x.o) := by
  have q : LC W g7 0 x := h.act.range
  simpa using q.ok
end
/-- What an act answers, and leaves. -/
def DoP (w : World) (t mb r : Nat) (most : Int) (e : Ending) (w' : World) : Prop := ∃ b, e = .returned (.bool b) ∧ InvT w' t mb most ∧ Wd w w' mb r
theorem DoS.post {w W : World} {t mb r : Nat} {most : Int} {g7 g9 : Nat} {x : Ac} (h : DoS w t mb r most g7 g9 x W) (b : Bool) : DoP w t mb r most (.returned (.bool b)) W := ⟨b, rfl, h.inv, h.wd⟩
theorem bsA1 (a : Ad) (w : World) : (Instr.buildSlice 81 1 #[(0, (Value.agg (acells a).toArray))]).run Try.prog w = .ok (.slice (some ⟨w.heap.size, 0, none⟩) 1 1) (w.alloc (.cells (acells a).toArray 32)) := by
  induction a using Ad.lits with | h b0 b1 b2 b3 b4 b5 b6 b7 b8 b9 b10 b11 b12 b13 b14 b15 h1 =>
  show _ = _
  kernel_rfl
theorem bsA2 (a : Ad) (w : World) : (Instr.buildSlice 81 2 #[(0, (Value.agg (acells a).toArray)), (1, (Value.agg (acells a).toArray))]).run Try.prog w = .ok (.slice (some ⟨w.heap.size, 0, none⟩) 2 2) (w.alloc (.cells (acells a ++ acells a).toArray 32)) := by
  induction a using Ad.lits with | h b0 b1 b2 b3 b4 b5 b6 b7 b8 b9 b10 b11 b12 b13 b14 b15 h1 =>
  show _ = _
  kernel_rfl
theorem bsP2 (p : Pr) (w : World) : (Instr.buildSlice 56 2 #[(0, (Value.agg (qcells p).toArray)), (1, (Value.agg (qcells p).toArray))]).run Try.prog w = .ok (.slice (some ⟨w.heap.size, 0, none⟩) 2 2) (w.alloc (.cells (qcells p ++ qcells p).toArray 36)) := by
  induction p using Pr.lits with | h b0 b1 b2 b3 b4 b5 b6 b7 b8 b9 b10 b11 b12 b13 b14 b15 c0 c1 c2 c3 c4 c5 c6 c7 c8 c9 c10 c11 c12 c13 c14 c15 n m h1 h2 =>
  show _ = _
  kernel_rfl
theorem PsW.two {w : World} {g : Nat} {p : Pr} (h : Row w g 36 (qcells p ++ qcells p)) : PsW w (some ⟨g, 0, none⟩) [p, p] :=
  ⟨.inr ⟨g, 0, rfl, h.lt, fun j q hq => by
    match j, hq with
    | 0, rfl => exact rangeAt_left h.range
    | 1, rfl =>
      have := rangeAt_right h.range (qcells_len p)
      simpa using this⟩⟩
theorem DsW.two {w : World} {g : Nat} {a : Ad} (h : Row w g 32 (acells a ++ acells a)) : DsW w (some ⟨g, 0, none⟩) [a, a] :=
  ⟨.inr ⟨g, 0, rfl, h.lt, fun j q hq => by
    match j, hq with
    | 0, rfl => exact rangeAt_left h.range
    | 1, rfl =>
      exact rangeAt_right h.range (acells_len a)⟩⟩
theorem DsW.nil (w : World) (ad : Option Addr) : DsW w ad [] := ⟨.inl rfl⟩
end Go.Proofs.Ythofoocknmkdjaa
