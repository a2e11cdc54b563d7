/-
  Rows of elements of several cells: append of one element to a row of the call's own.
-/
import Derived.Test.YtacadlbhgelncaaN11
import Derived.Laws.AppendOwnNone
namespace Go.Proofs.Ytacadlbhgelncaa
open Lk (Hi hcs hcs_one)
open Rk (Rt rcs rtV)
open Go.RowKit Go.Maps
set_option linter.unusedSimpArgs false
set_option linter.unusedVariables false
set_option maxRecDepth 20000
/-- A kind of elements: how they lie in memory. -/
structure Kd (α : Type) where
  enc : α → List Value
  T : TypeId
  ST : TypeId
  s : Nat
  by_ : Nat
  z : List Value
  len : ∀ x, (enc x).length = s
  one : ∀ x, ∀ u ∈ enc x, u.oneCell' = true
  und : Try.prog.underlying ST = some (.slice T)
  info : (Try.prog.info? T).map (fun i => (i.zero, i.size, i.bytes)) = some (some (.agg z.toArray), s, by_)
  zl : z.length = s
  sp : 0 < s
  bl : by_ ≤ 1000
variable {α : Type}
def Kd.cs (k : Kd α) (l : List α) : List Value := l.flatMap k.enc
theorem Kd.cs_len (k : Kd α) (l : List α) : (k.cs l).length = l.length * k.s := by
  induction l with
  | nil => simp [Kd.cs]
  | cons p ps ih => simp only [Kd.cs, List.flatMap_cons, List.length_append, List.length_cons] at *; rw [ih, k.len, Nat.add_mul]; omega
theorem Kd.cs_append (k : Kd α) (l m : List α) : k.cs (l ++ m) = k.cs l ++ k.cs m := by simp [Kd.cs]
theorem Kd.cs_one (k : Kd α) (l : List α) : ∀ u ∈ k.cs l, u.oneCell' = true := by
  intro u hu
  obtain ⟨p, _, hu⟩ := List.mem_flatMap.1 hu
  exact k.one p u hu
theorem Kd.cs_get (k : Kd α) : ∀ (l : List α) (j : Nat) (p : α), l[j]? = some p → ∀ i, i < k.s → (k.cs l)[j * k.s + i]? = (k.enc p)[i]?
  | [], j, p, h, _, _ => by simp at h
  | q :: l, 0, p, h, i, hi => by
    simp at h
    subst h
    have e : k.cs (q :: l) = k.enc q ++ k.cs l := by simp [Kd.cs]
    rw [e, List.getElem?_append_left (by rw [k.len]; omega)]
    simp
  | q :: l, j + 1, p, h, i, hi => by
    have e : k.cs (q :: l) = k.enc q ++ k.cs l := by simp [Kd.cs]
    rw [e, List.getElem?_append_right (by rw [k.len, Nat.add_mul]; omega)]
    have e2 : (j + 1) * k.s + i - (k.enc q).length = j * k.s + i := by rw [k.len, Nat.add_mul]; omega
    rw [e2]
    exact Kd.cs_get k l j p (by simpa using h) i hi
theorem info_parts {t : TypeId} {z : Value} {s b : Nat} (h : (Try.prog.info? t).map (fun i => (i.zero, i.size, i.bytes)) = some (some z, s, b)) : ∃ i, Try.prog.info? t = some i ∧ i.zero = some z ∧ i.size = s ∧ i.bytes = b := by
  cases hq : Try.prog.info? t with
  | none => simp [hq] at h
  | some i => simp [hq] at h; exact ⟨i, rfl, h.1, h.2.1, h.2.2⟩
theorem own_below {W W' : World} {B t s k : Nat} {xs : List Value} {v : Value} (ho : W.ownsRow B t s v k xs) (hb : Below W.heap.size W W') : W'.ownsRow B t s v k xs :=
  ho.kept (row := none) ⟨hb.os, hb.tape, hb.output, hb.size, fun i hi _ => hb.block i hi⟩ (by cases v.ownBlock <;> simp)
/-- A slice that is a row of the call's own, of these elements. -/
def Kd.Own (k : Kd α) (w : World) (B : Nat) (v : Value) (l : List α) : Prop := w.ownsRow B k.T k.s v l.length (k.cs l)
theorem Kd.own_at {k : Kd α} {w : World} {B : Nat} {v : Value} {l : List α} (h : k.Own w B v l) : ∃ ad c, v = .slice ad l.length c ∧ (l ≠ [] → ∃ g, ad = some ⟨g, 0, none⟩ ∧ B ≤ g ∧ g < w.heap.size ∧ (∃ cs f, w.heap[g]? = some (.cells cs k.T f)) ∧ ∀ (j : Nat) (p : α), l[j]? = some p → w.rangeAt g (j * k.s) (k.enc p)) := by
  rcases h.2 with ⟨rfl, h1⟩ | ⟨g, cap, cur, e, hB, hh, _⟩
  · refine ⟨none, 0, by rw [h1], fun hn => absurd (List.eq_nil_of_length_eq_zero h1) hn⟩
  · refine ⟨some ⟨g, 0, none⟩, cap, e, fun _ => ⟨g, rfl, hB, (Array.getElem?_eq_some_iff.1 hh).1, ⟨_, _, hh⟩, fun j p hp i u hu => ?_⟩⟩
    have hi : i < k.s := by have := (List.getElem?_eq_some_iff.1 hu).1; rwa [k.len] at this
    have h2 := World.ownsRow.cells (g := g) h (by rw [e]; rfl) (j * k.s + i) u (by rw [k.cs_get l j p hp i hi]; exact hu)
    rw [Addr.add_mid, Nat.zero_add] at h2
    exact h2
section
variable {w : World} {ops : Array Oper} {rest : List Oper} {o : Oper} {a : Act} {Q : Exit → Act → World → Prop} {K : Act → World → Prop} {E : Prop}
theorem Kd.wp_append (k : Kd α) (s x : Operand) (ho : o.op = .call { callee := .builtin .append, args := #[s, x], argTypes := #[k.ST, k.ST] })
    (B : Nat) (v : Value) (l : List α) (hs : a.eval s = v) (hown : k.Own w B v l) (g c : Nat) (p : α) (hx : a.eval x = .slice (some ⟨g, 0, none⟩) 1 c) (hr : Row w g k.T (k.enc p)) (hl : l.length ≤ 10000000) (hB : B ≤ w.heap.size)
    (h : ∀ v' w', k.Own w' B v' (l ++ [p]) → w.grownBy w' v.ownBlock → K (a.put o.dst v') w') : Oper.wp Try.prog o a w K Q := by
  obtain ⟨i0, hi, hz0, hz1, hz2⟩ := info_parts k.info
  have hb : (l.length + 1) * k.by_ ≤ (l.length + 1) * 1000 := Nat.mul_le_mul_left _ k.bl
  refine wp_append_own w s x k.ST ho B k.T i0 (.agg k.z.toArray) k.s k.by_ k.und hi hz0 hz1 hz2 (by simp [Value.cells, k.zl]) k.sp v l.length (k.cs l) hs hown ⟨g, 0, none⟩ 1 c (k.enc p) hx (by rw [k.len]; omega) (fun j u hu => ?_) (k.one p) (by unfold maxLen; omega) (by omega) hB (fun v' w' h1 h2 _ => h v' w' ?_ h2)
  · rw [Addr.add_mid, Nat.zero_add]
    rw [hr.cell]; exact hu
  · unfold Kd.Own
    rw [k.cs_append, List.length_append]
    have e : k.cs [p] = k.enc p := by simp [Kd.cs]
    rw [e]
    exact h1
theorem Kd.append (k : Kd α) (s x : Operand) (hw : Region.wanted o (yielded ops a.tmps) = true) (ho : o.op = .call { callee := .builtin .append, args := #[s, x], argTypes := #[k.ST, k.ST] })
    (B : Nat) (v : Value) (l : List α) (hs : a.eval s = v) (hown : k.Own w B v l) (g c : Nat) (p : α) (hx : a.eval x = .slice (some ⟨g, 0, none⟩) 1 c) (hr : Row w g k.T (k.enc p)) (hl : l.length ≤ 10000000) (hB : B ≤ w.heap.size)
    (h : ∀ v' w', k.Own w' B v' (l ++ [p]) → w.grownBy w' v.ownBlock → wpList Try.prog ops Q rest (a.put o.dst v') w') : wpList Try.prog ops Q (o :: rest) a w :=
  wpList_step fun K hK => by
    rw [if_pos hw]
    exact k.wp_append s x ho B v l hs hown g c p hx hr hl hB fun v' w' h1 h2 => hK _ _ (h v' w' h1 h2)
theorem Kd.sAppend (k : Kd α) (s x : Operand) (hw : Region.wanted o (yielded ops a.tmps) = true) (ho : o.op = .call { callee := .builtin .append, args := #[s, x], argTypes := #[k.ST, k.ST] })
    (B : Nat) (v : Value) (l : List α) (hs : a.eval s = v) (hown : k.Own w B v l) (g c : Nat) (p : α) (hx : a.eval x = .slice (some ⟨g, 0, none⟩) 1 c) (hr : Row w g k.T (k.enc p)) (hl : l.length ≤ 10000000) (hB : B ≤ w.heap.size)
    (h : ∀ v' w', k.Own w' B v' (l ++ [p]) → w.grownBy w' v.ownBlock → K (a.put o.dst v') w') : if Region.wanted o (yielded ops a.tmps) = true then Oper.wp Try.prog o a w K Q else E := by
  rw [if_pos hw]
  exact k.wp_append s x ho B v l hs hown g c p hx hr hl hB h
theorem sBsG {T U : TypeId} {n : Nat} (parts : List (Nat × Operand)) (Z : List Value) (hw : Region.wanted o (yielded ops a.tmps) = true) (ho : o.op = .buildSlice T n parts.toArray)
    (hrun : ∀ w, (Instr.buildSlice T n (parts.map fun p => (p.1, a.eval p.2)).toArray).run Try.prog w = .ok (.slice (some ⟨w.heap.size, 0, none⟩) n n) (w.alloc (.cells Z.toArray U)))
    (h : ∀ W, Row W w.heap.size U Z → Below w.heap.size w W → K (a.put o.dst (.slice (some ⟨w.heap.size, 0, none⟩) n n)) W) : if Region.wanted o (yielded ops a.tmps) = true then Oper.wp Try.prog o a w K Q else E := by
  rw [if_pos hw]
  exact wp_bsG parts Z ho hrun h
end
def kF : Kd Fc := ⟨fcs, 79, 75, 7, 56, fcs zeroF, fun _ => rfl, fcs_one, Try.underlying75, by kernel_rfl, rfl, by decide, by decide⟩
def kN : Kd Ng := ⟨ncs, 55, 44, 34, 128, ncs zeroN, ncs_len, ncs_one, Try.underlying44, by kernel_rfl, ncs_len _, by decide, by decide⟩
theorem bsF1 (f : Fc) (w : World) : (Instr.buildSlice 75 1 #[(0, .agg (fcs f).toArray)]).run Try.prog w = .ok (.slice (some ⟨w.heap.size, 0, none⟩) 1 1) (w.alloc (.cells (fcs f).toArray 79)) := by kernel_rfl
theorem bsN1 (n : Ng) (w : World) : (Instr.buildSlice 44 1 #[(0, nV n)]).run Try.prog w = .ok (.slice (some ⟨w.heap.size, 0, none⟩) 1 1) (w.alloc (.cells (ncs n).toArray 55)) := by
  obtain ⟨i, ⟨l, hl⟩, m, u, mg, ug, ma, ua, tx, ta, se, he, hs, rt, hr⟩ := n
  match l, hl with
  | [b0, b1, b2, b3, b4, b5, b6, b7, b8, b9, b10, b11, b12, b13, b14, b15], _ =>
    show _ = _
    kernel_rfl
end Go.Proofs.Ytacadlbhgelncaa
