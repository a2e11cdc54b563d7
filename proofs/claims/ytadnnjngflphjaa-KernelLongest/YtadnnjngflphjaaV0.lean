/-
  Ids of routers, blocks, rows of elements: facts of worlds for package source.
-/
import Derived.Test.YtadnnjngflphjaaN0
import Derived.Laws.AppendOwnNone
namespace Go.Proofs.Ytadnnjngflphjaa
open Go.RowKit
set_option linter.unusedSimpArgs false
set_option linter.unusedVariables false
set_option maxRecDepth 20000
/-- The id of a router: eight bytes. -/
structure Id8 where
  l : List UInt8
  len : l.length = 8
theorem Id8.ext {a b : Id8} (h : a.l = b.l) : a = b := by
  cases a; cases b; cases h; rfl
def zeroI : Id8 := ⟨List.replicate 8 0, rfl⟩
def icells (i : Id8) : List Value := bcells i.l
theorem icells_len (i : Id8) : (icells i).length = 8 := by simp [icells, bcells, i.len]
theorem icells_one (i : Id8) : ∀ u ∈ icells i, u.oneCell' = true := bcells_one _
def zeroP : Pf := ⟨zeroA, 0⟩
def zeroQ : Pr := ⟨zeroP, zeroP⟩
abbrev idV (i : Id8) : Value := .agg (icells i).toArray
theorem infoQz : (Try.prog.info? 35).map (·.zero) = some (some (.agg (qcells zeroQ).toArray)) := by kernel_rfl
def LI (w : World) (b o : Nat) (r : Id8) : Prop := w.rangeAt b o (icells r)
theorem LI.new (w : World) (a : Id8) (t : TypeId) : LI (w.alloc (.cells (icells a).toArray t)) w.heap.size 0 a := rangeAt_new w _ t
theorem LI.below {w w' : World} {B b o : Nat} {c : Id8} (h : LI w b o c) (hb : Below B w w') (hlt : b < B) : LI w' b o c := rangeAt_below h hb hlt
theorem LI.alloc {w : World} {b o : Nat} {c : Id8} (h : LI w b o c) (ob : Obj) : LI (w.alloc ob) b o c := World.rangeAt_alloc h ob
section
variable {ops : Array Oper} {rest : List Oper} {op : Oper} {a : Act} {w : World} {Q : Exit → Act → World → Prop} {S : World → Prop}
end
/-! ### Equality of ids -/
/-! ### Allocations -/
theorem run_alG {T : TypeId} {Z : List Value} {i : TypeInfo} (hi : Try.prog.info? T = some i) (hz : i.zero = some (.agg Z.toArray)) (w : World) : (Instr.alloc T true (.tuple #[])).run Try.prog w = .ok (.pointer (some ⟨w.heap.size, 0, none⟩)) (w.alloc (.cells Z.toArray T)) := by
  generalize Z.toArray = Z' at *
  simp [Instr.alloc, zeroValue, typeInfo, hi, hz, newVar, newRow, newObj, Value.cells]
  rfl
section
variable {ops : Array Oper} {rest : List Oper} {op : Oper} {a : Act} {w : World} {Q : Exit → Act → World → Prop} {K : Act → World → Prop} {E : Prop}
theorem wp_alG {T : TypeId} {Z : List Value} (hT : (Try.prog.info? T).map (·.zero) = some (some (.agg Z.toArray))) (ho : op.op = .alloc T)
    (h : ∀ g W, w.heap.size ≤ g → g < W.heap.size → Below w.heap.size w W → Row W g T Z → K (a.put op.dst (.pointer (some ⟨g, 0, none⟩))) W) : Oper.wp Try.prog op a w K Q := by
  obtain ⟨i, hi, hz⟩ : ∃ i, Try.prog.info? T = some i ∧ i.zero = some (.agg Z.toArray) := by
    cases hq : Try.prog.info? T with
    | none => simp [hq] at hT
    | some i => exact ⟨i, rfl, by simpa [hq] using hT⟩
  have h1 := h _ _ (Nat.le_refl _) (by simp) (ba w (.cells Z.toArray T)) (Row.new w T Z)
  unfold Oper.wp execOp
  simp only [ho, Sem.run_bind, run_alG hi hz, Result.andThen_ok, Sem.run_pure]
  exact h1
theorem alG {T : TypeId} {Z : List Value} (hT : (Try.prog.info? T).map (·.zero) = some (some (.agg Z.toArray))) (hw : Region.wanted op (yielded ops a.tmps) = true) (ho : op.op = .alloc T)
    (h : ∀ g W, w.heap.size ≤ g → g < W.heap.size → Below w.heap.size w W → Row W g T Z → wpList Try.prog ops Q rest (a.put op.dst (.pointer (some ⟨g, 0, none⟩))) W) : wpList Try.prog ops Q (op :: rest) a w :=
  wpList_step fun K hK => by
    rw [if_pos hw]
    exact wp_alG hT ho fun g W h1 h2 h3 h4 => hK _ _ (h g W h1 h2 h3 h4)
theorem sAlG {T : TypeId} {Z : List Value} (hT : (Try.prog.info? T).map (·.zero) = some (some (.agg Z.toArray))) (hw : Region.wanted op (yielded ops a.tmps) = true) (ho : op.op = .alloc T)
    (h : ∀ g W, w.heap.size ≤ g → g < W.heap.size → Below w.heap.size w W → Row W g T Z → K (a.put op.dst (.pointer (some ⟨g, 0, none⟩))) W) : if Region.wanted op (yielded ops a.tmps) = true then Oper.wp Try.prog op a w K Q else E := by
  rw [if_pos hw]
  exact wp_alG hT ho h
end

theorem Row.setMid {t : TypeId} {g : Nat} : ∀ (ds pre mid post : List Value) (w : World), Row w g t (pre ++ (mid ++ post)) → ds.length = mid.length → Row (w.setCells g pre.length ds) g t (pre ++ (ds ++ post))
  | [], pre, mid, post, w, h, hl => by
    obtain rfl : mid = [] := List.eq_nil_of_length_eq_zero hl.symm
    exact h
  | v :: ds, pre, [], post, w, h, hl => by simp at hl
  | v :: ds, pre, c :: mid, post, w, h, hl => by
    rw [World.setCells]
    have h1 := h.set pre.length v
    have e : (pre ++ ((c :: mid) ++ post)).set pre.length v = (pre ++ [v]) ++ (mid ++ post) := by simp
    rw [e] at h1
    have h2 := Row.setMid ds (pre ++ [v]) mid post _ h1 (by simpa using hl)
    rw [List.length_append] at h2
    simpa using h2
theorem Row.thereMid {w : World} {g : Nat} {t : TypeId} {cs : List Value} {o n : Nat} (h : Row w g t cs) (hn : o + n ≤ cs.length) : w.there g o n := fun j hj => by
  rw [h.cell, h.frozen]
  exact ⟨by simp; omega, rfl⟩
/-! ### Literals -/
section
variable {ops : Array Oper} {rest : List Oper} {op : Oper} {a : Act} {w : World} {Q : Exit → Act → World → Prop} {S : World → Prop} {T : TypeId} {v : Value}
theorem bdG (parts : List (Nat × Operand)) (hw : Region.wanted op (yielded ops a.tmps) = true) (ho : op.op = .build T parts.toArray)
    (hv : (Instr.build T (parts.map fun p => (p.1, a.eval p.2)).toArray).run Try.prog w = .ok v w)
    (h : wpList Try.prog ops Q rest (a.put op.dst v) w) : wpList Try.prog ops Q (op :: rest) a w :=
  wpList_step fun K hK => by
    rw [if_pos hw]
    unfold Oper.wp execOp
    simp only [ho, List.map_toArray, Sem.run_bind, hv, Result.andThen_ok, Sem.run_pure]
    exact hK _ _ h
theorem yB (parts : List (Nat × Operand)) (hw : Region.wanted op (yielded ops a.tmps) = true) (ho : op.op = .build T parts.toArray)
    (hv : ∀ w, (Instr.build T (parts.map fun p => (p.1, a.eval p.2)).toArray).run Try.prog w = .ok v w) : YieldsIf Try.prog ops S op v a :=
  .inl ⟨hw, fun w _ => by
    unfold execOp
    simp only [ho, List.map_toArray, Sem.run_bind, hv, Result.andThen_ok, Sem.run_pure]⟩
end
section
variable {ops : Array Oper} {rest : List Oper} {op : Oper} {a : Act} {w : World} {Q : Exit → Act → World → Prop} {K : Act → World → Prop} {E : Prop} {S : World → Prop}
theorem wp_bsG {T U : TypeId} {n : Nat} (parts : List (Nat × Operand)) (Z : List Value) (ho : op.op = .buildSlice T n parts.toArray)
    (hrun : ∀ w, (Instr.buildSlice T n (parts.map fun p => (p.1, a.eval p.2)).toArray).run Try.prog w = .ok (.slice (some ⟨w.heap.size, 0, none⟩) n n) (w.alloc (.cells Z.toArray U)))
    (h : ∀ W, Row W w.heap.size U Z → Below w.heap.size w W → K (a.put op.dst (.slice (some ⟨w.heap.size, 0, none⟩) n n)) W) : Oper.wp Try.prog op a w K Q := by
  have h1 := h _ (Row.new w U Z) (ba w _)
  unfold Oper.wp execOp
  simp only [ho, List.map_toArray, Sem.run_bind, hrun, Result.andThen_ok, Sem.run_pure]
  exact h1
theorem bsG {T U : TypeId} {n : Nat} (parts : List (Nat × Operand)) (Z : List Value) (hw : Region.wanted op (yielded ops a.tmps) = true) (ho : op.op = .buildSlice T n parts.toArray)
    (hrun : ∀ w, (Instr.buildSlice T n (parts.map fun p => (p.1, a.eval p.2)).toArray).run Try.prog w = .ok (.slice (some ⟨w.heap.size, 0, none⟩) n n) (w.alloc (.cells Z.toArray U)))
    (h : ∀ W, Row W w.heap.size U Z → Below w.heap.size w W → wpList Try.prog ops Q rest (a.put op.dst (.slice (some ⟨w.heap.size, 0, none⟩) n n)) W) : wpList Try.prog ops Q (op :: rest) a w :=
  wpList_step fun K hK => by
    rw [if_pos hw]
    exact wp_bsG parts Z ho hrun fun W k1 k2 => hK _ _ (h W k1 k2)
end
/-- A kind of elements: how they lie in memory. -/
structure Kd (α : Type) where
  enc : α → List Value
  T : TypeId
  ST : TypeId
  s : Nat
  by_ : Nat
  z : List Value
  len : ∀ x, (enc x).length = s
  one : ∀ x, ∀ u ∈ enc x, u.oneCell' = true
  und : Try.prog.underlying ST = some (.slice T)
  info : (Try.prog.info? T).map (fun i => (i.zero, i.size, i.bytes)) = some (some (.agg z.toArray), s, by_)
  zl : z.length = s
  sp : 0 < s
  bl : by_ ≤ 1000
variable {α : Type}
def Kd.cs (k : Kd α) (l : List α) : List Value := l.flatMap k.enc
theorem Kd.cs_len (k : Kd α) (l : List α) : (k.cs l).length = l.length * k.s := by
  induction l with
  | nil => simp [Kd.cs]
  | cons p ps ih => simp only [Kd.cs, List.flatMap_cons, List.length_append, List.length_cons] at *; rw [ih, k.len, Nat.add_mul]; omega
theorem Kd.cs_append (k : Kd α) (l m : List α) : k.cs (l ++ m) = k.cs l ++ k.cs m := by simp [Kd.cs]
theorem Kd.cs_one (k : Kd α) (l : List α) : ∀ u ∈ k.cs l, u.oneCell' = true := by
  intro u hu
  obtain ⟨p, _, hu⟩ := List.mem_flatMap.1 hu
  exact k.one p u hu
theorem Kd.cs_get (k : Kd α) : ∀ (l : List α) (j : Nat) (p : α), l[j]? = some p → ∀ i, i < k.s → (k.cs l)[j * k.s + i]? = (k.enc p)[i]?
  | [], j, p, h, _, _ => by simp at h
  | q :: l, 0, p, h, i, hi => by
    simp at h
    subst h
    have e : k.cs (q :: l) = k.enc q ++ k.cs l := by simp [Kd.cs]
    rw [e, List.getElem?_append_left (by rw [k.len]; omega)]
    simp
  | q :: l, j + 1, p, h, i, hi => by
    have e : k.cs (q :: l) = k.enc q ++ k.cs l := by simp [Kd.cs]
    rw [e, List.getElem?_append_right (by rw [k.len, Nat.add_mul]; omega)]
    have e2 : (j + 1) * k.s + i - (k.enc q).length = j * k.s + i := by rw [k.len, Nat.add_mul]; omega
    rw [e2]
    exact Kd.cs_get k l j p (by simpa using h) i hi
theorem info_parts {t : TypeId} {z : Value} {s b : Nat} (h : (Try.prog.info? t).map (fun i => (i.zero, i.size, i.bytes)) = some (some z, s, b)) : ∃ i, Try.prog.info? t = some i ∧ i.zero = some z ∧ i.size = s ∧ i.bytes = b := by
  cases hq : Try.prog.info? t with
  | none => simp [hq] at h
  | some i => simp [hq] at h; exact ⟨i, rfl, h.1, h.2.1, h.2.2⟩
theorem own_below {W W' : World} {B t s k : Nat} {xs : List Value} {v : Value} (ho : W.ownsRow B t s v k xs) (hb : Below W.heap.size W W') : W'.ownsRow B t s v k xs :=
  ho.kept (row := none) ⟨hb.os, hb.tape, hb.output, hb.size, fun i hi _ => hb.block i hi⟩ (by cases v.ownBlock <;> simp)
/-- A slice that is a row of the call's own, of these elements. -/
def Kd.Own (k : Kd α) (w : World) (B : Nat) (v : Value) (l : List α) : Prop := w.ownsRow B k.T k.s v l.length (k.cs l)
theorem Kd.own_at {k : Kd α} {w : World} {B : Nat} {v : Value} {l : List α} (h : k.Own w B v l) : ∃ ad c, v = .slice ad l.length c ∧ (l ≠ [] → ∃ g, ad = some ⟨g, 0, none⟩ ∧ B ≤ g ∧ g < w.heap.size ∧ (∃ cs f, w.heap[g]? = some (.cells cs k.T f)) ∧ ∀ (j : Nat) (p : α), l[j]? = some p → w.rangeAt g (j * k.s) (k.enc p)) := by
  rcases h.2 with ⟨rfl, h1⟩ | ⟨g, cap, cur, e, hB, hh, _⟩
  · refine ⟨none, 0, by rw [h1], fun hn => absurd (List.eq_nil_of_length_eq_zero h1) hn⟩
  · refine ⟨some ⟨g, 0, none⟩, cap, e, fun _ => ⟨g, rfl, hB, (Array.getElem?_eq_some_iff.1 hh).1, ⟨_, _, hh⟩, fun j p hp i u hu => ?_⟩⟩
    have hi : i < k.s := by have := (List.getElem?_eq_some_iff.1 hu).1; rwa [k.len] at this
    have h2 := World.ownsRow.cells (g := g) h (by rw [e]; rfl) (j * k.s + i) u (by rw [k.cs_get l j p hp i hi]; exact hu)
    rw [Addr.add_mid, Nat.zero_add] at h2
    exact h2
section
variable {w : World} {ops : Array Oper} {rest : List Oper} {o : Oper} {a : Act} {Q : Exit → Act → World → Prop} {K : Act → World → Prop} {E : Prop}
theorem Kd.wp_append (k : Kd α) (s x : Operand) (ho : o.op = .call { callee := .builtin .append, args := #[s, x], argTypes := #[k.ST, k.ST] })
    (B : Nat) (v : Value) (l : List α) (hs : a.eval s = v) (hown : k.Own w B v l) (g c : Nat) (p : α) (hx : a.eval x = .slice (some ⟨g, 0, none⟩) 1 c) (hr : Row w g k.T (k.enc p)) (hl : l.length ≤ 10000000) (hB : B ≤ w.heap.size)
    (h : ∀ v' w', k.Own w' B v' (l ++ [p]) → w.grownBy w' v.ownBlock → K (a.put o.dst v') w') : Oper.wp Try.prog o a w K Q := by
  obtain ⟨i0, hi, hz0, hz1, hz2⟩ := info_parts k.info
  have hb : (l.length + 1) * k.by_ ≤ (l.length + 1) * 1000 := Nat.mul_le_mul_left _ k.bl
  refine wp_append_own w s x k.ST ho B k.T i0 (.agg k.z.toArray) k.s k.by_ k.und hi hz0 hz1 hz2 (by simp [Value.cells, k.zl]) k.sp v l.length (k.cs l) hs hown ⟨g, 0, none⟩ 1 c (k.enc p) hx (by rw [k.len]; omega) (fun j u hu => ?_) (k.one p) (by unfold maxLen; omega) (by omega) hB (fun v' w' h1 h2 _ => h v' w' ?_ h2)
  · rw [Addr.add_mid, Nat.zero_add]
    rw [hr.cell]; exact hu
  · unfold Kd.Own
    rw [k.cs_append, List.length_append]
    have e : k.cs [p] = k.enc p := by simp [Kd.cs]
    rw [e]
    exact h1
theorem Kd.append (k : Kd α) (s x : Operand) (hw : Region.wanted o (yielded ops a.tmps) = true) (ho : o.op = .call { callee := .builtin .append, args := #[s, x], argTypes := #[k.ST, k.ST] })
    (B : Nat) (v : Value) (l : List α) (hs : a.eval s = v) (hown : k.Own w B v l) (g c : Nat) (p : α) (hx : a.eval x = .slice (some ⟨g, 0, none⟩) 1 c) (hr : Row w g k.T (k.enc p)) (hl : l.length ≤ 10000000) (hB : B ≤ w.heap.size)
    (h : ∀ v' w', k.Own w' B v' (l ++ [p]) → w.grownBy w' v.ownBlock → wpList Try.prog ops Q rest (a.put o.dst v') w') : wpList Try.prog ops Q (o :: rest) a w :=
  wpList_step fun K hK => by
    rw [if_pos hw]
    exact k.wp_append s x ho B v l hs hown g c p hx hr hl hB fun v' w' h1 h2 => hK _ _ (h v' w' h1 h2)
theorem Kd.sAppend (k : Kd α) (s x : Operand) (hw : Region.wanted o (yielded ops a.tmps) = true) (ho : o.op = .call { callee := .builtin .append, args := #[s, x], argTypes := #[k.ST, k.ST] })
    (B : Nat) (v : Value) (l : List α) (hs : a.eval s = v) (hown : k.Own w B v l) (g c : Nat) (p : α) (hx : a.eval x = .slice (some ⟨g, 0, none⟩) 1 c) (hr : Row w g k.T (k.enc p)) (hl : l.length ≤ 10000000) (hB : B ≤ w.heap.size)
    (h : ∀ v' w', k.Own w' B v' (l ++ [p]) → w.grownBy w' v.ownBlock → K (a.put o.dst v') w') : if Region.wanted o (yielded ops a.tmps) = true then Oper.wp Try.prog o a w K Q else E := by
  rw [if_pos hw]
  exact k.wp_append s x ho B v l hs hown g c p hx hr hl hB h
theorem sBsG {T U : TypeId} {n : Nat} (parts : List (Nat × Operand)) (Z : List Value) (hw : Region.wanted o (yielded ops a.tmps) = true) (ho : o.op = .buildSlice T n parts.toArray)
    (hrun : ∀ w, (Instr.buildSlice T n (parts.map fun p => (p.1, a.eval p.2)).toArray).run Try.prog w = .ok (.slice (some ⟨w.heap.size, 0, none⟩) n n) (w.alloc (.cells Z.toArray U)))
    (h : ∀ W, Row W w.heap.size U Z → Below w.heap.size w W → K (a.put o.dst (.slice (some ⟨w.heap.size, 0, none⟩) n n)) W) : if Region.wanted o (yielded ops a.tmps) = true then Oper.wp Try.prog o a w K Q else E := by
  rw [if_pos hw]
  exact wp_bsG parts Z ho hrun h
end
theorem own_ne_row {w : World} {B : Nat} {T T' : TypeId} {sz : Nat} {v : Value} {n : Nat} {xs : List Value} {g : Nat} {cs : List Value} (h : w.ownsRow B T sz v n xs) (hr : Row w g T' cs) (hT : T ≠ T') : v.ownBlock ≠ some g := by
  rcases h.2 with ⟨rfl, _⟩ | ⟨g', cap, cur, rfl, _, hh, _⟩
  · simp [Value.ownBlock]
  · intro e
    simp [Value.ownBlock] at e
    subst e
    unfold Row at hr
    rw [hh] at hr
    cases hr
    exact hT rfl
theorem own_ne_lt {w : World} {B : Nat} {T : TypeId} {sz : Nat} {v : Value} {n : Nat} {xs : List Value} {g : Nat} (h : w.ownsRow B T sz v n xs) (hg : g < B) : v.ownBlock ≠ some g := by
  rcases h.2 with ⟨rfl, _⟩ | ⟨g', cap, cur, rfl, hB, hh, _⟩
  · simp [Value.ownBlock]
  · intro e
    simp [Value.ownBlock] at e
    omega
theorem Row.keepO {w w' : World} {o : Option Nat} {g : Nat} {t : TypeId} {cs : List Value} (h : Row w g t cs) (hg : w.grownBy w' o) (hne : o ≠ some g) : Row w' g t cs :=
  (hg.block g h.lt (fun e => hne e.symm)).trans h
theorem below_keepO {w0 w w' : World} {o : Option Nat} {B : Nat} (hb : Below B w0 w) (hg : w.grownBy w' o) (hne : ∀ g, g < B → o ≠ some g) (hs : B ≤ w.heap.size) : Below B w0 w' :=
  ⟨hg.os.trans hb.os, hg.tape.trans hb.tape, hg.output.trans hb.output, Nat.le_trans hb.size hg.size, fun k hk => (hg.block k (by omega) (fun e => hne k hk e.symm)).trans (hb.block k hk)⟩
theorem rangeAt_keep {w w' : World} {b g o : Nat} {cs : List Value} (h : w.rangeAt g o cs) (hg : w.grownBy w' (some b)) (hne : g ≠ b) (hlt : g < w.heap.size) : w'.rangeAt g o cs := fun j v hv => by
  have e := hg.block g hlt (fun e => hne (by cases e; rfl))
  have := h j v hv
  unfold World.cell? at *
  rw [e]
  exact this
theorem low_rows (w : World) (cs ds : List Value) (t u : TypeId) : Below w.heap.size w ((w.alloc (.cells cs.toArray t)).alloc (.cells ds.toArray u)) ∧ Row ((w.alloc (.cells cs.toArray t)).alloc (.cells ds.toArray u)) w.heap.size t cs ∧ Row ((w.alloc (.cells cs.toArray t)).alloc (.cells ds.toArray u)) (w.heap.size + 1) u ds := by
  have q1 := Row.new (w.alloc (.cells cs.toArray t)) u ds
  rw [World.size_alloc] at q1
  exact ⟨bt (ba _ _) (ba _ _), (Row.new w t cs).alloc _, q1⟩
theorem below_more {w w1 w2 : World} {B : Nat} (h : Below w.heap.size w w1) (k : Below B w1 w2) (hB : w.heap.size ≤ B := by omega) : Below w.heap.size w w2 := h.trans (k.mono hB)
theorem Kd.own_up {α : Type} {k : Kd α} {w : World} {B B' : Nat} {v : Value} {l : List α} (h : k.Own w B v l) (hB : B' ≤ B) : k.Own w B' v l := by
  rcases h.2 with ⟨e, h1⟩ | ⟨g, cap, cur, e, hb, h2⟩
  · exact ⟨h.1, .inl ⟨e, h1⟩⟩
  · exact ⟨h.1, .inr ⟨g, cap, cur, e, by omega, h2⟩⟩
end Go.Proofs.Ytadnnjngflphjaa
