/-
  Rules and ids of routers as values and in memory: their cells, loads, stores, allocations, equality of ids; a law that parts the operations of a region.
-/
import Derived.Test.YtfohknbgfpbmiaaPair
namespace Go.Proofs.Ytfohknbgfpbmiaa
open Go.RowKit
set_option linter.unusedSimpArgs false

/-- The id of a router: eight bytes. -/
structure Id8 where
  l : List UInt8
  len : l.length = 8
theorem Id8.ext {a b : Id8} (h : a.l = b.l) : a = b := by
  cases a; cases b; cases h; rfl
def zeroI : Id8 := ⟨List.replicate 8 0, rfl⟩
def icells (i : Id8) : List Value := bcells i.l
theorem icells_len (i : Id8) : (icells i).length = 8 := by simp [icells, bcells, i.len]
theorem icells_one (i : Id8) : ∀ u ∈ icells i, u.oneCell' = true := bcells_one _
abbrev idV (i : Id8) : Value := .agg (icells i).toArray
def zeroP : Pf := ⟨zeroA, 0⟩
/-- A rule: its fields. -/
structure Ru where
  ch : Int
  nm : ByteArray
  dst : Pf
  hd : Bool
  ge : Int
  le : Int
  src : Pf
  hs : Bool
  id : Id8
  deny : Bool
  add : Int
def rcells (r : Ru) : List Value := [.int .i64 r.ch, .string r.nm] ++ (pcells r.dst ++ ([.bool r.hd, .int .i64 r.ge, .int .i64 r.le] ++ (pcells r.src ++ ([.bool r.hs] ++ (icells r.id ++ [.bool r.deny, .int .i64 r.add])))))
theorem rcells_len (r : Ru) : (rcells r).length = 50 := by simp [rcells, icells_len, pcells_len]
theorem rcells_one (r : Ru) : ∀ u ∈ rcells r, u.oneCell' = true := by
  intro u hu
  simp only [rcells, List.mem_append] at hu
  rcases hu with h | h | h | h | h | h | h
  · simp at h; rcases h with rfl | rfl <;> rfl
  · exact pcells_one _ u h
  · simp at h; rcases h with rfl | rfl | rfl <;> rfl
  · exact pcells_one _ u h
  · simp at h; subst h; rfl
  · exact icells_one _ u h
  · simp at h; rcases h with rfl | rfl <;> rfl
abbrev ruV (r : Ru) : Value := .agg (rcells r).toArray
def zeroR : Ru := ⟨0, ⟨#[]⟩, zeroP, false, 0, 0, zeroP, false, zeroI, false, 0⟩
theorem infoR : (Try.prog.info? 41).map (fun i => (i.zero, i.size, i.bytes)) = some (some (.agg (rcells zeroR).toArray), 50, 120) := by kernel_rfl
theorem infoRz : (Try.prog.info? 41).map (·.zero) = some (some (.agg (rcells zeroR).toArray)) := by kernel_rfl
theorem infoRs : (Try.prog.info? 41).map (·.size) = some 50 := by kernel_rfl
theorem infoI : (Try.prog.info? 30).map (·.size) = some 8 := by kernel_rfl
/-- A rule that lies somewhere. -/
def LR (w : World) (b o : Nat) (r : Ru) : Prop := w.rangeAt b o (rcells r)
def LI (w : World) (b o : Nat) (r : Id8) : Prop := w.rangeAt b o (icells r)
theorem LR.new (w : World) (a : Ru) (t : TypeId) : LR (w.alloc (.cells (rcells a).toArray t)) w.heap.size 0 a := rangeAt_new w _ t
theorem LI.new (w : World) (a : Id8) (t : TypeId) : LI (w.alloc (.cells (icells a).toArray t)) w.heap.size 0 a := rangeAt_new w _ t
theorem LR.below {w w' : World} {B b o : Nat} {c : Ru} (h : LR w b o c) (hb : Below B w w') (hlt : b < B) : LR w' b o c := rangeAt_below h hb hlt
theorem LI.below {w w' : World} {B b o : Nat} {c : Id8} (h : LI w b o c) (hb : Below B w w') (hlt : b < B) : LI w' b o c := rangeAt_below h hb hlt
theorem LR.alloc {w : World} {b o : Nat} {c : Ru} (h : LR w b o c) (ob : Obj) : LR (w.alloc ob) b o c := World.rangeAt_alloc h ob
theorem LI.alloc {w : World} {b o : Nat} {c : Id8} (h : LI w b o c) (ob : Obj) : LI (w.alloc ob) b o c := World.rangeAt_alloc h ob
section
variable {w : World} {b o : Nat} {r : Ru}
theorem LR.ch (h : LR w b o r) : w.cell? ⟨b, o, none⟩ = some (.int .i64 r.ch) := by simpa using h 0 _ rfl
theorem LR.nm (h : LR w b o r) : w.cell? ⟨b, o + 1, none⟩ = some (.string r.nm) := h 1 _ rfl
theorem LR.t2 (h : LR w b o r) : w.rangeAt b (o + 2) (pcells r.dst ++ ([.bool r.hd, .int .i64 r.ge, .int .i64 r.le] ++ (pcells r.src ++ ([.bool r.hs] ++ (icells r.id ++ [.bool r.deny, .int .i64 r.add]))))) := rangeAt_right h rfl
theorem LR.dst (h : LR w b o r) : LP w b (o + 2) r.dst := rangeAt_left h.t2
theorem LR.t3 (h : LR w b o r) : w.rangeAt b (o + 19) ([.bool r.hd, .int .i64 r.ge, .int .i64 r.le] ++ (pcells r.src ++ ([.bool r.hs] ++ (icells r.id ++ [.bool r.deny, .int .i64 r.add])))) := by have := rangeAt_right h.t2 (pcells_len _); rwa [Nat.add_assoc] at this
theorem LR.hd (h : LR w b o r) : w.cell? ⟨b, o + 19, none⟩ = some (.bool r.hd) := by simpa using h.t3 0 _ rfl
theorem LR.ge (h : LR w b o r) : w.cell? ⟨b, o + 20, none⟩ = some (.int .i64 r.ge) := h.t3 1 _ rfl
theorem LR.le (h : LR w b o r) : w.cell? ⟨b, o + 21, none⟩ = some (.int .i64 r.le) := h.t3 2 _ rfl
theorem LR.t4 (h : LR w b o r) : w.rangeAt b (o + 22) (pcells r.src ++ ([.bool r.hs] ++ (icells r.id ++ [.bool r.deny, .int .i64 r.add]))) := by have := rangeAt_right (k := 3) h.t3 rfl; rwa [Nat.add_assoc] at this
theorem LR.src (h : LR w b o r) : LP w b (o + 22) r.src := rangeAt_left h.t4
theorem LR.t5 (h : LR w b o r) : w.rangeAt b (o + 39) ([.bool r.hs] ++ (icells r.id ++ [.bool r.deny, .int .i64 r.add])) := by have := rangeAt_right h.t4 (pcells_len _); rwa [Nat.add_assoc] at this
theorem LR.hs (h : LR w b o r) : w.cell? ⟨b, o + 39, none⟩ = some (.bool r.hs) := by simpa using h.t5 0 _ rfl
theorem LR.t6 (h : LR w b o r) : w.rangeAt b (o + 40) (icells r.id ++ [.bool r.deny, .int .i64 r.add]) := by have := rangeAt_right (k := 1) h.t5 rfl; rwa [Nat.add_assoc] at this
theorem LR.id (h : LR w b o r) : LI w b (o + 40) r.id := rangeAt_left h.t6
theorem LR.t7 (h : LR w b o r) : w.rangeAt b (o + 48) [.bool r.deny, .int .i64 r.add] := by have := rangeAt_right h.t6 (icells_len _); rwa [Nat.add_assoc] at this
theorem LR.deny (h : LR w b o r) : w.cell? ⟨b, o + 48, none⟩ = some (.bool r.deny) := by simpa using h.t7 0 _ rfl
theorem LR.add (h : LR w b o r) : w.cell? ⟨b, o + 49, none⟩ = some (.int .i64 r.add) := h.t7 1 _ rfl
end
section
variable {ops : Array Oper} {rest : List Oper} {op : Oper} {a : Act} {w : World} {Q : Exit → Act → World → Prop} {S : World → Prop}
theorem ldR (x : Operand) (hw : Region.wanted op (yielded ops a.tmps) = true) (ho : op.op = .load 41 x) (b o : Nat) (c : Ru) (hx : a.eval x = .pointer (some ⟨b, o, none⟩)) (hc : LR w b o c)
    (h : wpList Try.prog ops Q rest (a.put op.dst (ruV c)) w) : wpList Try.prog ops Q (op :: rest) a w :=
  wpList_step fun K hK => by
    rw [if_pos hw]
    exact wp_load_mid _ x ho b o hx (rcells c) _ hc Try.underlying41 rfl (by rw [infoRs, rcells_len]) (hK _ _ h)
theorem yR {b o : Nat} {x : Operand} (c : Ru) (hS : ∀ w, S w → LR w b o c) (hw : Region.wanted op (yielded ops a.tmps) = true) (ho : op.op = .load 41 x) (hx : a.eval x = .pointer (some ⟨b, o, none⟩)) : YieldsIf Try.prog ops S op (ruV c) a :=
  yieldsIf_load_mid hw _ x ho b o hx (rcells c) _ hS Try.underlying41 rfl (by rw [infoRs, rcells_len])
theorem ldI (x : Operand) (hw : Region.wanted op (yielded ops a.tmps) = true) (ho : op.op = .load 30 x) (b o : Nat) (c : Id8) (hx : a.eval x = .pointer (some ⟨b, o, none⟩)) (hc : LI w b o c)
    (h : wpList Try.prog ops Q rest (a.put op.dst (idV c)) w) : wpList Try.prog ops Q (op :: rest) a w :=
  wpList_step fun K hK => by
    rw [if_pos hw]
    exact wp_load_mid _ x ho b o hx (icells c) _ hc Try.underlying30 rfl (by rw [infoI, icells_len]) (hK _ _ h)
theorem yI {b o : Nat} {x : Operand} (c : Id8) (hS : ∀ w, S w → LI w b o c) (hw : Region.wanted op (yielded ops a.tmps) = true) (ho : op.op = .load 30 x) (hx : a.eval x = .pointer (some ⟨b, o, none⟩)) : YieldsIf Try.prog ops S op (idV c) a :=
  yieldsIf_load_mid hw _ x ho b o hx (icells c) _ hS Try.underlying30 rfl (by rw [infoI, icells_len])
end
/-! ### Equality of ids -/
set_option maxRecDepth 4000 in
theorem eqI (d : Nat) (a b : Id8) (w : World) : (Op.equalIn (d + 2) 30 (.agg (icells a).toArray) (.agg (icells b).toArray)).run Try.prog w = .ok (decide (a.l = b.l)) w := by
  obtain ⟨i, hi⟩ : ∃ i, Try.prog.info? 5 = some i := Option.isSome_iff_exists.1 (by kernel_rfl)
  rw [run_equalIn_array w (d + 1) _ _ Try.underlying30 hi, show Try.prog.cellsOf 5 = 1 by kernel_rfl]
  unfold icells
  rw [eqItems_u8 d a.l b.l w _ (fun i hi => by rw [a.len, b.len]; exact ⟨List.mem_range.1 hi, List.mem_range.1 hi⟩)]
  congr 1
  exact decide_eq_decide.2 (same_of a.len b.len)
theorem run_eqlI (a b : Id8) (w : World) : (binOp .eql 30 (.agg (icells a).toArray) (.agg (icells b).toArray)).run Try.prog w = .ok (.bool (decide (a.l = b.l))) w := by
  have h := eqI 9998 a b w
  rw [run_eql_struct w, h]; rfl
theorem run_neqI (a b : Id8) (w : World) : (binOp .neq 30 (.agg (icells a).toArray) (.agg (icells b).toArray)).run Try.prog w = .ok (.bool (!decide (a.l = b.l))) w := by
  have h := eqI 9998 a b w
  rw [run_neq_struct w, h]; rfl
theorem guardI (op : BinOp) (x y : Operand) (a b : Id8) (w : World) : (eqGuard op 30 x y (.agg (icells a).toArray) (.agg (icells b).toArray)).run Try.prog w = .ok () w := by
  exact run_eqGuard_agg w op _ x y _ _ (by kernel_rfl)
/-! ### Literals -/
section
variable {ops : Array Oper} {rest : List Oper} {op : Oper} {a : Act} {w : World} {Q : Exit → Act → World → Prop} {S : World → Prop} {T : TypeId} {v : Value}
theorem bdG (parts : List (Nat × Operand)) (hw : Region.wanted op (yielded ops a.tmps) = true) (ho : op.op = .build T parts.toArray)
    (hv : (Instr.build T (parts.map fun p => (p.1, a.eval p.2)).toArray).run Try.prog w = .ok v w)
    (h : wpList Try.prog ops Q rest (a.put op.dst v) w) : wpList Try.prog ops Q (op :: rest) a w :=
  wpList_step fun K hK => by
    rw [if_pos hw]
    unfold Oper.wp execOp
    simp only [ho, List.map_toArray, Sem.run_bind, hv, Result.andThen_ok, Sem.run_pure]
    exact hK _ _ h
theorem yB (parts : List (Nat × Operand)) (hw : Region.wanted op (yielded ops a.tmps) = true) (ho : op.op = .build T parts.toArray)
    (hv : ∀ w, (Instr.build T (parts.map fun p => (p.1, a.eval p.2)).toArray).run Try.prog w = .ok v w) : YieldsIf Try.prog ops S op v a :=
  .inl ⟨hw, fun w _ => by
    unfold execOp
    simp only [ho, List.map_toArray, Sem.run_bind, hv, Result.andThen_ok, Sem.run_pure]⟩
end
theorem bdI0 (w : World) : (Instr.build 30 #[]).run Try.prog w = .ok (.agg (icells zeroI).toArray) w := by kernel_rfl
theorem bdP0 (w : World) : (Instr.build 26 #[]).run Try.prog w = .ok (Value.agg (pcells zeroP).toArray) w := by kernel_rfl
/-! ### The operations of a region, parted -/
/-- What is asked at a cut: at its end R, at every other exit what is asked anyhow. -/
def CutQ (R : Act → World → Prop) (Q : Exit → Act → World → Prop) : Exit → Act → World → Prop
  | .normal, a, w => R a w
  | .exit i, a, w => Q (.exit i) a w
  | .goto l, a, w => Q (.goto l) a w
  | .ret, a, w => Q .ret a w
  | .panic c, a, w => Q (.panic c) a w
  | .outgrown, a, w => Q .outgrown a w
theorem CutQ.normal {R : Act → World → Prop} {Q : Exit → Act → World → Prop} {a : Act} {w : World} (h : R a w) : CutQ R Q .normal a w := h
theorem Oper.wp_cut {P : Program} {o : Oper} {a : Act} {w : World} {R K K' : Act → World → Prop} {Q : Exit → Act → World → Prop} (h : ∀ a w, K a w → K' a w)
    (hh : o.wp P a w K (CutQ R Q)) : o.wp P a w K' Q := by
  unfold Oper.wp at *
  generalize (execOp a.eval o).run P w = r at *
  cases r with
  | ok n w' =>
    cases n <;> simp only [Oper.upon] at hh ⊢ <;>
      first
        | exact h _ _ hh
        | exact Calls.mono hh (fun e w'' he => by cases e <;> first | exact h _ _ he | exact he)
        | exact Rows.mono hh (fun _ _ he => h _ _ he)
  | halt x w' => cases x <;> simp only [Oper.upon] at hh ⊢ <;> exact hh
theorem wpList_cut {P : Program} {ops : Array Oper} {Q : Exit → Act → World → Prop} (R : Act → World → Prop) : ∀ (n : Nat) (l : List Oper) (a : Act) (w : World), wpList P ops (CutQ R Q) (l.take n) a w → (∀ a w, R a w → wpList P ops Q (l.drop n) a w) → wpList P ops Q l a w
  | 0, l, a, w, h1, h2 => h2 a w h1
  | n + 1, [], a, w, h1, h2 => h2 a w h1
  | n + 1, o :: l, a, w, h1, h2 => by
    rw [List.take_succ_cons] at h1
    rw [List.drop_succ_cons] at h2
    unfold wpList at h1 ⊢
    split at h1
    · rename_i hw
      rw [if_pos hw]
      rcases h1 with h1 | ⟨h1, h3⟩
      · exact .inl (Oper.wp_cut (fun a w h => wpList_cut R n l a w h h2) h1)
      · exact .inr ⟨h1, h3⟩
    · rename_i hw
      rw [if_neg hw]
      exact wpList_cut R n l _ w h1 h2
/-- These slots, from i on. -/
def over (a : Act) (i : Nat) : List Value → Act
  | [] => a
  | v :: vs => over (a.put (some i) v) (i + 1) vs
/-- What is known at a cut: the slots from i on hold some values, of which the last is a bool; the others are as they were. -/
structure CutB (a : Act) (i m : Nat) (PB : Bool → World → Prop) (a' : Act) (w' : World) : Prop where
  same : a' = over a i ((a'.tmps.toList.drop i).take m ++ [a'.tmps.toList.getD (i + m) undef])
  len : ((a'.tmps.toList.drop i).take m).length = m
  last : ∃ b, a'.tmps.toList.getD (i + m) undef = .bool b ∧ PB b w'
theorem cutB {P : Program} {ops : Array Oper} {Q : Exit → Act → World → Prop} {l : List Oper} {a : Act} {w : World} (n i m : Nat) (PB : Bool → World → Prop)
    (h1 : wpList P ops (CutQ (CutB a i m PB) Q) (l.take n) a w)
    (h2 : ∀ xs b w', List.length xs = m → PB b w' → wpList P ops Q (l.drop n) (over a i (xs ++ [.bool b])) w') : wpList P ops Q l a w :=
  wpList_cut _ n l a w h1 (fun a' w' h => by
    obtain ⟨b, hl, hb⟩ := h.last
    have e := h.same
    rw [hl] at e
    rw [e]
    exact h2 _ b w' h.len hb)
theorem len_s {α : Type} {xs : List α} {m : Nat} (h : xs.length = m + 1) : ∃ u ys, xs = u :: ys ∧ ys.length = m := by
  cases xs with
  | nil => simp at h
  | cons u ys => exact ⟨u, ys, rfl, by simpa using h⟩
theorem len_z {α : Type} {xs : List α} (h : xs.length = 0) : xs = [] := List.eq_nil_of_length_eq_zero h
end Go.Proofs.Ytfohknbgfpbmiaa
