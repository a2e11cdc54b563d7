/-
  Loads and stores of addresses inside a fence; addr.parts.
-/
import Derived.Test.YtimpopolkofdgaaGreatDoorParts
namespace Go.Proofs.YtimpopolkofdgaaGreatDoor
open Go.RowKit Go.Shelf
set_option linter.unusedSimpArgs false
section
variable {F : Fence} {n : Nat} {ops : Array Oper} {rest : List Oper} {op : Oper} {a : Act} {w : World} {Q : Exit → Act → World → Prop}
theorem ldAi (x : Operand) (hw : Region.wanted op (yielded ops a.tmps) = true) (ho : op.op = .load 23 x) (b o : Nat) (c : Ad) (hx : a.eval x = .pointer (some ⟨b, o, none⟩)) (hc : LA w b o c)
    (h : wpListIn F n Tryz.prog ops Q rest (a.put op.dst (Value.agg (acells c).toArray)) w) : wpListIn F n Tryz.prog ops Q (op :: rest) a w :=
  wpListIn_step fun K hK => by
    rw [if_pos hw]
    refine ⟨by simp [Oper.about, ho], ?_⟩
    have hs : op.semAt F.round a.eval = execOp a.eval op := by cases F.round <;> simp [Oper.semAt, ho]
    have hr : (execOp a.eval op).run Tryz.prog w = .ok (.value (Value.agg (acells c).toArray)) w := by
      unfold execOp
      simp only [ho, hx, Instr.loadAt, Instr.sureAddr, Sem.run_bind, Sem.run_pure, Result.andThen_ok, run_loadVar_mid w b o _ (acells c) _ hc Tryz.underlying23 rfl (by rw [infoA, acells_len])]
    rw [hs, hr, Oper.uponIn_value]
    exact hK _ _ h
theorem stAi (x y : Operand) (hw : Region.wanted op (yielded ops a.tmps) = true) (ho : op.op = .store 23 x y) (b o : Nat) (c : Ad) (hx : a.eval x = .pointer (some ⟨b, o, none⟩)) (hy : a.eval y = (Value.agg (acells c).toArray)) (ht : w.there b o 16)
    (h : wpListIn F n Tryz.prog ops Q rest (a.put op.dst undef) (w.setCells b o (acells c))) : wpListIn F n Tryz.prog ops Q (op :: rest) a w :=
  wpListIn_step fun K hK => by
    rw [if_pos hw]
    refine ⟨by simp [Oper.about, ho], ?_⟩
    have hs : op.semAt F.round a.eval = execOp a.eval op := by cases F.round <;> simp [Oper.semAt, ho]
    have hr : (execOp a.eval op).run Tryz.prog w = .ok .skip (w.setCells b o (acells c)) := by
      unfold execOp
      simp only [ho, hx, hy, Instr.storeAt, Instr.sureAddr, Sem.run_bind, Sem.run_pure, Result.andThen_ok, run_storeVar_mid w b o _ (acells c).toArray (by simpa [acells_len] using ht) (by rw [infoA]; simp [acells_len]) (all_oneCell_toArray (acells_one c))]
    rw [hs, hr, Oper.uponIn_skip]
    exact hK _ _ h
theorem stAh (x y : Operand) (hw : Region.wanted op (yielded ops a.tmps) = true) (ho : op.op = .store 23 x y) (b o : Nat) (c : Ad) (hx : a.eval x = .pointer (some ⟨b, o, none⟩)) (hy : a.eval y = (Value.agg (acells c).toArray)) (ht : w.there b o 16)
    (h : ∀ W, Hid (W = w.setCells b o (acells c)) → wpListIn F n Tryz.prog ops Q rest (a.put op.dst undef) W) : wpListIn F n Tryz.prog ops Q (op :: rest) a w :=
  stAi x y hw ho b o c hx hy ht (h _ rfl)
end
theorem Row.kept {W W' : World} {g : Nat} {t : TypeId} {cs : List Value} {row : Option Nat} (h : Row W g t cs) (hg : W.grownBy W' row) (hr : ∀ r, row = some r → ∃ o : Obj, W.heap[r]? = some o ∧ o.isCells = false) : Row W' g t cs := by
  refine (hg.block g h.lt ?_).trans h
  intro e
  obtain ⟨o, h1, h2⟩ := hr g e.symm
  have h3 : some o = some (Obj.cells cs.toArray t (0, 0)) := h1.symm.trans h
  cases h3
  cases h2
theorem Row.setCells {w : World} {g : Nat} {t : TypeId} {cs : List Value} (h : Row w g t cs) (ds : List Value) (hl : ds.length = cs.length) : Row (w.setCells g 0 ds) g t ds := by
  have key : ∀ (ds pre post : List Value) (w : World), post.length = ds.length → Row w g t (pre ++ post) → Row (w.setCells g pre.length ds) g t (pre ++ ds) := by
    intro ds
    induction ds with
    | nil =>
      intro pre post w hp hr
      obtain rfl : post = [] := List.eq_nil_of_length_eq_zero hp
      exact hr
    | cons d ds ih =>
      intro pre post w hp hr
      cases post with
      | nil => simp at hp
      | cons p post =>
        rw [World.setCells]
        have h1 := hr.set pre.length d
        rw [List.set_append_right _ _ (Nat.le_refl _), Nat.sub_self, List.set_cons_zero] at h1
        have h2 := ih (pre ++ [d]) post _ (by simpa using hp) (by simpa using h1)
        simpa using h2
  simpa using key ds [] cs w hl.symm h
theorem Row.setCellsOther {w : World} {g : Nat} {t : TypeId} {cs : List Value} (h : Row w g t cs) (g' : Nat) (hne : g' ≠ g) : ∀ (ds : List Value) (o : Nat), Row (w.setCells g' o ds) g t cs := by
  intro ds
  induction ds generalizing w with
  | nil => intro o; exact h
  | cons d ds ih =>
    intro o
    rw [World.setCells]
    exact ih (h.setOther g' o d hne) (o + 1)
theorem parts_any (s mk : ByteArray) (w : World) : Calls Tryz.prog 73 #[.string s, .string mk] w fun e w' => e = .returned (.func (.func 87) #[] #[.pointer (some ⟨w.heap.size, 0, none⟩), .pointer (some ⟨w.heap.size + 1, 0, none⟩)]) ∧ w' = (w.alloc (.cells #[.string s] 9)).alloc (.cells #[.string mk] 9) := by
  have hmf : ∀ (fn : Fn) (first cap : Array Value) (w : World), (Instr.makeFunc fn first cap).run Tryz.prog w = .ok (.func fn first cap) w := fun _ _ _ _ => rfl
  go_enter Tryz.func73, Tryz.ntmps73
  go_wp2
  go_ret
  exact ⟨rfl, rfl⟩
end Go.Proofs.YtimpopolkofdgaaGreatDoor
