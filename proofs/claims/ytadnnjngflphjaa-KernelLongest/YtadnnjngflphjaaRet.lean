/-
  What a call hands back in a variable; and addr.Any, for every family.
-/
import Derived.Test.YtadnnjngflphjaaBase
namespace Go.Proofs.Ytadnnjngflphjaa
open Go.RowKit
set_option linter.unusedSimpArgs false
set_option maxRecDepth 20000

/-- What a function that only makes memory answers. -/
def Gives (w : World) (v : Value) (e : Ending) (w' : World) : Prop := e = .returned v ∧ Below w.heap.size w w'

theorem retC {P : Program} {fn : Func} {p : Tmp} {ty : TypeId} {v : Value} {w : World} (h : fn.results = #[.cell p ty]) (tmps : Array Value) (b o : Nat) (hp : tmps.getD p undef = .pointer (some ⟨b, o, none⟩))
    (hl : (loadVar ty ⟨b, o, none⟩).run P w = .ok v w) : (results fn tmps).run P w = .ok v w := by
  simp only [results, h]
  rw [Array.getD_eq_getD_getElem?] at hp
  simp [Sem.run_bind, hp, asAddr, hl, Result.andThen]
theorem retCT {P : Program} {fn : Func} {p u : Tmp} {ty : TypeId} {v : Value} {w : World} (h : fn.results = #[.cell p ty, .tmp u]) (tmps : Array Value) (b o : Nat) (hp : tmps.getD p undef = .pointer (some ⟨b, o, none⟩))
    (hl : (loadVar ty ⟨b, o, none⟩).run P w = .ok v w) : (results fn tmps).run P w = .ok (.tuple #[v, tmps.getD u undef]) w := by
  simp only [results, h]
  rw [Array.getD_eq_getD_getElem?] at hp
  simp [Sem.run_bind, hp, asAddr, hl, Result.andThen]
theorem retCC {P : Program} {fn : Func} {p u : Tmp} {ty tu : TypeId} {v v' : Value} {w : World} (h : fn.results = #[.cell p ty, .cell u tu]) (tmps : Array Value) (b o b' o' : Nat) (hp : tmps.getD p undef = .pointer (some ⟨b, o, none⟩)) (hu : tmps.getD u undef = .pointer (some ⟨b', o', none⟩))
    (hl : (loadVar ty ⟨b, o, none⟩).run P w = .ok v w) (hl' : (loadVar tu ⟨b', o', none⟩).run P w = .ok v' w) : (results fn tmps).run P w = .ok (.tuple #[v, v']) w := by
  simp only [results, h]
  rw [Array.getD_eq_getD_getElem?] at hp hu
  simp [Sem.run_bind, hp, hu, asAddr, hl, hl', Result.andThen]
theorem lvA {w : World} {b o : Nat} {a : Ad} (h : LA w b o a) : (loadVar 31 ⟨b, o, none⟩).run Try.prog w = .ok (Value.agg (acells a).toArray) w :=
  run_loadVar_mid w b o _ (acells a) _ h Try.underlying31 rfl (by rw [infoA, acells_len])
theorem lvP {w : World} {b o : Nat} {a : Pf} (h : LP w b o a) : (loadVar 33 ⟨b, o, none⟩).run Try.prog w = .ok (Value.agg (pcells a).toArray) w :=
  run_loadVar_mid w b o _ (pcells a) _ h Try.underlying33 rfl (by rw [infoP, pcells_len])
theorem lvQ {w : World} {b o : Nat} {a : Pr} (h : LQ w b o a) : (loadVar 35 ⟨b, o, none⟩).run Try.prog w = .ok (Value.agg (qcells a).toArray) w :=
  run_loadVar_mid w b o _ (qcells a) _ h Try.underlying35 rfl (by rw [infoQ, qcells_len])
theorem LA.new (w : World) (a : Ad) (t : TypeId) : LA (w.alloc (.cells (acells a).toArray t)) w.heap.size 0 a := rangeAt_new w _ t
theorem LP.new (w : World) (a : Pf) (t : TypeId) : LP (w.alloc (.cells (pcells a).toArray t)) w.heap.size 0 a := rangeAt_new w _ t
theorem LQ.new (w : World) (a : Pr) (t : TypeId) : LQ (w.alloc (.cells (qcells a).toArray t)) w.heap.size 0 a := rangeAt_new w _ t
theorem LA.below {w w' : World} {B b o : Nat} {c : Ad} (h : LA w b o c) (hb : Below B w w') (hlt : b < B) : LA w' b o c := rangeAt_below h hb hlt
theorem LP.below {w w' : World} {B b o : Nat} {c : Pf} (h : LP w b o c) (hb : Below B w w') (hlt : b < B) : LP w' b o c := rangeAt_below h hb hlt
theorem LQ.below {w w' : World} {B b o : Nat} {c : Pr} (h : LQ w b o c) (hb : Below B w w') (hlt : b < B) : LQ w' b o c := rangeAt_below h hb hlt
theorem LA.alloc {w : World} {b o : Nat} {c : Ad} (h : LA w b o c) (ob : Obj) : LA (w.alloc ob) b o c := World.rangeAt_alloc h ob
theorem LP.alloc {w : World} {b o : Nat} {c : Pf} (h : LP w b o c) (ob : Obj) : LP (w.alloc ob) b o c := World.rangeAt_alloc h ob
theorem LQ.alloc {w : World} {b o : Nat} {c : Pr} (h : LQ w b o c) (ob : Obj) : LQ (w.alloc ob) b o c := World.rangeAt_alloc h ob

def zeroA : Ad := ⟨List.replicate 16 0, rfl⟩
def mapA : Ad := ⟨[0, 0, 0, 0, 0, 0, 0, 0, 0, 0, 255, 255, 0, 0, 0, 0], rfl⟩
def anyP (f : Int) : Pf := if f = 4 then ⟨mapA, 96⟩ else ⟨zeroA, 0⟩

theorem bdGr {ops : Array Oper} {rest : List Oper} {op : Oper} {a : Act} {w : World} {Q : Exit → Act → World → Prop} {T : TypeId} {v : Value} (parts : List (Nat × Operand)) (hw : Region.wanted op (yielded ops a.tmps) = true) (ho : op.op = .build T parts.toArray)
    (hv : (Instr.build T (parts.map fun p => (p.1, a.eval p.2)).toArray).run Try.prog w = .ok v w)
    (h : wpList Try.prog ops Q rest (a.put op.dst v) w) : wpList Try.prog ops Q (op :: rest) a w :=
  wpList_step fun K hK => by
    rw [if_pos hw]
    unfold Oper.wp execOp
    simp only [ho, List.map_toArray, Sem.run_bind, hv, Result.andThen_ok, Sem.run_pure]
    exact hK _ _ h
theorem bdAnyA (w : World) : (Instr.build 31 #[(10, .int .u8 255), (11, .int .u8 255)]).run Try.prog w = .ok (Value.agg (acells mapA).toArray) w := by kernel_rfl
theorem bdAnyP (w : World) : (Instr.build 33 #[(0, (Value.agg (acells mapA).toArray)), (1, .int .i64 96)]).run Try.prog w = .ok (Value.agg (pcells (⟨mapA, 96⟩)).toArray) w := by kernel_rfl
theorem bdAnyZ (w : World) : (Instr.build 33 #[]).run Try.prog w = .ok (Value.agg (pcells (⟨zeroA, 0⟩)).toArray) w := by kernel_rfl
theorem any_any (f : Int) (w : World) : Calls Try.prog 43 #[.int .i64 f] w (Gives w (Value.agg (pcells (anyP f)).toArray)) := by
  by_cases h : f = 4
  · have h' : (f == 4) = true := by simpa using h
    rw [show anyP f = ⟨mapA, 96⟩ by simp [anyP, h]]
    clear h
    go_enter Try.func43, Try.ntmps43
    go_wp2_with (first
      | ((with_reducible refine stP (.tmp 2) (.tmp 6) ?_ ?_ w.heap.size 0 ⟨mapA, 96⟩ ?_ ?_ ?_ ?_); (focus rfl); (focus rfl); (focus rfl); (focus rfl); (focus exact (Row.new w _ (pcells ⟨zeroA, 0⟩)).there (n := 17) (by rw [pcells_len]; omega)))
      | ((with_reducible refine bdGr [(10, .const (.int .u8 255)), (11, .const (.int .u8 255))] ?_ ?_ ?_ ?_); (focus rfl); (focus rfl); (focus exact bdAnyA _))
      | ((with_reducible refine bdGr [(0, .tmp 5), (1, .const (.int .i64 96))] ?_ ?_ ?_ ?_); (focus rfl); (focus rfl); (focus exact bdAnyP _))
      | ((with_reducible refine bdGr [] ?_ ?_ ?_ ?_); (focus rfl); (focus rfl); (focus exact bdAnyZ _)))
    exact bodyPost_ret (retC rfl _ w.heap.size 0 rfl (lvP (LP.stored ((Row.new w _ (pcells ⟨zeroA, 0⟩)).there (n := 17) (by rw [pcells_len]; omega))))) rfl ⟨rfl, below_setCells _ (Nat.le_refl _) _ _ _ ((Below.refl _ _).alloc (Nat.le_refl _) _)⟩
  · have h' : (f == 4) = false := by simpa using h
    rw [show anyP f = ⟨zeroA, 0⟩ by simp [anyP, h]]
    clear h
    go_enter Try.func43, Try.ntmps43
    go_wp2_with (first
      | ((with_reducible refine stP (.tmp 2) (.tmp 7) ?_ ?_ w.heap.size 0 ⟨zeroA, 0⟩ ?_ ?_ ?_ ?_); (focus rfl); (focus rfl); (focus rfl); (focus rfl); (focus exact (Row.new w _ (pcells ⟨zeroA, 0⟩)).there (n := 17) (by rw [pcells_len]; omega)))
      | ((with_reducible refine bdGr [(10, .const (.int .u8 255)), (11, .const (.int .u8 255))] ?_ ?_ ?_ ?_); (focus rfl); (focus rfl); (focus exact bdAnyA _))
      | ((with_reducible refine bdGr [(0, .tmp 5), (1, .const (.int .i64 96))] ?_ ?_ ?_ ?_); (focus rfl); (focus rfl); (focus exact bdAnyP _))
      | ((with_reducible refine bdGr [] ?_ ?_ ?_ ?_); (focus rfl); (focus rfl); (focus exact bdAnyZ _)))
    exact bodyPost_ret (retC rfl _ w.heap.size 0 rfl (lvP (LP.stored ((Row.new w _ (pcells ⟨zeroA, 0⟩)).there (n := 17) (by rw [pcells_len]; omega))))) rfl ⟨rfl, below_setCells _ (Nat.le_refl _) _ _ _ ((Below.refl _ _).alloc (Nat.le_refl _) _)⟩
end Go.Proofs.Ytadnnjngflphjaa
