/-
  What a call hands back in a variable; and addr.Any, for every family.
-/
import Derived.Test.YtbjclphgabpgoaaBase
namespace Go.Proofs.Ytbjclphgabpgoaa
open Go.RowKit
set_option linter.unusedSimpArgs false

/-- What a function that only makes memory answers. -/
def Gives (w : World) (v : Value) (e : Ending) (w' : World) : Prop := e = .returned v ∧ Below w.heap.size w w'

theorem retC {P : Program} {fn : Func} {p : Tmp} {ty : TypeId} {v : Value} {w : World} (h : fn.results = #[.cell p ty]) (tmps : Array Value) (b o : Nat) (hp : tmps.getD p undef = .pointer (some ⟨b, o, none⟩))
    (hl : (loadVar ty ⟨b, o, none⟩).run P w = .ok v w) : (results fn tmps).run P w = .ok v w := by
  simp only [results, h]
  rw [Array.getD_eq_getD_getElem?] at hp
  simp [Sem.run_bind, hp, asAddr, hl, Result.andThen]
theorem retCT {P : Program} {fn : Func} {p u : Tmp} {ty : TypeId} {v : Value} {w : World} (h : fn.results = #[.cell p ty, .tmp u]) (tmps : Array Value) (b o : Nat) (hp : tmps.getD p undef = .pointer (some ⟨b, o, none⟩))
    (hl : (loadVar ty ⟨b, o, none⟩).run P w = .ok v w) : (results fn tmps).run P w = .ok (.tuple #[v, tmps.getD u undef]) w := by
  simp only [results, h]
  rw [Array.getD_eq_getD_getElem?] at hp
  simp [Sem.run_bind, hp, asAddr, hl, Result.andThen]
theorem retCC {P : Program} {fn : Func} {p u : Tmp} {ty tu : TypeId} {v v' : Value} {w : World} (h : fn.results = #[.cell p ty, .cell u tu]) (tmps : Array Value) (b o b' o' : Nat) (hp : tmps.getD p undef = .pointer (some ⟨b, o, none⟩)) (hu : tmps.getD u undef = .pointer (some ⟨b', o', none⟩))
    (hl : (loadVar ty ⟨b, o, none⟩).run P w = .ok v w) (hl' : (loadVar tu ⟨b', o', none⟩).run P w = .ok v' w) : (results fn tmps).run P w = .ok (.tuple #[v, v']) w := by
  simp only [results, h]
  rw [Array.getD_eq_getD_getElem?] at hp hu
  simp [Sem.run_bind, hp, hu, asAddr, hl, hl', Result.andThen]
theorem lvA {w : World} {b o : Nat} {a : Ad} (h : LA w b o a) : (loadVar 34 ⟨b, o, none⟩).run Try.prog w = .ok (Value.agg (acells a).toArray) w :=
  run_loadVar_mid w b o _ (acells a) _ h Try.underlying34 rfl (by rw [infoA, acells_len])
theorem lvP {w : World} {b o : Nat} {a : Pf} (h : LP w b o a) : (loadVar 36 ⟨b, o, none⟩).run Try.prog w = .ok (Value.agg (pcells a).toArray) w :=
  run_loadVar_mid w b o _ (pcells a) _ h Try.underlying36 rfl (by rw [infoP, pcells_len])
theorem lvQ {w : World} {b o : Nat} {a : Pr} (h : LQ w b o a) : (loadVar 38 ⟨b, o, none⟩).run Try.prog w = .ok (Value.agg (qcells a).toArray) w :=
  run_loadVar_mid w b o _ (qcells a) _ h Try.underlying38 rfl (by rw [infoQ, qcells_len])
theorem LA.new (w : World) (a : Ad) (t : TypeId) : LA (w.alloc (.cells (acells a).toArray t)) w.heap.size 0 a := rangeAt_new w _ t
theorem LP.new (w : World) (a : Pf) (t : TypeId) : LP (w.alloc (.cells (pcells a).toArray t)) w.heap.size 0 a := rangeAt_new w _ t
theorem LQ.new (w : World) (a : Pr) (t : TypeId) : LQ (w.alloc (.cells (qcells a).toArray t)) w.heap.size 0 a := rangeAt_new w _ t
theorem LA.below {w w' : World} {B b o : Nat} {c : Ad} (h : LA w b o c) (hb : Below B w w') (hlt : b < B) : LA w' b o c := rangeAt_below h hb hlt
theorem LP.below {w w' : World} {B b o : Nat} {c : Pf} (h : LP w b o c) (hb : Below B w w') (hlt : b < B) : LP w' b o c := rangeAt_below h hb hlt
theorem LQ.below {w w' : World} {B b o : Nat} {c : Pr} (h : LQ w b o c) (hb : Below B w w') (hlt : b < B) : LQ w' b o c := rangeAt_below h hb hlt
theorem LA.alloc {w : World} {b o : Nat} {c : Ad} (h : LA w b o c) (ob : Obj) : LA (w.alloc ob) b o c := World.rangeAt_alloc h ob
theorem LP.alloc {w : World} {b o : Nat} {c : Pf} (h : LP w b o c) (ob : Obj) : LP (w.alloc ob) b o c := World.rangeAt_alloc h ob
theorem LQ.alloc {w : World} {b o : Nat} {c : Pr} (h : LQ w b o c) (ob : Obj) : LQ (w.alloc ob) b o c := World.rangeAt_alloc h ob

def zeroA : Ad := ⟨List.replicate 16 0, rfl⟩
def mapA : Ad := ⟨[0, 0, 0, 0, 0, 0, 0, 0, 0, 0, 255, 255, 0, 0, 0, 0], rfl⟩
def anyP (f : Int) : Pf := if f = 4 then ⟨mapA, 96⟩ else ⟨zeroA, 0⟩

end Go.Proofs.Ytbjclphgabpgoaa
