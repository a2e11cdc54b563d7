/-
  Small facts of worlds and blocks, for package neigh.
-/
import Derived.Test.YtadnnjngflphjaaRet
namespace Go.Proofs.Ytadnnjngflphjaa
open Go.RowKit
set_option linter.unusedSimpArgs false
theorem bt {w w1 w2 : World} (h : Below w.heap.size w w1) (k : Below w1.heap.size w1 w2) : Below w.heap.size w w2 := h.trans (k.mono h.size)
theorem ba (w : World) (o : Obj) : Below w.heap.size w (w.alloc o) := (Below.refl _ _).alloc (Nat.le_refl _) o
theorem grownBy_trans {a b c : World} {r : Option Nat} (h : a.grownBy b r) (k : b.grownBy c r) : a.grownBy c r :=
  ⟨k.os.trans h.os, k.tape.trans h.tape, k.output.trans h.output, Nat.le_trans h.size k.size, fun i hi hne => (k.block i (Nat.lt_of_lt_of_le hi h.size) hne).trans (h.block i hi hne)⟩
theorem grownBy_setCell (w : World) (g o : Nat) (v : Value) : w.grownBy (w.setCell ⟨g, o, none⟩ v) (some g) :=
  ⟨rfl, rfl, rfl, by simp [World.setCell], fun i _ hne => Below.heap_setCell _ _ _ _ (fun e => hne (by rw [e]))⟩
theorem grownBy_setCells (g : Nat) : ∀ (vs : List Value) (o : Nat) (w : World), w.grownBy (w.setCells g o vs) (some g)
  | [], _, w => World.grownBy.refl _ _
  | v :: r, o, w => by
    rw [World.setCells]
    exact grownBy_trans (grownBy_setCell w g o v) (grownBy_setCells g r (o + 1) _)
theorem Row.setCells {t : TypeId} {g : Nat} : ∀ (vs pre : List Value) (w : World) (cs : List Value), Row w g t (pre ++ cs) → vs.length = cs.length → Row (w.setCells g pre.length vs) g t (pre ++ vs)
  | [], pre, w, cs, h, hl => by
    have : cs = [] := List.eq_nil_of_length_eq_zero hl.symm
    subst this
    exact h
  | v :: vs, pre, w, [], h, hl => by simp at hl
  | v :: vs, pre, w, c :: cs, h, hl => by
    rw [World.setCells]
    have h1 := h.set pre.length v
    have e : (pre ++ c :: cs).set pre.length v = (pre ++ [v]) ++ cs := by simp
    rw [e] at h1
    have h2 := Row.setCells vs (pre ++ [v]) _ cs h1 (by simpa using hl)
    rw [List.length_append] at h2
    simpa using h2
theorem Row.keep {w w' : World} {b g : Nat} {t : TypeId} {cs : List Value} (h : Row w g t cs) (hg : w.grownBy w' (some b)) (hne : g ≠ b) : Row w' g t cs :=
  (hg.block g h.lt (fun e => hne (by cases e; rfl))).trans h
theorem grown_below {w w' : World} {b B : Nat} {w0 : World} (hg : w.grownBy w' (some b)) (hb : Below B w0 w) (hB : B ≤ b) (hs : B ≤ w.heap.size) : Below B w0 w' :=
  ⟨hg.os.trans hb.os, hg.tape.trans hb.tape, hg.output.trans hb.output, Nat.le_trans hb.size hg.size, fun k hk => (hg.block k (by omega) (fun e => by cases e; omega)).trans (hb.block k hk)⟩
end Go.Proofs.Ytadnnjngflphjaa
