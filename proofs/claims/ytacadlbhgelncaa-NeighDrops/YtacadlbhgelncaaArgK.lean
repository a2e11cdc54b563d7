/-
  Acts as arguments: what their readings are.
-/
import Derived.Test.YtacadlbhgelncaaArgN
import Derived.Test.YtacadlbhgelncaaN21
namespace Go.Proofs.Ytacadlbhgelncaa
open Lk (Hi hcs hcs_one)
open Rk (Rt rcs rtV)
set_option maxRecDepth 100000
set_option linter.unusedVariables false
open Go.RowKit Go.ChangeShapes Go.WideShapes Go.ChangeAt Go.Deep
section
variable {H : Type} {enc : TypeId × Value → H} {w : World} {base : Nat} {spare : Nat → Bool} {held : Bool}
variable {r : Reach} {b0 : Nat} {v : Value} {d : DataW H} {p : List MemPlace}
theorem cells_G : Try.prog.cellsOf 41 = 87 := by kernel_rfl
theorem ac_of {fuel : Nat} {cs : List Value} {x : DataW H × List MemPlace} (h : DataW.trod enc Try.prog w base spare held fuel 41 cs = some x) : ∃ a : Ac, cs = acs a ∧ Sm w a.h ∧ a.h.fit ∧ wfI a.i := by
  obtain ⟨xs, n, _, _, hl, hlen, hf⟩ := DataW.trod_struct Try.underlying41 h
  rw [cells_G] at hl
  match xs, hlen with
  | [y0, y1, y2, y3, y4], _ =>
    have f0 : DataW.trod enc Try.prog w base spare held n 3 ((cs.drop 0).take (Try.prog.cellsOf 3)) = some y0 := hf 0 _ rfl
    have f1 : DataW.trod enc Try.prog w base spare held n 3 ((cs.drop 1).take (Try.prog.cellsOf 3)) = some y1 := hf 1 _ rfl
    have f2 : DataW.trod enc Try.prog w base spare held n 3 ((cs.drop 2).take (Try.prog.cellsOf 3)) = some y2 := hf 2 _ rfl
    have f3 : DataW.trod enc Try.prog w base spare held n 29 ((cs.drop 3).take (Try.prog.cellsOf 29)) = some y3 := hf 3 _ rfl
    have f4 : DataW.trod enc Try.prog w base spare held n 39 ((cs.drop 19).take (Try.prog.cellsOf 39)) = some y4 := hf 4 _ rfl
    rw [cells_int] at f0 f1 f2
    rw [cellsA] at f3
    rw [cells_T] at f4
    obtain ⟨z0, e0, _, _⟩ := DataW.trod_int Try.underlying3 f0
    obtain ⟨z1, e1, _, _⟩ := DataW.trod_int Try.underlying3 f1
    obtain ⟨z2, e2, _, w2⟩ := DataW.trod_int Try.underlying3 f2
    obtain ⟨a3, e3⟩ := ad_of f3
    obtain ⟨t4, e4, s4, k4, _⟩ := tl_of f4
    refine ⟨⟨z0, z1, z2, a3, t4⟩, ?_, s4, k4, w2⟩
    have g0 := drop_split cs 0 1 1 rfl
    have g1 := drop_split cs 1 1 2 rfl
    have g2 := drop_split cs 2 1 3 rfl
    have g3 := drop_split cs 3 16 19 rfl
    have g4 := drop_split cs 19 68 87 rfl
    have gl : cs.drop 87 = [] := List.drop_eq_nil_of_le (by omega)
    rw [gl, e4] at g4
    rw [g4, e3] at g3
    rw [g3, e2] at g2
    rw [g2, e1] at g1
    rw [g1, e0] at g0
    rw [List.drop_zero] at g0
    rw [g0]
    simp [acs]
theorem openK (hv : Value.okWide Try.prog w r b0 23 v) (h : DataW.Trod enc Try.prog w base (fun _ => true) held 23 v d p) : ∃ (ad : Option Addr) (cap : Nat) (l : List Ac), v = .slice ad l.length cap ∧ AsW w ad l ∧ (∀ x ∈ l, x.h.fit ∧ wfI x.i) ∧ l.length ≤ maxLen := by
  obtain ⟨ad, len, cap, l, rfl, h1, h2, h3, h4, h5⟩ := openG acs 87 ⟨0, 0, 0, zeroA, zeroT⟩ (fun a => Sm w a.h ∧ a.h.fit ∧ wfI a.i) Try.underlying23 cells_G (by omega) acs_len (fun h => ac_of h) hv h
  subst h1
  exact ⟨ad, cap, l, rfl, ⟨h3, fun x hx => (h2 x hx).1⟩, fun x hx => (h2 x hx).2, by omega⟩
end
end Go.Proofs.Ytacadlbhgelncaa
