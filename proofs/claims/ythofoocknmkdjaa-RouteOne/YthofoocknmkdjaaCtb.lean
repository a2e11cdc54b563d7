/-
  The operations of a region, parted behind any of them.
-/
import Derived.Test.YthofoocknmkdjaaXJ
namespace Go.Proofs.Ythofoocknmkdjaa
open Go.RowKit
set_option linter.unusedSimpArgs false
def CutQ (R : Act → World → Prop) (Q : Exit → Act → World → Prop) : Exit → Act → World → Prop
  | .normal, a, w => R a w
  | .exit i, a, w => Q (.exit i) a w
  | .goto l, a, w => Q (.goto l) a w
  | .ret, a, w => Q .ret a w
  | .panic c, a, w => Q (.panic c) a w
  | .outgrown, a, w => Q .outgrown a w
theorem CutQ.normal {R : Act → World → Prop} {Q : Exit → Act → World → Prop} {a : Act} {w : World} (h : R a w) : CutQ R Q .normal a w := h
theorem Oper.wp_cut {P : Program} {o : Oper} {a : Act} {w : World} {R K K' : Act → World → Prop} {Q : Exit → Act → World → Prop} (h : ∀ a w, K a w → K' a w)
    (hh : o.wp P a w K (CutQ R Q)) : o.wp P a w K' Q := by
  unfold Oper.wp at *
  generalize (execOp a.eval o).run P w = r at *
  cases r with
  | ok n w' =>
    cases n <;> simp only [Oper.upon] at hh ⊢ <;>
      first
        | exact h _ _ hh
        | exact Calls.mono hh (fun e w'' he => by cases e <;> first | exact h _ _ he | exact he)
        | exact Rows.mono hh (fun _ _ he => h _ _ he)
  | halt x w' => cases x <;> simp only [Oper.upon] at hh ⊢ <;> exact hh
theorem wpList_cut {P : Program} {ops : Array Oper} {Q : Exit → Act → World → Prop} (R : Act → World → Prop) : ∀ (n : Nat) (l : List Oper) (a : Act) (w : World), wpList P ops (CutQ R Q) (l.take n) a w → (∀ a w, R a w → wpList P ops Q (l.drop n) a w) → wpList P ops Q l a w
  | 0, l, a, w, h1, h2 => h2 a w h1
  | n + 1, [], a, w, h1, h2 => h2 a w h1
  | n + 1, o :: l, a, w, h1, h2 => by
    rw [List.take_succ_cons] at h1
    rw [List.drop_succ_cons] at h2
    unfold wpList at h1 ⊢
    split at h1
    · rename_i hw
      rw [if_pos hw]
      rcases h1 with h1 | ⟨h1, h3⟩
      · exact .inl (Oper.wp_cut (fun a w h => wpList_cut R n l a w h h2) h1)
      · exact .inr ⟨h1, h3⟩
    · rename_i hw
      rw [if_neg hw]
      exact wpList_cut R n l _ w h1 h2
/-- These slots, from i on. -/
def over (a : Act) (i : Nat) : List Value → Act
  | [] => a
  | v :: vs => over (a.put (some i) v) (i + 1) vs
/-- What is known at a cut: the slots from i on hold some values, of which the last is a bool; the others are as they were. -/
structure CutB (a : Act) (i m : Nat) (PB : Bool → World → Prop) (a' : Act) (w' : World) : Prop where
  same : a' = over a i ((a'.tmps.toList.drop i).take m ++ [a'.tmps.toList.getD (i + m) undef])
  len : ((a'.tmps.toList.drop i).take m).length = m
  last : ∃ b, a'.tmps.toList.getD (i + m) undef = .bool b ∧ PB b w'
theorem cutB {P : Program} {ops : Array Oper} {Q : Exit → Act → World → Prop} {l : List Oper} {a : Act} {w : World} (n i m : Nat) (PB : Bool → World → Prop)
    (h1 : wpList P ops (CutQ (CutB a i m PB) Q) (l.take n) a w)
    (h2 : ∀ xs b w', List.length xs = m → PB b w' → wpList P ops Q (l.drop n) (over a i (xs ++ [.bool b])) w') : wpList P ops Q l a w :=
  wpList_cut _ n l a w h1 (fun a' w' h => by
    obtain ⟨b, hl, hb⟩ := h.last
    have e := h.same
    rw [hl] at e
    rw [e]
    exact h2 _ b w' h.len hb)
theorem len_s {α : Type} {xs : List α} {m : Nat} (h : xs.length = m + 1) : ∃ u ys, xs = u :: ys ∧ ys.length = m := by
  cases xs with
  | nil => simp at h
  | cons u ys => exact ⟨u, ys, rfl, by simpa using h⟩
theorem len_z {α : Type} {xs : List α} (h : xs.length = 0) : xs = [] := List.eq_nil_of_length_eq_zero h
end Go.Proofs.Ythofoocknmkdjaa
