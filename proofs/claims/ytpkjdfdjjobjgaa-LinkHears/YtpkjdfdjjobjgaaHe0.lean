/-
  The law LinkHears returns true for every input.
-/
import Derived.Test.YtpkjdfdjjobjgaaG6
import Derived.Test.YtpkjdfdjjobjgaaBiW
import Derived.Test.YtpkjdfdjjobjgaaArgs
import Derived.Test.YtpkjdfdjjobjgaaLast
namespace Go.Proofs.Ytpkjdfdjjobjgaa
open Go.RowKit
set_option linter.unusedSimpArgs false
/-- One by one, as the document has it. -/
def missN (h : Hi) : Nat → Hi
  | 0 => h
  | n + 1 => miss1 (missN h n)
theorem miss1_ok {h : Hi} (o : h.ok) : (miss1 h).ok := by
  have := o.b0
  have := o.b1
  unfold miss1
  split
  · refine ⟨?_, ?_, ?_, ?_⟩ <;> (dsimp only; omega)
  · exact o
theorem missN_ok {h : Hi} (o : h.ok) : ∀ n, (missN h n).ok
  | 0 => o
  | n + 1 => miss1_ok (missN_ok o n)
theorem missN_eq {h : Hi} (o : h.ok) : ∀ n : Nat, missN h n = missH h n
  | 0 => by simp [missN, missH]
  | n + 1 => by
    show miss1 (missN h n) = _
    rw [missN_eq o n]
    have b0 := o.b0
    have b1 := o.b1
    have n0 := o.n0
    have n1 := o.n1
    obtain ⟨b, m, k⟩ := h
    dsimp only at *
    cases k with
    | false => simp [missH, miss1]
    | true =>
      by_cases hn : n = 0
      · subst hn
        simp [missH, miss1]
      · have e1 : missH ⟨b, m, true⟩ (n : Int) = ⟨b / 2 ^ min n 16, (m + n) % 65536, true⟩ := by
          unfold missH; rw [if_pos ⟨rfl, by omega⟩]; simp
        have e2 : missH ⟨b, m, true⟩ ((n + 1 : Nat) : Int) = ⟨b / 2 ^ min (n + 1) 16, (m + (n + 1 : Nat)) % 65536, true⟩ := by
          unfold missH; rw [if_pos ⟨rfl, by omega⟩]; simp
        rw [e1, e2]
        unfold miss1
        rw [if_pos rfl]
        dsimp only
        have e3 : b / 2 ^ min n 16 / 2 = b / 2 ^ min (n + 1) 16 := by
          by_cases h16 : n < 16
          · rw [Nat.min_eq_left (by omega), Nat.min_eq_left (by omega), Int.ediv_ediv_of_nonneg (Int.le_of_lt (Int.pow_pos (by decide))), ← Int.pow_succ]
          · rw [Nat.min_eq_right (by omega), Nat.min_eq_right (by omega)]
            have : b / 2 ^ 16 = 0 := by show b / 65536 = 0; omega
            rw [this]; decide
        rw [e3]
        congr 1
        push_cast
        omega
/-- Behind these acts. -/
def step (h : Hi) (a : Ac) : Hi := if a.ms = true then missH h a.nn else hearH h a.sq
theorem step_ok {h : Hi} (o : h.ok) (a : Ac) : (step h a).ok := by
  unfold step
  split
  · exact miss_ok _ o
  · exact hear_ok _ o
def steps (h : Hi) (l : List Ac) : Hi := l.foldl step h
theorem steps_ok {h : Hi} (o : h.ok) : ∀ (l : List Ac), (steps h l).ok := by
  intro l
  unfold steps
  induction l generalizing h with
  | nil => exact o
  | cons a r ih => exact ih (step_ok o a)
theorem steps_take (h : Hi) (l : List Ac) (j : Nat) (hj : j < l.length) : steps h (l.take (j + 1)) = step (steps h (l.take j)) l[j] := by
  unfold steps
  rw [List.take_succ_eq_append_getElem hj, List.foldl_append]
  rfl
/-- Where the acts lie. -/
structure Acs (w : World) (ad : Option Addr) (n : Nat) (l : List Ac) : Prop where
  len : l.length = n
  small : ∀ a ∈ l, a.ok
  lies : n = 0 ∨ ∃ g o, ad = some ⟨g, o, none⟩ ∧ g < w.heap.size ∧ ∀ j a, l[j]? = some a → w.rangeAt g (o + j * 3) (kcs a)
section
variable {w : World} {ops : Array Oper} {o : Oper} {a : Act} {Q : Exit → Act → World → Prop} {K : Act → World → Prop} {E : Prop}
theorem sStH (x y : Operand) (hw : Region.wanted o (yielded ops a.tmps) = true) (ho : o.op = .store 24 x y) (b : Nat) (c d : Hi) (hx : a.eval x = .pointer (some ⟨b, 0, none⟩)) (hy : a.eval y = .agg #[.int .u16 c.b, .int .u16 c.n, .bool c.k]) (hr : Row w b 24 (hcs d))
    (h : ∀ w', Below b w w' → (∀ g t cs, g ≠ b → Row w g t cs → Row w' g t cs) → Row w' b 24 (hcs c) → K (a.put o.dst undef) w') : if Region.wanted o (yielded ops a.tmps) = true then Oper.wp Try.prog o a w K Q else E := by
  rw [if_pos hw]
  refine wp_store_mid _ x y ho b 0 _ hx hy (by simpa using hr.there (n := 3) (by simp [hcs])) (by rw [infoH]; simp) (all_oneCell_toArray (hcs_one c)) (h _ (below_setCells b (Nat.le_refl _) _ _ _ (Below.refl _ _)) (fun g t cs hne hg => Row.setCellsOther b hne.symm _ _ _ hg) ?_)
  have q := ((hr.set 0 (.int .u16 c.b)).set 1 (.int .u16 c.n)).set 2 (.bool c.k)
  simpa [World.setCells, hcs] using q
end
end Go.Proofs.Ytpkjdfdjjobjgaa
