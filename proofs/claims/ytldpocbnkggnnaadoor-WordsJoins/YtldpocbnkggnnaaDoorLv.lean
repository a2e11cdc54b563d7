/-
  The contract of live.
-/
import Derived.Test.YtldpocbnkggnnaaDoorK6
namespace Go.Proofs.YtldpocbnkggnnaaDoor
open Go.RowKit
set_option linter.unusedSimpArgs false
set_option maxRecDepth 20000
theorem words_l (t : ByteArray) (A : Ans) (h : wordsL t.data.toList = A) (w : World) (hM : Ml w) : Calls Tryd.prog 9 #[.string t] w fun e w' => ∃ a c, e = .returned (.tuple #[.slice a A.1.length c, .int .i64 (A.2 : Int)]) ∧ w'.ownsRow w.heap.size 9 1 (.slice a A.1.length c) A.1.length (scells A.1) ∧ Src w' a A.1.length c (scells A.1) ∧ Below w.heap.size w w' := by
  subst h
  refine (words_any t w hM).mono fun e w' ⟨v, h1, h2, h3⟩ => ?_
  obtain ⟨a, c, rfl, hs, _⟩ := Src.ofOwn h2
  exact ⟨a, c, h1, h2, hs, h3⟩
theorem lv1 : wordsL [97, 32, 34, 98, 32, 99, 34, 32, 100, 35, 101, 32, 35, 102] = ([[97], [98, 32, 99], [100, 35, 101]], 0) := by decide +kernel
theorem lv2 : wordsL [34, 97] = ([], 80) := by decide +kernel
theorem lv3 : joinW [[], [97, 32, 98], [99]] = [34, 34, 32, 34, 97, 32, 98, 34, 32, 99] := by decide +kernel
theorem lv4 : decN [52, 50] = some 42 := by decide +kernel
theorem live_join (w : World) (g : Nat) (hr : Row w g 9 (scells [[], [97, 32, 98], [99]])) : Calls Tryd.prog 17 #[.slice (some ⟨g, 0, none⟩) 3 3] w (Gives w (.string ⟨#[34, 34, 32, 34, 97, 32, 98, 34, 32, 99]⟩)) := by
  have h := join_any [[], [97, 32, 98], [99]] (some ⟨g, 0, none⟩) 3 3 w ⟨rfl, (fun h => by cases h), fun ad had j u hu => by cases had; rw [Addr.add_lit, Nat.zero_add, hr.cell]; exact hu⟩ (by decide) (by decide +kernel) (by decide +kernel)
  rw [lv3] at h
  exact h
theorem live_texts (w : World) (a : Option Addr) (c g : Nat) (hs : Src w a 3 c (scells [[97], [98, 32, 99], [100, 35, 101]])) (hr : Row w g 9 (scells [[97], [98, 32, 99], [100, 35, 101]])) : Calls Tryd.prog 13 #[.slice a 3 c, .slice (some ⟨g, 0, none⟩) 3 3] w fun e w' => e = .returned (.bool true) ∧ Below w.heap.size w w' := by
  have h := texts_any [[97], [98, 32, 99], [100, 35, 101]] [[97], [98, 32, 99], [100, 35, 101]] a (some ⟨g, 0, none⟩) 3 c 3 3 w hs ⟨rfl, (fun h => by cases h), fun ad had j u hu => by cases had; rw [Addr.add_lit, Nat.zero_add, hr.cell]; exact hu⟩ (by decide) (by decide)
  rw [decide_eq_true rfl] at h
  exact h
theorem live_any (w : World) (hM : Ml w) : Calls Tryd.prog 8 #[] w fun e w' => e = .returned (.bool true) ∧ Below w.heap.size w w' := by
  have h1 := fun W hW => words_l ⟨#[97, 32, 34, 98, 32, 99, 34, 32, 100, 35, 101, 32, 35, 102]⟩ _ lv1 W hW
  have h2 := fun W hW => words_l ⟨#[34, 97]⟩ _ lv2 W hW
  have h4 := fun W => number_any ⟨#[52, 50]⟩ 99 W
  rw [show decN (⟨#[52, 50]⟩ : ByteArray).data.toList = some 42 from lv4, show numV (some 42) 99 = .tuple #[.int .i64 42, .bool true] from rfl] at h4
  have g0 : True := trivial
  go_enter Tryd.func8, Tryd.ntmps8
  go_wp2_with (first
    | (go_at_call 9; have k := g0; clear g0; refine (h1 _ hM).mono ?_; rintro e w1 ⟨a1, c1, rfl, _, hs1, hb1⟩; have hM1 := hM.keep hb1; have g1 : True := trivial)
    | (go_at_call 9; have k := g1; clear g1; refine (h2 _ hM1).mono ?_; rintro e w2 ⟨a2, c2, rfl, _, hs2, hb2⟩; have hs3 := hs1.stay hb2; have hb3 := bt hb1 hb2; clear hs1 hs2)
    | (go_at_call 19; refine (h4 _).mono ?_; rintro e w3 ⟨rfl, rfl⟩)
    | (go_at_call 14; refine (num_any _ _).mono ?_; rintro e w4 ⟨rfl, rfl⟩)
    | (go_at_call 13; refine (live_texts _ _ _ _ (hs3.alloc _) (Row.new _ _ _)).mono ?_; rintro e w5 ⟨rfl, hb5⟩)
    | (go_at_call 17; refine (live_join _ _ (Row.new _ _ _)).mono ?_; rintro e w6 ⟨rfl, hb6⟩))
  go_ret
  have q5 := bt (hb3.alloc hb3.size _) hb5
  exact ⟨rfl, bt (q5.alloc q5.size _) hb6⟩
end Go.Proofs.YtldpocbnkggnnaaDoor
