/-
  The walk of WordsCuts.
-/
import Derived.Test.YtldpocbnkggnnaaDoorR3
import Derived.Test.YtldpocbnkggnnaaDoorLiW
namespace Go.Proofs.YtldpocbnkggnnaaDoor
open Go.RowKit
set_option linter.unusedSimpArgs false
set_option maxRecDepth 20000
theorem rlines_l (t : ByteArray) (A : LAns) (h : linesL t.data.toList = A) (w : World) : Calls Tryd.prog 12 #[.string t] w (LTold w A) := by
  subst h
  exact rlines_any t w
set_option maxHeartbeats 2000000 in
theorem cut_walk (s t : ByteArray) (w : World) (hM : Ml w) (hL : ∀ W, Below w.heap.size w W → Calls Tryd.prog 8 #[] W fun e w' => e = .returned (.bool true) ∧ Below W.heap.size W w') :
    Calls Tryd.prog 3 #[.string s, .string t] w fun e w' => e = .returned (.bool true) ∧ Below w.heap.size w w' := by
  by_cases h1 : 70000 < s.size
  · have h1' : (70000 : Int) < (s.size : Int) := by omega
    go_enter Tryd.func3, Tryd.ntmps3
    go_wp2_with (go_at_call 8; refine (hL _ (Below.refl _ _)).mono ?_; rintro e w' ⟨rfl, hb⟩)
    go_ret
    exact ⟨rfl, hb⟩
  have h1' : ¬ (70000 : Int) < (s.size : Int) := by omega
  by_cases h2 : 70000 < t.size
  · have h2' : (70000 : Int) < (t.size : Int) := by omega
    go_enter Tryd.func3, Tryd.ntmps3
    go_wp2_with (go_at_call 8; refine (hL _ (Below.refl _ _)).mono ?_; rintro e w' ⟨rfl, hb⟩)
    go_ret
    exact ⟨rfl, hb⟩
  have h2' : ¬ (70000 : Int) < (t.size : Int) := by omega
  have hA := fun W h => words_l s _ rfl W h
  have hB := fun W => rwords_l s _ rfl W
  have hC := fun W h => lines_l t _ rfl W h
  have hD := fun W => rlines_l t _ rfl W
  have f1 := words_few s.data.toList
  have f2 := lines_few t.data.toList
  generalize wordsL s.data.toList = A at *
  generalize linesL t.data.toList = C at *
  obtain ⟨ws, eA⟩ := A
  obtain ⟨K, eC, pC⟩ := C
  dsimp only at *
  have hT := fun W a b c d h1 h2 hn => texts_any ws ws a b ws.length c ws.length d W h1 h2 hn hn
  rw [decide_eq_true rfl] at hT
  have hwl : ws.length ≤ 140737488355328 := by omega
  have F2 : Hid (K.length ≤ 65537 ∧ ∀ x ∈ K, x.2.length ≤ 1025 ∧ x.1 ≤ 65537) := f2
  have num := fun x W => num_any x W
  clear f2 h1 h2
  generalize ws.length = n at *
  go_enter Tryd.func3, Tryd.ntmps3
  go_wp2_with (first
    | (go_at_call 9; refine (hA _ hM).mono ?_; rintro e w1 ⟨a1, c1, rfl, o1, s1, b1⟩; clear o1)
    | (go_at_call 10; refine (hB _).mono ?_; rintro e w2 ⟨a2, c2, rfl, o2, s2, b2⟩; replace s1 := s1.stay b2; replace b1 := bt b1 b2; clear o2 b2; have hM2 := hM.keep b1)
    | (go_at_call 11; refine (hC _ hM2).mono ?_; rintro e w3 ⟨a3, c3, L3, rfl, k3, o3, d3, b3⟩; replace s1 := s1.stay b3; replace s2 := s2.stay b3; replace b1 := bt b1 b3; have l3 := LS.of o3 d3; have HK3 : Hid (L3.map lkey = K) := k3; clear o3 d3 b3 k3)
    | (go_at_call 12; refine (hD _).mono ?_; rintro e w4 ⟨a4, c4, L4, rfl, k4, o4, d4, b4⟩; replace s1 := s1.stay b4; replace s2 := s2.stay b4; replace l3 := l3.below b4; replace b1 := bt b1 b4; have l4 := LS.of o4 d4; have HK4 : Hid (L4.map lkey = K) := k4; clear o4 d4 b4 k4)
    | (go_at_call 13; refine (hT _ _ _ _ _ s1 s2 hwl).mono ?_; rintro e w5 ⟨rfl, b5⟩; replace l3 := l3.below b5; replace l4 := l4.below b5; replace b1 := bt b1 b5; clear b5 s1 s2)
    | (go_at_call 14; refine (num _ _).mono ?_; rintro e w6 ⟨rfl, rfl⟩)
    | (go_at_call 15; refine (same_true L3 L4 (HK3.out.trans HK4.out.symm) _ _ _ _ _ l3 l4 (by have := F2.out.1; rw [← HK3.out, List.length_map] at this; omega) (fun x hx => by have := (F2.out.2 (lkey x) (by rw [← HK3.out]; exact List.mem_map.2 ⟨x, hx, rfl⟩)).1; exact Nat.le_trans this (by decide))).mono ?_; rintro e w7 ⟨rfl, b7⟩; replace b1 := bt b1 b7)
    | (go_at_call 8; refine (hL _ b1).mono ?_; rintro e w8 ⟨rfl, b8⟩))
  go_ret
  exact ⟨rfl, bt b1 b8⟩
end Go.Proofs.YtldpocbnkggnnaaDoor
