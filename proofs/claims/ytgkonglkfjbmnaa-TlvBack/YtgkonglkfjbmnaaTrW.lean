/-
  The law TlvTrailers returns true for every two slices of bytes.
-/
import Derived.Test.YtgkonglkfjbmnaaLive
namespace Go.Proofs.Ytgkonglkfjbmnaa
open Go.RowKit
set_option linter.unusedSimpArgs false

theorem open_pk (l m : List UInt8) (h : l.length ≤ 65535) : opE (pkL l ++ m) = 0 ∧ opB (pkL l ++ m) = l ∧ opT (pkL l ++ m) = m := by
  have e : pkL l ++ m = 42 :: 2 :: UInt8.ofNat ((UInt16.ofNat l.length).toNat / 256) :: UInt8.ofNat (UInt16.ofNat l.length).toNat :: (l ++ m) := by simp [pkL, be16]
  have en : (UInt16.ofNat l.length).toNat = l.length := by simp; omega
  rw [en] at e
  have e2 : (UInt8.ofNat (l.length / 256)).toNat * 256 + (UInt8.ofNat l.length).toNat = l.length := by simp; omega
  have e3 : opE (pkL l ++ m) = 0 := by
    rw [e]
    simp only [opE]
    rw [if_neg (by simp), if_neg (by simp), if_neg (by rw [e2]; simp)]
  refine ⟨e3, ?_, ?_⟩
  · unfold opB
    rw [if_pos e3, e]
    simp only
    rw [e2, List.take_left]
  · unfold opT
    rw [if_pos e3, e]
    simp only
    rw [e2, List.drop_left]

theorem trailers_long (a0 : Option Addr) (n0 c0 : Nat) (a1 : Option Addr) (n1 c1 : Nat) (w : World) (h : 65535 < n0 ∨ 70000 < n1) :
    Calls Try.prog 6 #[.slice a0 n0 c0, .slice a1 n1 c1] w fun e w' => e = .returned (.bool true) ∧ Below w.heap.size w w' := by
  by_cases h0 : 65535 < n0
  · have h0' : (65535 : Int) < (n0 : Int) := by omega
    clear h
    go_enter Try.func6, Try.ntmps6
    go_wp2_with (go_at_call 8; refine (live_any _).mono ?_; rintro e w' ⟨rfl, hw⟩)
    go_ret
    exact ⟨rfl, hw⟩
  · have h0' : ¬ (65535 : Int) < (n0 : Int) := by omega
    have h1' : (70000 : Int) < (n1 : Int) := by omega
    clear h
    go_enter Try.func6, Try.ntmps6
    go_wp2_with (go_at_call 8; refine (live_any _).mono ?_; rintro e w' ⟨rfl, hw⟩)
    go_ret
    exact ⟨rfl, hw⟩

theorem trailers_walk (a0 : Option Addr) (n0 c0 : Nat) (l : List UInt8) (a1 : Option Addr) (n1 c1 : Nat) (m : List UInt8) (w : World) (h0 : Src w a0 n0 c0 (bcells l)) (h1 : Src w a1 n1 c1 (bcells m)) (k0 : n0 ≤ 65535) (k1 : n1 ≤ 70000) :
    Calls Try.prog 6 #[.slice a0 n0 c0, .slice a1 n1 c1] w fun e w' => e = .returned (.bool true) ∧ Below w.heap.size w w' := by
  have HL : Hid (n0 = l.length ∧ n1 = m.length) := ⟨h0.blen, h1.blen⟩
  have HO : Hid (opE (pkL l ++ m) = 0 ∧ opB (pkL l ++ m) = l ∧ opT (pkL l ++ m) = m) := open_pk l m (by have := h0.blen; omega)
  obtain ⟨N, HN⟩ : ∃ N, Hid (N = (pkL l).length) := ⟨_, rfl⟩
  have hN : N + n1 ≤ 200000 := by have := HN.out; rw [pkL_len] at this; have := HL.out; omega
  have HP : Hid (Calls Try.prog 9 #[.slice a0 n0 c0] w fun e w' => ∃ a c, e = .returned (.tuple #[.slice a N c, .int .i64 0]) ∧ w'.ownsRow w.heap.size 5 1 (.slice a N c) N (bcells (pkL l)) ∧ Below w.heap.size w w') := by
    have := packet_ok a0 n0 c0 l w h0 k0
    rw [HN.out]
    exact this
  have HOP : Hid (∀ W a c, Src W a (N + n1) c (bcells (pkL l ++ m)) → Calls Try.prog 11 #[.slice a (N + n1) c] W fun e w' => ∃ a1 c1 a2 c2, e = .returned (.tuple #[.slice a1 n0 c1, .slice a2 n1 c2, .int .i64 0]) ∧ Src w' a1 n0 c1 (bcells l) ∧ Src w' a2 n1 c2 (bcells m) ∧ Below W.heap.size W w') := by
    intro W a c hs
    refine (open_any a (N + n1) c _ W hs (by omega)).mono ?_
    rintro e w' ⟨a1, c1, a2, c2, rfl, s1, s2, hb⟩
    obtain ⟨e1, e2, e3⟩ := HO.out
    rw [e1, e2, e3, ← HL.out.1, ← HL.out.2]
    have s1 := s1.1
    have s2 := s2.1
    rw [e2, ← HL.out.1] at s1
    rw [e3, ← HL.out.2] at s2
    exact ⟨a1, c1, a2, c2, rfl, s1, s2, hb⟩
  clear HO
  go_enter Try.func6, Try.ntmps6
  go_wp2_with (first
    | (go_at_call 13; refine (num_any _ _).mono ?_; rintro e wn ⟨rfl, rfl⟩)
    | (go_at_call 8; refine (live_any _).mono ?_; rintro e w4 ⟨rfl, b4⟩)
    | (go_at_call 11; refine (HOP.out _ _ _ (own_src (by rw [bcells_append]; exact own2))).mono ?_; rintro e w3 ⟨a3, c3, a4, c4, rfl, s3, s4, b3⟩; have bb3 := bb2.trans (b3.mono bb2.size); have st1 := s3.str; have st2 := s4.str; have st3 := (h0.below bb3 h0.lt).str; have st4 := (h1.below bb3 h1.lt).str)
    | (at_builtin; refine append_src rfl (.tmp 25) (.tmp 26) rfl w.heap.size (.slice ap N cp) N (bcells (pkL l)) rfl own1 a1 n1 c1 (bcells m) rfl (h1.below b1 h1.lt) (bcells_one m) (by omega) b1.size ?_; intro v2 w2 own2 hg2 _; obtain ⟨a2, c2, rfl⟩ := own_shape own2; have bb2 := b1.grown hg2 b1.size (ownBlock_ge own1))
    | (go_at_call 9; refine HP.out.mono ?_; rintro e w1 ⟨ap, cp, rfl, own1, b1⟩))
  go_ret
  exact ⟨rfl, bb3.trans (b4.mono bb3.size)⟩
theorem trailers_any (a0 : Option Addr) (n0 c0 : Nat) (l : List UInt8) (a1 : Option Addr) (n1 c1 : Nat) (m : List UInt8) (w : World) (h0 : Src w a0 n0 c0 (bcells l)) (h1 : Src w a1 n1 c1 (bcells m)) :
    Calls Try.prog 6 #[.slice a0 n0 c0, .slice a1 n1 c1] w fun e w' => e = .returned (.bool true) ∧ Below w.heap.size w w' := by
  by_cases h : 65535 < n0 ∨ 70000 < n1
  · exact trailers_long a0 n0 c0 a1 n1 c1 w h
  · exact trailers_walk a0 n0 c0 l a1 n1 c1 m w h0 h1 (by omega) (by omega)
end Go.Proofs.Ytgkonglkfjbmnaa
