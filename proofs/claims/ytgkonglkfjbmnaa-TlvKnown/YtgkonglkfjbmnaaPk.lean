/-
  The contract of tlv.Packet for every body within memory.
-/
import Derived.Test.YtgkonglkfjbmnaaPutBytes
namespace Go.Proofs.Ytgkonglkfjbmnaa
open Go.RowKit

/-- The bytes of a packet with that body. -/
def pkL (l : List UInt8) : List UInt8 := [42, 2] ++ be16 (UInt16.ofNat l.length) ++ l
theorem pkL_len (l : List UInt8) : (pkL l).length = l.length + 4 := by simp [pkL, be16]

theorem own_le {w : World} {B B' : Nat} {e : TypeId} {s : Nat} {v : Value} {n : Nat} {xs : List Value} (h : w.ownsRow B e s v n xs) (hb : B' ≤ B) : w.ownsRow B' e s v n xs := by
  refine ⟨h.1, ?_⟩
  rcases h.2 with h | ⟨g, cap, cur, h1, h2, h3⟩
  · exact .inl h
  · exact .inr ⟨g, cap, cur, h1, Nat.le_trans hb h2, h3⟩
/-- What Packet answers. -/
def Packed (w : World) (l : List UInt8) (e : Ending) (w' : World) : Prop :=
  ∃ a c, e = .returned (.tuple #[.slice a (pkL l).length c, .int .i64 0]) ∧ w'.ownsRow w.heap.size 5 1 (.slice a (pkL l).length c) (pkL l).length (bcells (pkL l)) ∧ Below w.heap.size w w'

theorem packet_ok (a : Option Addr) (n c : Nat) (l : List UInt8) (w : World) (hs : Src w a n c (bcells l)) (hn : n ≤ 65535) :
    Calls Try.prog 9 #[.slice a n c] w (Packed w l) := by
  have HL : Hid (n = l.length) := hs.blen
  have hh : hcells [UInt16.ofNat n] = [.int .u16 (n : Int)] := by simp [hcells]; omega
  have HH : Hid (hcells [UInt16.ofNat n] = [.int .u16 (n : Int)]) := hh
  clear hh
  go_enter Try.func9, Try.ntmps9
  go_wp2_with (first
    | (go_at_call 24; have k := hs5; refine (putb_any a2 _ c2 _ (some ⟨w2.heap.size, 0, none⟩) 1 1 [⟨a, n, c, l⟩] _ (hs5.alloc _) (new_src_of w2 #[.slice a n c] 22) (by intro q hq; simp at hq; subst hq; exact (hs4.below hb2 hs4.lt).alloc _) (by decide) (by simp [flat, be16]; have := HL.out; omega)).mono ?_; rintro e w3 ⟨a3, c3, rfl, hown3, hb3⟩)
    | (go_at_call 22; have k := hs2; refine (put16_any a1 2 c1 [42, 2] (some ⟨w1.heap.size, 0, none⟩) 1 1 [UInt16.ofNat n] _ (hs2.alloc _) (by rw [HH.out]; exact new_src_of w1 #[.int .u16 n] 54) (by decide)).mono ?_; rintro e w2 ⟨a2, c2, rfl, hown2, hb2⟩; obtain ⟨_, _, hv2, hs5, hlt2⟩ := Src.ofOwn hown2; cases hv2; have hs4 := hs3.alloc (.cells #[.int .u16 n] 54))
    | (go_at_call 23; refine (put8_any none 0 0 [] (some ⟨w.heap.size, 0, none⟩) 2 2 [42, 2] _ (Src.nil _) (new_src w #[.int .u8 42, .int .u8 2]) (by decide)).mono ?_; rintro e w1 ⟨a1, c1, rfl, hown1, hb1⟩; obtain ⟨_, _, hv1, hs2, hlt1⟩ := Src.ofOwn hown1; cases hv1; have hs3 := (hs.alloc (.cells #[.int .u8 42, .int .u8 2] 5)).below hb1 (hs.alloc (.cells #[.int .u8 42, .int .u8 2] 5)).lt))
  go_ret2
  have e : [42, 2] ++ List.flatMap be16 [UInt16.ofNat n] ++ flat [⟨a, n, c, l⟩] = pkL l := by rw [HL.out]; simp [pkL, flat]
  have e2 : (be16 (UInt16.ofNat n)).length + (flat [⟨a, n, c, l⟩]).length + 1 + 1 = (pkL l).length := by rw [← e]; simp
  rw [e] at hown3
  refine ⟨a3, c3, by rw [← e2]; rfl, ?_, ?_⟩
  · refine own_le hown3 ?_
    have s1 := hb1.size
    have s2 := hb2.size
    simp only [World.size_alloc] at *
    omega
  · have s1 := hb1.size
    have s2 := hb2.size
    simp only [World.size_alloc] at s1 s2
    have k1 : Below w.heap.size w w1 := ((Below.refl _ _).alloc (Nat.le_refl _) _).trans (hb1.mono (by simp))
    have k2 : Below w.heap.size w w2 := (k1.alloc (by omega) _).trans (hb2.mono (by simp; omega))
    exact (k2.alloc (by omega) _).trans (hb3.mono (by simp; omega))
theorem packet_long (a : Option Addr) (n c : Nat) (w : World) (hn : 65535 < n) :
    Calls Try.prog 9 #[.slice a n c] w fun e w' => e = .returned (.tuple #[.slice none 0 0, .int .i64 1]) ∧ w = w' := by
  go_enter Try.func9, Try.ntmps9
  go_wp2
  go_ret2
  exact ⟨rfl, rfl⟩
end Go.Proofs.Ytgkonglkfjbmnaa
