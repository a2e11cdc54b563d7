/-
  Rows of the call's own, and the bytes of a packet.
-/
import Derived.Test.YtaleclmccmeglaaStr
namespace Go.Proofs.Ytaleclmccmeglaa
open Go.RowKit

/-- The bytes of a packet with that body. -/
def pkL (l : List UInt8) : List UInt8 := [42, 2] ++ be16 (UInt16.ofNat l.length) ++ l
theorem pkL_len (l : List UInt8) : (pkL l).length = l.length + 4 := by simp [pkL, be16]

theorem own_le {w : World} {B B' : Nat} {e : TypeId} {s : Nat} {v : Value} {n : Nat} {xs : List Value} (h : w.ownsRow B e s v n xs) (hb : B' ≤ B) : w.ownsRow B' e s v n xs := by
  refine ⟨h.1, ?_⟩
  rcases h.2 with h | ⟨g, cap, cur, h1, h2, h3⟩
  · exact .inl h
  · exact .inr ⟨g, cap, cur, h1, Nat.le_trans hb h2, h3⟩
end Go.Proofs.Ytaleclmccmeglaa
