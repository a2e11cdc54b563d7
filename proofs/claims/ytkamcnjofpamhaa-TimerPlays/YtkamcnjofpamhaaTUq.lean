/-
  Two lists that are sorted and tell the same timers tell them in one order.
-/
import Derived.Test.YtkamcnjofpamhaaTOrd
import Derived.ChangeMaps
namespace Go.Proofs.Ytkamcnjofpamhaa
open Go.RowKit
set_option linter.unusedSimpArgs false
/-- What is told of a timer. -/
def nt (t : Tm) : ByteArray × Int := (t.nm, t.tm)
def Ah2 (a b : ByteArray × Int) : Prop := a.2 < b.2 ∨ a.2 = b.2 ∧ Op.bytesLess a.1.toList b.1.toList = true
theorem ah_nt (s t : Tm) : Ah2 (nt s) (nt t) ↔ Ah s t := Iff.rfl
theorem ah2_tri {a b : ByteArray × Int} (h : ¬ Ah2 a b) (k : ¬ Ah2 b a) : a = b := by
  obtain ⟨e1, e2⟩ := ah_tri (s := ⟨0, a.2, a.1⟩) (t := ⟨0, b.2, b.1⟩) h k
  rw [ByteArray.toList_eq, ByteArray.toList_eq] at e2
  have e3 := WideShapes.bytes_inj e2
  obtain ⟨a1, a2⟩ := a
  obtain ⟨b1, b2⟩ := b
  simp at e1 e3
  rw [e1, e3]
/-- What is told, in order. -/
def Srt2 (D : List (ByteArray × Int)) : Prop := D.Pairwise (fun a b => ¬ Ah2 b a)
theorem srt2_eq {D E : List (ByteArray × Int)} (h : Srt2 D) (k : Srt2 E) (hp : D.Perm E) : D = E :=
  List.Perm.eq_of_pairwise (fun _ _ _ _ h1 h2 => ah2_tri h2 h1) h k hp
end Go.Proofs.Ytkamcnjofpamhaa
