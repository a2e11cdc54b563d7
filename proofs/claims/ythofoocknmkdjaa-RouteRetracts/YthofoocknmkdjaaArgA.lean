/-
  An address as an argument.
-/
import Derived.Test.YthofoocknmkdjaaArgs
namespace Go.Proofs.Ythofoocknmkdjaa
open Go.RowKit Go.Maps Go.ChangeShapes Go.WideShapes Go.ChangeAt Go.Deep
set_option linter.unusedSimpArgs false
set_option linter.unusedVariables false
variable {H : Type} {enc : TypeId × Value → H} {w : World} {base : Nat} {spare : Nat → Bool} {held : Bool} {r : Reach} {b0 : Nat} {v : Value} {d : DataW H} {p : List MemPlace}
set_option maxRecDepth 100000 in
theorem openA (hv : Value.okWide Try.prog w r b0 32 v) (h : DataW.Trod enc Try.prog w base spare held 32 v d p) : ∃ a : Ad, v = (Value.agg (acells a).toArray) := by
  obtain ⟨cs, rfl⟩ := okWide_arr Try.underlying32 hv
  obtain ⟨fuel, hf⟩ := h
  obtain ⟨a, ha⟩ := ad_of hf
  exact ⟨a, by rw [← ha]; simp [Value.cells]⟩
end Go.Proofs.Ythofoocknmkdjaa
