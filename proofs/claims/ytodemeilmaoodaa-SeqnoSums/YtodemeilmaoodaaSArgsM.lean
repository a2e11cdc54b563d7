/-
  A slice of metrics as an argument, with what is known of its room.
-/
import Derived.Test.YtodemeilmaoodaaSArgs
namespace Go.Proofs.Ytodemeilmaoodaa
open Go.RowKit Go.ChangeShapes Go.WideShapes Go.ChangeAt Go.Deep
section
variable {H : Type} {enc : TypeId × Value → H} {w : World} {base : Nat} {spare : Nat → Bool} {held : Bool} {r : Reach} {b0 : Nat} {v : Value} {d : DataW H} {p : List MemPlace}
theorem openMc (hv : Value.okWide Try.prog w r b0 23 v) (h : DataW.Trod enc Try.prog w base spare held 23 v d p) : ∃ (ad : Option Addr) (len cap : Nat) (l : List Nat), v = .slice ad len cap ∧ len ≤ 9223372036854775807 ∧ (ad = none → cap = 0) ∧ Mts w ad len l := by
  obtain ⟨ad, len, cap, rfl⟩ := okWide_slice Try.underlying23 hv
  obtain ⟨fuel, hf⟩ := h
  rcases open_ints Try.underlying23 Try.underlying22 (by kernel_rfl) hf with ⟨hcs, _⟩ | ⟨x, l, c, zs, hcs, _, hl, hm, hz, _, hcell, hwz⟩
  · simp [Value.cells] at hcs
    obtain ⟨rfl, rfl, rfl⟩ := hcs
    exact ⟨none, 0, 0, [], rfl, by omega, fun _ => rfl, rfl, fun _ => rfl, (fun _ h => by cases h), fun _ h => by cases h⟩
  · simp [Value.cells] at hcs
    obtain ⟨rfl, rfl, rfl⟩ := hcs
    have hlz : len ≤ zs.length := by rw [hz]; split <;> omega
    have hg : ∀ i, i < len → ∃ h : i < zs.length, zs.getD i 0 = zs[i] ∧ 0 ≤ zs[i] ∧ zs[i] ≤ 65535 := fun i hi => by
      have h : i < zs.length := by omega
      exact ⟨h, by simp [h], bounds_u16 (hwz _ (List.getElem_mem h))⟩
    refine ⟨_, len, cap, (zs.take len).map Int.toNat, rfl, by unfold maxLen at hm; omega, (fun h => by cases h), by simp; omega, (fun h => by cases h), ?_, ?_⟩
    · intro y hy
      obtain ⟨z, hzm, rfl⟩ := List.mem_map.1 hy
      have := bounds_u16 (hwz z (List.mem_of_mem_take hzm))
      omega
    · intro ad had j hj
      cases had
      have hj' : j < len := by simp at hj; omega
      obtain ⟨h, e, l0, l1⟩ := hg j hj'
      rw [hcell j h, e]
      congr 2
      simp
      omega
end
end Go.Proofs.Ytodemeilmaoodaa
