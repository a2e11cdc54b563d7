/-
  A slice of pairs as an argument: what its reading is.
-/
import Derived.Test.YtimpopolkofdgabDoorArgs
import Derived.Deep.Slices
namespace Go.Proofs.YtimpopolkofdgabDoor
open Go.RowKit Go.ChangeShapes Go.WideShapes Go.ChangeAt Go.Deep
section
variable {H : Type} {enc : TypeId × Value → H} {w : World} {base : Nat} {spare : Nat → Bool} {held : Bool} {r : Reach} {b0 : Nat} {v : Value} {d : DataW H} {p : List MemPlace}
set_option maxRecDepth 100000 in
/-- A slice of pairs as an argument. -/
theorem openL (hv : Value.okWide Tryd.prog w r b0 38 v) (h : DataW.Trod enc Tryd.prog w base spare held 38 v d p) : ∃ (ad : Option Addr) (len cap : Nat) (qs : List Pr), v = .slice ad len cap ∧ qs.length = len ∧ (len = 0 ∨ ∃ g o, ad = some ⟨g, o, none⟩ ∧ g < w.heap.size ∧ ∀ j q, qs[j]? = some q → LQ w g (o + j * 34) q) := by
  obtain ⟨ad, len, cap, rfl⟩ := okWide_slice Tryd.underlying38 hv
  obtain ⟨fuel, hf⟩ := h
  rcases open_slice Tryd.underlying38 hf with ⟨hcs, _⟩ | ⟨a, len', cap', m, n, D, Pl, hcs, _, hl, _, hmm, _, hx⟩
  · simp [Value.cells] at hcs
    obtain ⟨rfl, rfl, rfl⟩ := hcs
    exact ⟨none, 0, 0, [], rfl, rfl, .inl rfl⟩
  · simp [Value.cells] at hcs
    obtain ⟨rfl, rfl, rfl⟩ := hcs
    by_cases h0 : len = 0
    · subst h0
      exact ⟨_, 0, cap, [], rfl, rfl, .inl rfl⟩
    · have hm : len ≤ m := by rw [hmm]; split <;> omega
      have each : ∀ i, i < len → ∃ q : Pr, ∀ k, k < 34 → w.cell? ((a.add (i * 34)).add k) = (qcells q)[k]? := fun i hi => by
        obtain ⟨cs', k1, k2⟩ := hx i (by omega)
        obtain ⟨q, rfl, _⟩ := pr_of k2
        rw [cellsQ] at k1
        obtain ⟨_, _, hc⟩ := World.cells?_some k1
        exact ⟨q, hc⟩
      haveI : Inhabited Pr := ⟨⟨⟨⟨List.replicate 16 0, rfl⟩, 0⟩, ⟨⟨List.replicate 16 0, rfl⟩, 0⟩⟩⟩
      obtain ⟨f, hf'⟩ := choose_lt each
      obtain ⟨b, o, x⟩ := a
      have hx0 : x = none := by
        have h1 := hf' 0 (by omega) 0 (by omega)
        obtain ⟨u, hu⟩ : ∃ u, (qcells (f 0))[0]? = some u := ⟨_, List.getElem?_eq_getElem (by rw [qcells_len]; omega)⟩
        rw [hu] at h1
        cases x with
        | none => rfl
        | some y =>
          have := World.cell?_spot h1
          simp [Addr.add] at this
      subst hx0
      have hc : ∀ j, j < len → ∀ k, k < 34 → w.cell? ⟨b, o + j * 34 + k, none⟩ = (qcells (f j))[k]? := fun j hj k hk => by
        have := hf' j hj k hk
        rw [add_add, Go.WideShapes.add_plain] at this
        rw [Nat.add_assoc]; exact this
      refine ⟨_, len, cap, (List.range len).map f, rfl, by simp, .inr ⟨b, o, rfl, ?_, fun j q hq => ?_⟩⟩
      · have h1 := hc 0 (by omega) 0 (by omega)
        obtain ⟨u, hu⟩ : ∃ u, (qcells (f 0))[0]? = some u := ⟨_, List.getElem?_eq_getElem (by rw [qcells_len]; omega)⟩
        rw [hu] at h1
        exact World.block_lt_of_cell? _ _ h1
      · rw [List.getElem?_map] at hq
        by_cases hj : j < len
        · rw [List.getElem?_range hj] at hq
          cases hq
          intro k u hu
          rw [hc j hj k (by have := (List.getElem?_eq_some_iff.1 hu).1; rw [qcells_len] at this; exact this)]
          exact hu
        · rw [List.getElem?_eq_none (by simp; omega)] at hq
          cases hq
end
end Go.Proofs.YtimpopolkofdgabDoor
