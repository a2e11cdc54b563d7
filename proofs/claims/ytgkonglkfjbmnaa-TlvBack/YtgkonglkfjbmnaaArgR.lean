/-
  Slices of pieces as arguments.
-/
import Derived.Test.YtgkonglkfjbmnaaArgs
namespace Go.Proofs.Ytgkonglkfjbmnaa
open Go.RowKit Go.ChangeShapes Go.WideShapes Go.ChangeAt Go.Deep
section
variable {H : Type} {enc : TypeId × Value → H} {w : World} {base : Nat} {held : Bool} {r : Reach} {b0 : Nat} {v : Value} {d : DataW H} {p : List MemPlace}
theorem cellsR : Try.prog.cellsOf 51 = 2 := by kernel_rfl
theorem cellsU : Try.prog.cellsOf 5 = 1 := by kernel_rfl
theorem cellsB : Try.prog.cellsOf 22 = 1 := by kernel_rfl
theorem r_of {fuel : Nat} {cs : List Value} {x : DataW H × List MemPlace} (h : DataW.trod enc Try.prog w base (fun _ => true) held fuel 51 cs = some x) : ∃ q : Pc, cs = rc q ∧ Src w q.a q.n q.c (bcells q.l) := by
  obtain ⟨y0, y1, n, _, hl, h0, h1⟩ := trod_struct2 Try.underlying51 h
  dsimp only at h0 h1
  rw [cellsU] at h0
  rw [cellsB] at h1
  rw [cellsR] at hl
  match cs, hl with
  | [c, d], _ =>
    obtain ⟨k, e1, _, hw⟩ := DataW.trod_int Try.underlying5 h0
    simp at e1
    have hb := bounds_u8 hw
    have hk : c = .int .u8 ((UInt8.ofNat k.toNat).toNat : Int) := by rw [e1]; simp; omega
    rcases open_ints Try.underlying22 Try.underlying5 (by kernel_rfl) h1 with ⟨hcs, _⟩ | ⟨x, l, c', zs, hcs, _, hl, hm, hz, _, hcell, hwz⟩
    · simp at hcs
      exact ⟨⟨UInt8.ofNat k.toNat, none, 0, 0, []⟩, by rw [hk, hcs]; rfl, Src.nil w⟩
    · simp at hcs
      obtain ⟨L, hL⟩ := IsRow.bytes (w := w) (a := some x) (len := l) (cap := c') (zs := zs) (.inr ⟨_, rfl, hl, hm, by simpa using hz, hcell, hwz⟩)
      exact ⟨⟨UInt8.ofNat k.toNat, some x, l, c', L⟩, by rw [hk, hcs]; rfl, hL⟩
set_option maxRecDepth 100000 in
/-- A slice of pieces as an argument. -/
theorem openR (hv : Value.okWide Try.prog w r b0 35 v) (h : DataW.Trod enc Try.prog w base (fun _ => true) held 35 v d p) : ∃ (ad : Option Addr) (len cap : Nat) (l : List Pc), v = .slice ad len cap ∧ Rws w ad len l ∧ len ≤ cap ∧ (ad = none → cap = 0) := by
  obtain ⟨ad, len, cap, rfl⟩ := okWide_slice Try.underlying35 hv
  obtain ⟨fuel, hf⟩ := h
  rcases open_slice Try.underlying35 hf with ⟨hcs, _⟩ | ⟨a, len', cap', m, n, D, Pl, hcs, _, hl, _, hmm, _, hx⟩
  · simp [Value.cells] at hcs
    obtain ⟨rfl, rfl, rfl⟩ := hcs
    exact ⟨none, 0, 0, [], rfl, ⟨rfl, (fun h => absurd rfl h), (fun _ h => by cases h)⟩, Nat.le_refl _, fun _ => rfl⟩
  · simp [Value.cells] at hcs
    obtain ⟨rfl, rfl, rfl⟩ := hcs
    by_cases h0 : len = 0
    · subst h0
      exact ⟨_, 0, cap, [], rfl, ⟨rfl, (fun h => absurd rfl h), (fun _ h => by cases h)⟩, hl, fun h => by cases h⟩
    · have hm : len ≤ m := by rw [hmm]; split <;> omega
      have each : ∀ i, i < len → ∃ q : Pc, Src w q.a q.n q.c (bcells q.l) ∧ ∀ k, k < 2 → w.cell? ((a.add (i * 2)).add k) = (rc q)[k]? := fun i hi => by
        obtain ⟨cs', k1, k2⟩ := hx i (by omega)
        obtain ⟨q, rfl, hb⟩ := r_of k2
        rw [cellsR] at k1
        obtain ⟨_, _, hc⟩ := World.cells?_some k1
        exact ⟨q, hb, hc⟩
      have each' : ∀ i, ∃ q : Pc, i < len → Src w q.a q.n q.c (bcells q.l) ∧ ∀ k, k < 2 → w.cell? ((a.add (i * 2)).add k) = (rc q)[k]? := fun i => by
        by_cases hi : i < len
        · obtain ⟨q, hq⟩ := each i hi
          exact ⟨q, fun _ => hq⟩
        · exact ⟨⟨0, none, 0, 0, []⟩, fun h => absurd h hi⟩
      obtain ⟨f, hf'⟩ := Classical.axiomOfChoice each'
      obtain ⟨b, o, x⟩ := a
      have hx0 : x = none := by
        have h1 := (hf' 0 (by omega)).2 0 (by omega)
        cases x with
        | none => rfl
        | some y =>
          have := World.cell?_spot h1
          simp [Addr.add] at this
      subst hx0
      have hc : ∀ j, j < len → ∀ k, k < 2 → w.cell? ⟨b, o + j * 2 + k, none⟩ = (rc (f j))[k]? := fun j hj k hk => by
        have := (hf' j hj).2 k hk
        rw [add_add, Go.WideShapes.add_plain] at this
        rw [Nat.add_assoc]; exact this
      refine ⟨_, len, cap, (List.range len).map f, rfl, ⟨by simp, fun _ => ⟨b, o, rfl, World.block_lt_of_cell? _ _ (hc 0 (by omega) 0 (by omega)), fun j q hq => ?_⟩, fun q hq => ?_⟩, hl, fun h => by cases h⟩
      · rw [List.getElem?_map] at hq
        by_cases hj : j < len
        · rw [List.getElem?_range hj] at hq
          cases hq
          intro k u hu
          rw [hc j hj k (by have := (List.getElem?_eq_some_iff.1 hu).1; simpa [rc] using this)]
          exact hu
        · rw [List.getElem?_eq_none (by simp; omega)] at hq
          cases hq
      · obtain ⟨i, hi, rfl⟩ := List.mem_map.1 hq
        exact (hf' i (List.mem_range.1 hi)).1
end
end Go.Proofs.Ytgkonglkfjbmnaa
