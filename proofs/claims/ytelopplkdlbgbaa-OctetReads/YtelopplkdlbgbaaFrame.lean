/-
  What the laws of layer 1 are told of slices of bytes and numbers that came in.
-/
import Derived.Test.YtelopplkdlbgbaaPuts
import Derived.WalkKit
import Derived.ProofKit
import Derived.OpenShut
namespace Go.Proofs.Ytelopplkdlbgbaa
open Go.ChangeShapes Go.WideShapes Go.ChangeAt Go.RowKit

/-- What a walk is told of a slice of integers that came in: it is nil; or it leads to a row of 'cap' cells, the numbers 'zs' (the first 'len' are its elements, the rest its spare room), each fitting its kind. -/
def IsRow (k : IntKind) (w : World) (a : Option Addr) (len cap : Nat) (zs : List Int) : Prop :=
  (a = none ∧ len = 0 ∧ cap = 0 ∧ zs = []) ∨
  ∃ x, a = some x ∧ len ≤ cap ∧ cap ≤ maxLen ∧ zs.length = cap ∧ (∀ i, i < zs.length → w.cell? (x.add i) = some (.int k (zs.getD i 0))) ∧ ∀ n ∈ zs, (Lit.int k n).wf = true

theorem IsRow.src {k : IntKind} {w : World} {a : Option Addr} {len cap : Nat} {zs : List Int} (h : IsRow k w a len cap zs) : Src w a len cap ((zs.take len).map (Value.int k)) ∧ (∀ n ∈ zs, (Lit.int k n).wf = true) ∧ len ≤ maxLen := by
  rcases h with ⟨rfl, rfl, rfl, rfl⟩ | ⟨x, rfl, h1, h2, h3, h4, h5⟩
  · exact ⟨Src.nil w, by simp, by unfold maxLen; omega⟩
  · refine ⟨⟨by simp; omega, (fun h => by cases h), fun ad had j u hu => ?_⟩, h5, Nat.le_trans h1 h2⟩
    cases had
    have hj : j < ((zs.take len).map (Value.int k)).length := (List.getElem?_eq_some_iff.1 hu).1
    simp at hj
    rw [h4 j (by omega)]
    rw [List.getElem?_map, List.getElem?_take_of_lt (by omega), List.getElem?_eq_getElem (by omega)] at hu
    simp at hu
    simp [List.getD, List.getElem?_eq_getElem (show j < zs.length by omega), hu]

theorem IsRow.le {k : IntKind} {w : World} {a : Option Addr} {len cap : Nat} {zs : List Int} (h : IsRow k w a len cap zs) : len ≤ cap := by
  rcases h with ⟨_, h1, h2, _⟩ | ⟨_, _, h1, _⟩
  · omega
  · exact h1

theorem IsRow.bytes {w : World} {a : Option Addr} {len cap : Nat} {zs : List Int} (h : IsRow .u8 w a len cap zs) : ∃ l, Src w a len cap (bcells l) := by
  obtain ⟨h1, h2, _⟩ := h.src
  refine ⟨(zs.take len).map fun z => UInt8.ofNat z.toNat, ?_⟩
  have e : bcells ((zs.take len).map fun z => UInt8.ofNat z.toNat) = (zs.take len).map (Value.int .u8) := by
    unfold bcells
    rw [List.map_map]
    refine List.map_congr_left fun z hz => ?_
    have hb := bounds_u8 (h2 z (List.mem_of_mem_take hz))
    simp
    omega
  rw [e]
  exact h1
theorem IsRow.halves {w : World} {a : Option Addr} {len cap : Nat} {zs : List Int} (h : IsRow .u16 w a len cap zs) : ∃ l, Src w a len cap (hcells l) := by
  obtain ⟨h1, h2, _⟩ := h.src
  refine ⟨(zs.take len).map fun z => UInt16.ofNat z.toNat, ?_⟩
  have e : hcells ((zs.take len).map fun z => UInt16.ofNat z.toNat) = (zs.take len).map (Value.int .u16) := by
    unfold hcells
    rw [List.map_map]
    refine List.map_congr_left fun z hz => ?_
    have hb := bounds_u16 (h2 z (List.mem_of_mem_take hz))
    simp
    omega
  rw [e]
  exact h1
theorem IsRow.words {w : World} {a : Option Addr} {len cap : Nat} {zs : List Int} (h : IsRow .u32 w a len cap zs) : ∃ l, Src w a len cap (wcells l) := by
  obtain ⟨h1, h2, _⟩ := h.src
  refine ⟨(zs.take len).map fun z => UInt32.ofNat z.toNat, ?_⟩
  have e : wcells ((zs.take len).map fun z => UInt32.ofNat z.toNat) = (zs.take len).map (Value.int .u32) := by
    unfold wcells
    rw [List.map_map]
    refine List.map_congr_left fun z hz => ?_
    have hb := bounds_u32 (h2 z (List.mem_of_mem_take hz))
    simp
    omega
  rw [e]
  exact h1
theorem own : ownKnob Try.prog.godebug = none := by kernel_rfl
theorem laidOut : laidOutB Try.prog = true := by kernel_rfl
end Go.Proofs.Ytelopplkdlbgbaa
