/-
  What string(b) tells, and readers beside one another.
-/
import Derived.Test.YtaleclmccmeglaaPuts
import Derived.Deep.RegionWith
namespace Go.Proofs.Ytaleclmccmeglaa
open Go.RowKit
variable {bv : Option Addr}

theorem new_src_of (w : World) (xs : Array Value) (t : TypeId) : Src (w.alloc (.cells xs t)) (some ⟨w.heap.size, 0, none⟩) xs.size xs.size xs.toList := by
  refine ⟨by simp, (fun h => by cases h), fun ad had j u hu => ?_⟩
  cases had
  rw [Addr.add_lit, Nat.zero_add, cell_of_row _ _ _ _ _ _ (heap_alloc_new w _)]
  simpa using hu

/-- string(b). -/
theorem Src.str {w : World} {a : Option Addr} {n c : Nat} {l : List UInt8} (h : Src w a n c (bcells l)) : (convert 24 9 (.slice a n c)).run Try.prog w = .ok (.string ⟨l.toArray⟩) w := by
  cases a with
  | none =>
    obtain ⟨rfl, rfl⟩ := h.bare rfl
    have hl : l = [] := List.eq_nil_of_length_eq_zero (by simpa [bcells] using h.len)
    subst hl
    exact run_convert_bytes_nil w 24 5 Try.underlying24 Try.underlying5 0 0 9 Try.underlying9
  | some ad =>
    obtain rfl := h.blen
    exact run_convert_bytes_back w 24 9 5 ad c l Try.underlying24 Try.underlying5 Try.underlying9 (fun j hj => h.byteAt j hj)

/-- A reader behind what another one did. -/
theorem Rd.other {w w' : World} {g g' : Nat} {bw : Option Addr} {l l' : List UInt8} {p p' : Nat} {y y' : Int} (h : Rd w g bv l p y) (k : Now w w' g' bw l' p' y') (h1 : g ≠ g') (h2 : ∀ ad, bv = some ad → ad.block ≠ g') : Rd w' g bv l p y :=
  h.kept k.grown (fun e => h1 (Option.some.inj e)) (fun ad had _ e => h2 ad had (Option.some.inj e))
theorem Rd.lt {w : World} {g : Nat} {l : List UInt8} {p : Nat} {y : Int} (h : Rd w g bv l p y) : g < w.heap.size := by
  obtain ⟨c, hb, _⟩ := h.ex
  exact lt_of_block hb
theorem Rd.blt {w : World} {g : Nat} {l : List UInt8} {p : Nat} {y : Int} (h : Rd w g bv l p y) (hl : l ≠ []) : ∀ ad, bv = some ad → ad.block < w.heap.size := by
  obtain ⟨c, hb, _, hs⟩ := h.ex
  exact fun ad had => hs.lt ad had (by simpa [bcells] using hl)

end Go.Proofs.Ytaleclmccmeglaa
