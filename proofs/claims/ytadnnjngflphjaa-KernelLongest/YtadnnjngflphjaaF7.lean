/-
  Entries in memory.
-/
import Derived.Test.YtadnnjngflphjaaBF
namespace Go.Proofs.Ytadnnjngflphjaa
open Go.RowKit Go.Maps Go.Shelf
set_option linter.unusedSimpArgs false
set_option linter.unusedVariables false
/-- Entries in memory. -/
structure EsW (w : World) (ad : Option Addr) (l : List En) : Prop where
  lies : l = [] ∨ ∃ g o, ad = some ⟨g, o, none⟩ ∧ g < w.heap.size ∧ ∀ (j : Nat) (p : En), l[j]? = some p → LE w g (o + j * 51) p
theorem EsW.below {w w' : World} {ad : Option Addr} {l : List En} (h : EsW w ad l) (hb : Below w.heap.size w w') : EsW w' ad l :=
  ⟨h.lies.imp id fun ⟨g, o, e, hg, hl⟩ => ⟨g, o, e, Nat.lt_of_lt_of_le hg hb.size, fun j p hp => rangeAt_below (hl j p hp) hb hg⟩⟩
theorem EsW.own {w : World} {B : Nat} {ad : Option Addr} {n c : Nat} {l : List En} (h : kE.Own w B (.slice ad n c) l) : n = l.length ∧ EsW w ad l := by
  obtain ⟨a, c', e, hat⟩ := Kd.own_at h
  cases e
  refine ⟨rfl, ⟨?_⟩⟩
  by_cases hl : l = []
  · exact .inl hl
  · obtain ⟨g, e2, _, hg, _, hc⟩ := hat hl
    exact .inr ⟨g, 0, e2, hg, fun j p hp => by rw [Nat.zero_add]; exact hc j p hp⟩
end Go.Proofs.Ytadnnjngflphjaa
