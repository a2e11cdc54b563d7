/-
  What the walk of RoutePlays asks of both tables: an act; what is found, what is selected, which pairs there are.
-/
import Derived.Test.YthofoocknmkdjaaM27
namespace Go.Proofs.Ythofoocknmkdjaa
open Go.RowKit Go.Maps Go.Shelf
set_option linter.unusedSimpArgs false
set_option linter.unusedVariables false
set_option maxRecDepth 20000
/-- One of the list, at its place; or none. -/
def IsAt (K : List Ro) (x : Ro) (ok : Bool) (k : Int) : Prop := (ok = false ∧ k = -1 ∧ x = zeroR) ∨ (ok = true ∧ ∃ j : Nat, k = j ∧ K[j]? = some x)
theorem isAt_of (K : List Ro) (q : Ro → Bool) : IsAt K ((K.find? q).getD zeroR) (K.find? q).isSome (plI q K) := by
  rcases pl_some (so := q) (K := K) with ⟨h1, h2⟩ | ⟨j, n, h1, h2, h3⟩
  · exact .inl ⟨by rw [h2]; rfl, h1, by rw [h2]; rfl⟩
  · exact .inr ⟨by rw [h3]; rfl, j, h1, by rw [h3]; exact h2⟩
section
variable {w : World} {t mb r : Nat} {most : Int} {L K : List Ro} {W : World}
theorem doq_any (x : Ac) (hfit : AcFit x) (now : Int) (n0 : 0 ≤ now) (n1 : now ≤ 17592186044416) (c : Cn w t mb r) (s0 : Sd w t mb r most L K W) (hr : Rel L K) (hlL : L.length < 1000000) :
    Calls Try.prog 12 #[.pointer (some ⟨t, 0, none⟩), .pointer (some ⟨r, 0, none⟩), .int .i64 now, .agg (acs x).toArray] W (DoQ w t mb r most (L.length + 1)) := by
  by_cases k2 : x.k = 2
  · exact do_reck x now c s0 hr hlL k2
  · exact do_most x hfit now n0 n1 c s0 hr hlL k2
theorem sd_both (s : Sd w t mb r most L K W) (hr : Rel L K) (k : Ky) (hi : wfK k) : ∃ x ok z, IsAt K x ok z ∧ (∀ V, Sd w t mb r most L K V → Calls Try.prog 15 #[.pointer (some ⟨t, 0, none⟩), (Value.agg (qcells k.p).toArray), .int .i64 k.i, (Value.agg (acells k.a).toArray)] V (Gives V (.tuple #[rV x, .bool ok]))) ∧ (∀ V, Sd w t mb r most L K V → Calls Try.prog 16 #[.pointer (some ⟨r, 0, none⟩), (Value.agg (qcells k.p).toArray), .int .i64 k.i, (Value.agg (acells k.a).toArray)] V (Gives V (.int .i64 z))) :=
  ⟨_, _, _, isAt_of K (keyB k), fun V s' => sd_get s' hr k hi, fun V s' => sd_rfind s' k⟩
theorem sd_bothS (s : Sd w t mb r most L K W) (hr : Rel L K) (p : Pr) : ∃ x ok z, IsAt K x ok z ∧ (∀ V, Sd w t mb r most L K V → Calls Try.prog 17 #[.pointer (some ⟨t, 0, none⟩), (Value.agg (qcells p).toArray)] V (Gives V (.tuple #[rV x, .bool ok]))) ∧ (∀ V, Sd w t mb r most L K V → Calls Try.prog 18 #[.pointer (some ⟨r, 0, none⟩), (Value.agg (qcells p).toArray)] V (Gives V (.int .i64 z))) :=
  ⟨_, _, _, isAt_of K (selB p), fun V s' => sd_selected s' hr p, fun V s' => sd_rselected s' p⟩
theorem sd_pairs (s : Sd w t mb r most L K W) (hr : Rel L K) : Calls Try.prog 24 #[.pointer (some ⟨t, 0, none⟩)] W fun e w' => ∃ a c, e = .returned (.slice a (pairsR K).length c) ∧ PssW w' a (pairsR K) ∧ Below W.heap.size W w' := by
  refine (allPairs_any s.tb).mono ?_
  rintro e w' ⟨G, hp, ha, a, c, rfl, hO, hB⟩
  obtain rfl := rel_list hr hp ha
  exact ⟨a, c, rfl, (ps_of hO).2, hB⟩
theorem sd_rpairs (s : Sd w t mb r most L K W) : Calls Try.prog 25 #[.pointer (some ⟨r, 0, none⟩)] W fun e w' => ∃ a c, e = .returned (.slice a (pairsR K).length c) ∧ PssW w' a (pairsR K) ∧ Below W.heap.size W w' := by
  refine (rpairs_any s.rb).mono ?_
  rintro e w' ⟨a, c, rfl, hO, hB⟩
  exact ⟨a, c, rfl, (ps_of hO).2, hB⟩
theorem ss_at {ad : Option Addr} {j : Nat} {n : Ro} (h : SsW W ad K) (hj : K[j]? = some n) : ∃ g, ad = some ⟨g, 0, none⟩ ∧ j < K.length ∧ ∀ V, Below W.heap.size W V → LS V g (j * 81) n := by
  have hlt := (List.getElem?_eq_some_iff.1 hj).1
  obtain ⟨g, e, hg, hc⟩ := h.lies (by intro e; rw [e] at hlt; simp at hlt)
  exact ⟨g, e, hlt, fun V hV => (hc j n hj).below hV hg⟩
end
end Go.Proofs.Ythofoocknmkdjaa
