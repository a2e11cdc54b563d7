/-
  Plain facts of PickNone: the ways that are usable, and their places.
-/
import Derived.Test.YtjjfijbjnkgfbaaTeW
import Derived.Test.YtjjfijbjnkgfbaaYK
namespace Go.Proofs.Ytjjfijbjnkgfbaa
open Go.RowKit
set_option linter.unusedSimpArgs false
set_option linter.unusedVariables false
def gd (l : List Cd) (i : Nat) : Cd := l.getD i ⟨0, false, false⟩
def selA (l : List Cd) (j : Nat) : List Nat := (List.range j).filter fun i => us (gd l i)
def selU (l : List Cd) (j : Nat) : List Cd := (selA l j).map (gd l)
theorem gd_of {l : List Cd} {i : Nat} {c : Cd} (h : l[i]? = some c) : gd l i = c := by
  unfold gd
  rw [List.getD_eq_getElem?_getD, h]
  rfl
theorem selA_yes {l : List Cd} {j : Nat} (h : us (gd l j) = true) : selA l (j + 1) = selA l j ++ [j] := by
  unfold selA
  rw [List.range_succ, List.filter_append]
  simp [h]
theorem selA_no {l : List Cd} {j : Nat} (h : us (gd l j) = false) : selA l (j + 1) = selA l j := by
  unfold selA
  rw [List.range_succ, List.filter_append]
  simp [h]
theorem selU_yes {l : List Cd} {j : Nat} (h : us (gd l j) = true) : selU l (j + 1) = selU l j ++ [gd l j] := by
  unfold selU
  rw [selA_yes h, List.map_append]
  rfl
theorem selU_no {l : List Cd} {j : Nat} (h : us (gd l j) = false) : selU l (j + 1) = selU l j := by
  unfold selU
  rw [selA_no h]
theorem selA_len (l : List Cd) (j : Nat) : (selA l j).length ≤ j := by
  have := List.length_filter_le (fun i => us (gd l i)) (List.range j)
  rwa [List.length_range] at this
theorem selU_len (l : List Cd) (j : Nat) : (selU l j).length = (selA l j).length := by
  unfold selU
  rw [List.length_map]
theorem selA_mem (l : List Cd) (j i : Nat) : i ∈ selA l j ↔ i < j ∧ us (gd l i) = true := by
  unfold selA
  rw [List.mem_filter, List.mem_range]
theorem selA_up (l : List Cd) (j : Nat) : (selA l j).Pairwise (· < ·) := List.Pairwise.filter _ List.pairwise_lt_range
theorem up_lt {A : List Nat} (h : A.Pairwise (· < ·)) {s t : Nat} {x y : Nat} (hs : A[s]? = some x) (ht : A[t]? = some y) (hx : x < y) : s < t := by
  rw [List.pairwise_iff_getElem] at h
  obtain ⟨h1, rfl⟩ := List.getElem?_eq_some_iff.1 hs
  obtain ⟨h2, rfl⟩ := List.getElem?_eq_some_iff.1 ht
  rcases Nat.lt_trichotomy s t with e | e | e
  · exact e
  · subst e; omega
  · have := h t s h2 h1 e; omega
theorem selU_at {l : List Cd} {j t : Nat} {c : Cd} (h : (selU l j)[t]? = some c) : ∃ i, (selA l j)[t]? = some i ∧ gd l i = c ∧ i < j ∧ us c = true := by
  unfold selU at h
  rw [List.getElem?_map] at h
  cases e : (selA l j)[t]? with
  | none => rw [e] at h; cases h
  | some i =>
    rw [e] at h
    simp at h
    have := (selA_mem l j i).1 (List.mem_of_getElem? e)
    exact ⟨i, rfl, h, this.1, by rw [← h]; exact this.2⟩
theorem selU_of {l : List Cd} {j t i : Nat} (h : (selA l j)[t]? = some i) : (selU l j)[t]? = some (gd l i) := by
  unfold selU
  rw [List.getElem?_map, h]
  rfl
theorem selU_ok {l : List Cd} {j : Nat} (hj : j ≤ l.length) (h : ∀ c ∈ l, c.ok) : ∀ c ∈ selU l j, c.ok := by
  intro c hc
  obtain ⟨t, ht⟩ := List.mem_iff_getElem?.1 hc
  obtain ⟨i, _, e, hi, _⟩ := selU_at ht
  rw [← e, gd_of (List.getElem?_eq_getElem (show i < l.length by omega))]
  exact h _ (List.getElem_mem _)
theorem at_sel {l : List Cd} {i : Nat} {c : Cd} (hc : l[i]? = some c) (hu : us c = true) : ∃ t : Nat, (selA l l.length)[t]? = some i ∧ (selU l l.length)[t]? = some c := by
  have hi : i ∈ selA l l.length := (selA_mem l l.length i).2 ⟨(List.getElem?_eq_some_iff.1 hc).1, by rw [gd_of hc]; exact hu⟩
  obtain ⟨t, ht⟩ := List.mem_iff_getElem?.1 hi
  exact ⟨t, ht, by rw [selU_of ht, gd_of hc]⟩
theorem none_isB {l : List Cd} {d : Nat} (h : IsB (selU l l.length) (selU l l.length).length d) : ∃ k : Nat, (selA l l.length)[d]? = some k ∧ IsB l l.length k := by
  obtain ⟨b, hb, _, hu, hm⟩ := h
  obtain ⟨k, hk, e, hkl, _⟩ := selU_at hb
  have hl : l[k]? = some b := by rw [List.getElem?_eq_getElem hkl, ← gd_of (List.getElem?_eq_getElem hkl), e]
  refine ⟨k, hk, b, hl, hkl, hu, ?_⟩
  intro i c hi hc huc
  obtain ⟨t, ht, hut⟩ := at_sel hc huc
  have q := hm t c (List.getElem?_eq_some_iff.1 hut).1 hut huc
  exact ⟨q.1, fun hik => q.2 (up_lt (selA_up _ _) ht hk hik)⟩
theorem none_isF {l : List Cd} {d : Nat} (h : IsF st (selU l l.length) d) : ∃ k : Nat, (selA l l.length)[d]? = some k ∧ IsF st l k := by
  obtain ⟨b, hb, hs, hm⟩ := h
  obtain ⟨k, hk, e, hkl, _⟩ := selU_at hb
  have hl : l[k]? = some b := by rw [List.getElem?_eq_getElem hkl, ← gd_of (List.getElem?_eq_getElem hkl), e]
  refine ⟨k, hk, b, hl, hs, ?_⟩
  intro i c hi hc
  cases hq : st c with
  | false => rfl
  | true =>
    obtain ⟨t, ht, hut⟩ := at_sel hc (st_us hq)
    have := hm t c (up_lt (selA_up _ _) ht hk hi) hut
    rw [hq] at this
    cases this
theorem none_best (l : List Cd) : ((best l).2 = true ∧ (best (selU l l.length)).2 = true ∧ (selA l l.length)[(best (selU l l.length)).1]? = some (best l).1) ∨ ((best l).2 = false ∧ selA l l.length = []) := by
  cases e : (best (selU l l.length)).2 with
  | true =>
    obtain ⟨k, hk, hB⟩ := none_isB (best_is e)
    have q := best_of hB
    exact .inl ⟨by rw [q], rfl, by rw [hk, q]⟩
  | false =>
    right
    have hn : selA l l.length = [] := by
      cases hA : selA l l.length with
      | nil => rfl
      | cons i r =>
        have h0 : (selA l l.length)[0]? = some i := by rw [hA]; rfl
        have h1 := selU_of h0
        have h2 := (best_no e).2 _ (List.mem_of_getElem? h1)
        have h3 := ((selA_mem l l.length i).1 (List.mem_of_getElem? h0)).2
        rw [h2] at h3
        cases h3
    refine ⟨?_, hn⟩
    rw [best_any, List.any_eq_false]
    intro c hc hu
    obtain ⟨i, hi⟩ := List.mem_iff_getElem?.1 hc
    obtain ⟨t, ht, _⟩ := at_sel hi hu
    rw [hn] at ht
    cases ht
theorem mAt_sel {l : List Cd} {d k : Nat} (h : (selA l l.length)[d]? = some k) : mAt (selU l l.length) d = mAt l k := by
  rw [mAt_of (selU_of h)]
  rfl
theorem none_pkd (mg : Int) (l : List Cd) (h : (best l).2 = true) : (selA l l.length)[(pkd mg (selU l l.length)).1]? = some (pkd mg l).1 := by
  rcases none_best l with ⟨_, hU, hA⟩ | ⟨h', _⟩
  · have mB := mAt_sel hA
    unfold pkd
    cases e : fst? st (selU l l.length) with
    | none =>
      have e' : fst? st l = none := fst_not fun c hc => by
        cases hq : st c with
        | false => rfl
        | true =>
          obtain ⟨i, hi⟩ := List.mem_iff_getElem?.1 hc
          obtain ⟨t, _, ht⟩ := at_sel hi (st_us hq)
          have := fst_none e c (List.mem_of_getElem? ht)
          rw [hq] at this
          cases this
      rw [e']
      exact hA
    | some d =>
      obtain ⟨k, hk, hF⟩ := none_isF (fst_some e)
      rw [fst_of hF]
      dsimp only
      rw [mB, mAt_sel hk]
      by_cases hc : mAt l k ≤ mAt l (best l).1 + mg
      · rw [if_pos hc, if_pos hc]
        exact hk
      · rw [if_neg hc, if_neg hc]
        exact hA
  · rw [h'] at h
    cases h
theorem none_stv (l : List Cd) (j : Nat) : stv (selU l j) = false := by
  unfold stv
  cases hA : selU l j with
  | nil => rfl
  | cons c r =>
    have h0 : (selU l j)[0]? = some c := by rw [hA]; rfl
    obtain ⟨_, _, _, _, hu⟩ := selU_at h0
    simp [hu]
end Go.Proofs.Ytjjfijbjnkgfbaa
