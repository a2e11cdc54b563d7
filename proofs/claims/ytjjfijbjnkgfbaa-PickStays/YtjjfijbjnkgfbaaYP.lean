/-
  Plain facts of ways: the best of them, the first that was taken, the one that is taken now.
-/
import Derived.Test.YtjjfijbjnkgfbaaY0
namespace Go.Proofs.Ytjjfijbjnkgfbaa
open Go.RowKit
set_option linter.unusedSimpArgs false
/-- The best stands here. -/
def IsB (l : List Cd) (n k : Nat) : Prop := ∃ b, l[k]? = some b ∧ k < n ∧ us b = true ∧ ∀ i c, i < n → l[i]? = some c → us c = true → b.m ≤ c.m ∧ (i < k → b.m < c.m)
theorem IsB.only {l : List Cd} {n k k' : Nat} (h : IsB l n k) (h' : IsB l n k') : k = k' := by
  obtain ⟨b, e, hn, hu, hm⟩ := h
  obtain ⟨b', e', hn', hu', hm'⟩ := h'
  have p := hm k' b' hn' e' hu'
  have q := hm' k b hn e hu
  rcases Nat.lt_trichotomy k k' with h | h | h
  · have := q.2 h; omega
  · exact h
  · have := p.2 h; omega
theorem bz_step (l : List Cd) (j : Nat) (c b : Cd) (hc : l[j]? = some c) (hb : l[(bz l j).1]? = some b) : bz l (j + 1) = if us c && (!(bz l j).2 || decide (c.m < b.m)) then (j, true) else bz l j := by
  rw [bz, hc, hb]
theorem bz_spec (l : List Cd) : ∀ j, j ≤ l.length → ((bz l j).2 = false ∧ (bz l j).1 = 0 ∧ ∀ i c, i < j → l[i]? = some c → us c = false) ∨ ((bz l j).2 = true ∧ IsB l j (bz l j).1)
  | 0, _ => .inl ⟨rfl, rfl, fun i _ h => absurd h (Nat.not_lt_zero i)⟩
  | j + 1, h => by
    have hj : l[j]? = some l[j] := List.getElem?_eq_getElem (by omega)
    rcases bz_spec l j (by omega) with ⟨h2, h1, hn⟩ | ⟨h2, hB⟩
    · have h0 : l[(bz l j).1]? = some l[0] := by rw [h1]; exact List.getElem?_eq_getElem (by omega)
      rw [bz_step l j _ _ hj h0, h2]
      by_cases hu : us l[j] = true
      · rw [hu]
        refine .inr ⟨rfl, l[j], hj, by simp, hu, ?_⟩
        intro i c hi hc huc
        by_cases e : i = j
        · subst e
          rw [hj] at hc
          cases hc
          exact ⟨Int.le_refl _, fun h => absurd h (Nat.lt_irrefl _)⟩
        · rw [hn i c (by omega) hc] at huc
          cases huc
      · rw [Bool.not_eq_true] at hu
        rw [hu]
        refine .inl ⟨h2, h1, ?_⟩
        intro i c hi hc
        by_cases e : i = j
        · subst e
          rw [hj] at hc
          cases hc
          exact hu
        · exact hn i c (by omega) hc
    · obtain ⟨b, hb, hk, hub, hm⟩ := hB
      rw [bz_step l j _ _ hj hb, h2]
      by_cases hu : us l[j] = true
      · by_cases hlt : l[j].m < b.m
        · rw [hu, decide_eq_true hlt]
          refine .inr ⟨rfl, l[j], hj, by simp, hu, ?_⟩
          intro i c hi hc huc
          by_cases e : i = j
          · subst e
            rw [hj] at hc
            cases hc
            exact ⟨Int.le_refl _, fun h => absurd h (Nat.lt_irrefl _)⟩
          · have := (hm i c (by omega) hc huc).1
            exact ⟨by omega, fun _ => by omega⟩
        · rw [hu, decide_eq_false hlt]
          refine .inr ⟨h2, b, hb, by show _ < _; simp; omega, hub, ?_⟩
          intro i c hi hc huc
          simp only [Bool.not_true, Bool.or_self, Bool.and_false, Bool.false_eq_true, if_false] at *
          by_cases e : i = j
          · subst e
            rw [hj] at hc
            cases hc
            exact ⟨by omega, fun h => by omega⟩
          · exact hm i c (by omega) hc huc
      · rw [Bool.not_eq_true] at hu
        rw [hu]
        refine .inr ⟨h2, b, hb, by show _ < _; simp; omega, hub, ?_⟩
        intro i c hi hc huc
        simp only [Bool.false_and, Bool.false_eq_true, if_false] at *
        by_cases e : i = j
        · subst e
          rw [hj] at hc
          cases hc
          rw [hu] at huc
          cases huc
        · exact hm i c (by omega) hc huc
theorem bz_lt (l : List Cd) (j : Nat) (h : j ≤ l.length) (hn : 0 < l.length) : (bz l j).1 < l.length := by
  rcases bz_spec l j h with ⟨_, h1, _⟩ | ⟨_, b, hb, _⟩
  · omega
  · exact (List.getElem?_eq_some_iff.1 hb).1
def best (l : List Cd) : Nat × Bool := bz l l.length
/-- The first of which p is true, behind j ways. -/
def IsF (p : Cd → Bool) (l : List Cd) (k : Nat) : Prop := ∃ c, l[k]? = some c ∧ p c = true ∧ ∀ i c', i < k → l[i]? = some c' → p c' = false
theorem IsF.only {p : Cd → Bool} {l : List Cd} {k k' : Nat} (h : IsF p l k) (h' : IsF p l k') : k = k' := by
  obtain ⟨b, e, hu, hm⟩ := h
  obtain ⟨b', e', hu', hm'⟩ := h'
  rcases Nat.lt_trichotomy k k' with q | q | q
  · have := hm' k b q e; rw [hu] at this; cases this
  · exact q
  · have := hm k' b' q e'; rw [hu'] at this; cases this
def fst? (p : Cd → Bool) (l : List Cd) : Option Nat := l.findIdx? p
theorem fst_some {p : Cd → Bool} {l : List Cd} {k : Nat} (h : fst? p l = some k) : IsF p l k := by
  unfold fst? at h
  rw [List.findIdx?_eq_some_iff_getElem] at h
  obtain ⟨hk, hp, hm⟩ := h
  refine ⟨l[k], List.getElem?_eq_getElem hk, hp, ?_⟩
  intro i c' hi hc
  have q := hm i hi
  rw [List.getElem?_eq_getElem (by omega)] at hc
  cases hc
  simpa using q
theorem fst_none {p : Cd → Bool} {l : List Cd} (h : fst? p l = none) : ∀ c ∈ l, p c = false := by
  unfold fst? at h
  rw [List.findIdx?_eq_none_iff] at h
  exact h
theorem fst_of {p : Cd → Bool} {l : List Cd} {k : Nat} (h : IsF p l k) : fst? p l = some k := by
  cases e : fst? p l with
  | none =>
    obtain ⟨c, hc, hp, _⟩ := h
    have := fst_none e c (List.mem_of_getElem? hc)
    rw [hp] at this
    cases this
  | some j => rw [(fst_some e).only h]
theorem fst_not {p : Cd → Bool} {l : List Cd} (h : ∀ c ∈ l, p c = false) : fst? p l = none := by
  unfold fst?
  rw [List.findIdx?_eq_none_iff]
  exact h
def mAt (l : List Cd) (k : Nat) : Int := (l.getD k ⟨0, false, false⟩).m
/-- The way to take. -/
def pkd (mg : Int) (l : List Cd) : Nat × Bool := match fst? st l with
  | some i => if mAt l i ≤ mAt l (best l).1 + mg then (i, true) else best l
  | none => best l
def num (x : Option Nat) : Int := match x with
  | some i => i
  | none => -1
def neg1 (x : Nat × Bool) : Int := if x.2 then x.1 else -1
theorem best_any (l : List Cd) : (best l).2 = l.any us := by
  rcases bz_spec l l.length (Nat.le_refl _) with ⟨h, _, hn⟩ | ⟨h, b, hb, _, hu, _⟩
  · show (bz l l.length).2 = _
    rw [h]
    symm
    rw [List.any_eq_false]
    intro c hc
    obtain ⟨i, hi, rfl⟩ := List.mem_iff_getElem.1 hc
    rw [hn i _ hi (List.getElem?_eq_getElem hi)]
    simp
  · show (bz l l.length).2 = _
    rw [h]
    symm
    rw [List.any_eq_true]
    exact ⟨b, List.mem_of_getElem? hb, hu⟩
theorem best_is {l : List Cd} (h : (best l).2 = true) : IsB l l.length (best l).1 := by
  rcases bz_spec l l.length (Nat.le_refl _) with ⟨h', _⟩ | ⟨_, hB⟩
  · have h2 : (bz l l.length).2 = true := h
    rw [h'] at h2
    cases h2
  · exact hB
theorem best_of {l : List Cd} {k : Nat} (h : IsB l l.length k) : best l = (k, true) := by
  have e : (best l).2 = true := by
    rw [best_any, List.any_eq_true]
    obtain ⟨b, hb, _, hu, _⟩ := h
    exact ⟨b, List.mem_of_getElem? hb, hu⟩
  have := (best_is e).only h
  exact Prod.ext this e
theorem best_no {l : List Cd} (h : (best l).2 = false) : best l = (0, false) ∧ (∀ c ∈ l, us c = false) := by
  refine ⟨?_, ?_⟩
  · rcases bz_spec l l.length (Nat.le_refl _) with ⟨h1, h2, _⟩ | ⟨h1, _⟩
    · exact Prod.ext h2 h1
    · have h2 : (bz l l.length).2 = false := h
      rw [h1] at h2
      cases h2
  · rw [best_any, List.any_eq_false] at h
    intro c hc
    simpa using h c hc
theorem mAt_of {l : List Cd} {k : Nat} {c : Cd} (h : l[k]? = some c) : mAt l k = c.m := by
  unfold mAt
  rw [List.getD_eq_getElem?_getD, h]
  rfl
/-- What is taken is a way that is usable, and within the margin. -/
theorem pkd_is {mg : Int} {l : List Cd} (h0 : 0 ≤ mg) (h : (pkd mg l).2 = true) : (best l).2 = true ∧ ∃ c, l[(pkd mg l).1]? = some c ∧ us c = true ∧ c.m ≤ mAt l (best l).1 + mg := by
  unfold pkd at *
  have back : (best l).2 = true → (best l).2 = true ∧ ∃ c, l[(best l).1]? = some c ∧ us c = true ∧ c.m ≤ mAt l (best l).1 + mg := by
    intro e
    obtain ⟨b, hb, _, hu, _⟩ := best_is e
    refine ⟨e, b, hb, hu, ?_⟩
    rw [mAt_of hb]; omega
  cases e : fst? st l with
  | none => rw [e] at h; exact back h
  | some i =>
    rw [e] at h
    dsimp only at *
    split
    · rename_i hm
      obtain ⟨c, hc, hs, _⟩ := fst_some e
      have hu : us c = true := by unfold st at hs; simp at hs; exact hs.2
      refine ⟨?_, c, hc, hu, ?_⟩
      · rw [best_any, List.any_eq_true]
        exact ⟨c, List.mem_of_getElem? hc, hu⟩
      · rw [← mAt_of hc]; exact hm
    · rename_i hm
      rw [if_neg hm] at h
      exact back h
theorem pkd_some (mg : Int) (l : List Cd) : (pkd mg l).2 = (best l).2 := by
  unfold pkd
  split
  · rename_i i e
    split
    · obtain ⟨c, hc, hs, _⟩ := fst_some e
      have hu : us c = true := by unfold st at hs; simp at hs; exact hs.2
      show true = _
      rw [best_any]
      symm
      rw [List.any_eq_true]
      exact ⟨c, List.mem_of_getElem? hc, hu⟩
    · rfl
  · rfl
end Go.Proofs.Ytjjfijbjnkgfbaa
