/-
  The heap of timers keeps its order: pushing, fixing and removing leave a heap, and a heap's first comes first.
-/
import Derived.Test.YtkamcnjofpamhaaTOrd
import Derived.Test.YtkamcnjofpamhaaTHeap
import Derived.Test.YtkamcnjofpamhaaTMap
namespace Go.Proofs.Ytkamcnjofpamhaa
open Go.RowKit
set_option linter.unusedSimpArgs false
def el (L : List Tm) (k : Nat) : Tm := L[k]?.getD ⟨0, 0, ⟨#[]⟩⟩
theorem el_at {L : List Tm} {k : Nat} (h : k < L.length) : el L k = L[k] := by simp [el, h]
theorem el_swp {L : List Tm} {i j : Nat} (hi : i < L.length) (hj : j < L.length) (k : Nat) : el (swp L i j) k = if k = j then el L i else if k = i then el L j else el L k := by
  by_cases hk : k < L.length
  · rw [el_at (by rw [swp_len]; exact hk), swp_at hi hj, el_at hi, el_at hj, el_at hk]
  · have h1 : k ≠ j := by omega
    have h2 : k ≠ i := by omega
    rw [if_neg h1, if_neg h2]
    have h3 : ¬ k < (swp L i j).length := by rw [swp_len]; exact hk
    simp only [el, List.getElem?_eq_none (Nat.not_lt.1 h3), List.getElem?_eq_none (Nat.not_lt.1 hk)]
theorem les_el {L : List Tm} {a b : Nat} (ha : a < L.length) (hb : b < L.length) : les L a b = true ↔ Ah (el L a) (el L b) := by
  rw [les_eq ha hb, decide_eq_true_eq, cmpT_ah, el_at ha, el_at hb]
theorem ah_asymm {s t : Tm} (h : Ah s t) : ¬ Ah t s := fun k => ah_irrefl _ (ah_trans h k)
/-- The first n of a line are a heap. -/
def Hp (L : List Tm) (n : Nat) : Prop := ∀ k, 0 < k → k < n → ¬ Ah (el L k) (el L ((k - 1) / 2))
theorem Hp.root {L : List Tm} {n : Nat} (h : Hp L n) : ∀ k, k < n → ¬ Ah (el L k) (el L 0) := by
  intro k
  induction k using Nat.strongRecOn with
  | _ k ih =>
    intro hk
    by_cases h0 : k = 0
    · subst h0; exact ah_irrefl _
    · exact ah_ntrans (h k (by omega) hk) (ih _ (by omega) (by omega))
theorem upF_heap : ∀ (f : Nat) (L : List Tm) (j n : Nat), j ≤ f → j < n → n ≤ L.length →
    (∀ k, 0 < k → k < n → k ≠ j → ¬ Ah (el L k) (el L ((k - 1) / 2))) → (∀ k, 0 < k → k < n → (k - 1) / 2 = j → 0 < j → ¬ Ah (el L k) (el L ((j - 1) / 2))) → Hp (upF f L j) n
  | 0, L, j, n, hf, hj, hn, h1, h2 => by
    intro k k0 kn
    exact h1 k k0 kn (by omega)
  | f + 1, L, j, n, hf, hj, hn, h1, h2 => by
    unfold upF
    split
    · intro k k0 kn
      exact h1 k k0 kn (by omega)
    · rename_i hp
      have hp0 : 0 < j := by omega
      have hpl : (j - 1) / 2 < j := by omega
      split
      · rename_i hl
        rw [les_el (by omega) (by omega)] at hl
        refine upF_heap f _ _ n (by omega) (by omega) (by rw [swp_len]; exact hn) (fun k k0 kn kne => ?_) (fun k k0 kn kp p0 => ?_)
        · rw [el_swp (by omega) (by omega), el_swp (by omega) (by omega)]
          by_cases a1 : k = j
          · subst a1
            rw [if_pos rfl, if_neg (by omega), if_pos rfl]
            exact ah_asymm hl
          · rw [if_neg a1, if_neg kne]
            by_cases a2 : (k - 1) / 2 = j
            · rw [if_pos a2]
              exact h2 k k0 kn a2 hp0
            · rw [if_neg a2]
              by_cases a3 : (k - 1) / 2 = (j - 1) / 2
              · rw [if_pos a3]
                intro q
                have := h1 k k0 kn a1
                rw [a3] at this
                exact this (ah_trans q hl)
              · rw [if_neg a3]
                exact h1 k k0 kn a1
        · rw [el_swp (by omega) (by omega), el_swp (by omega) (by omega)]
          have e1 : ((j - 1) / 2 - 1) / 2 ≠ j := by omega
          have e2 : ((j - 1) / 2 - 1) / 2 ≠ (j - 1) / 2 := by omega
          rw [if_neg e1, if_neg e2]
          have hpp := h1 ((j - 1) / 2) p0 (by omega) (by omega)
          by_cases a1 : k = j
          · rw [if_pos a1]; exact hpp
          · rw [if_neg a1, if_neg (by omega)]
            have := h1 k k0 kn a1
            rw [kp] at this
            exact ah_ntrans this hpp
      · rename_i hl
        have hl' : ¬ Ah (el L j) (el L ((j - 1) / 2)) := fun q => hl ((les_el (by omega) (by omega)).2 q)
        intro k k0 kn
        by_cases a1 : k = j
        · subst a1; exact hl'
        · exact h1 k k0 kn a1
/-- The kid that comes first. -/
theorem kid_or (L : List Tm) (i n : Nat) (hn : n ≤ L.length) (h : 2 * i + 1 < n) : kid L i n < n ∧ (kid L i n - 1) / 2 = i ∧ i < kid L i n ∧ ∀ k, k < n → 0 < k → (k - 1) / 2 = i → ¬ Ah (el L k) (el L (kid L i n)) := by
  unfold kid
  split
  · rename_i hc
    have hl := (les_el (by omega) (by omega)).1 hc.2
    refine ⟨by omega, by omega, by omega, fun k kn k0 kp => ?_⟩
    have : k = 2 * i + 1 ∨ k = 2 * i + 2 := by omega
    rcases this with rfl | rfl
    · exact ah_asymm hl
    · exact ah_irrefl _
  · rename_i hc
    refine ⟨by omega, by omega, by omega, fun k kn k0 kp => ?_⟩
    have : k = 2 * i + 1 ∨ k = 2 * i + 2 := by omega
    rcases this with rfl | rfl
    · exact ah_irrefl _
    · exact fun q => hc ⟨kn, (les_el (by omega) (by omega)).2 q⟩
/-- Behind a step down. -/
theorem dn_step {L : List Tm} {i n : Nat} (hn : n ≤ L.length) (h : 2 * i + 1 < n) (hl : Ah (el L (kid L i n)) (el L i))
    (h1 : ∀ k, 0 < k → k < n → (k - 1) / 2 ≠ i → k ≠ i → ¬ Ah (el L k) (el L ((k - 1) / 2))) (h2 : ∀ k, 0 < k → k < n → (k - 1) / 2 = i → 0 < i → ¬ Ah (el L k) (el L ((i - 1) / 2))) :
    (∀ k, 0 < k → k < n → (k - 1) / 2 ≠ kid L i n → ¬ Ah (el (swp L i (kid L i n)) k) (el (swp L i (kid L i n)) ((k - 1) / 2))) ∧ (∀ k, 0 < k → k < n → (k - 1) / 2 = kid L i n → 0 < kid L i n → ¬ Ah (el (swp L i (kid L i n)) k) (el (swp L i (kid L i n)) ((kid L i n - 1) / 2))) := by
  obtain ⟨c1, c2, c3, c4⟩ := kid_or L i n hn h
  generalize kid L i n = c at *
  refine ⟨fun k k0 kn kp => ?_, fun k k0 kn kp _ => ?_⟩
  · rw [el_swp (by omega) (by omega), el_swp (by omega) (by omega), if_neg kp]
    by_cases a1 : k = c
    · rw [if_pos a1, if_pos (by rw [a1]; exact c2)]
      exact ah_asymm hl
    · rw [if_neg a1]
      by_cases a2 : k = i
      · rw [if_pos a2, if_neg (by omega), a2]
        exact h2 c (by omega) c1 c2 (by omega)
      · rw [if_neg a2]
        by_cases a3 : (k - 1) / 2 = i
        · rw [if_pos a3]
          exact c4 k kn k0 a3
        · rw [if_neg a3]
          exact h1 k k0 kn a3 a2
  · rw [el_swp (by omega) (by omega), el_swp (by omega) (by omega), c2, if_neg (by omega), if_neg (by omega), if_neg (by omega), if_pos rfl]
    have := h1 k k0 kn (by omega) (by omega)
    rw [kp] at this
    exact this
theorem downF_heap : ∀ (f : Nat) (L : List Tm) (i n : Nat), n ≤ f + i → n ≤ L.length → i < n →
    (∀ k, 0 < k → k < n → (k - 1) / 2 ≠ i → ¬ Ah (el L k) (el L ((k - 1) / 2))) → (∀ k, 0 < k → k < n → (k - 1) / 2 = i → 0 < i → ¬ Ah (el L k) (el L ((i - 1) / 2))) → Hp (downF f L i n).1 n
  | 0, L, i, n, hf, hn, hi, h1, h2 => by omega
  | f + 1, L, i, n, hf, hn, hi, h1, h2 => by
    unfold downF
    split
    · intro k k0 kn
      exact h1 k k0 kn (by omega)
    · rename_i hk
      have hc := kid_or L i n hn (by omega)
      split
      · rename_i hl
        rw [les_el (by omega) (by omega)] at hl
        have hd := dn_step hn (by omega) hl (fun k k0 kn kp _ => h1 k k0 kn kp) h2
        exact downF_heap f _ _ n (by omega) (by rw [swp_len]; exact hn) hc.1 hd.1 hd.2
      · rename_i hl
        have hl' : ¬ Ah (el L (kid L i n)) (el L i) := fun q => hl ((les_el (by omega) (by omega)).2 q)
        intro k k0 kn
        by_cases a1 : (k - 1) / 2 = i
        · rw [a1]
          exact ah_ntrans (hc.2.2.2 k kn k0 a1) hl'
        · exact h1 k k0 kn a1
theorem downF_ge : ∀ (f : Nat) (L : List Tm) (i n : Nat), n ≤ L.length → i ≤ (downF f L i n).2
  | 0, _, _, _, _ => Nat.le_refl _
  | f + 1, L, i, n, hn => by
    unfold downF
    split
    · exact Nat.le_refl _
    · split
      · have hc := kid_or L i n hn (by omega)
        exact Nat.le_trans (Nat.le_of_lt hc.2.2.1) (downF_ge f _ _ n (by rw [swp_len]; exact hn))
      · exact Nat.le_refl _
/-- One of a heap has changed: Fix makes a heap again. -/
theorem fixF_heap (L : List Tm) (i n : Nat) (hn : n ≤ L.length) (hi : i < n)
    (h1 : ∀ k, 0 < k → k < n → (k - 1) / 2 ≠ i → k ≠ i → ¬ Ah (el L k) (el L ((k - 1) / 2))) (h2 : ∀ k, 0 < k → k < n → (k - 1) / 2 = i → 0 < i → ¬ Ah (el L k) (el L ((i - 1) / 2))) : Hp (fixF L i n) n := by
  obtain ⟨f, rfl⟩ : ∃ f, n = f + 1 := ⟨n - 1, by omega⟩
  unfold fixF downF
  by_cases hk : f + 1 ≤ 2 * i + 1
  · simp only [if_pos hk, Nat.lt_irrefl, if_false]
    exact upF_heap i L i (f + 1) (Nat.le_refl _) hi hn (fun k k0 kn kne => h1 k k0 kn (by omega) kne) h2
  · have hc := kid_or L i (f + 1) hn (by omega)
    by_cases hl : les L (kid L i (f + 1)) i = true
    · simp only [if_neg hk, if_pos hl]
      have hl' := (les_el (by omega) (by omega)).1 hl
      have hd := dn_step hn (by omega) hl' h1 h2
      have hg := downF_ge f (swp L i (kid L i (f + 1))) (kid L i (f + 1)) (f + 1) (by rw [swp_len]; exact hn)
      rw [if_pos (by omega)]
      exact downF_heap f _ _ (f + 1) (by omega) (by rw [swp_len]; exact hn) hc.1 hd.1 hd.2
    · simp only [if_neg hk, if_neg hl, Nat.lt_irrefl, if_false]
      have hl' : ¬ Ah (el L (kid L i (f + 1))) (el L i) := fun q => hl ((les_el (by omega) (by omega)).2 q)
      refine upF_heap i L i (f + 1) (Nat.le_refl _) hi hn (fun k k0 kn kne => ?_) h2
      by_cases a1 : (k - 1) / 2 = i
      · rw [a1]
        exact ah_ntrans (hc.2.2.2 k kn k0 a1) hl'
      · exact h1 k k0 kn a1 kne
theorem push_heap (L : List Tm) (t : Tm) (h : Hp L L.length) : Hp (upF L.length (L ++ [t]) L.length) (L.length + 1) := by
  have e : ∀ k, k < L.length → el (L ++ [t]) k = el L k := fun k hk => by simp [el, List.getElem?_append_left hk]
  refine upF_heap _ _ _ _ (Nat.le_refl _) (by omega) (by simp) (fun k k0 kn kne => ?_) (fun k k0 kn kp _ => ?_)
  · rw [e k (by omega), e _ (by omega)]
    exact h k k0 (by omega)
  · omega
theorem set_heap (L : List Tm) (j : Nat) (a : Int) (hj : j < L.length) (h : Hp L L.length) : Hp (fixF (setAt L j a) j L.length) L.length := by
  have e : ∀ k, k ≠ j → el (setAt L j a) k = el L k := fun k hk => by
    rw [setAt_eq hj]
    have hjk : ¬ j = k := fun q => hk q.symm
    simp [el, List.getElem?_set, hjk]
  refine fixF_heap _ _ _ (by rw [setAt_len]; exact Nat.le_refl _) hj (fun k k0 kn kp kne => ?_) (fun k k0 kn kp j0 => ?_)
  · rw [e k kne, e _ kp]
    exact h k k0 kn
  · rw [e k (by omega), e _ (by omega)]
    have h3 := h k k0 kn
    rw [kp] at h3
    exact ah_ntrans h3 (h j j0 hj)
/-- The first is taken away: the rest is a heap. -/
theorem pop_heap (L : List Tm) (hl : 0 < L.length) (h : Hp L L.length) : Hp (remF L 0).dropLast (L.length - 1) := by
  have hd : ∀ K : List Tm, K.length = L.length → Hp K (L.length - 1) → Hp K.dropLast (L.length - 1) := fun K hK hh k k0 kn => by
    have e : ∀ k, k < L.length - 1 → el K.dropLast k = el K k := fun k hk => by
      rw [el_at (by simp; omega), el_at (by omega)]
      simp
    rw [e k kn, e _ (by omega)]
    exact hh k k0 kn
  refine hd _ (remF_perm L 0).length_eq ?_
  unfold remF
  split
  · intro k k0 kn
    omega
  · refine fixF_heap _ _ _ (by rw [swp_len]; omega) (by omega) (fun k k0 kn kp kne => ?_) (fun k k0 kn kp j0 => by omega)
    rw [el_swp hl (by omega), el_swp hl (by omega), if_neg (by omega), if_neg kne, if_neg (by omega), if_neg kp]
    exact h k k0 (by omega)
end Go.Proofs.Ytkamcnjofpamhaa
