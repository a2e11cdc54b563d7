/-
  What is found behind acts; what is not feasible stays so.
-/
import Derived.Test.YtdcbnibgckdkbaaFoW
namespace Go.Proofs.Ytdcbnibgckdkbaa
open Go.RowKit Go.Maps Go.Shelf
set_option linter.unusedSimpArgs false
set_option linter.unusedVariables false
set_option maxRecDepth 20000
theorem getN_put_same {L : List Sr} {n : Sr} {p : Pr} {i : Id8} (h : n.p = p ∧ n.id = i) : getN (putN L n) p i = some n := by
  obtain ⟨rfl, rfl⟩ := h
  cases hg : getN (putN L n) n.p n.id with
  | none =>
    have := getN_none hg n (mem_putN.2 (.inl rfl))
    rw [keyB_iff.2 ⟨rfl, rfl⟩] at this
    cases this
  | some x =>
    obtain ⟨h1, h2, h3⟩ := getN_some hg
    rcases mem_putN.1 h1 with rfl | ⟨_, hb⟩
    · rfl
    · rw [keyB_iff.2 ⟨h2, h3⟩] at hb
      cases hb
theorem find_map {f : Sr → Sr} {q : Sr → Bool} : ∀ {L : List Sr}, (∀ x ∈ L, q x = true → f x = x) → (∀ x ∈ L, q x = false → q (f x) = false) → (L.map f).find? q = L.find? q
  | [], _, _ => rfl
  | x :: L, h1, h2 => by
    rw [List.map_cons, List.find?_cons, List.find?_cons]
    cases hq : q x with
    | true => rw [h1 x (by simp) hq, hq]
    | false =>
      rw [h2 x (by simp) hq]
      exact find_map (fun y hy => h1 y (by simp [hy])) (fun y hy => h2 y (by simp [hy]))
theorem getN_put_other {L : List Sr} {n : Sr} {p : Pr} {i : Id8} (h : ¬ (n.p = p ∧ n.id = i)) : getN (putN L n) p i = getN L p i := by
  have hb : keyB p i n = false := by
    cases hk : keyB p i n
    · rfl
    · exact absurd (keyB_iff.1 hk) h
  unfold putN getN
  split
  · apply find_map
    · intro x _ hx
      obtain ⟨h1, h2⟩ := keyB_iff.1 hx
      have : keyB n.p n.id x = false := by
        cases hk : keyB n.p n.id x
        · rfl
        · obtain ⟨k1, k2⟩ := keyB_iff.1 hk
          exact absurd ⟨k1 ▸ h1, k2 ▸ h2⟩ h
      simp [this]
    · intro x _ hx
      split
      · exact hb
      · exact hx
  · rw [List.find?_append]
    simp [hb]
theorem getN_filter {L : List Sr} {q : Sr → Bool} {p : Pr} {i : Id8} (hnd : (L.map keyN).Nodup) : getN (L.filter q) p i = match getN L p i with | none => none | some n => if q n then some n else none := by
  induction L with
  | nil => rfl
  | cons x L ih =>
    rw [List.map_cons, List.nodup_cons] at hnd
    have ih := ih hnd.2
    unfold getN at *
    rw [List.find?_cons]
    cases hk : keyB p i x with
    | false =>
      cases hq : q x
      · rw [List.filter_cons_of_neg (by simp [hq])]
        exact ih
      · rw [List.filter_cons_of_pos (by simp [hq]), List.find?_cons, hk]
        exact ih
    | true =>
      have hno : ∀ y ∈ L, keyB p i y = false := fun y hy => by
        cases hy2 : keyB p i y
        · rfl
        · exfalso
          obtain ⟨a1, a2⟩ := keyB_iff.1 hk
          obtain ⟨b1, b2⟩ := keyB_iff.1 hy2
          exact hnd.1 (by
            have : keyN y = keyN x := by unfold keyN; rw [a1, a2, b1, b2]
            rw [← this]
            exact List.mem_map_of_mem hy)
      dsimp only
      cases hq : q x
      · rw [List.filter_cons_of_neg (by simp [hq]), List.find?_eq_none.2]
        · rfl
        · intro y hy
          rw [hno y (List.mem_filter.1 hy).1]
          simp
      · rw [List.filter_cons_of_pos (by simp [hq]), List.find?_cons, hk]
        rfl
/-- Below 16001 a seqno is newer if it is greater. -/
theorem less_low {a b : Int} (a0 : 0 ≤ a) (a1 : a ≤ 16000) (b0 : 0 ≤ b) (b1 : b ≤ 16000) : Sn.lessB a b = decide (a < b) := by
  unfold Sn.lessB
  by_cases h : a < b
  · rw [decide_eq_true h, decide_eq_true (by omega), decide_eq_true (by omega)]; rfl
  · rw [decide_eq_false h]
    by_cases e : a = b
    · subst e
      rw [decide_eq_false (by omega)]; rfl
    · rw [Bool.and_eq_false_iff]
      right
      exact decide_eq_false (by omega)
/-- What is not feasible stays so. -/
theorem fea_keep {s m : Int} {n : Sr} {s' m' : Int} (s0 : 0 ≤ s) (s1 : s ≤ 16000) (hm : m ≠ 65535) (n0 : 0 ≤ n.s) (n1 : n.s ≤ 16000) (k0 : 0 ≤ s') (k1 : s' ≤ 16000) (h : feaO (some n) s m = false) (p : Pr) (i : Id8) (now : Int) : feaO (some (keepS (some n) now p i s' m')) s m = false := by
  unfold feaO Sn.feaB at *
  have hm' : (m == 65535) = false := by simpa using hm
  simp only [hm', Bool.false_or] at h ⊢
  unfold keepS keepD
  dsimp only at *
  split
  · rename_i hb
    unfold Sn.betB at *
    rw [less_low n0 n1 k0 k1] at hb
    rw [less_low n0 n1 s0 s1] at h
    show (Sn.lessB s' s || s == s' && decide (m < m')) = false
    rw [less_low k0 k1 s0 s1]
    simp only [Bool.or_eq_true, Bool.and_eq_true, decide_eq_true_eq, beq_iff_eq, Bool.or_eq_false_iff, Bool.and_eq_false_iff, decide_eq_false_iff_not, beq_eq_false_iff_ne] at *
    omega
  · exact h
/-- An act of SourceKeeps on what is kept. -/
def kpS (most : Int) (x : Int × List Sr) (a : Ac) : Int × List Sr := (x.1 + a.g, if a.k = 0 then (keepR most x.2 (x.1 + a.g) a.p a.i a.s a.m).2 else if a.k = 2 then x.2.filter (fun n => !overB (x.1 + a.g) n) else x.2)
structure KpI (most : Int) (j : Nat) (x : Int × List Sr) : Prop where
  t0 : 0 ≤ x.1
  t1 : x.1 ≤ j * 1073741824
  ll : x.2.length ≤ j
  mo : (x.2.length : Int) ≤ most
  low : ∀ n ∈ x.2, n.s ≤ 16000
theorem keepR_most {most : Int} {L : List Sr} {now : Int} {p : Pr} {i : Id8} {s m : Int} (h : (L.length : Int) ≤ most) : ((keepR most L now p i s m).2.length : Int) ≤ most := by
  unfold keepR
  split
  · exact h
  · split
    · exact h
    · rename_i h2
      show ((putN L _).length : Int) ≤ most
      rw [putN_len]
      split
      · exact h
      · rename_i h3
        have : (getN L p i).isNone = true := by
          cases hg : getN L p i with
          | none => rfl
          | some n =>
            obtain ⟨k1, k2, k3⟩ := getN_some hg
            exact absurd (List.any_eq_true.2 ⟨n, k1, keyB_iff.2 ⟨k2, k3⟩⟩) h3
        have : ¬ most ≤ (L.length : Int) := fun h4 => h2 ⟨this, h4⟩
        omega
theorem keepS_low {L : List Sr} {now : Int} {p : Pr} {i : Id8} {s m : Int} (h : ∀ n ∈ L, n.s ≤ 16000) (hs : s ≤ 16000) : (keepS (getN L p i) now p i s m).s ≤ 16000 := by
  unfold keepS keepD
  cases hg : getN L p i with
  | none => exact hs
  | some n =>
    dsimp only
    split
    · exact hs
    · exact h n (getN_some hg).1
theorem KpI.step {most : Int} {j : Nat} {x : Int × List Sr} {a : Ac} (h : KpI most j x) (ha : AcOk a) (hs : a.k = 0 → a.s ≤ 16000) : KpI most (j + 1) (kpS most x a) := by
  obtain ⟨a0, a1⟩ := ha
  have t0 := h.t0
  have t1 := h.t1
  have ll := h.ll
  have mo := h.mo
  refine ⟨by show 0 ≤ x.1 + a.g; omega, by show x.1 + a.g ≤ _; omega, ?_, ?_, ?_⟩
  · unfold kpS
    dsimp only
    split
    · have := keepR_len (most := most) (L := x.2) (now := x.1 + a.g) (p := a.p) (i := a.i) (s := a.s) (m := a.m)
      omega
    · split
      · have := List.length_filter_le (fun n => !overB (x.1 + a.g) n) x.2
        omega
      · omega
  · unfold kpS
    dsimp only
    split
    · exact keepR_most mo
    · split
      · have := List.length_filter_le (fun n => !overB (x.1 + a.g) n) x.2
        omega
      · exact mo
  · unfold kpS
    dsimp only
    split
    · rename_i hk
      intro n hn
      rcases keepR_mem hn with h1 | h1
      · exact h.low n h1
      · rw [h1]; exact keepS_low h.low (hs hk)
    · split
      · intro n hn
        exact h.low n (List.mem_filter.1 hn).1
      · exact h.low
/-- Behind an act what was there and not feasible is gone or still not feasible. -/
theorem kp_never {most : Int} {x : Int × List Sr} {a : Ac} {p : Pr} {i : Id8} {s m : Int} (hnd : (x.2.map keyN).Nodup) (hok : ∀ n ∈ x.2, n.ok) (low : ∀ n ∈ x.2, n.s ≤ 16000) (fit : AcFit a) (hs : a.k = 0 → a.s ≤ 16000) (s0 : 0 ≤ s) (s1 : s ≤ 16000) (hm : m ≠ 65535)
    (h : (getN x.2 p i).isSome = true) (hf : feaO (getN x.2 p i) s m = false) : (getN (kpS most x a).2 p i).isSome = true → feaO (getN (kpS most x a).2 p i) s m = false := by
  obtain ⟨n, hn⟩ := Option.isSome_iff_exists.1 h
  have hn1 := (getN_some hn).1
  unfold kpS
  dsimp only
  split
  · rename_i hk
    unfold keepR
    split
    · intro _; exact hf
    · split
      · intro _; exact hf
      · intro _
        dsimp only
        by_cases hkey : a.p = p ∧ a.i = i
        · rw [getN_put_same (show (keepS (getN x.2 a.p a.i) (x.1 + a.g) a.p a.i a.s a.m).p = p ∧ _ from hkey)]
          obtain ⟨rfl, rfl⟩ := hkey
          rw [hn] at hf ⊢
          exact fea_keep s0 s1 hm (hok n hn1).s0 (low n hn1) fit.s0 (hs hk) hf _ _ _
        · rw [getN_put_other (show ¬ ((keepS (getN x.2 a.p a.i) (x.1 + a.g) a.p a.i a.s a.m).p = p ∧ _) from hkey)]
          exact hf
  · split
    · rw [getN_filter hnd, hn]
      dsimp only
      intro h2
      split
      · rw [hn] at hf; exact hf
      · rename_i h3
        rw [if_neg h3] at h2
        cases h2
    · intro _; exact hf
end Go.Proofs.Ytdcbnibgckdkbaa
