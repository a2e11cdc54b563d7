/-
  What Lookup finds, plainly: it matches, and no longer destination does.
-/
import Derived.Test.YtadnnjngflphjaaBI
import Derived.Test.YtadnnjngflphjaaMatP
namespace Go.Proofs.Ytadnnjngflphjaa
open Go.RowKit Go.Maps Go.Shelf
set_option linter.unusedSimpArgs false
set_option linter.unusedVariables false
theorem of_zero {a : Ad} {n : Int} (h : (Fa.ofF a n).2 = 0) : 0 ≤ n ∧ n ≤ 128 - Fa.ahead a ∧ (Fa.ofF a n).1 = ⟨Fa.cutA a (Fa.ahead a + n).toNat, Fa.ahead a + n⟩ := by
  unfold Fa.ofF at h ⊢
  split at h
  · rename_i hc
    rw [if_pos hc]
    exact ⟨hc.1, hc.2, rfl⟩
  · cases h
theorem lkD_spec {F : List Hd} {a : Ad} : ∀ {j : Nat} {d : Pf}, lkD F a j = some d → ∃ i : Nat, i < j ∧ (Fa.ofF a (i : Int)).2 = 0 ∧ d = (Fa.ofF a (i : Int)).1 ∧ ∀ i' : Nat, i < i' → i' < j → (Fa.ofF a (i' : Int)).2 = 0 → ∀ x ∈ F, (hp x).d ≠ (Fa.ofF a (i' : Int)).1
  | 0, d, h => by cases h
  | j + 1, d, h => by
    by_cases hc : (Fa.ofF a (j : Int)).2 = 0 ∧ F.any (fun h => pB (hp h).d (Fa.ofF a (j : Int)).1) = true
    · have e : lkD F a (j + 1) = some (Fa.ofF a (j : Int)).1 := if_pos hc
      rw [e] at h
      cases h
      exact ⟨j, by omega, hc.1, rfl, fun i' h1 h2 => by omega⟩
    · have e : lkD F a (j + 1) = lkD F a j := if_neg hc
      rw [e] at h
      obtain ⟨i, h1, h2, h3, h4⟩ := lkD_spec h
      refine ⟨i, by omega, h2, h3, fun i' h5 h6 h7 x hx hd => ?_⟩
      by_cases hj : i' = j
      · subst hj
        exact hc ⟨h7, List.any_eq_true.2 ⟨x, hx, pB_iff.2 hd⟩⟩
      · exact h4 i' h5 (by omega) h7 x hx hd
theorem lkS_spec {F : List Hd} {d : Pf} {a : Ad} : ∀ {j : Nat} {x : Hd}, lkS F d a j = some x → ∃ i : Nat, (Fa.ofF a (i : Int)).2 = 0 ∧ fnd F ⟨d, (Fa.ofF a (i : Int)).1⟩ = some x
  | 0, x, h => by cases h
  | j + 1, x, h => by
    by_cases hc : (Fa.ofF a (j : Int)).2 = 0
    · have e : lkS F d a (j + 1) = (match fnd F ⟨d, (Fa.ofF a (j : Int)).1⟩ with | some x => some x | none => lkS F d a j) := if_pos hc
      rw [e] at h
      cases hf : fnd F ⟨d, (Fa.ofF a (j : Int)).1⟩ with
      | some y =>
        rw [hf] at h
        cases h
        exact ⟨j, hc, hf⟩
      | none =>
        rw [hf] at h
        exact lkS_spec h
    · have e : lkS F d a (j + 1) = lkS F d a j := if_neg hc
      rw [e] at h
      exact lkS_spec h
theorem con_of {a : Ad} {n : Int} (h : (Fa.ofF a n).2 = 0) (hc : Fa.chk (Fa.ofF a n).1 = 0) : Fa.con (Fa.ofF a n).1 a = true := by
  unfold Fa.con
  rw [hc, (of_zero h).2.2]
  simp
theorem chkQ_parts {p : Pr} (h : Fa.chkQ p = 0) : Fa.chk p.d = 0 ∧ Fa.chk p.s = 0 := by
  unfold Fa.chkQ at h
  split at h
  · rename_i hc
    exact absurd h hc
  · rename_i hc
    have h2 : Fa.orI (Fa.chk p.d) (Fa.chk p.s) = 0 := by simpa using hc
    unfold Fa.orI at h2
    split at h2
    · rename_i h3
      exact ⟨h3, h2⟩
    · rename_i h3
      exact absurd h2 h3
/-- A destination of a packet's family that has its address is one of that address's prefixes. -/
theorem con_is {q : Pf} {a : Ad} (hf : Fa.famP q = Fa.famA a) (hc : Fa.con q a = true) : ∃ i : Nat, (Fa.ofF a (i : Int)).2 = 0 ∧ q = (Fa.ofF a (i : Int)).1 ∧ q.n = Fa.ahead a + i ∧ i < 129 := by
  unfold Fa.con at hc
  simp only [Bool.and_eq_true, decide_eq_true_eq] at hc
  obtain ⟨h1, h2⟩ := hc
  have h3 : 0 ≤ q.n ∧ q.n ≤ 128 := by
    rcases Fa.chk_or q with ⟨_, h4, h5, _⟩ | h4
    · exact ⟨h4, h5⟩
    · rw [h4] at h1; cases h1
  have h4 : Fa.ahead a ≤ q.n := by
    unfold Fa.ahead
    split
    · rename_i h5
      rw [h5] at hf
      unfold Fa.famP at hf
      split at hf
      · rename_i h6; exact h6.1
      · cases hf
    · exact h3.1
  have h0 := ahead_le a
  obtain ⟨i, hi⟩ : ∃ i : Nat, q.n = Fa.ahead a + i := ⟨(q.n - Fa.ahead a).toNat, by omega⟩
  have hz : Fa.ofF a (i : Int) = (⟨Fa.cutA a (Fa.ahead a + i).toNat, Fa.ahead a + i⟩, 0) := by
    unfold Fa.ofF
    rw [if_pos (by omega)]
  refine ⟨i, by rw [hz], ?_, hi, by omega⟩
  rw [hz]
  obtain ⟨qa, qn⟩ := q
  dsimp only at hi h2 ⊢
  rw [hi] at h2 ⊢
  rw [Ad.ext h2.symm]
/-- What is found, of what is held. -/
theorem look_spec {F : List Hd} (hn : (F.map hp).Nodup) (hc : ∀ x ∈ F, Fa.chkQ x.e.p = 0) {src dst : Ad} {x : Hd} (h : lookR F src dst = some x) : x ∈ F ∧ Fa.famA src = Fa.famA dst ∧ Fa.mat x.e.p src dst = true ∧ ∀ y ∈ F, Fa.famP y.e.p.d = Fa.famA dst → Fa.con y.e.p.d dst = true → y.e.p.d.n ≤ x.e.p.d.n := by
  unfold lookR at h
  split at h
  · rename_i hf
    cases hd : lkD F dst 129 with
    | none => rw [hd] at h; cases h
    | some d =>
      rw [hd] at h
      obtain ⟨i, hi, hz, hdi, hlong⟩ := lkD_spec hd
      obtain ⟨i2, hz2, hx⟩ := lkS_spec h
      obtain ⟨hxF, hxp⟩ := (fnd_some hn).1 hx
      have hxd : x.e.p.d = (Fa.ofF dst (i : Int)).1 := by rw [← hdi]; exact congrArg Pr.d hxp
      have hxs : x.e.p.s = (Fa.ofF src (i2 : Int)).1 := congrArg Pr.s hxp
      have hck := hc x hxF
      obtain ⟨hk1, hk2⟩ := chkQ_parts hck
      refine ⟨hxF, hf, ?_, fun y hy hyf hyc => ?_⟩
      · unfold Fa.mat
        rw [hck]
        rw [hxd] at hk1 ⊢
        rw [hxs] at hk2 ⊢
        rw [con_of hz hk1, con_of hz2 hk2]
        rfl
      · obtain ⟨iy, hzy, hey, hny, hly⟩ := con_is hyf hyc
        have hle : iy ≤ i := Nat.le_of_not_lt fun hlt => hlong iy hlt hly hzy y hy hey
        have e2 : x.e.p.d.n = Fa.ahead dst + i := by rw [hxd, (of_zero hz).2.2]
        omega
  · cases h
theorem impS_chk {F : List Hd} (h : ∀ x ∈ F, Fa.chkQ x.e.p = 0) (e : En) : ∀ x ∈ impS F e, Fa.chkQ x.e.p = 0 := by
  unfold impS
  split
  · rename_i h2
    intro x hx
    rcases mem_putF.1 hx with rfl | ⟨hx, _⟩
    · exact h2.2
    · exact h x hx
  · exact h
theorem impF_chk : ∀ (l : List En) {F : List Hd}, (∀ x ∈ F, Fa.chkQ x.e.p = 0) → ∀ x ∈ impF F l, Fa.chkQ x.e.p = 0
  | [], F, h => h
  | e :: l, F, h => impF_chk l (F := impS F e) (impS_chk h e)
/-- Imported tells what is others'. -/
theorem imp_own {w : World} {b k : Nat} {n : Int} {F : List Hd} (h : Kn w b k n F) (hF : F.length ≤ 1000000) {m : Nat} (e : (sel true F).length = m) : Calls Try.prog 18 #[.pointer (some ⟨k, 0, none⟩)] w fun e w' => ∃ a c A, e = .returned (.slice a m c) ∧ A.length = m ∧ A.Perm (sel true F) ∧ Asc A ∧ kE.Own w' w.heap.size (.slice a m c) A ∧ Below w.heap.size w w' := by
  refine (Imported_any h hF).mono ?_
  rintro e' w' ⟨a, c, K, rfl, h1, h2, h3, h4⟩
  have hl := h1.length_eq
  rw [e] at hl
  subst hl
  exact ⟨a, c, K, rfl, rfl, h1, h2, h3, h4⟩
end Go.Proofs.Ytadnnjngflphjaa
