/-
  Rows of requests; what has come of a map, and what is left.
-/
import Derived.Test.YtbjclphgabpgoaaR6
import Derived.Maps.RangeWalk
namespace Go.Proofs.Ytbjclphgabpgoaa
open Go.RowKit Go.Maps
set_option linter.unusedSimpArgs false
set_option linter.unusedVariables false
set_option maxRecDepth 20000
def kN : Kd Sr := ⟨scs, 67, 29, 45, 80, scs zeroS, scs_len, scs_one, Try.underlying29, by kernel_rfl, scs_len _, by decide, by decide⟩
theorem bsN1 (n : Sr) (w : World) : (Instr.buildSlice 29 1 #[(0, sV n)]).run Try.prog w = .ok (.slice (some ⟨w.heap.size, 0, none⟩) 1 1) (w.alloc (.cells (scs n).toArray 67)) := by
  obtain ⟨p, i, s, m, t⟩ := n
  induction p using Pr.lits with | h =>
  induction i using Id8.lits with | h =>
  show _ = _
  kernel_rfl
/-- What has come, and what is left. -/
def Coll (L : List Sr) (left : Lit → Bool) (ss : List Sr) : Prop := ∃ rs : List Sr, (ss ++ rs).Perm L ∧ ∀ l, left l = true ↔ ∃ n ∈ rs, kl n.p n.id = l
theorem Coll.step {L : List Sr} {left : Lit → Bool} {ss : List Sr} (h : Coll L left ss) (hw : ∀ n ∈ L, wfQ n.p) (hd : (L.map keyN).Nodup) {l : Lit} (hl : left l = true) : ∃ n, n ∈ L ∧ kl n.p n.id = l ∧ Coll L (fun z => left z && !z.sameKey l) (ss ++ [n]) := by
  obtain ⟨rs, hp, hr⟩ := h
  obtain ⟨n, hn, rfl⟩ := (hr l).1 hl
  obtain ⟨r1, r2, rfl⟩ := List.append_of_mem hn
  have hL : ∀ m, m ∈ ss ++ (r1 ++ n :: r2) ↔ m ∈ L := fun m => hp.mem_iff
  have hnL : n ∈ L := (hL n).1 (by simp)
  refine ⟨n, hnL, rfl, r1 ++ r2, ?_, fun z => ?_⟩
  · refine List.Perm.trans ?_ hp
    rw [List.append_assoc]
    exact List.Perm.append_left ss (by simpa using (List.perm_middle (a := n) (l₁ := r1) (l₂ := r2)).symm)
  · have hnd : ((ss ++ (r1 ++ n :: r2)).map keyN).Nodup := (hp.map _).nodup_iff.2 hd
    have hne : ∀ m ∈ r1 ++ r2, kl m.p m.id ≠ kl n.p n.id := by
      intro m hm e
      have hmL : m ∈ L := (hL m).1 (by simp at hm ⊢; rcases hm with h | h <;> simp [h])
      obtain ⟨e1, e2⟩ := kl_inj (hw m hmL) (hw n hnL) e
      have ek : keyN m = keyN n := by unfold keyN; rw [e1, e2]
      rw [List.map_append, List.nodup_append] at hnd
      have h2 := hnd.2.1
      rw [List.map_append, List.map_cons] at h2
      have h3 := (List.perm_middle (a := keyN n) (l₁ := r1.map keyN) (l₂ := r2.map keyN)).nodup_iff.1 h2
      rw [List.nodup_cons] at h3
      apply h3.1
      rw [← ek, ← List.map_append]
      exact List.mem_map_of_mem hm
    rw [Bool.and_eq_true, hr]
    constructor
    · rintro ⟨⟨m, hm, rfl⟩, hs⟩
      refine ⟨m, ?_, rfl⟩
      rcases List.mem_append.1 hm with h | h
      · exact List.mem_append_left _ h
      · rcases List.mem_cons.1 h with rfl | h
        · rw [WideAt.sameKey_self (kl_key _ (hw m hnL))] at hs
          cases hs
        · exact List.mem_append_right _ h
    · rintro ⟨m, hm, rfl⟩
      refine ⟨⟨m, ?_, rfl⟩, ?_⟩
      · rcases List.mem_append.1 hm with h | h
        · exact List.mem_append_left _ h
        · exact List.mem_append_right _ (List.mem_cons_of_mem _ h)
      · rw [sameKey_ne (hne m hm)]; rfl
theorem Coll.done {L : List Sr} {left : Lit → Bool} {ss : List Sr} (h : Coll L left ss) (hl : ∀ l, left l = false) : ss.Perm L := by
  obtain ⟨rs, hp, hr⟩ := h
  cases rs with
  | nil => simpa using hp
  | cons n r =>
    have := (hr (kl n.p n.id)).2 ⟨n, by simp, rfl⟩
    rw [hl] at this
    cases this
end Go.Proofs.Ytbjclphgabpgoaa
