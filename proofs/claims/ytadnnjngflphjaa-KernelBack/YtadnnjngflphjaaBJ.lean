/-
  What is added and removed: plainly.
-/
import Derived.Test.YtadnnjngflphjaaBI
namespace Go.Proofs.Ytadnnjngflphjaa
open Go.RowKit Go.Maps Go.Shelf
set_option linter.unusedSimpArgs false
set_option linter.unusedVariables false
theorem Kn.wf {w : World} {b k : Nat} {n : Int} {F : List Hd} (h : Kn w b k n F) : ∀ x ∈ F, wfQ x.e.p := by
  obtain ⟨mb, L, T, _, hpm⟩ := h
  intro x hx
  obtain ⟨o, ho, hxo⟩ := mem_flat.1 (hpm.mem_iff.1 hx)
  have h1 := T.tw.out.wf o ho
  have h2 := T.tw.own o ho x hxo
  obtain ⟨r, _, m, _⟩ := T.tw.inn o ho
  have h3 := m.wf x hxo
  refine ⟨?_, h3⟩
  have h4 : wfP o.d := h1
  rw [← h2] at h4
  exact h4
/-- An entry that is added where there is none of its pair. -/
def addS (F : List Hd) (e : En) : List Hd := if (fnd F e.p).isSome = false ∧ Fa.chkQ e.p = 0 then F ++ [⟨e, false⟩] else F
def addB (F : List Hd) (e : En) : Bool := decide ((fnd F e.p).isSome = false ∧ Fa.chkQ e.p = 0)
def addF (F : List Hd) (l : List En) : List Hd := l.foldl addS F
theorem add_step {F : List Hd} {l : List En} {j : Nat} (h : j < l.length) : addF F (l.take (j + 1)) = addS (addF F (l.take j)) l[j] := by
  unfold addF
  rw [List.take_succ_eq_append_getElem h, List.foldl_append]
  rfl
theorem doF_add (F : List Hd) (e : En) : doF 0 F ⟨1, e⟩ = (addB F e, 0, addS F e) := by
  unfold doF addB addS
  rw [if_neg (by simp)]
  by_cases hc : Fa.chkQ e.p = 0
  · rw [if_neg (by simpa using hc)]
    cases hf : fnd F (⟨1, e⟩ : Oq).e.p with
    | none =>
      have hf' : fnd F e.p = none := hf
      have h1 := putF_new (n := ⟨e, false⟩) (F := F) hf'
      dsimp only
      rw [h1]
      simp [hc]
    | some x =>
      have hf' : fnd F e.p = some x := hf
      dsimp only
      rw [if_neg (fun h : (some x).isSome = false ∧ Fa.chkQ e.p = 0 => by cases h.1)]
      simp
  · rw [if_pos (by simpa using hc), if_neg (fun h => hc h.2)]
    simp [hc]
theorem addS_len (F : List Hd) (e : En) : F.length ≤ (addS F e).length ∧ (addS F e).length ≤ F.length + 1 := by
  unfold addS
  split
  · simp
  · omega
theorem addF_len : ∀ (l : List En) (F : List Hd), (addF F l).length ≤ F.length + l.length
  | [], F => Nat.le_refl _
  | e :: l, F => by
    have h1 := addS_len F e
    have h2 := addF_len l (addS F e)
    show (addF (addS F e) l).length ≤ _
    rw [List.length_cons]
    omega
theorem addS_sel (F : List Hd) (e : En) : sel true (addS F e) = sel true F ∧ ((sel false (addS F e)).length : Int) = (sel false F).length + (if addB F e = true then 1 else 0) := by
  unfold addS addB
  split
  · rename_i h
    rw [sel_append, sel_append, List.length_append]
    refine ⟨by simp [sel], ?_⟩
    rw [if_pos (by simpa using h)]
    simp [sel]
  · rename_i h
    rw [if_neg (by simpa using h)]
    simp
theorem addF_true : ∀ (l : List En) (F : List Hd), sel true (addF F l) = sel true F
  | [], F => rfl
  | e :: l, F => by
    show sel true (addF (addS F e) l) = _
    rw [addF_true l (addS F e), (addS_sel F e).1]
theorem addS_chk {F : List Hd} (h : ∀ x ∈ F, x.b = false → Fa.chkQ x.e.p = 0) (e : En) : ∀ x ∈ addS F e, x.b = false → Fa.chkQ x.e.p = 0 := by
  unfold addS
  split
  · rename_i h2
    intro x hx hb
    rcases List.mem_append.1 hx with h3 | h3
    · exact h x h3 hb
    · simp at h3; subst h3; exact h2.2
  · exact h
theorem addF_chk : ∀ (l : List En) {F : List Hd}, (∀ x ∈ F, x.b = false → Fa.chkQ x.e.p = 0) → ∀ x ∈ addF F l, x.b = false → Fa.chkQ x.e.p = 0
  | [], F, h => h
  | e :: l, F, h => addF_chk l (F := addS F e) (addS_chk h e)
theorem mem_sel {i : Bool} {F : List Hd} {e : En} : e ∈ sel i F ↔ ∃ x ∈ F, x.b = i ∧ x.e = e := by
  unfold sel
  rw [List.mem_map]
  constructor
  · rintro ⟨x, hx, rfl⟩
    obtain ⟨h1, h2⟩ := List.mem_filter.1 hx
    exact ⟨x, h1, by simpa using h2, rfl⟩
  · rintro ⟨x, hx, hb, rfl⟩
    exact ⟨x, List.mem_filter.2 ⟨hx, by simpa using hb⟩, rfl⟩
/-- What is others' is neither changed nor removed. -/
theorem doF_theirs {F : List Hd} (hn : (F.map hp).Nodup) {e : En} (he : e ∈ sel true F) {k : Int} (hk : k = 2 ∨ k = 3) : doF 0 F ⟨k, e⟩ = (false, 0, F) := by
  obtain ⟨x, hx, hb, rfl⟩ := mem_sel.1 he
  have hf : fnd F x.e.p = some x := (fnd_some hn).2 ⟨hx, rfl⟩
  unfold doF
  rw [if_neg (by simp)]
  split
  · rfl
  · rw [show (⟨k, x.e⟩ : Oq).e.p = x.e.p from rfl, hf]
    simp [hb]
/-- Without these pairs. -/
def remF (F : List Hd) (l : List En) : List Hd := F.filter (fun h => !(l.any fun e => qB (hp h) e.p))
theorem rem_nil (F : List Hd) : remF F [] = F := by simp [remF]
theorem rem_step {F : List Hd} {l : List En} {j : Nat} (h : j < l.length) : delF (remF F (l.take j)) l[j].p = remF F (l.take (j + 1)) := by
  unfold delF remF
  rw [List.filter_filter, List.take_succ_eq_append_getElem h]
  apply List.filter_congr
  intro x _
  rw [List.any_append]
  simp [Bool.and_comm]
theorem rem_len (F : List Hd) (l : List En) : (remF F l).length ≤ F.length := List.length_filter_le _ _
theorem rem_nd {F : List Hd} (h : (F.map hp).Nodup) (l : List En) : ((remF F l).map hp).Nodup := List.Sublist.nodup (List.Sublist.map _ List.filter_sublist) h
theorem asc_ne {A : List En} (hA : Asc A) {i j : Nat} (hi : i < j) (hj : j < A.length) : (A[i]'(by omega)).p ≠ A[j].p := by
  intro e
  have h1 := (List.pairwise_iff_getElem.1 hA) i j (by omega) hj hi
  rw [(cmpN_zero _ _).2 e] at h1
  omega
/-- An own entry goes; then there is none. -/
theorem doF_mine {F : List Hd} (hn : (F.map hp).Nodup) (hc : ∀ x ∈ F, x.b = false → Fa.chkQ x.e.p = 0) {A : List En} (hA : Asc A) (hp' : A.Perm (sel false F)) {j : Nat} (hj : j < A.length) :
    doF 0 (remF F (A.take j)) ⟨3, A[j]⟩ = (true, 0, remF F (A.take (j + 1))) ∧ doF 0 (remF F (A.take (j + 1))) ⟨3, A[j]⟩ = (false, 0, remF F (A.take (j + 1))) := by
  obtain ⟨x, hx, hb, hxe⟩ := mem_sel.1 (hp'.mem_iff.1 (List.getElem_mem hj))
  have hck : Fa.chkQ A[j].p = 0 := by rw [← hxe]; exact hc x hx hb
  have hmem : x ∈ remF F (A.take j) := by
    refine List.mem_filter.2 ⟨hx, ?_⟩
    rw [Bool.not_eq_true', List.any_eq_false]
    intro e he
    obtain ⟨i, hi, rfl⟩ := List.mem_take_iff_getElem.1 he
    intro hq
    have h1 : x.e.p = _ := qB_iff.1 hq
    rw [hxe] at h1
    exact asc_ne hA (by omega) hj h1.symm
  have hf : fnd (remF F (A.take j)) A[j].p = some x := (fnd_some (rem_nd hn _)).2 ⟨hmem, by show x.e.p = _; rw [hxe]⟩
  have hf2 : fnd (remF F (A.take (j + 1))) A[j].p = none := by
    rw [fnd_none, ← rem_step hj]
    intro y hy
    exact (mem_delF.1 hy).2
  constructor
  · unfold doF
    rw [if_neg (by simp), if_neg (by simpa using hck), show (⟨3, A[j]⟩ : Oq).e.p = A[j].p from rfl, hf, rem_step hj]
    simp [hb]
  · unfold doF
    rw [if_neg (by simp), if_neg (by simpa using hck), show (⟨3, A[j]⟩ : Oq).e.p = A[j].p from rfl, hf2]
    simp
theorem rem_all {F : List Hd} (hn : (F.map hp).Nodup) {A : List En} (hp' : A.Perm (sel false F)) : sel false (remF F A) = [] ∧ sel true (remF F A) = sel true F := by
  have key : ∀ x ∈ F, (A.any fun e => qB (hp x) e.p) = !x.b := by
    intro x hx
    cases hb : x.b with
    | false =>
      refine List.any_eq_true.2 ⟨x.e, hp'.mem_iff.2 (mem_sel.2 ⟨x, hx, hb, rfl⟩), qB_self _⟩
    | true =>
      show _ = false
      rw [List.any_eq_false]
      intro e he hq
      obtain ⟨y, hy, hyb, rfl⟩ := mem_sel.1 (hp'.mem_iff.1 he)
      have h1 : hp x = hp y := qB_iff.1 hq
      have h2 := (fnd_some hn).2 ⟨hx, rfl⟩
      have h3 := (fnd_some hn).2 ⟨hy, h1.symm⟩
      rw [h2] at h3
      cases h3
      rw [hb] at hyb
      cases hyb
  have e : remF F A = F.filter fun h => h.b := by
    unfold remF
    apply List.filter_congr
    intro x hx
    rw [key x hx, Bool.not_not]
  rw [e]
  unfold sel
  rw [List.filter_filter, List.filter_filter]
  constructor
  · rw [List.filter_eq_nil_iff.2]
    · rfl
    · intro x _
      cases x.b <;> decide
  · congr 1
    apply List.filter_congr
    intro x _
    cases x.b <;> rfl
end Go.Proofs.Ytadnnjngflphjaa
