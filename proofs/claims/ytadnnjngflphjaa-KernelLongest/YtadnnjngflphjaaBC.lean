/-
  list: the entries of one kind, in order.
-/
import Derived.Test.YtadnnjngflphjaaBB
import Derived.Test.YtadnnjngflphjaaF4
import Derived.Maps.RangeWalk
import Derived.RangeFuncSeq
namespace Go.Proofs.Ytadnnjngflphjaa
open Go.RowKit Go.Maps Go.Shelf
set_option linter.unusedSimpArgs false
set_option linter.unusedVariables false
set_option maxRecDepth 20000
/-- What has come, and what is left. -/
def Col {α : Type} (k : Mk α) (L : List α) (left : Lit → Bool) (ss : List α) : Prop := ∃ rs : List α, (ss ++ rs).Perm L ∧ ∀ l, left l = true ↔ ∃ n ∈ rs, kp (k.key n) = l
theorem sameKey_ne' {a b : Lit} (h : a ≠ b) : a.sameKey b = false := sameKey_ne h
theorem Col.step {α : Type} {k : Mk α} {L : List α} {left : Lit → Bool} {ss : List α} (h : Col k L left ss) (hw : ∀ n ∈ L, wfP (k.key n)) (hd : (L.map k.key).Nodup) {l : Lit} (hl : left l = true) : ∃ n, n ∈ L ∧ kp (k.key n) = l ∧ Col k L (fun z => left z && !z.sameKey l) (ss ++ [n]) := by
  obtain ⟨rs, hp, hr⟩ := h
  obtain ⟨n, hn, rfl⟩ := (hr l).1 hl
  obtain ⟨r1, r2, rfl⟩ := List.append_of_mem hn
  have hL : ∀ m, m ∈ ss ++ (r1 ++ n :: r2) ↔ m ∈ L := fun m => hp.mem_iff
  have hnL : n ∈ L := (hL n).1 (by simp)
  refine ⟨n, hnL, rfl, r1 ++ r2, ?_, fun z => ?_⟩
  · refine List.Perm.trans ?_ hp
    rw [List.append_assoc]
    exact List.Perm.append_left ss (by simpa using (List.perm_middle (a := n) (l₁ := r1) (l₂ := r2)).symm)
  · have hnd : ((ss ++ (r1 ++ n :: r2)).map k.key).Nodup := (hp.map _).nodup_iff.2 hd
    have hne : ∀ m ∈ r1 ++ r2, kp (k.key m) ≠ kp (k.key n) := by
      intro m hm e
      have hmL : m ∈ L := (hL m).1 (by simp at hm ⊢; rcases hm with h | h <;> simp [h])
      have ek : k.key m = k.key n := kp_inj (hw m hmL) (hw n hnL) e
      rw [List.map_append, List.nodup_append] at hnd
      have h2 := hnd.2.1
      rw [List.map_append, List.map_cons] at h2
      have h3 := (List.perm_middle (a := k.key n) (l₁ := r1.map k.key) (l₂ := r2.map k.key)).nodup_iff.1 h2
      rw [List.nodup_cons] at h3
      apply h3.1
      rw [← ek, ← List.map_append]
      exact List.mem_map_of_mem hm
    rw [Bool.and_eq_true, hr]
    constructor
    · rintro ⟨⟨m, hm, rfl⟩, hs⟩
      refine ⟨m, ?_, rfl⟩
      rcases List.mem_append.1 hm with h | h
      · exact List.mem_append_left _ h
      · rcases List.mem_cons.1 h with rfl | h
        · rw [WideAt.sameKey_self (kp_key (hw m hnL))] at hs
          cases hs
        · exact List.mem_append_right _ h
    · rintro ⟨m, hm, rfl⟩
      refine ⟨⟨m, ?_, rfl⟩, ?_⟩
      · rcases List.mem_append.1 hm with h | h
        · exact List.mem_append_left _ h
        · exact List.mem_append_right _ (List.mem_cons_of_mem _ h)
      · rw [sameKey_ne (hne m hm)]; rfl
theorem Col.done {α : Type} {k : Mk α} {L : List α} {left : Lit → Bool} {ss : List α} (h : Col k L left ss) (hl : ∀ l, left l = false) : ss.Perm L := by
  obtain ⟨rs, hp, hr⟩ := h
  cases rs with
  | nil => simpa using hp
  | cons n r =>
    have := (hr (kp (k.key n))).2 ⟨n, by simp, rfl⟩
    rw [hl] at this
    cases this
theorem own_ne_obj {w : World} {B : Nat} {T : TypeId} {sz : Nat} {v : Value} {n : Nat} {xs : List Value} {g : Nat} (h : w.ownsRow B T sz v n xs) {o : Obj} (e : w.heap[g]? = some o) (hw : o.isWalk = true) : v.ownBlock ≠ some g := by
  rcases h.2 with ⟨rfl, _⟩ | ⟨g', cap, cur, rfl, hB, hh, _⟩
  · simp [Value.ownBlock]
  · intro e'
    simp [Value.ownBlock] at e'
    subst e'
    rw [hh] at e
    cases e
    cases hw
theorem bsN1 (n : En) (w : World) : (Instr.buildSlice 27 1 #[(0, eV n)]).run Try.prog w = .ok (.slice (some ⟨w.heap.size, 0, none⟩) 1 1) (w.alloc (.cells (ecs n).toArray 37)) := by
  obtain ⟨p, i, a⟩ := n
  induction p using Pr.lits with | h =>
  induction a using Ad.lits with | h =>
  show _ = _
  kernel_rfl
/-- The entries of one kind. -/
def sel (i : Bool) (F : List Hd) : List En := (F.filter fun h => h.b == i).map Hd.e
theorem sel_append (i : Bool) (F G : List Hd) : sel i (F ++ G) = sel i F ++ sel i G := by simp [sel]
theorem sel_perm {i : Bool} {F G : List Hd} (h : F.Perm G) : (sel i F).Perm (sel i G) := (h.filter _).map _
theorem sel_len (i : Bool) (F : List Hd) : (sel i F).length ≤ F.length := by
  unfold sel
  rw [List.length_map]
  exact List.length_filter_le _ _
theorem sel_nd {i : Bool} {F : List Hd} (h : (F.map hp).Nodup) : ((sel i F).map En.p).Nodup := by
  unfold sel
  rw [List.map_map]
  exact List.Sublist.nodup (List.Sublist.map _ List.filter_sublist) h
theorem sel_yes {i : Bool} {x : Hd} (h : x.b = i) : sel i [x] = [x.e] := by simp [sel, h]
theorem sel_no {i : Bool} {x : Hd} (h : x.b ≠ i) : sel i [x] = [] := by
  have : (x.b == i) = false := by simpa using h
  simp [sel, this]
theorem flat_append (L M : List Ob) : flat (L ++ M) = flat L ++ flat M := by simp [flat]
theorem flat_one (o : Ob) : flat [o] = o.S := by simp [flat]
theorem flat_perm {L M : List Ob} (h : L.Perm M) : (flat L).Perm (flat M) := h.flatMap_right _
theorem Col.len {L : List Ob} {left : Lit → Bool} {ss : List Ob} (h : Col mO L left ss) : (flat ss).length ≤ (flat L).length := by
  obtain ⟨rs, hp, _⟩ := h
  have := (flat_perm hp).length_eq
  rw [flat_append, List.length_append] at this
  omega
theorem Col.len1 {α : Type} {k : Mk α} {L : List α} {left : Lit → Bool} {ss : List α} (h : Col k L left ss) : ss.length ≤ L.length := by
  obtain ⟨rs, hp, _⟩ := h
  have := hp.length_eq
  rw [List.length_append] at this
  omega
/-- What is answered: these entries, in order, in memory of the call's own. -/
def ListE (w : World) (G : List En) (e : Ending) (w' : World) : Prop := ∃ a c K, e = .returned (.slice a K.length c) ∧ K.Perm G ∧ Asc K ∧ kE.Own w' w.heap.size (.slice a K.length c) K ∧ Below w.heap.size w w'
theorem list_nil (i : Bool) (w : World) : Calls Try.prog 36 #[.pointer none, .bool i] w fun e w' => e = .returned (.slice none 0 0) ∧ w = w' := by
  go_enter Try.func36, Try.ntmps36
  go_wp2
  go_ret
  exact ⟨rfl, rfl⟩
end Go.Proofs.Ytadnnjngflphjaa
