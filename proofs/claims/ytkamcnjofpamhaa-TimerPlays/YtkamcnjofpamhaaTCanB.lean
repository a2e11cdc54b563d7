/-
  Set and Cancel on a queue of the call's own, by names alone.
-/
import Derived.Test.YtkamcnjofpamhaaTManyW
import Derived.Test.YtkamcnjofpamhaaTArgs
namespace Go.Proofs.Ytkamcnjofpamhaa
open Go.RowKit Go.Maps
set_option linter.unusedSimpArgs false
theorem Lv.nd {n : Nat} {W : World} {q mb : Nat} {L : List Tm} (h : Lv n W q mb L) : (L.map Tm.nm).Nodup := by
  obtain ⟨v, h1, _⟩ := h
  exact h1.mp.nd
/-- What Set leaves, by names and times. -/
structure SetTo (L L' : List Tm) (s : ByteArray) (a : Int) : Prop where
  nm : ∀ x, (∃ t ∈ L', t.nm = x) ↔ (x = s ∨ ∃ t ∈ L, t.nm = x)
  len : L'.length ≤ L.length + 1
  tm : ∀ t ∈ L', t.tm = a ∨ ∃ u ∈ L, u.tm = t.tm
theorem Lv.set_any {n : Nat} {W : World} {q mb : Nat} {L : List Tm} (h : Lv n W q mb L) (hl : n ≤ W.heap.size) (s : ByteArray) (a : Int) (hs : s.size ≤ maxLen) (hL : L.length < 4096) : Calls Try.prog 12 #[.pointer (some ⟨q, 0, none⟩), .string s, .int .i64 a] W (fun e w' => e = .returned (.int .i64 0) ∧ ∃ L', Lv n w' q mb L' ∧ Kp n W w' ∧ SetTo L L' s a) := by
  by_cases hin : ∃ t ∈ L, t.nm = s
  · obtain ⟨t, ht, hn⟩ := hin
    obtain ⟨j, hj, hjt⟩ := List.getElem_of_mem ht
    have S := h.set_hit hl j hj a (by omega)
    rw [hjt, hn] at S
    refine S.mono fun e w' ⟨h1, h2, h3⟩ => ⟨h1, _, h2, h3, ?_, ?_, ?_⟩
    · intro x
      have e1 : ∀ y, (∃ t ∈ fixF (setAt L j a) j L.length, t.nm = y) ↔ ∃ t ∈ L, t.nm = y := by
        intro y
        constructor
        · rintro ⟨u, hu, e⟩
          have hu' := (fixF_perm _ _ _).mem_iff.1 hu
          obtain ⟨i, hi, rfl⟩ := List.getElem_of_mem hu'
          have hi' : i < L.length := by rw [setAt_len] at hi; exact hi
          exact ⟨L[i], List.getElem_mem hi', (setAt_at (a := a) hj hi' hi).2.1.symm.trans e⟩
        · rintro ⟨u, hu, e⟩
          obtain ⟨i, hi, rfl⟩ := List.getElem_of_mem hu
          have hi' : i < (setAt L j a).length := by rw [setAt_len]; exact hi
          exact ⟨(setAt L j a)[i], (fixF_perm _ _ _).mem_iff.2 (List.getElem_mem hi'), (setAt_at (a := a) hj hi hi').2.1.trans e⟩
      rw [e1]
      constructor
      · exact .inr
      · rintro (rfl | hx)
        · exact ⟨t, ht, hn⟩
        · exact hx
    · rw [(fixF_perm _ _ _).length_eq, setAt_len]
      omega
    · intro u hu
      have hu' := (fixF_perm _ _ _).mem_iff.1 hu
      obtain ⟨i, hi, rfl⟩ := List.getElem_of_mem hu'
      have hi' : i < L.length := by rw [setAt_len] at hi; exact hi
      have := (setAt_at (a := a) hj hi' hi).2.2
      by_cases hij : i = j
      · rw [if_pos hij] at this
        exact .inl this
      · rw [if_neg hij] at this
        exact .inr ⟨L[i], List.getElem_mem hi', this.symm⟩
  · have hno : ∀ t ∈ L, t.nm ≠ s := fun t ht e => hin ⟨t, ht, e⟩
    refine (h.set_new hl s a hs hno hL).mono fun e w' ⟨h1, h2, h3⟩ => ⟨h1, _, h2, h3, ?_, ?_, ?_⟩
    · intro x
      constructor
      · rintro ⟨t, ht, e⟩
        rcases List.mem_append.1 ((upF_perm _ _ _).mem_iff.1 ht) with h5 | h5
        · exact .inr ⟨t, h5, e⟩
        · simp at h5
          rw [h5] at e
          exact .inl e.symm
      · rintro (rfl | ⟨t, ht, e⟩)
        · exact ⟨⟨W.heap.size, a, x⟩, (upF_perm _ _ _).mem_iff.2 (by simp), rfl⟩
        · exact ⟨t, (upF_perm _ _ _).mem_iff.2 (List.mem_append_left _ ht), e⟩
    · rw [(upF_perm _ _ _).length_eq]
      simp
    · intro t ht
      rcases List.mem_append.1 ((upF_perm _ _ _).mem_iff.1 ht) with h5 | h5
      · exact .inr ⟨t, h5, rfl⟩
      · simp at h5
        rw [h5]
        exact .inl rfl
/-- What Cancel leaves. -/
def CanPost (n : Nat) (W : World) (q mb : Nat) (L : List Tm) (ns : List ByteArray) (e : Ending) (w' : World) : Prop :=
  ∃ K, e = .returned (.int .i64 ((L.length : Int) - (K.length : Int))) ∧ K.Perm (left ns L) ∧ Lv n w' q mb K ∧ Kp n W w'
theorem Lv.cancel {n : Nat} {W : World} {q mb : Nat} {L : List Tm} (h : Lv n W q mb L) (hl : n ≤ W.heap.size) (hm : L.length ≤ 10000) (a : Option Addr) (c : Nat) (ns : List ByteArray) (hs : ∀ s ∈ ns, s.size ≤ maxLen) (hnl : ns.length ≤ 1000000)
    (ha : ns = [] ∨ ∃ g cur, a = some ⟨g, 0, none⟩ ∧ W.heap[g]? = some (.cells cur 9 (0, 0)) ∧ ∀ (j : Nat) (hj : j < ns.length), cur[j]? = some (.string ns[j])) :
    Calls Try.prog 15 #[.pointer (some ⟨q, 0, none⟩), .slice a ns.length c] W (CanPost n W q mb L ns) := by
  obtain ⟨v, h1, h2⟩ := h
  have hN : Names W (FootQ q mb v L) a ns := by
    refine ⟨hs, fun j hj => ?_⟩
    rcases ha with rfl | ⟨g, cur, e1, e2, e3⟩
    · exact absurd hj (by simp)
    · exact ⟨g, e1, (Array.getElem?_eq_some_iff.1 e2).1, h1.not_foot e2 (by decide) (by decide) (by decide), one_cell e2 (e3 j hj)⟩
  refine (cancel_any W q mb v L a c ns h1 hm hN hnl).mono fun e w' ⟨K, e1, v', q3, hp, F3, o3⟩ => ⟨K, e1, hp, ⟨v', q3, fun k hk => h2 k (foot_sub o3 (left_sub hp) hk)⟩, h1.kp h2 hl F3⟩
theorem left_two (s : ByteArray) (L : List Tm) : left [s, s] L = L.filter fun t => !nmB t.nm s := by
  unfold left
  apply List.filter_congr
  intro t _
  simp
theorem left_len {L : List Tm} (hnd : (L.map Tm.nm).Nodup) (s : ByteArray) : (∃ t ∈ L, t.nm = s) ∧ (L.filter fun t => !nmB t.nm s).length + 1 = L.length ∨ (¬ ∃ t ∈ L, t.nm = s) ∧ (L.filter fun t => !nmB t.nm s) = L := by
  by_cases h : ∃ t ∈ L, t.nm = s
  · left
    refine ⟨h, ?_⟩
    obtain ⟨t, ht, rfl⟩ := h
    obtain ⟨A, B, rfl⟩ := List.append_of_mem ht
    have hp : ((A ++ B) ++ [t]).Perm (A ++ t :: B) := by
      rw [List.append_assoc]
      exact List.Perm.append_left A (List.perm_append_singleton t B)
    have := (left_one hnd hp).length_eq
    rw [← this]
    simp
    omega
  · right
    refine ⟨h, ?_⟩
    rw [List.filter_eq_self]
    intro t ht
    rw [nmB_false (fun e => h ⟨t, ht, e⟩)]
    rfl
theorem Lv.at_miss {n : Nat} {W : World} {q mb : Nat} {L : List Tm} (h : Lv n W q mb L) (s : ByteArray) (hs : s.size ≤ maxLen) (hn : ∀ t ∈ L, t.nm ≠ s) : Calls Try.prog 22 #[.pointer (some ⟨q, 0, none⟩), .string s] W (Gives W (.tuple #[.int .i64 0, .bool false])) := by
  obtain ⟨v, h1, _⟩ := h
  exact Go.Proofs.Ytkamcnjofpamhaa.at_miss W q mb v L h1 s hs hn
theorem Lv.grown {n : Nat} {W W' : World} {q mb : Nat} {L : List Tm} {row : Option Nat} (h : Lv n W q mb L) (hg : W.grownBy W' row) (hr : ∀ g, row = some g → ∃ cur, W.heap[g]? = some (.cells cur 9 (0, 0))) : Lv n W' q mb L := by
  obtain ⟨v, h1, h2⟩ := h
  refine ⟨v, h1.frm (S := fun k => row = some k) ((Frm.refl _ W).grown hg (fun k hk => .inl hk)) (fun k hk e => ?_), h2⟩
  obtain ⟨cur, hc⟩ := hr k e
  exact h1.not_foot hc (by decide) (by decide) (by decide) hk
def strs (l : List ByteArray) : List Value := l.map Value.string
theorem row_tagS {w : World} {v : Value} {b n g : Nat} {xs : List Value} (h : w.ownsRow b 9 1 v n xs) (hg : v.ownBlock = some g) : b ≤ g ∧ ∃ cur, w.heap[g]? = some (.cells cur 9 (0, 0)) := by
  rcases h.2 with ⟨rfl, _⟩ | ⟨g', cap, cur, rfl, hb, h3, _⟩
  · cases hg
  · cases hg
    exact ⟨hb, cur, h3⟩
theorem row_kp {w w' : World} {v : Value} {b k n : Nat} {xs : List Value} (h : w.ownsRow b 9 1 v k xs) (hk : Kp n w w') : w'.ownsRow b 9 1 v k xs := by
  refine ⟨h.1, ?_⟩
  rcases h.2 with h0 | ⟨g', cap, cur, h1, h2, h3, h4⟩
  · exact .inl h0
  · exact .inr ⟨g', cap, cur, h1, h2, hk.cells _ _ _ h3 (by decide) (by decide) (by decide), h4⟩
theorem row_names {w : World} {v : Value} {b k : Nat} {l : List ByteArray} (h : w.ownsRow b 9 1 v k (strs l)) : l.length = k ∧ ∃ a c, v = .slice a k c ∧ (l = [] ∨ ∃ g cur, a = some ⟨g, 0, none⟩ ∧ w.heap[g]? = some (.cells cur 9 (0, 0)) ∧ ∀ (j : Nat) (hj : j < l.length), cur[j]? = some (.string l[j])) := by
  have hl : l.length = k := by have := h.1; simp [strs] at this; exact this
  refine ⟨hl, ?_⟩
  rcases h.2 with ⟨rfl, h0⟩ | ⟨g, cap, cur, rfl, h2, h3, h4, h5, h6, h7⟩
  · exact ⟨none, 0, by rw [h0], .inl (List.eq_nil_of_length_eq_zero (hl.trans h0))⟩
  · refine ⟨_, cap, rfl, .inr ⟨g, cur, rfl, h3, fun j hj => ?_⟩⟩
    have e : (cur.toList.take (k * 1))[j]? = (strs l)[j]? := by rw [h7]
    rw [List.getElem?_take_of_lt (by omega), Array.getElem?_toList] at e
    rw [e]
    simp [strs, hj]
end Go.Proofs.Ytkamcnjofpamhaa
