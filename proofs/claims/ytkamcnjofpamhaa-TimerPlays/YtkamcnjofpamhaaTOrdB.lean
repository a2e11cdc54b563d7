/-
  What TimerOrder stands on: Set keeps a heap; the first of a heap that is due; Jitter.
-/
import Derived.Test.YtkamcnjofpamhaaTHp
import Derived.Test.YtkamcnjofpamhaaTCanB
namespace Go.Proofs.Ytkamcnjofpamhaa
open Go.RowKit
set_option linter.unusedSimpArgs false
theorem Lv.nodup {n : Nat} {W : World} {q mb : Nat} {L : List Tm} (h : Lv n W q mb L) : (L.map Tm.nm).Nodup := by
  obtain ⟨v, h1, _⟩ := h
  exact h1.mp.nd
theorem Lv.set_hp {n : Nat} {W : World} {q mb : Nat} {L : List Tm} (h : Lv n W q mb L) (hl : n ≤ W.heap.size) (s : ByteArray) (a : Int) (hs : s.size ≤ maxLen) (hL : L.length < 4096) (hH : Hp L L.length) :
    Calls Try.prog 12 #[.pointer (some ⟨q, 0, none⟩), .string s, .int .i64 a] W (fun e w' => e = .returned (.int .i64 0) ∧ ∃ L', Lv n w' q mb L' ∧ Kp n W w' ∧ L'.length ≤ L.length + 1 ∧ Hp L' L'.length ∧ (∃ t ∈ L', t.nm = s) ∧ ((∃ t ∈ L, t.nm = s) → L'.length = L.length)) := by
  by_cases hin : ∃ t ∈ L, t.nm = s
  · obtain ⟨t, ht, hn⟩ := hin
    obtain ⟨j, hj, hjt⟩ := List.getElem_of_mem ht
    have S := h.set_hit hl j hj a (by omega)
    rw [hjt, hn] at S
    refine S.mono fun e w' ⟨h1, h2, h3⟩ => ⟨h1, _, h2, h3, ?_, ?_, ?_, ?_⟩
    · rw [(fixF_perm _ _ _).length_eq, setAt_len]; omega
    · rw [(fixF_perm _ _ _).length_eq, setAt_len]; exact set_heap L j a hj hH
    · have hj2 : j < (setAt L j a).length := by rw [setAt_len]; exact hj
      refine ⟨(setAt L j a)[j], (fixF_perm _ _ _).mem_iff.2 (List.getElem_mem hj2), ?_⟩
      rw [(setAt_at hj hj hj2).2.1, hjt, hn]
    · intro _
      rw [(fixF_perm _ _ _).length_eq, setAt_len]
  · have S := h.set_new hl s a hs (fun t ht e => hin ⟨t, ht, e⟩) hL
    refine S.mono fun e w' ⟨h1, h2, h3⟩ => ⟨h1, _, h2, h3, ?_, ?_, ?_, ?_⟩
    · rw [(upF_perm _ _ _).length_eq]; simp
    · rw [(upF_perm _ _ _).length_eq, List.length_append]; exact push_heap L _ hH
    · exact ⟨_, (upF_perm _ _ _).mem_iff.2 (List.mem_append_right _ (List.mem_singleton.2 rfl)), rfl⟩
    · exact fun q => absurd q hin
/-- So many are due. -/
def cnt (now : Int) (M : List Tm) : Nat := (M.filter fun t => decide (t.tm ≤ now)).length
theorem cnt_perm {now : Int} {M K : List Tm} (h : M.Perm K) : cnt now M = cnt now K := (h.filter _).length_eq
theorem cnt_one (now : Int) (M : List Tm) (t : Tm) : cnt now (M ++ [t]) = cnt now M + if t.tm ≤ now then 1 else 0 := by
  unfold cnt
  by_cases h : t.tm ≤ now <;> simp [h]
theorem rest_perm (M : List Tm) (h : 0 < M.length) : M.Perm ((remF M 0).dropLast ++ [M[0]]) := by
  rw [← remF_split M 0 h]
  exact (remF_perm M 0).symm
/-- The first of a heap in which one is due. -/
theorem first_due {now : Int} {M : List Tm} (hH : Hp M M.length) (hc : 0 < cnt now M) : ∃ h : 0 < M.length, M[0].tm ≤ now ∧ cnt now (remF M 0).dropLast + 1 = cnt now M := by
  obtain ⟨t, ht⟩ := List.exists_mem_of_length_pos hc
  obtain ⟨hm, hd⟩ := List.mem_filter.1 ht
  obtain ⟨k, hk, rfl⟩ := List.mem_iff_getElem.1 hm
  have h0 : 0 < M.length := by omega
  have hr := hH.root k hk
  rw [el_at hk, el_at h0] at hr
  have h1 : M[0].tm ≤ M[k].tm := by
    have : ¬ M[k].tm < M[0].tm := fun q => hr (.inl q)
    omega
  have h2 : M[k].tm ≤ now := of_decide_eq_true hd
  refine ⟨h0, by omega, ?_⟩
  rw [cnt_perm (rest_perm M h0), cnt_one, if_pos (by omega)]
theorem none_due {now : Int} {M : List Tm} (hc : cnt now M = 0) (h : 0 < M.length) : ¬ M[0].tm ≤ now := fun q => by
  have : M[0] ∈ M.filter fun t => decide (t.tm ≤ now) := List.mem_filter.2 ⟨List.getElem_mem h, decide_eq_true q⟩
  rw [List.length_eq_zero_iff.1 hc] at this
  cases this
/-- Behind the first all others come later. -/
theorem first_ahead {M : List Tm} (hH : Hp M M.length) (hn : (M.map Tm.nm).Nodup) (h : 0 < M.length) : ∀ t ∈ (remF M 0).dropLast, Ah M[0] t := by
  intro t ht
  have hp := rest_perm M h
  obtain ⟨k, hk, e⟩ := List.mem_iff_getElem.1 (hp.mem_iff.2 (List.mem_append_left _ ht))
  have hr := hH.root k hk
  rw [el_at hk, el_at h, e] at hr
  by_cases q : Ah M[0] t
  · exact q
  · exfalso
    have h3 := (ah_tri q hr).2
    have h4 := (hp.map Tm.nm).nodup_iff.1 hn
    rw [List.map_append, List.nodup_append] at h4
    refine h4.2.2 t.nm (List.mem_map.2 ⟨t, ht, rfl⟩) M[0].nm (by simp) ?_
    rw [ByteArray.toList_eq, ByteArray.toList_eq] at h3
    exact (WideShapes.bytes_inj h3).symm
/-- A number without its sign; the least has none. -/
def absD (d : Int) : Int := if 0 ≤ d then d else if d = -9223372036854775808 then 0 else -d
theorem absD_le {d : Int} (h1 : -9223372036854775808 ≤ d) (h2 : d ≤ 9223372036854775807) : 0 ≤ absD d ∧ absD d ≤ 9223372036854775807 := by
  unfold absD
  split
  · omega
  · split <;> omega
theorem sign_any (d : Int) (h1 : -9223372036854775808 ≤ d) (h2 : d ≤ 9223372036854775807) (w : World) : Calls Try.prog 36 #[.int .i64 d] w (fun e w' => e = .returned (.int .i64 (absD d)) ∧ w = w') := by
  unfold absD
  by_cases hd : 0 ≤ d
  · rw [if_pos hd]
    go_enter Try.func36, Try.ntmps36
    go_wp2
    go_ret
    exact ⟨rfl, rfl⟩
  · rw [if_neg hd]
    have hd' : ¬ (0 : Int) ≤ d := hd
    by_cases hm : d = -9223372036854775808
    · rw [if_pos hm]
      subst hm
      have hw : wrap64 9223372036854775808 = -9223372036854775808 := by unfold wrap64; omega
      go_enter Try.func36, Try.ntmps36
      go_wp2
      go_ret
      exact ⟨rfl, rfl⟩
    · rw [if_neg hm]
      have hw : wrap64 (-d) = -d := by unfold wrap64; omega
      have hw2 : max (-d) 0 = -d := by omega
      go_enter Try.func36, Try.ntmps36
      go_wp2
      go_ret
      exact ⟨rfl, rfl⟩
/-- What Jitter tells. -/
def jit (x d : Int) : Int := if x < 1 then x else x - absD d % (x / 4 + 1)
theorem jit_bd {x d : Int} (hx : 1 ≤ x) : jit x d ≤ x ∧ x - x / 4 ≤ jit x d := by
  unfold jit
  rw [if_neg (by omega)]
  have := Int.emod_nonneg (absD d) (b := x / 4 + 1) (by omega)
  have := Int.emod_lt_of_pos (absD d) (b := x / 4 + 1) (by omega)
  omega
theorem jit_any (x d : Int) (h1 : -9223372036854775808 ≤ d) (h2 : d ≤ 9223372036854775807) (h4 : x ≤ 9223372036854775807) (w : World) : Calls Try.prog 25 #[.int .i64 x, .int .i64 d] w (fun e w' => e = .returned (.int .i64 (jit x d)) ∧ w = w') := by
  by_cases hx : x < 1
  · have e : jit x d = x := by unfold jit; rw [if_pos hx]
    rw [e]
    go_enter Try.func25, Try.ntmps25
    go_wp2
    go_ret
    exact ⟨rfl, rfl⟩
  · have HB := jit_bd (x := x) (d := d) (by omega)
    have hS := sign_any d h1 h2
    have ha := absD_le h1 h2
    have e : jit x d = x - absD d % (x / 4 + 1) := by unfold jit; rw [if_neg hx]
    rw [e] at HB ⊢
    have hx' : ¬ x < 1 := hx
    have q1 : x.tdiv 4 = x / 4 := Int.tdiv_eq_ediv_of_nonneg (by omega)
    have q2 : wrap64 (x / 4 + 1) = x / 4 + 1 := by unfold wrap64; omega
    have q3 : (absD d).tmod (x / 4 + 1) = absD d % (x / 4 + 1) := Int.tmod_eq_emod_of_nonneg ha.1
    have hQ : 0 ≤ x / 4 ∧ x / 4 ≤ x := by omega
    generalize absD d = ad at *
    generalize x / 4 = Q at *
    have q4 : ¬ Q + 1 = 0 := by omega
    have q0 : wrap64 Q = Q := by unfold wrap64; omega
    clear e
    generalize ad % (Q + 1) = R at *
    have q5 : wrap64 (x - R) = x - R := by unfold wrap64; omega
    clear HB ha hQ
    go_enter Try.func25, Try.ntmps25
    go_wp2_with (go_at_call 36; refine (hS _).mono ?_; rintro e w' ⟨rfl, rfl⟩)
    go_ret
    exact ⟨congrArg (fun v => Ending.returned (Value.int .i64 v)) q5, rfl⟩
theorem rjit_any (x d : Int) (h1 : -9223372036854775808 ≤ d) (h2 : d ≤ 9223372036854775807) (h4 : x ≤ 9223372036854775807) (w : World) : Calls Try.prog 26 #[.int .i64 x, .int .i64 d] w (fun e w' => e = .returned (.int .i64 (jit x d)) ∧ w = w') := by
  by_cases hx : x < 1
  · have e : jit x d = x := by unfold jit; rw [if_pos hx]
    rw [e]
    go_enter Try.func26, Try.ntmps26
    go_wp2
    go_ret
    exact ⟨rfl, rfl⟩
  · have HB := jit_bd (x := x) (d := d) (by omega)
    have ha := absD_le h1 h2
    have e : jit x d = x - absD d % (x / 4 + 1) := by unfold jit; rw [if_neg hx]
    rw [e] at HB ⊢
    have hx' : ¬ x < 1 := hx
    have q1 : x.tdiv 4 = x / 4 := Int.tdiv_eq_ediv_of_nonneg (by omega)
    have q2 : wrap64 (x / 4 + 1) = x / 4 + 1 := by unfold wrap64; omega
    have q3 : (absD d).tmod (x / 4 + 1) = absD d % (x / 4 + 1) := Int.tmod_eq_emod_of_nonneg ha.1
    have hab : absD d = if 0 ≤ d then d else if d = -9223372036854775808 then 0 else -d := rfl
    have hQ : 0 ≤ x / 4 ∧ x / 4 ≤ x := by omega
    generalize absD d = ad at *
    generalize x / 4 = Q at *
    have q4 : ¬ Q + 1 = 0 := by omega
    have q0 : wrap64 Q = Q := by unfold wrap64; omega
    clear e
    generalize ad % (Q + 1) = R at *
    have q5 : wrap64 (x - R) = x - R := by unfold wrap64; omega
    clear HB ha hQ
    by_cases hd : 0 ≤ d
    · rw [if_pos hd] at hab
      subst hab
      have hd' : ¬ ad < 0 := by omega
      go_enter Try.func26, Try.ntmps26
      go_wp2
      go_ret
      exact ⟨rfl, rfl⟩
    · rw [if_neg hd] at hab
      have hd' : d < 0 := by omega
      by_cases hm : d = -9223372036854775808
      · rw [if_pos hm] at hab
        subst hab hm
        have hw : wrap64 9223372036854775808 = -9223372036854775808 := by unfold wrap64; omega
        go_enter Try.func26, Try.ntmps26
        go_wp2
        go_ret
        exact ⟨rfl, rfl⟩
      · rw [if_neg hm] at hab
        obtain ⟨m, rfl⟩ : ∃ m, d = -m := ⟨-d, by omega⟩
        rw [Int.neg_neg] at hab
        subst hab
        have hw : wrap64 ad = ad := by unfold wrap64; omega
        have hn : ¬ ad < 0 := by omega
        have hp : 0 < ad := by omega
        clear h1 h2 hd hm
        go_enter Try.func26, Try.ntmps26
        go_wp2
        go_ret
        exact ⟨rfl, rfl⟩
end Go.Proofs.Ytkamcnjofpamhaa
