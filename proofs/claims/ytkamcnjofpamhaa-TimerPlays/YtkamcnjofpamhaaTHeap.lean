/-
  The heap's Push, Fix and Remove, for every line.
-/
import Derived.Test.YtkamcnjofpamhaaTDown
import Derived.Test.YtkamcnjofpamhaaTPush
namespace Go.Proofs.Ytkamcnjofpamhaa
open Go.RowKit
set_option linter.unusedSimpArgs false
theorem swp_off {L : List Tm} {i j k : Nat} (hi : k ≠ i) (hj : k ≠ j) : (swp L i j)[k]? = L[k]? := by
  unfold swp
  split
  · rw [List.getElem?_set_ne (by omega), List.getElem?_set_ne (by omega)]
  · rfl
theorem upF_off : ∀ (f : Nat) (L : List Tm) (j k : Nat), j < k → (upF f L j)[k]? = L[k]?
  | 0, _, _, _, _ => rfl
  | f + 1, L, j, k, h => by
    unfold upF
    split
    · rfl
    · split
      · rw [upF_off f _ _ _ (by omega), swp_off (by omega) (by omega)]
      · rfl
theorem kid_lt {L : List Tm} {i n : Nat} (h : ¬ n ≤ 2 * i + 1) : kid L i n < n ∧ i < kid L i n := by
  unfold kid
  split
  · rename_i h1
    omega
  · omega
theorem downF_off : ∀ (f : Nat) (L : List Tm) (i n k : Nat), i < n → n ≤ k → (downF f L i n).1[k]? = L[k]?
  | 0, _, _, _, _, _, _ => rfl
  | f + 1, L, i, n, k, hi, hk => by
    unfold downF
    split
    · rfl
    · rename_i h1
      have := kid_lt (L := L) h1
      split
      · rw [downF_off f _ _ _ _ (by omega) hk, swp_off (by omega) (by omega)]
      · rfl
/-- What Fix leaves. -/
def fixF (L : List Tm) (i n : Nat) : List Tm := if i < (downF n L i n).2 then (downF n L i n).1 else upF i (downF n L i n).1 i
theorem fixF_perm (L : List Tm) (i n : Nat) : (fixF L i n).Perm L := by
  unfold fixF
  split
  · exact downF_perm _ _ _ _
  · exact (upF_perm _ _ _).trans (downF_perm _ _ _ _)
theorem fixF_off (L : List Tm) (i n k : Nat) (hi : i < n) (hk : n ≤ k) : (fixF L i n)[k]? = L[k]? := by
  unfold fixF
  split
  · exact downF_off _ _ _ _ _ hi hk
  · rw [upF_off _ _ _ _ (by omega)]
    exact downF_off _ _ _ _ _ hi hk
/-- What Remove leaves, with the one that goes at the end. -/
def remF (L : List Tm) (i : Nat) : List Tm := if L.length - 1 = i then L else fixF (swp L i (L.length - 1)) i (L.length - 1)
theorem remF_perm (L : List Tm) (i : Nat) : (remF L i).Perm L := by
  unfold remF
  split
  · exact List.Perm.refl _
  · exact (fixF_perm _ _ _).trans (swp_perm _ _ _)
theorem remF_last (L : List Tm) (i : Nat) (hi : i < L.length) : (remF L i)[L.length - 1]? = some L[i] := by
  unfold remF
  split
  · rename_i h
    rw [h]
    simp [hi]
  · rename_i h
    rw [fixF_off _ _ _ _ (by omega) (Nat.le_refl _)]
    have hk : L.length - 1 < (swp L i (L.length - 1)).length := by rw [swp_len]; omega
    rw [List.getElem?_eq_getElem hk, swp_at hi (by omega) _ hk, if_pos rfl]
theorem remF_split (L : List Tm) (i : Nat) (hi : i < L.length) : remF L i = (remF L i).dropLast ++ [L[i]] := by
  have hl : (remF L i).length = L.length := (remF_perm L i).length_eq
  have h1 := remF_last L i hi
  apply List.ext_getElem?
  intro k
  by_cases hk : k < L.length - 1
  · rw [List.getElem?_append_left (by simp; omega), List.getElem?_dropLast, if_pos (by omega)]
  · by_cases hk2 : k = L.length - 1
    · subst hk2
      rw [h1, List.getElem?_append_right (by simp; omega)]
      simp [hl]
    · rw [List.getElem?_eq_none (by omega), List.getElem?_eq_none (by simp; omega)]
/-- Where a line may lie behind what was done to it. -/
def Own (w : World) (v v' : Value) : Prop := v'.ownBlock = v.ownBlock ∨ ∃ k, v'.ownBlock = some k ∧ w.heap.size ≤ k
theorem foot_app {q : Nat} {w : World} {v v' : Value} {L : List Tm} {t : Tm} (ho : Own w v v') {k : Nat} (h : Foot q v' (L ++ [t]) k) : (Foot q v L k ∨ k = t.b) ∨ w.heap.size ≤ k := by
  rcases h with h | h | ⟨s, hs, e⟩
  · exact .inl (.inl (.inl h))
  · rcases ho with e | ⟨k', e, hk⟩
    · exact .inl (.inl (.inr (.inl (e ▸ h))))
    · rw [e] at h
      cases h
      exact .inr hk
  · rcases List.mem_append.1 hs with h1 | h1
    · exact .inl (.inl (.inr (.inr ⟨s, h1, e⟩)))
    · simp at h1
      exact .inl (.inr (by rw [← e, h1]))
set_option maxRecDepth 100000 in
theorem heap_push (w : World) (q : Nat) (m v : Value) (L : List Tm) (t : Tm) (p : Int) (h : St w q m v L) (ht : Tim w t p) (hfr : ∀ s ∈ L, s.b ≠ t.b) (hl : L.length ≤ 10000) : Calls Try.prog 28 #[.iface 71 (.pointer (some ⟨q, 0, none⟩)), .iface 64 (.pointer (some ⟨t.b, 0, none⟩))] w (fun e w' => e = .returned (.tuple #[]) ∧ ∃ v', St w' q m v' (upF L.length (L ++ [t]) L.length) ∧ Frm (fun k => Foot q v L k ∨ k = t.b) w w' ∧ Own w v v') := by
  have mp := m_push ⟨q, 0, none⟩
  have P := push_line w q m v L t p h ht hfr (by omega)
  clear h ht hfr
  go_enter Try.func28, Try.ntmps28
  go_wp2_with (first
    | (go_at_call 87; refine P.mono ?_; rintro e w1 ⟨rfl, v', h1, hF1, ho⟩; obtain ⟨a, cap, hv⟩ := h1.shape; rw [List.length_append] at hv; replace hv : v' = .slice a (L.length + 1) cap := hv; subst hv; have m1 := m_len (one_cell h1.que rfl : w1.cell? ⟨q, 0, none⟩ = some (.slice a (L.length + 1) cap)))
    | (go_at_call 83; refine (len_any _ _ _ _).mono ?_; rintro e w2 ⟨rfl, rfl⟩)
    | (go_at_call 38; refine (up_any _ q m _ (L ++ [t]) L.length h1 (by simp) (by simp; omega)).mono ?_; rintro e w3 ⟨rfl, h3, hF3⟩))
  go_end0
  exact ⟨rfl, _, h3, (hF1.mono (fun k hk => by rcases hk with h | h | h; exact .inl (.inl (.inl h)); exact .inl (.inl (.inr (.inl h))); exact .inl (.inr h))).trans hF3 (fun k hk => foot_app ho hk), ho⟩
set_option maxRecDepth 100000 in
theorem heap_fix (w : World) (q : Nat) (m v : Value) (L : List Tm) (i : Nat) (h : St w q m v L) (hi : i < L.length) (hl : L.length ≤ 10000) : Calls Try.prog 27 #[.iface 71 (.pointer (some ⟨q, 0, none⟩)), .int .i64 i] w (fun e w' => e = .returned (.tuple #[]) ∧ St w' q m v (fixF L i L.length) ∧ Frm (Foot q v L) w w') := by
  obtain ⟨a, cap, rfl⟩ := h.shape
  have m1 := m_len (one_cell h.que rfl : w.cell? ⟨q, 0, none⟩ = some (.slice a L.length cap))
  have D := down_any w q m _ L i L.length h hi (Nat.le_refl _) (by omega)
  have hp := downF_perm L.length L i L.length
  have HX : Hid (fixF L i L.length = if i < (downF L.length L i L.length).2 then (downF L.length L i L.length).1 else upF i (downF L.length L i L.length).1 i) := rfl
  generalize downF L.length L i L.length = R at *
  have hR : R.1.length = L.length := hp.length_eq
  have HP : Hid (R.1.Perm L ∧ R.1.length = L.length) := ⟨hp, hR⟩
  clear h hp hR
  by_cases hd : i < R.2
  · have HX2 : Hid (fixF L i L.length = R.1) := by
      show _ = _
      rw [HX.out, if_pos hd]
    clear HX
    rw [decide_eq_true hd] at D
    clear hd
    go_enter Try.func27, Try.ntmps27
    go_wp2_with (first
      | (go_at_call 83; refine (len_any _ _ _ _).mono ?_; rintro e w2 ⟨rfl, rfl⟩)
      | (go_at_call 37; refine D.mono ?_; rintro e w3 ⟨rfl, h3, hF3⟩))
    go_end0
    exact ⟨rfl, by rw [HX2.out]; exact h3, hF3⟩
  · have HX2 : Hid (fixF L i L.length = upF i R.1 i) := by
      show _ = _
      rw [HX.out, if_neg hd]
    clear HX
    rw [decide_eq_false hd] at D
    clear hd
    go_enter Try.func27, Try.ntmps27
    go_wp2_with (first
      | (go_at_call 83; refine (len_any _ _ _ _).mono ?_; rintro e w2 ⟨rfl, rfl⟩)
      | (go_at_call 37; refine D.mono ?_; rintro e w3 ⟨rfl, h3, hF3⟩)
      | (go_at_call 38; refine (up_any _ q m _ R.1 i h3 (by rw [HP.out.2]; exact hi) (by rw [HP.out.2]; omega)).mono ?_; rintro e w4 ⟨rfl, h4, hF4⟩))
    go_end0
    exact ⟨rfl, by rw [HX2.out]; exact h4, hF3.trans hF4 (fun k hk => .inl (Foot.perm HP.out.1 hk))⟩
/-- What Remove leaves. -/
def Removed (w w' : World) (q : Nat) (m v : Value) (L : List Tm) (t : Tm) (K : List Tm) : Prop :=
  ∃ v' p, St w' q m v' K ∧ Frm (Foot q v L) w w' ∧ v'.ownBlock = v.ownBlock ∧ Tim w' t p
theorem Popped.removed {w0 w w' : World} {q : Nat} {m v : Value} {L K : List Tm} {t : Tm} (h : Popped w w' q m v K t) (hF : Frm (Foot q v L) w0 w) : Removed w0 w' q m v L t K := by
  obtain ⟨v', h1, h2, h3, h4⟩ := h
  exact ⟨v', _, h1, hF.trans h2 (fun k hk => by rcases hk with h | h; exact .inl (.inl h); exact .inl (.inr (.inl h))), h3, h4⟩
set_option maxHeartbeats 2000000 in
set_option maxRecDepth 100000 in
theorem heap_remove (w : World) (q : Nat) (m v : Value) (L : List Tm) (i : Nat) (h : St w q m v L) (hi : i < L.length) (hl : L.length ≤ 10000) : Calls Try.prog 39 #[.iface 71 (.pointer (some ⟨q, 0, none⟩)), .int .i64 i] w (fun e w' => e = .returned (.iface 64 (.pointer (some ⟨L[i].b, 0, none⟩))) ∧ Removed w w' q m v L L[i] (remF L i).dropLast) := by
  obtain ⟨t, ht⟩ : ∃ t, L[i] = t := ⟨_, rfl⟩
  obtain ⟨n, hn⟩ : ∃ n, L.length = n + 1 := ⟨L.length - 1, by omega⟩
  have HS := remF_split L i hi
  obtain ⟨K, hK⟩ : ∃ K, (remF L i).dropLast = K := ⟨_, rfl⟩
  rw [ht, hK] at HS
  rw [ht, hK]
  have hKl : K.length = n := by
    have := (remF_perm L i).length_eq
    rw [HS] at this
    simp at this
    omega
  obtain ⟨a, cap, hv⟩ := h.shape
  rw [hn] at hv
  subst hv
  have m1 := m_len (one_cell h.que rfl : w.cell? ⟨q, 0, none⟩ = some (.slice a (n + 1) cap))
  have mp := m_pop ⟨q, 0, none⟩
  have HP : Hid (∀ W, St W q m (.slice a (n + 1) cap) (K ++ [t]) → Calls Try.prog 86 #[.pointer (some ⟨q, 0, none⟩)] W (fun e w' => e = .returned (.iface 64 (.pointer (some ⟨t.b, 0, none⟩))) ∧ Popped W w' q m (.slice a (n + 1) cap) K t)) :=
    fun W hW => pop_line W q m _ K t hW (by omega)
  by_cases h0 : n = i
  · have hL : L = K ++ [t] := by
      rw [← HS]
      unfold remF
      rw [if_pos (by omega)]
    subst h0
    have P := HP.out w (hL ▸ h)
    clear HP HS
    have e0 : ((n : Int) != (n : Int)) = false := by simp
    go_enter Try.func39, Try.ntmps39
    go_wp2_with (first
      | (go_at_call 83; refine (len_any _ _ _ _).mono ?_; rintro e w2 ⟨rfl, rfl⟩)
      | (go_at_call 86; refine P.mono ?_; rintro e w3 ⟨rfl, h3⟩))
    go_ret
    exact ⟨rfl, h3.removed (Frm.refl _ _)⟩
  · have e0 : ((n : Int) != (i : Int)) = true := by simp; omega
    have hS := h.swaps (i := i) (j := n) hi (by omega) (fun e => h0 e.symm)
    have m2 := m_swap (one_cell h.que rfl : w.cell? ⟨q, 0, none⟩ = some (.slice a (n + 1) cap))
    have HR : remF L i = fixF (swp L i n) i n := by
      unfold remF
      rw [if_neg (by omega), show L.length - 1 = n by omega]
    rw [HR] at HS
    have hps := swp_perm L i n
    have hsl : (swp L i n).length = n + 1 := by rw [swp_len, hn]
    generalize swp L i n = S at *
    have HD : Hid (∀ W, St W q m (.slice a (n + 1) cap) S → Calls Try.prog 37 #[.iface 71 (.pointer (some ⟨q, 0, none⟩)), .int .i64 i, .int .i64 n] W (fun e w' => e = .returned (.bool (decide (i < (downF n S i n).2))) ∧ St w' q m (.slice a (n + 1) cap) (downF n S i n).1 ∧ Frm (Foot q (.slice a (n + 1) cap) S) W w')) :=
      fun W hW => down_any W q m _ S i n hW (by omega) (by omega) (by omega)
    have hp := downF_perm n S i n
    unfold fixF at HS
    generalize downF n S i n = R at *
    have hR : R.1.length = n + 1 := by rw [hp.length_eq, hsl]
    have HQ : Hid (R.1.Perm S ∧ S.Perm L ∧ R.1.length = n + 1) := ⟨hp, hps, hR⟩
    clear hp hps hR hsl HR
    by_cases hd : i < R.2
    · rw [if_pos hd] at HS
      have HE : Hid (R.1 = K ++ [t]) := HS
      rw [decide_eq_true hd] at HD
      clear HS hd
      go_enter Try.func39, Try.ntmps39
      go_wp2_with (first
        | (go_at_call 83; refine (len_any _ _ _ _).mono ?_; rintro e w2 ⟨rfl, rfl⟩)
        | (go_at_call 85; refine hS.mono ?_; rintro e w2 ⟨rfl, h2, hF2⟩)
        | (go_at_call 37; refine (HD.out _ h2).mono ?_; rintro e w3 ⟨rfl, h3, hF3⟩)
        | (go_at_call 86; refine (HP.out _ (HE.out ▸ h3)).mono ?_; rintro e w5 ⟨rfl, h5⟩))
      go_ret
      exact ⟨rfl, h5.removed (hF2.trans hF3 (fun k hk => .inl (Foot.perm HQ.out.2.1 hk)))⟩
    · rw [if_neg hd] at HS
      have HE : Hid (upF i R.1 i = K ++ [t]) := HS
      rw [decide_eq_false hd] at HD
      clear HS hd
      go_enter Try.func39, Try.ntmps39
      go_wp2_with (first
        | (go_at_call 83; refine (len_any _ _ _ _).mono ?_; rintro e w2 ⟨rfl, rfl⟩)
        | (go_at_call 85; refine hS.mono ?_; rintro e w2 ⟨rfl, h2, hF2⟩)
        | (go_at_call 37; refine (HD.out _ h2).mono ?_; rintro e w3 ⟨rfl, h3, hF3⟩)
        | (go_at_call 38; refine (up_any _ q m _ R.1 i h3 (by rw [HQ.out.2.2]; omega) (by rw [HQ.out.2.2]; omega)).mono ?_; rintro e w4 ⟨rfl, h4, hF4⟩)
        | (go_at_call 86; refine (HP.out _ (HE.out ▸ h4)).mono ?_; rintro e w5 ⟨rfl, h5⟩))
      go_ret
      exact ⟨rfl, h5.removed ((hF2.trans hF3 (fun k hk => .inl (Foot.perm HQ.out.2.1 hk))).trans hF4 (fun k hk => .inl (Foot.perm HQ.out.2.1 (Foot.perm HQ.out.1 hk))))⟩
end Go.Proofs.Ytkamcnjofpamhaa
