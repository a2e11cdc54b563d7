/-
  A queue: Cancel keeps the heap's order.
-/
import Derived.Test.YtkamcnjofpamhaaTHp
import Derived.Test.YtkamcnjofpamhaaTCancel
namespace Go.Proofs.Ytkamcnjofpamhaa
open Go.RowKit Go.Maps
set_option linter.unusedSimpArgs false
/-- One is taken away: the rest is a heap. -/
theorem rem_heap (L : List Tm) (i : Nat) (hi : i < L.length) (h : Hp L L.length) : Hp (remF L i).dropLast (L.length - 1) := by
  have hd : ∀ K : List Tm, K.length = L.length → Hp K (L.length - 1) → Hp K.dropLast (L.length - 1) := fun K hK hh k k0 kn => by
    have e : ∀ k, k < L.length - 1 → el K.dropLast k = el K k := fun k hk => by
      rw [el_at (by simp; omega), el_at (by omega)]
      simp
    rw [e k kn, e _ (by omega)]
    exact hh k k0 kn
  refine hd _ (remF_perm L i).length_eq ?_
  unfold remF
  split
  · intro k k0 kn
    exact h k k0 (by omega)
  · refine fixF_heap _ _ _ (by rw [swp_len]; omega) (by omega) (fun k k0 kn kp kne => ?_) (fun k k0 kn kp j0 => ?_)
    · rw [el_swp hi (by omega), el_swp hi (by omega), if_neg (by omega), if_neg kne, if_neg (by omega), if_neg kp]
      exact h k k0 (by omega)
    · rw [el_swp hi (by omega), el_swp hi (by omega), if_neg (by omega), if_neg (by omega), if_neg (by omega), if_neg (by omega)]
      have h3 := h k k0 (by omega)
      rw [kp] at h3
      exact ah_ntrans h3 (h i j0 (by omega))
set_option maxHeartbeats 2000000 in
set_option maxRecDepth 100000 in
theorem cancel_hp (w : World) (q mb : Nat) (v : Value) (L : List Tm) (a : Option Addr) (c : Nat) (ns : List ByteArray) (h : Qd w q mb v L) (hl : L.length ≤ 10000) (hns : Names w (FootQ q mb v L) a ns) (hnl : ns.length ≤ 1000000) (hH : Hp L L.length) : Calls Try.prog 15 #[.pointer (some ⟨q, 0, none⟩), .slice a ns.length c] w (fun e w' => ∃ K, e = .returned (.int .i64 ((L.length : Int) - (K.length : Int))) ∧ Cancelled w w' q mb v L K ns ∧ Hp K K.length) := by
  obtain ⟨ad, cap, hv⟩ := h.st.shape
  have c0 : w.cell? ⟨q, 0, none⟩ = some v := one_cell h.st.que rfl
  rw [hv] at c0
  have HV : Hid (v = .slice ad L.length cap) := hv
  clear hv
  go_enter Try.func15, Try.ntmps15
  go_wp2
  go_loopw [19] (fun u wr => ∃ (i : Nat) (K : List Tm), u = .int .i64 i ∧ i ≤ ns.length ∧ Cancelled w wr q mb v L K (ns.take i) ∧ Hp K K.length) (fun u _ => ns.length - (intOf u).toNat)
  case atStart =>
    refine ⟨0, L, rfl, Nat.zero_le _, ⟨v, h, ?_, Frm.refl _ _, rfl⟩, hH⟩
    rw [show left (ns.take 0) L = L by unfold left; simp]
  case round =>
    obtain ⟨i, K, rfl, hi, hC, hHK⟩ := hrel
    have HC : Hid (Cancelled w wr q mb v L K (ns.take i)) := hC
    obtain ⟨v', hQ, hp, hF, ho⟩ := hC
    have hKl : K.length ≤ L.length := by rw [hp.length_eq]; exact List.length_filter_le _ _
    by_cases hlt : i < ns.length
    · obtain ⟨g, rfl, hg, hgS, hc⟩ := hns.at_ i hlt
      have hcr : wr.cell? ⟨g, i, none⟩ = some (.string ns[i]) := (World.cell?_of_block (w := w) (a := ⟨g, i, none⟩) (hF.block g hg hgS)).trans hc
      have hsz := hns.sz ns[i] (List.getElem_mem hlt)
      have c1 : wr.cell? ⟨q, 1, none⟩ = some (.map (some mb)) := one_cell hQ.st.que rfl
      have hts : ns.take (i + 1) = ns.take i ++ [ns[i]] := List.take_succ_eq_append_getElem hlt
      have hlt' : (i : Int) < (ns.length : Int) := by omega
      by_cases hin : ∃ t ∈ K, t.nm = ns[i]
      · obtain ⟨t, htK, htn⟩ := hin
        obtain ⟨j, hj, hjt⟩ := List.getElem_of_mem htK
        have hlk := hQ.mp.hit htK
        rw [htn] at hlk
        have c2 : wr.cell? ⟨t.b, 2, none⟩ = some (.int .i64 j) := by
          have := hQ.st.tim j hj
          rw [hjt] at this
          exact one_cell this rfl
        have T := take_any wr q mb v' K j hQ hj (by omega)
        have HH : Hid (Hp (remF K j).dropLast (remF K j).dropLast.length) := by
          have hl2 : (remF K j).dropLast.length = K.length - 1 := by rw [List.length_dropLast, (remF_perm K j).length_eq]
          rw [hl2]; exact rem_heap K j hj hHK
        have HN : Hid (∀ w1, Taken wr w1 q mb v' K t (remF K j).dropLast → Cancelled w w1 q mb v L (remF K j).dropLast (ns.take (i + 1))) := by
          rintro w1 ⟨v2, p, q2, F2, o2, _⟩
          refine ⟨v2, q2, ?_, hF.trans F2 (fun k hk => .inl (foot_sub ho (left_sub hp) hk)), o2.trans ho⟩
          have hpp : ((remF K j).dropLast ++ [t]).Perm K := by
            have := remF_split K j hj
            rw [hjt] at this
            rw [← this]
            exact remF_perm K j
          have h1 := left_one hQ.mp.nd hpp
          rw [hts, left_snoc, ← htn]
          exact h1.trans (hp.filter _)
        rw [hjt] at T
        generalize (remF K j).dropLast = J at *
        clear hQ hp hF hc hns h hts hjt hHK hH
        generalize ns[i] = s at *
        go_wp2_with (go_at_call 30; refine T.mono ?_; rintro e w1 ⟨rfl, hT⟩; have hC1 := HN.out _ hT)
        go_roundw
        case rel => exact ⟨i + 1, J, by go_num, by omega, hC1, HH.out⟩
        case measure => simp [intOf]; omega
      · have hno : ∀ t ∈ K, t.nm ≠ ns[i] := fun t ht e => hin ⟨t, ht, e⟩
        have hlk := hQ.mp.miss hsz hno
        have HH : Hid (Hp K K.length) := hHK
        have HN : Hid (Cancelled w wr q mb v L K (ns.take (i + 1))) := by
          refine ⟨v', hQ, ?_, hF, ho⟩
          rw [hts, left_snoc]
          have h1 : (K.filter fun t => !nmB t.nm ns[i]) = K := by
            rw [List.filter_eq_self]
            intro x hx
            rw [nmB_false (hno x hx)]
            rfl
          have h2 := hp.filter (fun t => !nmB t.nm ns[i])
          rwa [h1] at h2
        clear hQ hp hF hc hns h hts hin hno hHK hH
        generalize ns[i] = s at *
        go_wp2
        go_roundw
        case rel => exact ⟨i + 1, K, by go_num, by omega, HN, HH.out⟩
        case measure => simp [intOf]; omega
    · have hin : i = ns.length := by omega
      subst hin
      obtain ⟨ad', cap', hv'⟩ := hQ.st.shape
      have c3 : wr.cell? ⟨q, 0, none⟩ = some v' := one_cell hQ.st.que rfl
      rw [hv'] at c3
      have HH : Hid (Hp K K.length) := hHK
      clear hv' hQ hp hF ho hns h hHK hH
      go_wp2
      go_ret
      refine ⟨K, rfl, ?_, HH.out⟩
      have := HC.out
      rwa [List.take_of_length_le (Nat.le_refl _)] at this
end Go.Proofs.Ytkamcnjofpamhaa
