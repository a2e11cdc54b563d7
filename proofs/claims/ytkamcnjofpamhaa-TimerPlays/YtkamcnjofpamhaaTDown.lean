/-
  The heap's down: what it leaves of a line, for every line.
-/
import Derived.Test.YtkamcnjofpamhaaTUp
namespace Go.Proofs.Ytkamcnjofpamhaa
open Go.RowKit
set_option linter.unusedSimpArgs false
/-- Which of the two below comes first. -/
def kid (L : List Tm) (i n : Nat) : Nat := if 2 * i + 2 < n ∧ les L (2 * i + 2) (2 * i + 1) = true then 2 * i + 2 else 2 * i + 1
/-- What down leaves, and where the one that went down came to. -/
def downF : Nat → List Tm → Nat → Nat → List Tm × Nat
  | 0, L, i, _ => (L, i)
  | f + 1, L, i, n => if n ≤ 2 * i + 1 then (L, i) else if les L (kid L i n) i = true then downF f (swp L i (kid L i n)) (kid L i n) n else (L, i)
theorem downF_perm : ∀ (f : Nat) (L : List Tm) (i n : Nat), (downF f L i n).1.Perm L
  | 0, L, _, _ => List.Perm.refl L
  | f + 1, L, i, n => by
    unfold downF
    split
    · exact List.Perm.refl L
    · split
      · exact (downF_perm f _ _ _).trans (swp_perm L _ _)
      · exact List.Perm.refl L
theorem calls_arg {f : Nat} {v : Value} {a a' b b' : Int} {w : World} {R : Ending → World → Prop} (h : Calls Try.prog f #[v, .int .i64 a, .int .i64 b] w R) (ha : a = a') (hb : b = b') : Calls Try.prog f #[v, .int .i64 a', .int .i64 b'] w R := by
  subst ha hb; exact h
set_option maxRecDepth 100000 in
set_option maxHeartbeats 2000000 in
theorem down_any (w : World) (q : Nat) (m v : Value) (L : List Tm) (i n : Nat) (h : St w q m v L) (hi : i < L.length) (hn : n ≤ L.length) (hl : L.length ≤ 100000) : Calls Try.prog 37 #[.iface 71 (.pointer (some ⟨q, 0, none⟩)), .int .i64 i, .int .i64 n] w (fun e w' => e = .returned (.bool (decide (i < (downF n L i n).2))) ∧ St w' q m v (downF n L i n).1 ∧ Frm (Foot q v L) w w') := by
  obtain ⟨g, cap, cur, rfl, _⟩ := h.row (by omega)
  obtain ⟨v, hv⟩ : ∃ v : Value, v = .slice (some ⟨g, 0, none⟩) L.length cap := ⟨_, rfl⟩
  rw [← hv] at h ⊢
  have HV : Hid (v = .slice (some ⟨g, 0, none⟩) L.length cap) := hv
  clear hv
  have HM : Hid (∀ W L', St W q m v L' → (method 235 71 (.pointer (some ⟨q, 0, none⟩)) "Less").run Try.prog W = .ok (84, v) W ∧ (method 235 71 (.pointer (some ⟨q, 0, none⟩)) "Swap").run Try.prog W = .ok (85, v) W) := by
    intro W L' hW
    have c : W.cell? ⟨q, 0, none⟩ = some v := one_cell hW.que rfl
    rw [HV.out] at c ⊢
    exact ⟨m_less c, m_swap c⟩
  obtain ⟨D, hD⟩ : ∃ D, downF n L i n = D := ⟨_, rfl⟩
  rw [hD]
  have HD : Hid (downF n L i n = D) := hD
  clear hD
  go_enter Try.func37, Try.ntmps37
  go_wp2
  go_loopw [7] (fun u wr => ∃ (k : Nat) (L' : List Tm) (f : Nat), u = .int .i64 k ∧ L'.Perm L ∧ k < L.length ∧ St wr q m v L' ∧ Frm (Foot q v L) w wr ∧ n ≤ f + k ∧ Hid (downF f L' k n = D)) (fun u _ => n - (intOf u).toNat)
  case atStart => exact ⟨i, L, n, rfl, List.Perm.refl _, hi, h, Frm.refl _ _, by omega, HD⟩
  case round =>
    obtain ⟨k, L', f, rfl, hp, hk, h', hF, hf, HE⟩ := hrel
    have hl' : L'.length = L.length := hp.length_eq
    by_cases hA : n ≤ 2 * k + 1
    · have hA' : (n : Int) ≤ 2 * (k : Int) + 1 := by omega
      have HE' : Hid (D = (L', k)) := by
        show D = _
        rw [← HE.out]
        cases f with
        | zero => rfl
        | succ f => rw [downF, if_pos hA]
      go_wp2
      go_ret
      rw [HE'.out]
      exact ⟨rfl, h', hF⟩
    · have hA' : ¬ (n : Int) ≤ 2 * (k : Int) + 1 := by omega
      have hA2 : ¬ 2 * (k : Int) + 1 < 0 := by omega
      obtain ⟨f', rfl⟩ : ∃ f', f = f' + 1 := ⟨f - 1, by omega⟩
      have HU : Hid (D = if les L' (kid L' k n) k = true then downF f' (swp L' k (kid L' k n)) (kid L' k n) n else (L', k)) := by
        show D = _
        rw [← HE.out, downF, if_neg hA]
      clear HE
      have m1 := (HM.out wr L' h').1
      by_cases hB : 2 * k + 2 < n
      · have hB' : 2 * (k : Int) + 1 + 1 < (n : Int) := by omega
        have hS := calls_arg (h'.less (i := 2 * k + 2) (j := 2 * k + 1) (by omega) (by omega)) (a' := 2 * (k : Int) + 1 + 1) (b' := 2 * (k : Int) + 1) (by omega) (by omega)
        cases hc : les L' (2 * k + 2) (2 * k + 1) with
        | true =>
          have hkid : kid L' k n = 2 * k + 2 := by unfold kid; rw [if_pos ⟨hB, hc⟩]
          rw [hkid] at HU
          rw [hc] at hS
          clear hc hkid
          have HS2 : Hid (∀ W, St W q m v L' → Calls Try.prog 84 #[v, .int .i64 (2 * (k : Int) + 1 + 1), .int .i64 k] W (Gives W (.bool (les L' (2 * k + 2) k)))) := fun W hW => calls_arg (hW.less (i := 2 * k + 2) (j := k) (by omega) (by omega)) (by omega) rfl
          have HS3 : Hid (∀ W, St W q m v L' → Calls Try.prog 85 #[v, .int .i64 k, .int .i64 (2 * (k : Int) + 1 + 1)] W (fun e w' => e = .returned (.tuple #[]) ∧ St w' q m v (swp L' k (2 * k + 2)) ∧ Frm (Foot q v L') W w')) := fun W hW => calls_arg (hW.swaps (i := k) (j := 2 * k + 2) (by omega) (by omega) (by omega)) rfl (by omega)
          cases hd : les L' (2 * k + 2) k with
          | true =>
            rw [hd] at HS2 HU
            go_wp2_with (first
              | (go_at_call 84; have hh := h2; refine (HS2.out _ h2).mono ?_; rintro e w3 ⟨rfl, hB3⟩; have h3 := h2.below hB3; have m3 := (HM.out w3 L' h3).2; clear hh h2 m2)
              | (go_at_call 84; refine hS.mono ?_; rintro e w2 ⟨rfl, hB2⟩; have h2 := h'.below hB2; have m2 := (HM.out w2 L' h2).1; clear m1)
              | (go_at_call 85; refine (HS3.out _ h3).mono ?_; rintro e w4 ⟨rfl, h4, hF4⟩))
            go_roundw
            case rel => exact ⟨2 * k + 2, _, f', by go_num, (swp_perm _ _ _).trans hp, by omega, h4, ((hF.trans (Frm.of_below (S := Foot q v L) hB2) (fun k hk => .inl hk)).trans (Frm.of_below (S := Foot q v L) hB3) (fun k hk => .inl hk)).trans hF4 (fun k hk => .inl (Foot.perm hp hk)), by omega, HU.out.symm⟩
            case measure => simp [intOf]; omega
          | false =>
            rw [hd] at HS2 HU
            go_wp2_with (first
              | (go_at_call 84; have hh := h2; refine (HS2.out _ h2).mono ?_; rintro e w3 ⟨rfl, hB3⟩; have h3 := h2.below hB3; have m3 := (HM.out w3 L' h3).2; clear hh h2 m2)
              | (go_at_call 84; refine hS.mono ?_; rintro e w2 ⟨rfl, hB2⟩; have h2 := h'.below hB2; have m2 := (HM.out w2 L' h2).1; clear m1)
              | (go_at_call 85; refine (HS3.out _ h3).mono ?_; rintro e w4 ⟨rfl, h4, hF4⟩))
            go_ret
            rw [HU.out]
            exact ⟨rfl, h3, (hF.trans (Frm.of_below (S := Foot q v L) hB2) (fun k hk => .inl hk)).trans (Frm.of_below (S := Foot q v L) hB3) (fun k hk => .inl hk)⟩
        | false =>
          have hkid : kid L' k n = 2 * k + 1 := by unfold kid; rw [if_neg (by rw [hc]; simp)]
          rw [hkid] at HU
          rw [hc] at hS
          clear hc hkid
          have HS2 : Hid (∀ W, St W q m v L' → Calls Try.prog 84 #[v, .int .i64 (2 * (k : Int) + 1), .int .i64 k] W (Gives W (.bool (les L' (2 * k + 1) k)))) := fun W hW => calls_arg (hW.less (i := 2 * k + 1) (j := k) (by omega) (by omega)) (by omega) rfl
          have HS3 : Hid (∀ W, St W q m v L' → Calls Try.prog 85 #[v, .int .i64 k, .int .i64 (2 * (k : Int) + 1)] W (fun e w' => e = .returned (.tuple #[]) ∧ St w' q m v (swp L' k (2 * k + 1)) ∧ Frm (Foot q v L') W w')) := fun W hW => calls_arg (hW.swaps (i := k) (j := 2 * k + 1) (by omega) (by omega) (by omega)) rfl (by omega)
          cases hd : les L' (2 * k + 1) k with
          | true =>
            rw [hd] at HS2 HU
            go_wp2_with (first
              | (go_at_call 84; have hh := h2; refine (HS2.out _ h2).mono ?_; rintro e w3 ⟨rfl, hB3⟩; have h3 := h2.below hB3; have m3 := (HM.out w3 L' h3).2; clear hh h2 m2)
              | (go_at_call 84; refine hS.mono ?_; rintro e w2 ⟨rfl, hB2⟩; have h2 := h'.below hB2; have m2 := (HM.out w2 L' h2).1; clear m1)
              | (go_at_call 85; refine (HS3.out _ h3).mono ?_; rintro e w4 ⟨rfl, h4, hF4⟩))
            go_roundw
            case rel => exact ⟨2 * k + 1, _, f', by go_num, (swp_perm _ _ _).trans hp, by omega, h4, ((hF.trans (Frm.of_below (S := Foot q v L) hB2) (fun k hk => .inl hk)).trans (Frm.of_below (S := Foot q v L) hB3) (fun k hk => .inl hk)).trans hF4 (fun k hk => .inl (Foot.perm hp hk)), by omega, HU.out.symm⟩
            case measure => simp [intOf]; omega
          | false =>
            rw [hd] at HS2 HU
            go_wp2_with (first
              | (go_at_call 84; have hh := h2; refine (HS2.out _ h2).mono ?_; rintro e w3 ⟨rfl, hB3⟩; have h3 := h2.below hB3; have m3 := (HM.out w3 L' h3).2; clear hh h2 m2)
              | (go_at_call 84; refine hS.mono ?_; rintro e w2 ⟨rfl, hB2⟩; have h2 := h'.below hB2; have m2 := (HM.out w2 L' h2).1; clear m1)
              | (go_at_call 85; refine (HS3.out _ h3).mono ?_; rintro e w4 ⟨rfl, h4, hF4⟩))
            go_ret
            rw [HU.out]
            exact ⟨rfl, h3, (hF.trans (Frm.of_below (S := Foot q v L) hB2) (fun k hk => .inl hk)).trans (Frm.of_below (S := Foot q v L) hB3) (fun k hk => .inl hk)⟩
      · have hB' : ¬ (2 * (k : Int) + 1 + 1 < (n : Int)) := by omega
        have hkid : kid L' k n = 2 * k + 1 := by unfold kid; rw [if_neg (fun h => hB h.1)]
        rw [hkid] at HU
        clear hkid
        have HS2 : Hid (∀ W, St W q m v L' → Calls Try.prog 84 #[v, .int .i64 (2 * (k : Int) + 1), .int .i64 k] W (Gives W (.bool (les L' (2 * k + 1) k)))) := fun W hW => calls_arg (hW.less (i := 2 * k + 1) (j := k) (by omega) (by omega)) (by omega) rfl
        have HS3 : Hid (∀ W, St W q m v L' → Calls Try.prog 85 #[v, .int .i64 k, .int .i64 (2 * (k : Int) + 1)] W (fun e w' => e = .returned (.tuple #[]) ∧ St w' q m v (swp L' k (2 * k + 1)) ∧ Frm (Foot q v L') W w')) := fun W hW => calls_arg (hW.swaps (i := k) (j := 2 * k + 1) (by omega) (by omega) (by omega)) rfl (by omega)
        cases hd : les L' (2 * k + 1) k with
        | true =>
          rw [hd] at HS2 HU
          go_wp2_with (first
            | (go_at_call 84; refine (HS2.out _ h').mono ?_; rintro e w3 ⟨rfl, hB3⟩; have h3 := h'.below hB3; have m3 := (HM.out w3 L' h3).2; clear m1)
            | (go_at_call 85; refine (HS3.out _ h3).mono ?_; rintro e w4 ⟨rfl, h4, hF4⟩))
          go_roundw
          case rel => exact ⟨2 * k + 1, _, f', by go_num, (swp_perm _ _ _).trans hp, by omega, h4, (hF.trans (Frm.of_below (S := Foot q v L) hB3) (fun k hk => .inl hk)).trans hF4 (fun k hk => .inl (Foot.perm hp hk)), by omega, HU.out.symm⟩
          case measure => simp [intOf]; omega
        | false =>
          rw [hd] at HS2 HU
          go_wp2_with (first
            | (go_at_call 84; refine (HS2.out _ h').mono ?_; rintro e w3 ⟨rfl, hB3⟩; have h3 := h'.below hB3; have m3 := (HM.out w3 L' h3).2; clear m1)
            | (go_at_call 85; refine (HS3.out _ h3).mono ?_; rintro e w4 ⟨rfl, h4, hF4⟩))
          go_ret
          rw [HU.out]
          exact ⟨rfl, h3, hF.trans (Frm.of_below (S := Foot q v L) hB3) (fun k hk => .inl hk)⟩
end Go.Proofs.Ytkamcnjofpamhaa
