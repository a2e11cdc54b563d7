/-
  The document's may and quoted.
-/
import Derived.Test.YtldpocbnkggnnaaDoorL0
namespace Go.Proofs.YtldpocbnkggnnaaDoor
open Go.RowKit
set_option linter.unusedSimpArgs false
set_option maxRecDepth 20000
theorem may_any (c : UInt8) (w : World) : Calls Tryd.prog 28 #[.int .u8 (c.toNat : Int)] w fun e w' => e = .returned (.bool (prn c)) ∧ w' = w := by
  have HP : Hid (prn c = (decide (32 ≤ c.toNat) && decide (c.toNat ≤ 126))) := rfl
  generalize prn c = p at *
  generalize c.toNat = n at *
  by_cases h1 : 32 ≤ n
  · have h1' : (32 : Int) ≤ (n : Int) := by omega
    by_cases h2 : n ≤ 126
    · have h2' : (n : Int) ≤ 126 := by omega
      go_enter Tryd.func28, Tryd.ntmps28
      go_wp2
      go_ret
      exact ⟨by rw [HP.out]; simp [h1, h2], rfl⟩
    · have h2' : ¬ (n : Int) ≤ 126 := by omega
      go_enter Tryd.func28, Tryd.ntmps28
      go_wp2
      go_ret
      exact ⟨by rw [HP.out]; simp [h1, h2], rfl⟩
  · have h1' : ¬ (32 : Int) ≤ (n : Int) := by omega
    go_enter Tryd.func28, Tryd.ntmps28
    go_wp2
    go_ret
    exact ⟨by rw [HP.out]; simp [h1], rfl⟩
theorem may_34 (w : World) : Calls Tryd.prog 28 #[.int .u8 34] w fun e w' => e = .returned (.bool true) ∧ w' = w := may_any 34 w
theorem may_92 (w : World) : Calls Tryd.prog 28 #[.int .u8 92] w fun e w' => e = .returned (.bool true) ∧ w' = w := may_any 92 w
theorem may_32 (w : World) : Calls Tryd.prog 28 #[.int .u8 32] w fun e w' => e = .returned (.bool true) ∧ w' = w := may_any 32 w
theorem may_35 (w : World) : Calls Tryd.prog 28 #[.int .u8 35] w fun e w' => e = .returned (.bool true) ∧ w' = w := may_any 35 w
def rqV (n : Nat) : Fst → Value
  | .ok (x, b) => .tuple #[.string (str x), .int .i64 ((n - b.length : Nat) : Int), .int .i64 0]
  | .error e => .tuple #[.string ⟨#[]⟩, .int .i64 0, .int .i64 (e : Nat)]
theorem ext_one (t : ByteArray) (j : Nat) (h : j < t.size) : (t.extract j (j + 1)).data.toList = [t[j]] := by
  rw [ext_str]
  show (t.data.toList.drop j).take (j + 1 - j) = _
  rw [drop_byte t j h, show j + 1 - j = 1 by omega]
  rfl
theorem fol_one (d : UInt8) (r s : List UInt8) : fol (d :: r) s = if prn d then (if d ∈ s then 0 else 80) else 81 := rfl
set_option maxHeartbeats 1000000 in
theorem rquoted_any (t : ByteArray) (r : List UInt8) (ht : t.data.toList = 34 :: r) (w : World) (hlim : t.size ≤ 1000000) :
    Calls Tryd.prog 29 #[.string t] w fun e w' => e = .returned (rqV t.size (qd r [])) ∧ w' = w := by
  have HD : Hid (∀ j (h : j < t.size), t.data.toList.drop j = t[j] :: t.data.toList.drop (j + 1)) := drop_byte t
  have HE : Hid (∀ j, t.size ≤ j → t.data.toList.drop j = []) := fun j h => by simp [len_t]; exact h
  have HX : Hid (∀ j (h : j < t.size), (t.extract j (j + 1)).data.toList = [t[j]]) := ext_one t
  have HL : Hid (∀ j, j ≤ t.size → t.size - (t.data.toList.drop j).length = j) := fun j h => by rw [List.length_drop, len_t]; omega
  have H1 : Hid (qd r [] = qd (t.data.toList.drop 1) []) := by show _ = _; rw [ht]; rfl
  have hz : 1 ≤ t.size := by rw [← len_t, ht]; simp
  generalize t.data.toList = l at *
  generalize qd r [] = q at *
  clear ht r
  go_enter Tryd.func29, Tryd.ntmps29
  go_wp2
  go_loopw [5, 6] (fun v i wr => ∃ (j : Nat) (pt : ByteArray), 1 ≤ j ∧ j ≤ t.size ∧ i = .int .i64 j ∧ v = .string pt ∧ pt.size ≤ j ∧ Hid (q = qd (l.drop j) pt.data.toList) ∧ w = wr) (fun _ i _ => t.size - (intOf i).toNat)
  case atStart => exact ⟨1, ⟨#[]⟩, Nat.le_refl _, hz, rfl, rfl, by simp [ByteArray.size], H1, rfl⟩
  case round =>
    clear H1
    obtain ⟨j, pt, hj1, hj, rfl, rfl, hps, hQ, rfl⟩ := hrel
    by_cases hlt : j < t.size
    · have w1 : wrap64 ((j : Int) + 1) = (j : Int) + 1 := by unfold wrap64; omega
      have w2 : wrap64 ((j : Int) + 1 + 1) = (j : Int) + 1 + 1 := by unfold wrap64; omega
      have w3 : wrap64 ((j : Int) + 2) = (j : Int) + 2 := by unfold wrap64; omega
      have k0 : (0 : Int) ≤ (j : Int) + 1 := by omega
      have kt : ((j : Int) + 1).toNat = j + 1 := by omega
      have kt2 : ((j : Int) + 2).toNat = j + 2 := by omega
      have hm1 := may_any t[j]
      by_cases c34 : t[j] = 34
      · have b34 : ((t[j].toNat : Int) == 34) = true := by rw [c34]; rfl
        have hm1' := may_34
        have hq : Hid (q = if fol (l.drop (j + 1) ++ [32]) [32] = 0 then .ok (pt.data.toList, l.drop (j + 1)) else .error (fol (l.drop (j + 1) ++ [32]) [32])) := by
          show _ = _
          rw [hQ.out, HD.out j hlt, c34, qd_34]
        clear hQ
        by_cases hlt2 : j + 1 < t.size
        · have k1 : (j : Int) + 1 < (t.size : Int) := by omega
          have hm2 := may_any (t[j + 1]'hlt2)
          rw [HD.out (j + 1) hlt2, List.cons_append, fol_one] at hq
          by_cases c32 : t[j + 1]'hlt2 = 32
          · have b32 : (((t[j + 1]'hlt2).toNat : Int) != 32) = false := by rw [c32]; rfl
            have hq2 : Hid (q = .ok (pt.data.toList, l.drop (j + 1))) := by show _ = _; rw [HD.out (j + 1) hlt2, hq.out, c32]; simp [prn_32]
            have hl2 := HL.out (j + 1) (by omega)
            clear hq c32
            go_wp2_with (go_at_call 28; refine (hm1' _).mono ?_; rintro e w' ⟨rfl, rfl⟩)
            go_ret3
            exact ⟨by rw [hq2.out]; show _ = Ending.returned (rqV t.size (.ok (pt.data.toList, l.drop (j + 1)))); unfold rqV; dsimp only; rw [hl2, str_t]; rfl, rfl⟩
          · have b32 : (((t[j + 1]'hlt2).toNat : Int) != 32) = true := by
              rw [bne_iff_ne]; intro e; exact c32 (UInt8.toNat.inj (by simp; omega))
            cases hp : prn (t[j + 1]'hlt2)
            · rw [hp] at hm2
              have hq2 : Hid (q = .error 81) := by show _ = _; rw [hq.out, hp]; simp
              clear hq c32
              have m1 : True := trivial
              go_wp2_with (first
                | (go_at_call 28; have k := m1; clear m1; refine (hm1' _).mono ?_; rintro e w' ⟨rfl, rfl⟩)
                | (go_at_call 28; refine (hm2 _).mono ?_; rintro e w' ⟨rfl, rfl⟩))
              go_ret3
              exact ⟨by rw [hq2.out]; rfl, rfl⟩
            · rw [hp] at hm2
              have hq2 : Hid (q = .error 80) := by show _ = _; rw [hq.out, hp]; simp [c32]
              clear hq c32
              have m1 : True := trivial
              go_wp2_with (first
                | (go_at_call 28; have k := m1; clear m1; refine (hm1' _).mono ?_; rintro e w' ⟨rfl, rfl⟩)
                | (go_at_call 28; refine (hm2 _).mono ?_; rintro e w' ⟨rfl, rfl⟩))
              go_ret3
              exact ⟨by rw [hq2.out]; rfl, rfl⟩
        · have k1 : ¬ (j : Int) + 1 < (t.size : Int) := by omega
          have hq2 : Hid (q = .ok (pt.data.toList, l.drop (j + 1))) := by show _ = _; rw [hq.out, HE.out (j + 1) (by omega)]; simp [fol, prn_32]
          have hl2 := HL.out (j + 1) (by omega)
          clear hq
          go_wp2_with (go_at_call 28; refine (hm1' _).mono ?_; rintro e w' ⟨rfl, rfl⟩)
          go_ret3
          exact ⟨by rw [hq2.out]; show _ = Ending.returned (rqV t.size (.ok (pt.data.toList, l.drop (j + 1)))); unfold rqV; dsimp only; rw [hl2, str_t]; rfl, rfl⟩
      · have b34 : ((t[j].toNat : Int) == 34) = false := by
          rw [beq_eq_false_iff_ne]; intro e; exact c34 (UInt8.toNat.inj (by simp; omega))
        by_cases c92 : t[j] = 92
        · have b92 : ((t[j].toNat : Int) == 92) = true := by rw [c92]; rfl
          have hm1' := may_92
          by_cases hlt2 : j + 1 < t.size
          · have k1 : (j : Int) + 1 < (t.size : Int) := by omega
            have k2 : (j : Int) + 2 ≤ (t.size : Int) := by omega
            have hm2 := may_any (t[j + 1]'hlt2)
            have hq : Hid (q = if fol (l.drop (j + 1)) [34, 92] = 0 then qd (l.drop (j + 2)) (pt.data.toList ++ [t[j + 1]'hlt2]) else .error (fol (l.drop (j + 1)) [34, 92])) := by
              show _ = _
              rw [hQ.out, HD.out j hlt, c92, HD.out (j + 1) hlt2, qd_92]
            rw [HD.out (j + 1) hlt2, fol_one] at hq
            clear hQ
            have m1 : True := trivial
            cases hp : prn (t[j + 1]'hlt2)
            · rw [hp] at hm2
              have hq2 : Hid (q = .error 81) := by show _ = _; rw [hq.out, hp]; simp
              clear hq
              go_wp2_with (first
                | (go_at_call 28; have k := m1; clear m1; refine (hm1' _).mono ?_; rintro e w' ⟨rfl, rfl⟩)
                | (go_at_call 28; refine (hm2 _).mono ?_; rintro e w' ⟨rfl, rfl⟩))
              go_ret3
              exact ⟨by rw [hq2.out]; rfl, rfl⟩
            · rw [hp] at hm2
              by_cases hd : t[j + 1]'hlt2 = 34 ∨ t[j + 1]'hlt2 = 92
              · have hq2 : Hid (q = qd (l.drop (j + 2)) (pt.data.toList ++ [t[j + 1]'hlt2])) := by show _ = _; rw [hq.out, hp]; simp [hd]
                obtain ⟨x1, e1⟩ : ∃ x, t.extract (j + 1) (j + 2) = x := ⟨_, rfl⟩
                obtain ⟨x2, e2⟩ : ∃ x, pt ++ x1 = x := ⟨_, rfl⟩
                have d1 : x1.data.toList = [t[j + 1]'hlt2] := by rw [← e1]; exact HX.out (j + 1) hlt2
                have s1 : x1.size = 1 := by rw [← len_t, d1]; rfl
                have s2 : x2.size = pt.size + 1 := by rw [← e2, ByteArray.size_append, s1]
                have y1 : ¬ 9223372036854775807 < pt.size + x1.size := by omega
                have hq3 : Hid (q = qd (l.drop (j + 2)) x2.data.toList) := by show _ = _; rw [hq2.out, ← e2, app_t, d1]
                have bb : (((t[j + 1]'hlt2).toNat : Int) != 34) = false ∨ ((((t[j + 1]'hlt2).toNat : Int) != 34) = true ∧ (((t[j + 1]'hlt2).toNat : Int) != 92) = false) := by
                  rcases hd with hd | hd
                  · left; rw [hd]; rfl
                  · right; rw [hd]; exact ⟨rfl, rfl⟩
                clear hq hq2 d1 hd
                rcases bb with bb | ⟨bb, bc⟩
                · skip
                  go_wp2_with (first
                    | (go_at_call 28; have k := m1; clear m1; refine (hm1' _).mono ?_; rintro e w' ⟨rfl, rfl⟩)
                    | (go_at_call 28; refine (hm2 _).mono ?_; rintro e w' ⟨rfl, rfl⟩))
                  go_roundw
                  case rel => exact ⟨j + 2, x2, by omega, by omega, by go_num, by simp, by omega, hq3, trivial⟩
                  case measure => simp [intOf]; omega
                · skip
                  go_wp2_with (first
                    | (go_at_call 28; have k := m1; clear m1; refine (hm1' _).mono ?_; rintro e w' ⟨rfl, rfl⟩)
                    | (go_at_call 28; refine (hm2 _).mono ?_; rintro e w' ⟨rfl, rfl⟩))
                  go_roundw
                  case rel => exact ⟨j + 2, x2, by omega, by omega, by go_num, by simp, by omega, hq3, trivial⟩
                  case measure => simp [intOf]; omega
              · have hq2 : Hid (q = .error 80) := by show _ = _; rw [hq.out, hp]; simp [hd]
                have bb : (((t[j + 1]'hlt2).toNat : Int) != 34) = true := by
                  rw [bne_iff_ne]; intro e; exact hd (.inl (UInt8.toNat.inj (by simp; omega)))
                have bc : (((t[j + 1]'hlt2).toNat : Int) != 92) = true := by
                  rw [bne_iff_ne]; intro e; exact hd (.inr (UInt8.toNat.inj (by simp; omega)))
                clear hq hd
                go_wp2_with (first
                  | (go_at_call 28; have k := m1; clear m1; refine (hm1' _).mono ?_; rintro e w' ⟨rfl, rfl⟩)
                  | (go_at_call 28; refine (hm2 _).mono ?_; rintro e w' ⟨rfl, rfl⟩))
                go_ret3
                exact ⟨by rw [hq2.out]; rfl, rfl⟩
          · have k1 : ¬ (j : Int) + 1 < (t.size : Int) := by omega
            have k2 : (t.size : Int) ≤ (j : Int) + 1 := by omega
            have hq2 : Hid (q = .error 80) := by
              show _ = _
              rw [hQ.out, HD.out j hlt, c92, HE.out (j + 1) (by omega), qd_92e]
            clear hQ
            go_wp2_with (go_at_call 28; refine (hm1' _).mono ?_; rintro e w' ⟨rfl, rfl⟩)
            go_ret3
            exact ⟨by rw [hq2.out]; rfl, rfl⟩
        · have b92 : ((t[j].toNat : Int) == 92) = false := by
            rw [beq_eq_false_iff_ne]; intro e; exact c92 (UInt8.toNat.inj (by simp; omega))
          have hq : Hid (q = if prn t[j] then qd (l.drop (j + 1)) (pt.data.toList ++ [t[j]]) else .error 81) := by
            show _ = _
            rw [hQ.out, HD.out j hlt, qd_c _ _ _ c34 c92]
          clear hQ
          cases hpp : prn t[j]
          · rw [hpp] at hq hm1
            go_wp2_with (go_at_call 28; refine (hm1 _).mono ?_; rintro e w' ⟨rfl, rfl⟩)
            go_ret3
            exact ⟨by rw [hq.out]; rfl, rfl⟩
          · rw [hpp] at hq hm1
            obtain ⟨x1, e1⟩ : ∃ x, t.extract j (j + 1) = x := ⟨_, rfl⟩
            obtain ⟨x2, e2⟩ : ∃ x, pt ++ x1 = x := ⟨_, rfl⟩
            have d1 : x1.data.toList = [t[j]] := by rw [← e1]; exact HX.out j hlt
            have s1 : x1.size = 1 := by rw [← len_t, d1]; rfl
            have s2 : x2.size = pt.size + 1 := by rw [← e2, ByteArray.size_append, s1]
            have y1 : ¬ 9223372036854775807 < pt.size + x1.size := by omega
            have k1 : (j : Int) + 1 ≤ (t.size : Int) := by omega
            have hq3 : Hid (q = qd (l.drop (j + 1)) x2.data.toList) := by show _ = _; rw [hq.out, ← e2, app_t, d1]; rfl
            clear hq d1
            go_wp2_with (go_at_call 28; refine (hm1 _).mono ?_; rintro e w' ⟨rfl, rfl⟩)
            go_roundw
            case rel => exact ⟨j + 1, x2, by omega, by omega, by go_num, by simp, by omega, hq3, trivial⟩
            case measure => simp [intOf]; omega
    · obtain rfl : t.size = j := by omega
      have hq : Hid (q = .error 80) := by show _ = _; rw [hQ.out, HE.out _ (Nat.le_refl _)]; rfl
      clear hQ
      go_wp2
      go_ret3
      exact ⟨by rw [hq.out]; rfl, rfl⟩
end Go.Proofs.YtldpocbnkggnnaaDoor
