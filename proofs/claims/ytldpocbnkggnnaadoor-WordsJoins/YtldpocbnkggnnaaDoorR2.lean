/-
  The document's Words, for every line.
-/
import Derived.Test.YtldpocbnkggnnaaDoorR1
namespace Go.Proofs.YtldpocbnkggnnaaDoor
open Go.RowKit
set_option linter.unusedSimpArgs false
set_option maxRecDepth 20000
theorem qd_suf : ∀ (n : Nat) (l a x b : List UInt8), l.length ≤ n → qd l a = .ok (x, b) → ∃ p, l = p ++ b
  | _, [], a, x, b, _, h => by simp [qd] at h
  | 0, c :: r, _, _, _, h, _ => by simp at h
  | n + 1, c :: r, a, x, b, h, hq => by
    have ih := qd_suf n
    by_cases h1 : c = 34
    · subst h1
      rw [qd_34] at hq
      split at hq
      · simp at hq; exact ⟨[34], by simp [hq.2]⟩
      · cases hq
    · by_cases h2 : c = 92
      · subst h2
        cases r with
        | nil => rw [qd_92e] at hq; cases hq
        | cons d r =>
          rw [qd_92] at hq
          split at hq
          · obtain ⟨p, hp⟩ := ih r _ x b (by simp at h; omega) hq
            exact ⟨92 :: d :: p, by rw [hp]; rfl⟩
          · cases hq
      · rw [qd_c c r a h1 h2] at hq
        split at hq
        · obtain ⟨p, hp⟩ := ih r _ x b (by simp at h; omega) hq
          exact ⟨c :: p, by rw [hp]; rfl⟩
        · cases hq
theorem note_at (o : List (List UInt8)) (r : List UInt8) : wd .gap (35 :: r) o = if (35 :: r).all prn then (o, 0) else ([], 81) := rest_wd (35 :: r) o (.inr rfl)
theorem bare_at (c : UInt8) (r : List UInt8) (o : List (List UInt8)) (h1 : c ≠ 32) (h2 : c ≠ 35) (h3 : c ≠ 34) : wd .gap (c :: r) o = wd (.word []) (c :: r) o := by simp [wd, h1, h2, h3]
theorem take_one (l : List UInt8) (j k : Nat) (h : j ≤ k) (hk : k < l.length) : (l.drop j).take (k + 1 - j) = (l.drop j).take (k - j) ++ [l[k]] := by
  rw [show k + 1 - j = (k - j) + 1 by omega, List.take_succ_eq_append_getElem (by rw [List.length_drop]; omega), List.getElem_drop]
  congr 3
  omega
set_option maxHeartbeats 2000000 in
theorem rwords_any (t : ByteArray) (w : World) : Calls Tryd.prog 10 #[.string t] w (Told w (wordsL t.data.toList)) := by
  have hlen := len_t t
  by_cases hbig : 1024 < t.size
  · have HA : Hid (wordsL t.data.toList = ([], 1)) := by show _ = _; unfold wordsL; rw [if_pos (by omega)]
    generalize wordsL t.data.toList = A at *
    have hb' : (1024 : Int) < (t.size : Int) := by omega
    clear hlen
    go_enter Tryd.func10, Tryd.ntmps10
    go_wp2
    go_ret2
    rw [HA.out]
    exact ⟨_, rfl, World.ownsRow_nil _ _ _ _, Below.refl _ _⟩
  have HA : Hid (wordsL t.data.toList = wd .gap (t.data.toList.drop 0) []) := by show _ = _; unfold wordsL; rw [if_neg (by omega), List.drop_zero]
  have HD : Hid (∀ j (h : j < t.size), t.data.toList.drop j = t[j] :: t.data.toList.drop (j + 1)) := drop_byte t
  have HX : Hid (∀ p, (t.extract p t.size).data.toList = t.data.toList.drop p) := ext_l t
  have HY : Hid (∀ p j, t.extract p j = str ((t.data.toList.drop p).take (j - p))) := ext_str t
  have HLn : Hid (t.data.toList.length = t.size) := hlen
  have HK : Hid (∀ k (h : k < t.size), (t.data.toList[k]'(by rw [len_t]; exact h)) = t[k]) := fun k h => rfl
  have hsz : t.size ≤ 1024 := by omega
  have hb' : ¬ (1024 : Int) < (t.size : Int) := by omega
  generalize wordsL t.data.toList = A at *
  have HTk : Hid (∀ j k (_ : j ≤ k) (hk : k < t.size), (t.data.toList.drop j).take (k + 1 - j) = (t.data.toList.drop j).take (k - j) ++ [t[k]]) := fun j k h hk => take_one t.data.toList j k h (by rw [len_t]; exact hk)
  clear HK
  obtain ⟨l, hl⟩ : ∃ l, l = t.data.toList := ⟨_, rfl⟩
  rw [← hl] at HA HD HX HY HLn HTk
  clear hlen hbig hl
  go_enter Tryd.func10, Tryd.ntmps10
  go_wp2
  go_loopw [4, 5] (fun v i wr => ∃ (j : Nat) (out : List (List UInt8)), j ≤ t.size ∧ i = .int .i64 j ∧ out.length ≤ j ∧ Hid (A = wd .gap (l.drop j) out) ∧ wr.ownsRow w.heap.size 9 1 v out.length (scells out) ∧ Below w.heap.size w wr) (fun _ i _ => t.size - (intOf i).toNat)
  case atStart => exact ⟨0, [], Nat.zero_le _, rfl, Nat.le_refl _, HA, World.ownsRow_nil _ _ _ _, Below.refl _ _⟩
  case round =>
    clear HA
    rename_i wr
    obtain ⟨j, out, hj, rfl, hol, hQ, hO, hb⟩ := hrel
    by_cases hlt : j < t.size
    · have v1 : wrap64 ((j : Int) + 1) = (j : Int) + 1 := by unfold wrap64; omega
      have hQ2 := hQ.out
      rw [HD.out j hlt] at hQ2
      have hm := may_any t[j]
      by_cases c32 : t[j] = 32
      · have b32 : ((t[j].toNat : Int) == 32) = true := by rw [c32]; rfl
        have hQ3 : Hid (A = wd .gap (l.drop (j + 1)) out) := by show _ = _; rw [hQ2, c32]; simp [wd, prn_32]
        rw [show prn t[j] = true by rw [c32]; rfl] at hm
        clear hQ hQ2 c32
        go_wp2_with (go_at_call 28; refine (hm _).mono ?_; rintro e w' ⟨rfl, rfl⟩)
        go_roundw
        case rel => exact ⟨j + 1, out, by omega, by go_num, by omega, hQ3, hO, hb⟩
        case measure => simp [intOf]; omega
      have b32 : ((t[j].toNat : Int) == 32) = false := by
        rw [beq_eq_false_iff_ne]; intro e; exact c32 (UInt8.toNat.inj (by simp; omega))
      by_cases c35 : t[j] = 35
      · have b35 : ((t[j].toNat : Int) == 35) = true := by rw [c35]; rfl
        have hQ3 : Hid (A = if (l.drop j).all prn then (out, 0) else ([], 81)) := by show _ = _; rw [hQ2, c35, note_at, HD.out j hlt, c35]
        rw [show prn t[j] = true by rw [c35]; rfl] at hm
        clear hQ hQ2 c35 c32
        go_wp2_with (go_at_call 28; refine (hm _).mono ?_; rintro e wr ⟨rfl, rfl⟩)
        go_loopw [5] (fun i wr2 => ∃ (k : Nat), j ≤ k ∧ k ≤ t.size ∧ i = .int .i64 k ∧ Hid (A = if (l.drop k).all prn then (out, 0) else ([], 81)) ∧ wr = wr2) (fun i _ => t.size - (intOf i).toNat)
        case atStart => exact ⟨j, Nat.le_refl _, hj, rfl, hQ3, rfl⟩
        case round =>
          clear hQ3 hm
          obtain ⟨k, hjk, hk, rfl, hR, rfl⟩ := hrel
          by_cases hkl : k < t.size
          · have v2 : wrap64 ((k : Int) + 1) = (k : Int) + 1 := by unfold wrap64; omega
            have hm2 := may_any t[k]
            have hR2 := hR.out
            rw [HD.out k hkl, List.all_cons] at hR2
            cases hp : prn t[k]
            · rw [hp] at hm2 hR2
              have hR3 : Hid (A = ([], 81)) := hR2
              clear hR hR2 hp
              go_wp2_with (go_at_call 28; refine (hm2 _).mono ?_; rintro e w' ⟨rfl, rfl⟩)
              go_ret2
              rw [hR3.out]
              exact ⟨_, rfl, World.ownsRow_nil _ _ _ _, hb⟩
            · rw [hp, Bool.true_and] at hR2
              rw [hp] at hm2
              have hR3 : Hid (A = if (l.drop (k + 1)).all prn then (out, 0) else ([], 81)) := hR2
              clear hR hR2 hp
              go_wp2_with (go_at_call 28; refine (hm2 _).mono ?_; rintro e wr ⟨rfl, rfl⟩)
              go_roundw
              case rel => exact ⟨k + 1, by omega, by omega, by go_num, hR3, trivial⟩
              case measure => simp [intOf]; omega
          · obtain rfl : t.size = k := Nat.le_antisymm (Nat.le_of_not_lt hkl) hk
            have hR3 : Hid (A = wd .gap (l.drop t.size) out) := by
              show _ = _
              rw [hR.out, List.drop_eq_nil_of_le (by rw [HLn.out]; exact Nat.le_refl _)]
              rfl
            go_wp2
            go_roundw
            case rel => exact ⟨t.size, out, Nat.le_refl _, rfl, by omega, hR3, hO, hb⟩
            case measure => simp [intOf]; omega
      have b35 : ((t[j].toNat : Int) == 35) = false := by
        rw [beq_eq_false_iff_ne]; intro e; exact c35 (UInt8.toNat.inj (by simp; omega))
      by_cases c34 : t[j] = 34
      · have b34 : ((t[j].toNat : Int) == 34) = true := by rw [c34]; rfl
        rw [show prn t[j] = true by rw [c34]; rfl] at hm
        obtain ⟨x, hx⟩ : ∃ x, t.extract j t.size = x := ⟨_, rfl⟩
        have hxs : x.size = t.size - j := by rw [← hx, ByteArray.size_extract]; omega
        have hxd : x.data.toList = 34 :: l.drop (j + 1) := by rw [← hx, HX.out, HD.out j hlt, c34]
        have hq := rquoted_any x (l.drop (j + 1)) hxd wr (by omega)
        rw [hxs] at hq
        have hA2 : A = goOn out (qd (l.drop (j + 1)) []) := by
          rw [hQ2, c34]
          have e : ∀ r, wd .gap (34 :: r) out = wd (.quo []) r out := fun r => by simp [wd, prn_34]
          rw [e]
          exact qd_wd _ _ [] out (Nat.le_refl _)
        have HE : Hid (∀ e, qd (l.drop (j + 1)) [] = .error e → e ≠ 0) := fun e h => qd_err _ _ _ e (Nat.le_refl _) h
        have HS : Hid (∀ y b, qd (l.drop (j + 1)) [] = .ok (y, b) → b.length < t.size - j ∧ l.drop (j + (t.size - j - b.length)) = b) := fun y b h => by
          obtain ⟨p, hp⟩ := qd_suf _ _ _ y b (Nat.le_refl _) h
          have h1 : l.drop j = (34 :: p) ++ b := by rw [HD.out j hlt, c34, hp]; rfl
          have h2 := congrArg List.length h1
          rw [List.length_drop, HLn.out, List.length_append, List.length_cons] at h2
          refine ⟨by omega, ?_⟩
          rw [← List.drop_drop, h1, show t.size - j - b.length = (34 :: p).length by rw [List.length_cons]; omega, List.drop_left]
        clear hQ hQ2 hxd c34 c35 c32
        generalize qd (l.drop (j + 1)) [] = q at *
        have hbs := hb.size
        cases q with
        | error n =>
          have hA3 : Hid (A = ([], n)) := hA2
          have hn0 : ((n : Int) == 0) = false := by rw [beq_eq_false_iff_ne]; have := HE.out n rfl; omega
          unfold rqV at hq
          dsimp only at hq
          clear hA2 HE HS
          go_wp2_with (first
            | (go_at_call 28; refine (hm _).mono ?_; rintro e wr ⟨rfl, rfl⟩)
            | (go_at_call 29; refine hq.mono ?_; rintro e wr ⟨rfl, rfl⟩))
          go_ret2
          rw [hA3.out]
          exact ⟨_, rfl, World.ownsRow_nil _ _ _ _, hb⟩
        | ok p =>
          obtain ⟨y, b⟩ := p
          obtain ⟨s1, s2⟩ := HS.out y b rfl
          have hA3 : Hid (A = wd .gap (l.drop (j + (t.size - j - b.length))) (out ++ [y])) := by show _ = _; rw [s2, hA2]; rfl
          unfold rqV at hq
          dsimp only at hq
          obtain ⟨m, hm'⟩ : ∃ m, m = t.size - j - b.length := ⟨_, rfl⟩
          rw [← hm'] at hq hA3
          have hm1 : 1 ≤ m := by omega
          have hm2 : j + m ≤ t.size := by omega
          have v2 : wrap64 ((j : Int) + (m : Int)) = (j : Int) + (m : Int) := by unfold wrap64; omega
          obtain ⟨sy, hsy⟩ : ∃ sy, sy = str y := ⟨_, rfl⟩
          rw [← hsy] at hq
          have HY2 : Hid (sy = str y) := hsy
          clear hA2 HE HS s1 s2 hm' hsy v1
          go_wp2_with (first
            | (go_at_call 28; refine (hm _).mono ?_; rintro e wr ⟨rfl, rfl⟩)
            | (go_at_call 29; refine hq.mono ?_; rintro e wr ⟨rfl, rfl⟩)
            | (at_builtin; refine append_s rfl (.tmp 87) (.tmp 89) rfl w.heap.size _ _ _ rfl (hO.alloc _) wr.heap.size sy rfl ((Row.new wr _ [_]).cell 0) (by omega) (by simp; omega) ?_; intro v' w3 hO3 hg3; replace hb := (hb.alloc hbs _).grown hg3 (by simp; omega) (fun k hk => (hO.lt k hk).1); clear hg3 hO))
          go_roundw
          case rel => exact ⟨j + m, out ++ [y], by omega, by go_num, by simp; omega, hA3, by rw [scells_append, List.length_append]; rw [HY2.out] at hO3; exact hO3, hb⟩
          case measure => simp [intOf]; omega
      have b34 : ((t[j].toNat : Int) == 34) = false := by
        rw [beq_eq_false_iff_ne]; intro e; exact c34 (UInt8.toNat.inj (by simp; omega))
      cases hp : prn t[j]
      · rw [hp] at hm
        have hQ3 : Hid (A = ([], 81)) := by show _ = _; rw [hQ2]; simp [wd, hp]
        clear hQ hQ2
        go_wp2_with (go_at_call 28; refine (hm _).mono ?_; rintro e w' ⟨rfl, rfl⟩)
        go_ret2
        rw [hQ3.out]
        exact ⟨_, rfl, World.ownsRow_nil _ _ _ _, hb⟩
      · rw [hp] at hm
        have hW : Hid (A = wd (.word ((l.drop j).take (j - j))) (l.drop j) out) := by
          show _ = _
          rw [hQ2, bare_at _ _ _ c32 c35 c34, HD.out j hlt]
          simp
        have HN : Hid (t[j] ≠ 32) := c32
        clear hQ hQ2 hp c32 c34 c35
        go_wp2_with (go_at_call 28; refine (hm _).mono ?_; rintro e wr ⟨rfl, rfl⟩)
        go_loopw [5] (fun i wr2 => ∃ (k : Nat), j ≤ k ∧ k ≤ t.size ∧ i = .int .i64 k ∧ Hid (A = wd (.word ((l.drop j).take (k - j))) (l.drop k) out) ∧ wr = wr2) (fun i _ => t.size - (intOf i).toNat)
        case atStart => exact ⟨j, Nat.le_refl _, hj, rfl, hW, rfl⟩
        case round =>
          clear hW hm
          obtain ⟨k, hjk, hk, rfl, hR, rfl⟩ := hrel
          have hbs := hb.size
          by_cases hkl : k < t.size
          · have v2 : wrap64 ((k : Int) + 1) = (k : Int) + 1 := by unfold wrap64; omega
            have k0 : (k : Int) < (t.size : Int) := by omega
            have hR2 := hR.out
            rw [HD.out k hkl] at hR2
            by_cases d32 : t[k] = 32
            · have b32k : ((t[k].toNat : Int) != 32) = false := by rw [d32]; rfl
              have hjk2 : j < k := Nat.lt_of_le_of_ne hjk (fun e => by subst e; exact HN.out d32)
              have hR3 : Hid (A = wd .gap (l.drop k) (out ++ [(l.drop j).take (k - j)])) := by
                show _ = _
                rw [hR2, HD.out k hkl, d32]
                simp [wd, prn_32]
              obtain ⟨sy, hsy⟩ : ∃ sy, t.extract j k = sy := ⟨_, rfl⟩
              have HY2 : Hid (sy = str ((l.drop j).take (k - j))) := by show _ = _; rw [← hsy, HY.out]
              have k1 : (j : Int) ≤ (k : Int) := by omega
              have k2 : (k : Int) ≤ (t.size : Int) := by omega
              clear hR hR2 d32
              go_wp2_with (at_builtin; refine append_s rfl (.tmp 35) (.tmp 40) rfl w.heap.size _ _ _ rfl (hO.alloc _) wr.heap.size sy rfl ((Row.new wr _ [_]).cell 0) (by omega) (by simp; omega) ?_; intro v' w3 hO3 hg3; replace hb := (hb.alloc hbs _).grown hg3 (by simp; omega) (fun k hk => (hO.lt k hk).1); clear hg3 hO)
              go_roundw
              case rel => exact ⟨k, out ++ [(l.drop j).take (k - j)], hk, rfl, by simp; omega, hR3, by rw [scells_append, List.length_append]; rw [HY2.out] at hO3; exact hO3, hb⟩
              case measure => simp [intOf]; omega
            · have b32k : ((t[k].toNat : Int) != 32) = true := by
                rw [bne_iff_ne]; intro e; exact d32 (UInt8.toNat.inj (by simp; omega))
              have hm2 := may_any t[k]
              cases hp : prn t[k]
              · rw [hp] at hm2
                have hR3 : Hid (A = ([], 81)) := by show _ = _; rw [hR2]; simp [wd, hp]
                clear hR hR2 hp d32
                go_wp2_with (go_at_call 28; refine (hm2 _).mono ?_; rintro e w' ⟨rfl, rfl⟩)
                go_ret2
                rw [hR3.out]
                exact ⟨_, rfl, World.ownsRow_nil _ _ _ _, hb⟩
              · rw [hp] at hm2
                have hR3 : Hid (A = wd (.word ((l.drop j).take (k + 1 - j))) (l.drop (k + 1)) out) := by
                  show _ = _
                  rw [HTk.out j k hjk hkl, hR2]
                  simp [wd, hp, d32]
                clear hR hR2 hp d32
                go_wp2_with (go_at_call 28; refine (hm2 _).mono ?_; rintro e wr ⟨rfl, rfl⟩)
                go_roundw
                case rel => exact ⟨k + 1, by omega, by omega, by go_num, hR3, trivial⟩
                case measure => simp [intOf]; omega
          · obtain rfl : t.size = k := Nat.le_antisymm (Nat.le_of_not_lt hkl) hk
            have k0 : ¬ (t.size : Int) < (t.size : Int) := by omega
            have hR3 : Hid (A = wd .gap (l.drop t.size) (out ++ [(l.drop j).take (t.size - j)])) := by
              show _ = _
              have hz : l.drop t.size = [] := List.drop_eq_nil_of_le (by rw [HLn.out]; exact Nat.le_refl _)
              rw [hR.out, hz]
              rfl
            obtain ⟨sy, hsy⟩ : ∃ sy, t.extract j t.size = sy := ⟨_, rfl⟩
            have HY2 : Hid (sy = str ((l.drop j).take (t.size - j))) := by show _ = _; rw [← hsy, HY.out]
            have k1 : (j : Int) ≤ (t.size : Int) := by omega
            clear hR
            go_wp2_with (at_builtin; refine append_s rfl (.tmp 35) (.tmp 40) rfl w.heap.size _ _ _ rfl (hO.alloc _) wr.heap.size sy rfl ((Row.new wr _ [_]).cell 0) (by omega) (by simp; omega) ?_; intro v' w3 hO3 hg3; replace hb := (hb.alloc hbs _).grown hg3 (by simp; omega) (fun k hk => (hO.lt k hk).1); clear hg3 hO)
            go_roundw
            case rel => exact ⟨t.size, out ++ [(l.drop j).take (t.size - j)], Nat.le_refl _, rfl, by simp; omega, hR3, by rw [scells_append, List.length_append]; rw [HY2.out] at hO3; exact hO3, hb⟩
            case measure => simp [intOf]; omega
    · obtain rfl : t.size = j := Nat.le_antisymm (Nat.le_of_not_lt hlt) hj
      have hQ3 : Hid (A = (out, 0)) := by show _ = _; rw [hQ.out, List.drop_eq_nil_of_le (by rw [HLn.out]; exact Nat.le_refl _)]; rfl
      go_wp2
      go_ret2
      rw [hQ3.out]
      exact ⟨_, rfl, hO, hb⟩
end Go.Proofs.YtldpocbnkggnnaaDoor
