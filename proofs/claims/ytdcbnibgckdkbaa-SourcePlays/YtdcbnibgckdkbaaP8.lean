/-
  The document's Tick once more: nothing but its table turns; two routers in a row.
-/
import Derived.Test.YtdcbnibgckdkbaaP7
import Derived.Test.YtdcbnibgckdkbaaArgs
namespace Go.Proofs.Ytdcbnibgckdkbaa
open Go.RowKit Go.Maps Go.Shelf
set_option linter.unusedSimpArgs false
set_option linter.unusedVariables false
set_option maxRecDepth 20000
set_option maxHeartbeats 16000000 in
theorem rtick_gr {w : World} {B r : Nat} {most : Int} {K : List Sr} (h : Rb w B r most K) (now : Int) (hBw : B ≤ w.heap.size) (t0 : 0 ≤ now) (t1 : now ≤ 1125899906842624) : Calls Try.prog 16 #[.pointer (some ⟨r, 0, none⟩), .int .i64 now] w fun e w' => ∃ v, e = .returned v ∧ kN.Own w' w.heap.size v (K.filter (overB now)) ∧ Rb w' B r most (K.filter (fun n => !overB now n)) ∧ w.grownBy w' (some r) := by
  have hll := h.ll
  have hok := h.ok
  have hrl := h.lt
  obtain ⟨ad, c, L1, L0, L2⟩ := h.lies
  obtain ⟨ad', c', hrow, _⟩ := h.ex
  have HR : Hid (Row w r 30 [.int .i64 most, .slice ad' K.length c']) := hrow
  clear h L0 hrow
  go_enter Try.func16, Try.ntmps16
  go_wp2_with fail
  go_loopw [5, 6, 7] (fun v u z wr => ∃ (j : Nat) (a1 : Option Addr) (n1 c1 : Nat) (a2 : Option Addr) (n2 c2 : Nat), j ≤ K.length ∧ z = .int .i64 j ∧ v = .slice a1 n1 c1 ∧ u = .slice a2 n2 c2 ∧ TwoI w wr (.slice a1 n1 c1) (.slice a2 n2 c2) ((K.take j).filter (fun n => !overB now n)) ((K.take j).filter (overB now))) (fun _ _ v _ => K.length - (intOf v).toNat)
  case atStart => exact ⟨0, none, 0, 0, none, 0, 0, Nat.zero_le _, rfl, rfl, rfl, ⟨Below.refl _ _, World.ownsRow_nil _ _ _ _, World.ownsRow_nil _ _ _ _, .inl rfl⟩⟩
  case round =>
    obtain ⟨j, a1, n1, c1, a2, n2, c2, hj, rfl, rfl, rfl, hI⟩ := hrel
    have cL := L1 _ hI.bl
    by_cases hlt : j < K.length
    · obtain ⟨g, rfl, hc⟩ := L2 (by intro e; rw [e] at hlt; simp at hlt)
      have hq : LS wr g (j * 45) K[j] := hc _ hI.bl j _ (List.getElem?_eq_getElem hlt)
      have hji : (j : Int) < (K.length : Int) := by omega
      have hw64 : wrap64 ((j : Int) + 1) = (j : Int) + 1 := by unfold wrap64; omega
      have HJ : Hid (j + 1 ≤ K.length) := hlt
      have HM : Hid (K.length - ((j : Int) + 1).toNat < K.length - ((j : Int)).toNat) := meas hlt
      have ok := hok K[j] (List.getElem_mem hlt)
      have F1 := filter_step (q := overB now) hlt
      have F2 := filter_step (q := fun n => !overB now n) hlt
      have hl1 : Hid (((K.take j).filter (overB now)).length ≤ 10000000 ∧ ((K.take j).filter (fun n => !overB now n)).length ≤ 10000000) := by
        have := List.length_filter_le (overB now) (K.take j)
        have := List.length_filter_le (fun n => !overB now n) (K.take j)
        rw [List.length_take] at *
        exact ⟨by omega, by omega⟩
      have HO : Hid (overB now K[j] = decide (K[j].t + 180000 ≤ now)) := rfl
      clear hc L1 L2 hok hj
      generalize K[j] = n at *
      have hat := hq.at_
      have hw2 : wrap64 (now - n.t) = now - n.t := by have := ok.t0; have := ok.t1; unfold wrap64; omega
      have hsz : w.heap.size ≤ wr.heap.size := hI.bl.size
      by_cases hov : 180000 ≤ now - n.t
      · have hob : overB now n = true := by rw [HO.out]; exact decide_eq_true (by omega)
        rw [if_pos hob] at F1
        rw [if_neg (by simp [hob])] at F2
        have HF1 : Hid ((K.take (j + 1)).filter (overB now) = (K.take j).filter (overB now) ++ [n]) := F1
        have HF2 : Hid ((K.take (j + 1)).filter (fun n => !overB now n) = (K.take j).filter (fun n => !overB now n)) := F2
        clear F1 F2 hob HO ok
        go_wp2_with (first
          | (have kk := r6; at_builtin; refine app_at (.tmp 28) (.tmp 36) rfl rfl w.heap.size (.slice a2 n2 c2) _ rfl hI6.g _ 1 n rfl r6 hl1.out.1 hz6 ?_; intro v7 W7 o7 g7 e7; obtain ⟨a7, c7, rfl, _⟩ := Kd.own_at o7; have hI7 := hI6.right o7 g7 e7)
          | ((with_reducible refine bsG (T := 28) (U := 53) (n := 1) [(0, .tmp 35)] (scs n) ?_ ?_ ?_ ?_); (focus rfl); (focus rfl); (focus exact (fun w => bsN1 n w)); intro W6 r6 b6; have hI6 := hI.below b6; have hz6 : w.heap.size ≤ W6.heap.size := (Nat.le_trans hsz b6.size))
          | (refine ldS (.tmp 34) rfl rfl _ _ n rfl hq ?_))
        go_roundw
        case rel => exact ⟨j + 1, a1, n1, c1, a7, _, c7, HJ.out, by first | rfl | go_num, rfl, rfl, by rw [HF1.out, HF2.out]; rw [List.length_append] at hI7; exact hI7⟩
        case measure => first | (rw [hw64]; simp only [intOf]; exact HM.out) | (simp only [intOf]; exact HM.out)
      · have hob : overB now n = false := by rw [HO.out]; exact decide_eq_false (by omega)
        rw [if_neg (by simp [hob])] at F1
        rw [if_pos (by simp [hob])] at F2
        have HF1 : Hid ((K.take (j + 1)).filter (overB now) = (K.take j).filter (overB now)) := F1
        have HF2 : Hid ((K.take (j + 1)).filter (fun n => !overB now n) = (K.take j).filter (fun n => !overB now n) ++ [n]) := F2
        clear F1 F2 hob HO ok
        go_wp2_with (first
          | (have kk := r6; at_builtin; refine app_at (.tmp 38) (.tmp 46) rfl rfl w.heap.size (.slice a1 n1 c1) _ rfl hI6.l _ 1 n rfl r6 hl1.out.2 hz6 ?_; intro v7 W7 o7 g7 e7; obtain ⟨a7, c7, rfl, _⟩ := Kd.own_at o7; have hI7 := hI6.left o7 g7 e7)
          | ((with_reducible refine bsG (T := 28) (U := 53) (n := 1) [(0, .tmp 45)] (scs n) ?_ ?_ ?_ ?_); (focus rfl); (focus rfl); (focus exact (fun w => bsN1 n w)); intro W6 r6 b6; have hI6 := hI.below b6; have hz6 : w.heap.size ≤ W6.heap.size := (Nat.le_trans hsz b6.size))
          | (refine ldS (.tmp 44) rfl rfl _ _ n rfl hq ?_))
        go_roundw
        case rel => exact ⟨j + 1, a7, _, c7, a2, n2, c2, HJ.out, by first | rfl | go_num, rfl, rfl, by rw [HF1.out, HF2.out]; rw [List.length_append] at hI7; exact hI7⟩
        case measure => first | (rw [hw64]; simp only [intOf]; exact HM.out) | (simp only [intOf]; exact HM.out)
    · have hjl : j = K.length := by omega
      subst hjl
      rw [List.take_length] at hI
      have hrow := HR.out.below hI.bl hrl
      have c0 := hrow.cell 1
      have f0 := hrow.frozen 1
      have HFin : Hid (kN.Own (wr.setCell ⟨r, 1, none⟩ (.slice a1 n1 c1)) w.heap.size (.slice a2 n2 c2) (K.filter (overB now)) ∧ Rb (wr.setCell ⟨r, 1, none⟩ (.slice a1 n1 c1)) B r most (K.filter (fun n => !overB now n)) ∧ w.grownBy (wr.setCell ⟨r, 1, none⟩ (.slice a1 n1 c1)) (some r)) := by
        have hg := grownBy_setCell wr r 1 (.slice a1 n1 c1)
        refine ⟨World.ownsRow.kept hI.g hg (.inr (own_ne_lt hI.g hrl)), ⟨?_, ?_, ?_⟩, grown_pre hI.bl hg⟩
        · obtain ⟨aa, cc, e, _⟩ := Kd.own_at hI.l
          obtain ⟨rfl, rfl, rfl⟩ : a1 = aa ∧ n1 = (K.filter (fun n => !overB now n)).length ∧ c1 = cc := by cases e; exact ⟨rfl, rfl, rfl⟩
          exact ⟨a1, c1, hrow.set 1 _, Kd.own_up (World.ownsRow.kept hI.l hg (.inr (own_ne_lt hI.l hrl))) hBw⟩
        · intro n hn
          exact hok n (List.mem_filter.1 hn).1
        · have := List.length_filter_le (fun n => !overB now n) K
          omega
      clear hI hrow HR L1 L2 hok
      go_wp2_with fail
      go_ret
      exact ⟨_, rfl, HFin.out⟩
theorem bsI2 (i j : Id8) (w : World) : (Instr.buildSlice 78 2 #[(0, idV i), (1, idV j)]).run Try.prog w = .ok (.slice (some ⟨w.heap.size, 0, none⟩) 2 2) (w.alloc (.cells (icells i ++ icells j).toArray 38)) := by
  induction i using Id8.lits with | h =>
  induction j using Id8.lits with | h =>
  show _ = _
  kernel_rfl
theorem idw_two {w : World} {g : Nat} {i j : Id8} (h : Row w g 38 (icells i ++ icells j)) : IdW w (some ⟨g, 0, none⟩) [i, j] :=
  ⟨.inr ⟨g, 0, rfl, ⟨_, _, _, h⟩, fun k x hk => by
    match k, hk with
    | 0, rfl => exact rangeAt_left h.range
    | 1, rfl => exact rangeAt_right h.range (icells_len i)⟩⟩
theorem grown_rt {w w' : World} {B r : Nat} (h : w.grownBy w' (some r)) : RTurn w w' B r := RTurn.self h
theorem act_ne {W : World} {B r g9 : Nat} {most : Int} {K : List Sr} {a : Ac} (h2 : Rb W B r most K) (h4 : Row W g9 43 (acs a)) : g9 ≠ r := fun e => by
  obtain ⟨_, _, h5, _⟩ := h2.ex
  unfold Row at h4 h5
  rw [e, h5] at h4
  injection h4 with h4
  injection h4 with _ h6 _
  exact absurd h6 (by decide)
end Go.Proofs.Ytdcbnibgckdkbaa
