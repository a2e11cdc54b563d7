/-
  live: two entries, a packet of each, an operation that fails.
-/
import Derived.Test.YtadnnjngflphjaaBE
namespace Go.Proofs.Ytadnnjngflphjaa
open Go.RowKit Go.Maps Go.Shelf
set_option linter.unusedSimpArgs false
set_option linter.unusedVariables false
set_option maxRecDepth 20000
theorem f4_10_0_0_0 (w : World) : Calls Try.prog 26 #[.int .u8 10, .int .u8 0, .int .u8 0, .int .u8 0] w (Gives w (Value.agg (acells (m4 10 0 0 0)).toArray)) := func4_any 10 0 0 0 w
theorem f4_10_1_0_0 (w : World) : Calls Try.prog 26 #[.int .u8 10, .int .u8 1, .int .u8 0, .int .u8 0] w (Gives w (Value.agg (acells (m4 10 1 0 0)).toArray)) := func4_any 10 1 0 0 w
theorem f4_1_0_0_0 (w : World) : Calls Try.prog 26 #[.int .u8 1, .int .u8 0, .int .u8 0, .int .u8 0] w (Gives w (Value.agg (acells (m4 1 0 0 0)).toArray)) := func4_any 1 0 0 0 w
theorem f4_1_1_1_1 (w : World) : Calls Try.prog 26 #[.int .u8 1, .int .u8 1, .int .u8 1, .int .u8 1] w (Gives w (Value.agg (acells (m4 1 1 1 1)).toArray)) := func4_any 1 1 1 1 w
theorem f4_10_1_2_3 (w : World) : Calls Try.prog 26 #[.int .u8 10, .int .u8 1, .int .u8 2, .int .u8 3] w (Gives w (Value.agg (acells (m4 10 1 2 3)).toArray)) := func4_any 10 1 2 3 w
theorem f4_2_2_2_2 (w : World) : Calls Try.prog 26 #[.int .u8 2, .int .u8 2, .int .u8 2, .int .u8 2] w (Gives w (Value.agg (acells (m4 2 2 2 2)).toArray)) := func4_any 2 2 2 2 w
theorem f4_10_2_2_2 (w : World) : Calls Try.prog 26 #[.int .u8 10, .int .u8 2, .int .u8 2, .int .u8 2] w (Gives w (Value.agg (acells (m4 10 2 2 2)).toArray)) := func4_any 10 2 2 2 w
theorem new_ex (w : World) : Calls Try.prog 9 #[] w fun e w' => ∃ k b, e = .returned (.pointer (some ⟨k, 0, none⟩)) ∧ Kn w' b k 0 [] ∧ Below w.heap.size w w' ∧ w.heap.size ≤ b := by
  refine (new_any w).mono ?_
  rintro e w' ⟨rfl, h1, h2⟩
  exact ⟨_, _, rfl, h1, h2, Nat.le_refl _⟩
theorem sStE {ops : Array Oper} {op : Oper} {a : Act} {w : World} {Q : Exit → Act → World → Prop} {K : Act → World → Prop} {E : Prop} (x y : Operand) (hw : Region.wanted op (yielded ops a.tmps) = true) (ho : op.op = .store 37 x y) (b : Nat) (n u : En) (hx : a.eval x = .pointer (some ⟨b, 0, none⟩)) (hy : a.eval y = eV n) (hr : Row w b 37 (ecs u))
    (h : ∀ W, w.grownBy W (some b) → Row W b 37 (ecs n) → K (a.put op.dst undef) W) : if Region.wanted op (yielded ops a.tmps) = true then Oper.wp Try.prog op a w K Q else E := by
  rw [if_pos hw]
  refine wp_store_mid _ x y ho b 0 _ hx hy (by simpa [ecs_len] using hr.there (n := 51) (by rw [ecs_len]; omega)) (by rw [infoEs]; simp [ecs_len]) (all_oneCell_toArray (ecs_one n)) (h _ (grownBy_setCells b _ _ _) ?_)
  have := Row.setCells (ecs n) [] w (ecs u) hr (by rw [ecs_len, ecs_len])
  simpa using this
/-- A row that is not the kernel's lies on. -/
theorem KT.row {w w' : World} {b k g : Nat} {n : Int} {F : List Hd} (h : KT w w' b k) (hK : Kn w b k n F) {t : TypeId} {cs : List Value} (hr : Row w g t cs) (ht : t ≠ 63) : Row w' g t cs := h.keep _ _ _ hr (hK.ne hr ht)
theorem KT.base {w0 w w' : World} {b k : Nat} (h : KT w w' b k) (hb : Below w0.heap.size w0 w) (hB : w0.heap.size ≤ b) : Below w0.heap.size w0 w' := hb.trans (h.low.mono hB)
set_option maxHeartbeats 16000000 in
theorem live_any (w : World) : Calls Try.prog 8 #[] w (Gives w (.bool true)) := by
  have hN := new_ex w
  go_enter Try.func8, Try.ntmps8
  go_upto_region 3 with (first
    | (have kk := q2; (with_reducible refine stA0 (.tmp 2) (.tmp 12) ?_ ?_ g2 (m4 10 0 0 0) zeroA ?_ ?_ ?_ ?_); (focus rfl); (focus rfl); (focus (repeat (first | with_reducible refine ev_ne ?_ rfl | with_reducible refine ev_no ?_ | (with_reducible refine ev_eq (n := 100) ?_ rfl; repeat (first | with_reducible refine sz_put ?_ | with_reducible refine sz_no ?_ | rfl)) | rfl))); (focus (repeat (first | with_reducible refine ev_ne ?_ rfl | with_reducible refine ev_no ?_ | (with_reducible refine ev_eq (n := 100) ?_ rfl; repeat (first | with_reducible refine sz_put ?_ | with_reducible refine sz_no ?_ | rfl)) | rfl))); (focus exact q2); intro W2 gr2 r2; have k2 := bt c1 (grown_below gr2 b2 h2 b2.size); clear q2)
    | (have kk := K1; (with_reducible refine alG infoAz ?_ ?_ ?_); (focus rfl); (focus rfl); intro g2 V2 h2 l2 b2 q2)
    | (have kk := K1; go_at_call 26; refine (f4_10_0_0_0 _).mono ?_; rintro e w1' ⟨rfl, c1⟩)
    | (go_at_call 9; refine hN.mono ?_; rintro e w1 ⟨k, b, rfl, K1, B1, hb⟩))
  have K2 := K1.below k2
  have B2 := bt B1 k2
  have hr2 := r2.lt
  clear hN K1 B1 k2 c1 b2 h2 l2 gr2
  refine wp_region_noPanic ?_
  refine wp_region_held_drew (S := fun V => Below W2.heap.size W2 V) (by kernel_rfl) ((Below.refl _ _).drew) (fun hHeld => ?_)
  refine take_lit (i := 0) rfl (by kernel_rfl) (by kernel_rfl) (by kernel_rfl) (fun _ _ _ h => h) (yA (m4 10 0 0 0) (fun w h => (r2.below h hr2).range) (by rfl) rfl rfl) (by assumption) ?_
  try simp only [Act.put, List.setIfInBounds_toArray, List.set_cons_zero, List.set_cons_succ]
  refine take_lit (i := 1) rfl (by kernel_rfl) (by kernel_rfl) (by kernel_rfl) (fun _ _ _ h => h) (yB (T := 33) (v := (Value.agg (pcells (⟨m4 10 0 0 0, 104⟩)).toArray)) [(0, .tmp 13), (1, .const (.int .i64 104))] (by rfl) rfl (fun w => bdEA1 w)) (by assumption) ?_
  try simp only [Act.put, List.setIfInBounds_toArray, List.set_cons_zero, List.set_cons_succ]
  refine wpAnyH_ready (rs := [2, 5]) (by kernel_rfl) (by simp) ?_
  refine cons_lit rfl (fun K hK => ?_) ?_
  · go_simp
    refine (rany_any _).mono ?_
    rintro e w1 ⟨rfl, hg1⟩
    try (have q3 := q3.below hg1 q3.lt)
    refine hK.out _ _ ?_ (fun hHeld => ?_)
    · exact bt hHeld hg1
    clear hK K
    try simp only [Act.put, List.setIfInBounds_toArray, List.set_cons_zero, List.set_cons_succ]
    refine take_lit (i := 3) rfl (by kernel_rfl) (by kernel_rfl) (by kernel_rfl) (fun _ _ _ h => h) (yB (T := 35) (v := (Value.agg (qcells eA.p).toArray)) [(0, .tmp 14), (1, .tmp 15)] (by rfl) rfl (fun w => bdEA2 w)) (by assumption) ?_
    try simp only [Act.put, List.setIfInBounds_toArray, List.set_cons_zero, List.set_cons_succ]
    refine take_lit (i := 4) rfl (by kernel_rfl) (by kernel_rfl) (by kernel_rfl) (fun _ _ _ h => h) (yB (T := 37) (v := eV eA) [(0, .tmp 16), (1, .const (.int .i64 1))] (by rfl) rfl (fun w => bdEA3 w)) (by assumption) ?_
    try simp only [Act.put, List.setIfInBounds_toArray, List.set_cons_zero, List.set_cons_succ]
    refine wpAnyH_ready (rs := [5]) (by kernel_rfl) (by simp) ?_
    refine cons_lit rfl (fun K hK => ?_) ?_
    · skip
      have hsz := hHeld.size
      refine sAlG infoEz (by rfl) rfl ?_
      intro g3 W3 hge3 hgl3 hB3 q3
      have hq3 := Nat.le_trans hsz hge3
      refine hK.out _ _ ?_ (fun hHeld => ?_)
      · exact bt hHeld hB3
      clear hK K
      try simp only [Act.put, List.setIfInBounds_toArray, List.set_cons_zero, List.set_cons_succ]
      refine wpAnyH_ready (rs := [6]) (by kernel_rfl) (by simp) ?_
      refine cons_lit rfl (fun K hK => ?_) ?_
      · skip
        refine sStE (.tmp 3) (.tmp 17) (by rfl) rfl g3 eA _ rfl rfl q3 ?_
        intro W4 hg4 r3
        refine hK.out _ _ ?_ (fun hHeld => ?_)
        · exact grown_below hg4 hHeld hq3 hHeld.size
        clear hK K
        try simp only [Act.put, List.setIfInBounds_toArray, List.set_cons_zero, List.set_cons_succ]
        refine wpAnyH_done (by kernel_rfl) ?_ _
        refine NoPanic.normal ?_
        have K4 := K2.below hHeld
        have B4 := bt B2 hHeld
        clear K2 B2 hHeld
        go_upto_region 5 with (first
          | (have kk := q4; (with_reducible refine stE (.tmp 4) (.tmp 23) ?_ ?_ g4 eB zeroE ?_ ?_ ?_ ?_); (focus rfl); (focus rfl); (focus (repeat (first | with_reducible refine ev_ne ?_ rfl | with_reducible refine ev_no ?_ | (with_reducible refine ev_eq (n := 100) ?_ rfl; repeat (first | with_reducible refine sz_put ?_ | with_reducible refine sz_no ?_ | rfl)) | rfl))); (focus (repeat (first | with_reducible refine ev_ne ?_ rfl | with_reducible refine ev_no ?_ | (with_reducible refine ev_eq (n := 100) ?_ rfl; repeat (first | with_reducible refine sz_put ?_ | with_reducible refine sz_no ?_ | rfl)) | rfl))); (focus exact q4); intro W6 gr4 r4; have k6 := bt (bt c5 c6) (grown_below gr4 b4 h4 b4.size); clear q4)
          | (have kk := c6; (with_reducible refine alG infoEz ?_ ?_ ?_); (focus rfl); (focus rfl); intro g4 V6 h4 l4 b4 q4)
          | ((with_reducible refine bdG (T := 37) (v := eV eB) [(0, .tmp 22), (1, .const (.int .i64 2))] ?_ ?_ ?_ ?_); (focus rfl); (focus rfl); (focus (first | exact bdEB3 _ | skip)))
          | ((with_reducible refine bdG (T := 35) (v := (Value.agg (qcells eB.p).toArray)) [(0, .tmp 19), (1, .tmp 21)] ?_ ?_ ?_ ?_); (focus rfl); (focus rfl); (focus (first | exact bdEB2 _ | skip)))
          | ((with_reducible refine bdG (T := 33) (v := (Value.agg (pcells (⟨m4 1 0 0 0, 104⟩)).toArray)) [(0, .tmp 20), (1, .const (.int .i64 104))] ?_ ?_ ?_ ?_); (focus rfl); (focus rfl); (focus (first | exact bdEB0 _ | skip)))
          | (have kk := c5; go_at_call 26; refine (f4_1_0_0_0 _).mono ?_; rintro e w6' ⟨rfl, c6⟩)
          | ((with_reducible refine bdG (T := 33) (v := (Value.agg (pcells (⟨m4 10 1 0 0, 112⟩)).toArray)) [(0, .tmp 18), (1, .const (.int .i64 112))] ?_ ?_ ?_ ?_); (focus rfl); (focus rfl); (focus (first | exact bdEB1 _ | skip)))
          | (have kk := K4; go_at_call 26; refine (f4_10_1_0_0 _).mono ?_; rintro e w5' ⟨rfl, c5⟩))
        have K6 := K4.below k6
        have B6 := bt B4 k6
        have r3_6 := r3.below k6 r3.lt
        clear K4 B4 k6 c5 c6 b4 h4 l4 gr4 r3
        go_upto_region 7 with (first
          | (have kk := K7; go_at_call 10; refine (lv_do K7 ⟨1, eB⟩ wfB (by omega) (by omega) (by decide) do2).mono ?_; rintro e W8 ⟨rfl, K8, T8⟩; have r3_8 := T8.row K7 r3_7 (by decide); have r4_8 := T8.row K7 r4_7 (by decide); have B8 := T8.base B7 hb)
          | (have kk := K7; (with_reducible refine bdG (T := 39) (v := oV ⟨1, eB⟩) [(0, .const (.int .i64 1)), (1, .tmp 35)] ?_ ?_ ?_ ?_); (focus rfl); (focus rfl); (focus (first | exact bdO 1 eB _ | skip)))
          | (have kk := r4_7; (with_reducible refine ldE (.tmp 4) ?_ ?_ g4 0 eB ?_ ?_ ?_); (focus rfl); (focus rfl); (focus (repeat (first | with_reducible refine ev_ne ?_ rfl | with_reducible refine ev_no ?_ | (with_reducible refine ev_eq (n := 100) ?_ rfl; repeat (first | with_reducible refine sz_put ?_ | with_reducible refine sz_no ?_ | rfl)) | rfl))); (focus exact r4_7.en))
          | (have kk := K6; go_at_call 10; refine (lv_do K6 ⟨1, eA⟩ wfA (by omega) (by omega) (by decide) do1).mono ?_; rintro e W7 ⟨rfl, K7, T7⟩; have r3_7 := T7.row K6 r3_6 (by decide); have r4_7 := T7.row K6 r4 (by decide); have B7 := T7.base B6 hb)
          | ((with_reducible refine bdG (T := 39) (v := oV ⟨1, eA⟩) [(0, .const (.int .i64 1)), (1, .tmp 28)] ?_ ?_ ?_ ?_); (focus rfl); (focus rfl); (focus (first | exact bdO 1 eA _ | skip)))
          | (have kk := r3_6; (with_reducible refine ldE (.tmp 3) ?_ ?_ g3 0 eA ?_ ?_ ?_); (focus rfl); (focus rfl); (focus (repeat (first | with_reducible refine ev_ne ?_ rfl | with_reducible refine ev_no ?_ | (with_reducible refine ev_eq (n := 100) ?_ rfl; repeat (first | with_reducible refine sz_put ?_ | with_reducible refine sz_no ?_ | rfl)) | rfl))); (focus exact r3_6.en)))
        clear K6 B6 r3_6 r4 K7 B7 r3_7 r4_7 T7 T8
        go_upto_region 8 with (first
          | (have kk := qg5; (with_reducible refine stE (.tmp 5) (.tmp 45) ?_ ?_ g5 eB zeroE ?_ ?_ ?_ ?_); (focus rfl); (focus rfl); (focus (repeat (first | with_reducible refine ev_ne ?_ rfl | with_reducible refine ev_no ?_ | (with_reducible refine ev_eq (n := 100) ?_ rfl; repeat (first | with_reducible refine sz_put ?_ | with_reducible refine sz_no ?_ | rfl)) | rfl))); (focus (repeat (first | with_reducible refine ev_ne ?_ rfl | with_reducible refine ev_no ?_ | (with_reducible refine ev_eq (n := 100) ?_ rfl; repeat (first | with_reducible refine sz_put ?_ | with_reducible refine sz_no ?_ | rfl)) | rfl))); (focus exact qg5); intro W9 grg5 r5; have k9 := bt (bt (bt c9a c9b) c9) (grown_below grg5 bg5 hg5 bg5.size); clear qg5)
          | (have kk := c9; (with_reducible refine alG infoEz ?_ ?_ ?_); (focus rfl); (focus rfl); intro g5 V9 hg5 lg5 bg5 qg5)
          | (have kk := c9b; go_at_call 19; refine (lv_look ((K8.below c9a).below c9b) _ _ lk1).mono ?_; rintro e X9 ⟨rfl, c9⟩)
          | (have kk := c9a; go_at_call 26; refine (f4_10_1_2_3 _).mono ?_; rintro e Y9 ⟨rfl, c9b⟩)
          | (have kk := K8; go_at_call 26; refine (f4_1_1_1_1 _).mono ?_; rintro e Z9 ⟨rfl, c9a⟩))
        have K9 := K8.below k9
        have B9 := bt B8 k9
        have r3_9 := r3_8.below k9 r3_8.lt
        have r4_9 := r4_8.below k9 r4_8.lt
        clear K8 B8 k9 c9a c9b c9 bg5 hg5 lg5 grg5 r3_8 r4_8
        go_upto_region 9 with (first
          | (have kk := qg7; (with_reducible refine stE (.tmp 7) (.tmp 52) ?_ ?_ g7 zeroE zeroE ?_ ?_ ?_ ?_); (focus rfl); (focus rfl); (focus (repeat (first | with_reducible refine ev_ne ?_ rfl | with_reducible refine ev_no ?_ | (with_reducible refine ev_eq (n := 100) ?_ rfl; repeat (first | with_reducible refine sz_put ?_ | with_reducible refine sz_no ?_ | rfl)) | rfl))); (focus (repeat (first | with_reducible refine ev_ne ?_ rfl | with_reducible refine ev_no ?_ | (with_reducible refine ev_eq (n := 100) ?_ rfl; repeat (first | with_reducible refine sz_put ?_ | with_reducible refine sz_no ?_ | rfl)) | rfl))); (focus exact qg7); intro W10 grg7 r7; have k10 := bt (bt (bt c10a c10b) c10) (grown_below grg7 bg7 hg7 bg7.size); clear qg7)
          | (have kk := c10; (with_reducible refine alG infoEz ?_ ?_ ?_); (focus rfl); (focus rfl); intro g7 V10 hg7 lg7 bg7 qg7)
          | (have kk := c10b; go_at_call 19; refine (lv_look ((K9.below c10a).below c10b) _ _ lk2).mono ?_; rintro e X10 ⟨rfl, c10⟩)
          | (have kk := c10a; go_at_call 26; refine (f4_10_1_2_3 _).mono ?_; rintro e Y10 ⟨rfl, c10b⟩)
          | (have kk := K9; go_at_call 26; refine (f4_2_2_2_2 _).mono ?_; rintro e Z10 ⟨rfl, c10a⟩))
        have K10 := K9.below k10
        have B10 := bt B9 k10
        have r3_10 := r3_9.below k10 r3_9.lt
        have r4_10 := r4_9.below k10 r4_9.lt
        have r5_10 := r5.below k10 r5.lt
        clear K9 B9 k10 c10a c10b c10 bg7 hg7 lg7 grg7 r3_9 r4_9 r5
        go_upto_region 10 with (first
          | (have kk := qg9; (with_reducible refine stE (.tmp 9) (.tmp 59) ?_ ?_ g9 eA zeroE ?_ ?_ ?_ ?_); (focus rfl); (focus rfl); (focus (repeat (first | with_reducible refine ev_ne ?_ rfl | with_reducible refine ev_no ?_ | (with_reducible refine ev_eq (n := 100) ?_ rfl; repeat (first | with_reducible refine sz_put ?_ | with_reducible refine sz_no ?_ | rfl)) | rfl))); (focus (repeat (first | with_reducible refine ev_ne ?_ rfl | with_reducible refine ev_no ?_ | (with_reducible refine ev_eq (n := 100) ?_ rfl; repeat (first | with_reducible refine sz_put ?_ | with_reducible refine sz_no ?_ | rfl)) | rfl))); (focus exact qg9); intro W11 grg9 r9; have k11 := bt (bt (bt c11a c11b) c11) (grown_below grg9 bg9 hg9 bg9.size); clear qg9)
          | (have kk := c11; (with_reducible refine alG infoEz ?_ ?_ ?_); (focus rfl); (focus rfl); intro g9 V11 hg9 lg9 bg9 qg9)
          | (have kk := c11b; go_at_call 19; refine (lv_look ((K10.below c11a).below c11b) _ _ lk3).mono ?_; rintro e X11 ⟨rfl, c11⟩)
          | (have kk := c11a; go_at_call 26; refine (f4_10_2_2_2 _).mono ?_; rintro e Y11 ⟨rfl, c11b⟩)
          | (have kk := K10; go_at_call 26; refine (f4_2_2_2_2 _).mono ?_; rintro e Z11 ⟨rfl, c11a⟩))
        have K11 := K10.below k11
        have B11 := bt B10 k11
        have r3_11 := r3_10.below k11 r3_10.lt
        have r4_11 := r4_10.below k11 r4_10.lt
        have r5_11 := r5_10.below k11 r5_10.lt
        clear K10 B10 k11 c11a c11b c11 bg9 hg9 lg9 grg9 r3_10 r4_10 r5_10
        go_upto_region 11 with (first
          | (go_at_call 12; refine (fail_any K11 1).mono ?_; rintro e W12 ⟨rfl, K12, T12⟩; have r3_12 := T12.row K11 r3_11 (by decide); have r5_12 := T12.row K11 r5_11 (by decide); have r9_12 := T12.row K11 r9 (by decide); have B12 := T12.base B11 hb))
        have K12' : Kn W12 b k 1 [hA, hB] := K12
        have f5 : W12.cell? ⟨g5, 34, none⟩ = some (.int .i64 2) := r5_12.en.i_
        have f9 : W12.cell? ⟨g9, 34, none⟩ = some (.int .i64 1) := r9_12.en.i_
        clear K11 B11 T12 r3_11 r5_11 r4_11 r9 r7 K12 r5_12 r9_12
        go_wp2_with (first
          | (have kk := K14; go_at_call 17; refine (lv_list K14 sl1).mono ?_; rintro e W15 ⟨sa, sc, rfl, b15⟩; have B15 := bt B14 b15)
          | (have kk := K13; go_at_call 10; refine (lv_do K13 ⟨3, eA⟩ wfA (by omega) (by omega) (by decide) do4).mono ?_; rintro e W14 ⟨rfl, K14, T14⟩; have B14 := T14.base B13 hb)
          | (have kk := K13; (with_reducible refine bdG (T := 39) (v := oV ⟨3, eA⟩) [(0, .const (.int .i64 3)), (1, .tmp 90)] ?_ ?_ ?_ ?_); (focus rfl); (focus rfl); (focus (first | exact bdO 3 eA _ | skip)))
          | (have kk := r3_13; (with_reducible refine ldE (.tmp 3) ?_ ?_ g3 0 eA ?_ ?_ ?_); (focus rfl); (focus rfl); (focus (repeat (first | with_reducible refine ev_ne ?_ rfl | with_reducible refine ev_no ?_ | (with_reducible refine ev_eq (n := 100) ?_ rfl; repeat (first | with_reducible refine sz_put ?_ | with_reducible refine sz_no ?_ | rfl)) | rfl))); (focus exact r3_13.en))
          | (have kk := K12'; go_at_call 10; refine (lv_do K12' ⟨3, eA⟩ wfA (by omega) (by omega) (by decide) do3).mono ?_; rintro e W13 ⟨rfl, K13, T13⟩; have r3_13 := T13.row K12' r3_12 (by decide); have B13 := T13.base B12 hb)
          | ((with_reducible refine bdG (T := 39) (v := oV ⟨3, eA⟩) [(0, .const (.int .i64 3)), (1, .tmp 83)] ?_ ?_ ?_ ?_); (focus rfl); (focus rfl); (focus (first | exact bdO 3 eA _ | skip)))
          | (have kk := r3_12; (with_reducible refine ldE (.tmp 3) ?_ ?_ g3 0 eA ?_ ?_ ?_); (focus rfl); (focus rfl); (focus (repeat (first | with_reducible refine ev_ne ?_ rfl | with_reducible refine ev_no ?_ | (with_reducible refine ev_eq (n := 100) ?_ rfl; repeat (first | with_reducible refine sz_put ?_ | with_reducible refine sz_no ?_ | rfl)) | rfl))); (focus exact r3_12.en)))
        have hr : ∀ (tm : Array Value) (V : World), (results Try.f8 tm).run Try.prog V = .ok (tm.getD 0 undef) V := fun tm V => results_tmp rfl tm _ V
        refine bodyPost_ret (v := .bool true) ?_ ?_ ?_
        · exact hr _ _
        · rfl
        · exact ⟨rfl, B15⟩
      exact AllReadyH.nil
    exact AllReadyH.nil
  refine cons_lit rfl (fun K hK => ?_) ?_
  · skip
    have hsz := hHeld.size
    refine sAlG infoEz (by rfl) rfl ?_
    intro g3 W3 hge3 hgl3 hB3 q3
    have hq3 := Nat.le_trans hsz hge3
    refine hK.out _ _ ?_ (fun hHeld => ?_)
    · exact bt hHeld hB3
    clear hK K
    try simp only [Act.put, List.setIfInBounds_toArray, List.set_cons_zero, List.set_cons_succ]
    refine wpAnyH_ready (rs := [2]) (by kernel_rfl) (by simp) ?_
    refine cons_lit rfl (fun K hK => ?_) ?_
    · go_simp
      refine (rany_any _).mono ?_
      rintro e w1 ⟨rfl, hg1⟩
      try (have q3 := q3.below hg1 q3.lt)
      refine hK.out _ _ ?_ (fun hHeld => ?_)
      · exact bt hHeld hg1
      clear hK K
      try simp only [Act.put, List.setIfInBounds_toArray, List.set_cons_zero, List.set_cons_succ]
      refine take_lit (i := 3) rfl (by kernel_rfl) (by kernel_rfl) (by kernel_rfl) (fun _ _ _ h => h) (yB (T := 35) (v := (Value.agg (qcells eA.p).toArray)) [(0, .tmp 14), (1, .tmp 15)] (by rfl) rfl (fun w => bdEA2 w)) (by assumption) ?_
      try simp only [Act.put, List.setIfInBounds_toArray, List.set_cons_zero, List.set_cons_succ]
      refine take_lit (i := 4) rfl (by kernel_rfl) (by kernel_rfl) (by kernel_rfl) (fun _ _ _ h => h) (yB (T := 37) (v := eV eA) [(0, .tmp 16), (1, .const (.int .i64 1))] (by rfl) rfl (fun w => bdEA3 w)) (by assumption) ?_
      try simp only [Act.put, List.setIfInBounds_toArray, List.set_cons_zero, List.set_cons_succ]
      refine wpAnyH_ready (rs := [6]) (by kernel_rfl) (by simp) ?_
      refine cons_lit rfl (fun K hK => ?_) ?_
      · skip
        refine sStE (.tmp 3) (.tmp 17) (by rfl) rfl g3 eA _ rfl rfl q3 ?_
        intro W4 hg4 r3
        refine hK.out _ _ ?_ (fun hHeld => ?_)
        · exact grown_below hg4 hHeld hq3 hHeld.size
        clear hK K
        try simp only [Act.put, List.setIfInBounds_toArray, List.set_cons_zero, List.set_cons_succ]
        refine wpAnyH_done (by kernel_rfl) ?_ _
        refine NoPanic.normal ?_
        have K4 := K2.below hHeld
        have B4 := bt B2 hHeld
        clear K2 B2 hHeld
        go_upto_region 5 with (first
          | (have kk := q4; (with_reducible refine stE (.tmp 4) (.tmp 23) ?_ ?_ g4 eB zeroE ?_ ?_ ?_ ?_); (focus rfl); (focus rfl); (focus (repeat (first | with_reducible refine ev_ne ?_ rfl | with_reducible refine ev_no ?_ | (with_reducible refine ev_eq (n := 100) ?_ rfl; repeat (first | with_reducible refine sz_put ?_ | with_reducible refine sz_no ?_ | rfl)) | rfl))); (focus (repeat (first | with_reducible refine ev_ne ?_ rfl | with_reducible refine ev_no ?_ | (with_reducible refine ev_eq (n := 100) ?_ rfl; repeat (first | with_reducible refine sz_put ?_ | with_reducible refine sz_no ?_ | rfl)) | rfl))); (focus exact q4); intro W6 gr4 r4; have k6 := bt (bt c5 c6) (grown_below gr4 b4 h4 b4.size); clear q4)
          | (have kk := c6; (with_reducible refine alG infoEz ?_ ?_ ?_); (focus rfl); (focus rfl); intro g4 V6 h4 l4 b4 q4)
          | ((with_reducible refine bdG (T := 37) (v := eV eB) [(0, .tmp 22), (1, .const (.int .i64 2))] ?_ ?_ ?_ ?_); (focus rfl); (focus rfl); (focus (first | exact bdEB3 _ | skip)))
          | ((with_reducible refine bdG (T := 35) (v := (Value.agg (qcells eB.p).toArray)) [(0, .tmp 19), (1, .tmp 21)] ?_ ?_ ?_ ?_); (focus rfl); (focus rfl); (focus (first | exact bdEB2 _ | skip)))
          | ((with_reducible refine bdG (T := 33) (v := (Value.agg (pcells (⟨m4 1 0 0 0, 104⟩)).toArray)) [(0, .tmp 20), (1, .const (.int .i64 104))] ?_ ?_ ?_ ?_); (focus rfl); (focus rfl); (focus (first | exact bdEB0 _ | skip)))
          | (have kk := c5; go_at_call 26; refine (f4_1_0_0_0 _).mono ?_; rintro e w6' ⟨rfl, c6⟩)
          | ((with_reducible refine bdG (T := 33) (v := (Value.agg (pcells (⟨m4 10 1 0 0, 112⟩)).toArray)) [(0, .tmp 18), (1, .const (.int .i64 112))] ?_ ?_ ?_ ?_); (focus rfl); (focus rfl); (focus (first | exact bdEB1 _ | skip)))
          | (have kk := K4; go_at_call 26; refine (f4_10_1_0_0 _).mono ?_; rintro e w5' ⟨rfl, c5⟩))
        have K6 := K4.below k6
        have B6 := bt B4 k6
        have r3_6 := r3.below k6 r3.lt
        clear K4 B4 k6 c5 c6 b4 h4 l4 gr4 r3
        go_upto_region 7 with (first
          | (have kk := K7; go_at_call 10; refine (lv_do K7 ⟨1, eB⟩ wfB (by omega) (by omega) (by decide) do2).mono ?_; rintro e W8 ⟨rfl, K8, T8⟩; have r3_8 := T8.row K7 r3_7 (by decide); have r4_8 := T8.row K7 r4_7 (by decide); have B8 := T8.base B7 hb)
          | (have kk := K7; (with_reducible refine bdG (T := 39) (v := oV ⟨1, eB⟩) [(0, .const (.int .i64 1)), (1, .tmp 35)] ?_ ?_ ?_ ?_); (focus rfl); (focus rfl); (focus (first | exact bdO 1 eB _ | skip)))
          | (have kk := r4_7; (with_reducible refine ldE (.tmp 4) ?_ ?_ g4 0 eB ?_ ?_ ?_); (focus rfl); (focus rfl); (focus (repeat (first | with_reducible refine ev_ne ?_ rfl | with_reducible refine ev_no ?_ | (with_reducible refine ev_eq (n := 100) ?_ rfl; repeat (first | with_reducible refine sz_put ?_ | with_reducible refine sz_no ?_ | rfl)) | rfl))); (focus exact r4_7.en))
          | (have kk := K6; go_at_call 10; refine (lv_do K6 ⟨1, eA⟩ wfA (by omega) (by omega) (by decide) do1).mono ?_; rintro e W7 ⟨rfl, K7, T7⟩; have r3_7 := T7.row K6 r3_6 (by decide); have r4_7 := T7.row K6 r4 (by decide); have B7 := T7.base B6 hb)
          | ((with_reducible refine bdG (T := 39) (v := oV ⟨1, eA⟩) [(0, .const (.int .i64 1)), (1, .tmp 28)] ?_ ?_ ?_ ?_); (focus rfl); (focus rfl); (focus (first | exact bdO 1 eA _ | skip)))
          | (have kk := r3_6; (with_reducible refine ldE (.tmp 3) ?_ ?_ g3 0 eA ?_ ?_ ?_); (focus rfl); (focus rfl); (focus (repeat (first | with_reducible refine ev_ne ?_ rfl | with_reducible refine ev_no ?_ | (with_reducible refine ev_eq (n := 100) ?_ rfl; repeat (first | with_reducible refine sz_put ?_ | with_reducible refine sz_no ?_ | rfl)) | rfl))); (focus exact r3_6.en)))
        clear K6 B6 r3_6 r4 K7 B7 r3_7 r4_7 T7 T8
        go_upto_region 8 with (first
          | (have kk := qg5; (with_reducible refine stE (.tmp 5) (.tmp 45) ?_ ?_ g5 eB zeroE ?_ ?_ ?_ ?_); (focus rfl); (focus rfl); (focus (repeat (first | with_reducible refine ev_ne ?_ rfl | with_reducible refine ev_no ?_ | (with_reducible refine ev_eq (n := 100) ?_ rfl; repeat (first | with_reducible refine sz_put ?_ | with_reducible refine sz_no ?_ | rfl)) | rfl))); (focus (repeat (first | with_reducible refine ev_ne ?_ rfl | with_reducible refine ev_no ?_ | (with_reducible refine ev_eq (n := 100) ?_ rfl; repeat (first | with_reducible refine sz_put ?_ | with_reducible refine sz_no ?_ | rfl)) | rfl))); (focus exact qg5); intro W9 grg5 r5; have k9 := bt (bt (bt c9a c9b) c9) (grown_below grg5 bg5 hg5 bg5.size); clear qg5)
          | (have kk := c9; (with_reducible refine alG infoEz ?_ ?_ ?_); (focus rfl); (focus rfl); intro g5 V9 hg5 lg5 bg5 qg5)
          | (have kk := c9b; go_at_call 19; refine (lv_look ((K8.below c9a).below c9b) _ _ lk1).mono ?_; rintro e X9 ⟨rfl, c9⟩)
          | (have kk := c9a; go_at_call 26; refine (f4_10_1_2_3 _).mono ?_; rintro e Y9 ⟨rfl, c9b⟩)
          | (have kk := K8; go_at_call 26; refine (f4_1_1_1_1 _).mono ?_; rintro e Z9 ⟨rfl, c9a⟩))
        have K9 := K8.below k9
        have B9 := bt B8 k9
        have r3_9 := r3_8.below k9 r3_8.lt
        have r4_9 := r4_8.below k9 r4_8.lt
        clear K8 B8 k9 c9a c9b c9 bg5 hg5 lg5 grg5 r3_8 r4_8
        go_upto_region 9 with (first
          | (have kk := qg7; (with_reducible refine stE (.tmp 7) (.tmp 52) ?_ ?_ g7 zeroE zeroE ?_ ?_ ?_ ?_); (focus rfl); (focus rfl); (focus (repeat (first | with_reducible refine ev_ne ?_ rfl | with_reducible refine ev_no ?_ | (with_reducible refine ev_eq (n := 100) ?_ rfl; repeat (first | with_reducible refine sz_put ?_ | with_reducible refine sz_no ?_ | rfl)) | rfl))); (focus (repeat (first | with_reducible refine ev_ne ?_ rfl | with_reducible refine ev_no ?_ | (with_reducible refine ev_eq (n := 100) ?_ rfl; repeat (first | with_reducible refine sz_put ?_ | with_reducible refine sz_no ?_ | rfl)) | rfl))); (focus exact qg7); intro W10 grg7 r7; have k10 := bt (bt (bt c10a c10b) c10) (grown_below grg7 bg7 hg7 bg7.size); clear qg7)
          | (have kk := c10; (with_reducible refine alG infoEz ?_ ?_ ?_); (focus rfl); (focus rfl); intro g7 V10 hg7 lg7 bg7 qg7)
          | (have kk := c10b; go_at_call 19; refine (lv_look ((K9.below c10a).below c10b) _ _ lk2).mono ?_; rintro e X10 ⟨rfl, c10⟩)
          | (have kk := c10a; go_at_call 26; refine (f4_10_1_2_3 _).mono ?_; rintro e Y10 ⟨rfl, c10b⟩)
          | (have kk := K9; go_at_call 26; refine (f4_2_2_2_2 _).mono ?_; rintro e Z10 ⟨rfl, c10a⟩))
        have K10 := K9.below k10
        have B10 := bt B9 k10
        have r3_10 := r3_9.below k10 r3_9.lt
        have r4_10 := r4_9.below k10 r4_9.lt
        have r5_10 := r5.below k10 r5.lt
        clear K9 B9 k10 c10a c10b c10 bg7 hg7 lg7 grg7 r3_9 r4_9 r5
        go_upto_region 10 with (first
          | (have kk := qg9; (with_reducible refine stE (.tmp 9) (.tmp 59) ?_ ?_ g9 eA zeroE ?_ ?_ ?_ ?_); (focus rfl); (focus rfl); (focus (repeat (first | with_reducible refine ev_ne ?_ rfl | with_reducible refine ev_no ?_ | (with_reducible refine ev_eq (n := 100) ?_ rfl; repeat (first | with_reducible refine sz_put ?_ | with_reducible refine sz_no ?_ | rfl)) | rfl))); (focus (repeat (first | with_reducible refine ev_ne ?_ rfl | with_reducible refine ev_no ?_ | (with_reducible refine ev_eq (n := 100) ?_ rfl; repeat (first | with_reducible refine sz_put ?_ | with_reducible refine sz_no ?_ | rfl)) | rfl))); (focus exact qg9); intro W11 grg9 r9; have k11 := bt (bt (bt c11a c11b) c11) (grown_below grg9 bg9 hg9 bg9.size); clear qg9)
          | (have kk := c11; (with_reducible refine alG infoEz ?_ ?_ ?_); (focus rfl); (focus rfl); intro g9 V11 hg9 lg9 bg9 qg9)
          | (have kk := c11b; go_at_call 19; refine (lv_look ((K10.below c11a).below c11b) _ _ lk3).mono ?_; rintro e X11 ⟨rfl, c11⟩)
          | (have kk := c11a; go_at_call 26; refine (f4_10_2_2_2 _).mono ?_; rintro e Y11 ⟨rfl, c11b⟩)
          | (have kk := K10; go_at_call 26; refine (f4_2_2_2_2 _).mono ?_; rintro e Z11 ⟨rfl, c11a⟩))
        have K11 := K10.below k11
        have B11 := bt B10 k11
        have r3_11 := r3_10.below k11 r3_10.lt
        have r4_11 := r4_10.below k11 r4_10.lt
        have r5_11 := r5_10.below k11 r5_10.lt
        clear K10 B10 k11 c11a c11b c11 bg9 hg9 lg9 grg9 r3_10 r4_10 r5_10
        go_upto_region 11 with (first
          | (go_at_call 12; refine (fail_any K11 1).mono ?_; rintro e W12 ⟨rfl, K12, T12⟩; have r3_12 := T12.row K11 r3_11 (by decide); have r5_12 := T12.row K11 r5_11 (by decide); have r9_12 := T12.row K11 r9 (by decide); have B12 := T12.base B11 hb))
        have K12' : Kn W12 b k 1 [hA, hB] := K12
        have f5 : W12.cell? ⟨g5, 34, none⟩ = some (.int .i64 2) := r5_12.en.i_
        have f9 : W12.cell? ⟨g9, 34, none⟩ = some (.int .i64 1) := r9_12.en.i_
        clear K11 B11 T12 r3_11 r5_11 r4_11 r9 r7 K12 r5_12 r9_12
        go_wp2_with (first
          | (have kk := K14; go_at_call 17; refine (lv_list K14 sl1).mono ?_; rintro e W15 ⟨sa, sc, rfl, b15⟩; have B15 := bt B14 b15)
          | (have kk := K13; go_at_call 10; refine (lv_do K13 ⟨3, eA⟩ wfA (by omega) (by omega) (by decide) do4).mono ?_; rintro e W14 ⟨rfl, K14, T14⟩; have B14 := T14.base B13 hb)
          | (have kk := K13; (with_reducible refine bdG (T := 39) (v := oV ⟨3, eA⟩) [(0, .const (.int .i64 3)), (1, .tmp 90)] ?_ ?_ ?_ ?_); (focus rfl); (focus rfl); (focus (first | exact bdO 3 eA _ | skip)))
          | (have kk := r3_13; (with_reducible refine ldE (.tmp 3) ?_ ?_ g3 0 eA ?_ ?_ ?_); (focus rfl); (focus rfl); (focus (repeat (first | with_reducible refine ev_ne ?_ rfl | with_reducible refine ev_no ?_ | (with_reducible refine ev_eq (n := 100) ?_ rfl; repeat (first | with_reducible refine sz_put ?_ | with_reducible refine sz_no ?_ | rfl)) | rfl))); (focus exact r3_13.en))
          | (have kk := K12'; go_at_call 10; refine (lv_do K12' ⟨3, eA⟩ wfA (by omega) (by omega) (by decide) do3).mono ?_; rintro e W13 ⟨rfl, K13, T13⟩; have r3_13 := T13.row K12' r3_12 (by decide); have B13 := T13.base B12 hb)
          | ((with_reducible refine bdG (T := 39) (v := oV ⟨3, eA⟩) [(0, .const (.int .i64 3)), (1, .tmp 83)] ?_ ?_ ?_ ?_); (focus rfl); (focus rfl); (focus (first | exact bdO 3 eA _ | skip)))
          | (have kk := r3_12; (with_reducible refine ldE (.tmp 3) ?_ ?_ g3 0 eA ?_ ?_ ?_); (focus rfl); (focus rfl); (focus (repeat (first | with_reducible refine ev_ne ?_ rfl | with_reducible refine ev_no ?_ | (with_reducible refine ev_eq (n := 100) ?_ rfl; repeat (first | with_reducible refine sz_put ?_ | with_reducible refine sz_no ?_ | rfl)) | rfl))); (focus exact r3_12.en)))
        have hr : ∀ (tm : Array Value) (V : World), (results Try.f8 tm).run Try.prog V = .ok (tm.getD 0 undef) V := fun tm V => results_tmp rfl tm _ V
        refine bodyPost_ret (v := .bool true) ?_ ?_ ?_
        · exact hr _ _
        · rfl
        · exact ⟨rfl, B15⟩
      exact AllReadyH.nil
    exact AllReadyH.nil
  exact AllReadyH.nil
end Go.Proofs.Ytadnnjngflphjaa
