/-
  live: an entry is wanted, its operation fails, is tried again and done; then nothing is wanted.
-/
import Derived.Test.YtiihlgcafppehaaFU
namespace Go.Proofs.Ytiihlgcafppehaa
open Go.RowKit Go.Maps Go.Shelf
set_option linter.unusedSimpArgs false
set_option linter.unusedVariables false
set_option maxRecDepth 20000
def minT : Int := -9223372036854775808
theorem Lv.has1 {w0 w : World} {f : Nat} {x : Fv} {W : List En} {A : List (Pr × Int)} {P : List Oq} {e : En} (h : Lv w0 f x W [e] A P w) : Calls Try.prog 20 #[.pointer (some ⟨f, 0, none⟩)] w fun e' w' => ∃ a c, e' = .returned (.slice a 1 c) ∧ Lv w0 f x W [e] A P w' ∧ Kp w w' f := h.has
theorem Lv.has0 {w0 w : World} {f : Nat} {x : Fv} {W : List En} {A : List (Pr × Int)} {P : List Oq} (h : Lv w0 f x W [] A P w) : Calls Try.prog 20 #[.pointer (some ⟨f, 0, none⟩)] w fun e' w' => ∃ a c, e' = .returned (.slice a 0 c) ∧ Lv w0 f x W [] A P w' ∧ Kp w w' f := h.has
section
variable {w w1 : World} {f mW mH mA : Nat} {pl : Value}
theorem lv1 {P : List Oq} (h : Lv w f ⟨mW, mH, mA, zeroO, pl, minT⟩ [e0] [] [] P w1) : Calls Try.prog 18 #[.pointer (some ⟨f, 0, none⟩), .int .i64 0] w1 fun e' w' => e' = .returned (.tuple #[oV ⟨1, e0⟩, .bool true]) ∧ ∃ pl', Lv w f ⟨mW, mH, mA, ⟨1, e0⟩, pl', maxT⟩ [e0] [] [] [] w' ∧ Kp w1 w' f :=
  h.plan (now := 0) (p := e0.p) (op := ⟨1, e0⟩) (t := maxT) rfl (by simp) (by show minT ≤ 0; decide) rfl (layP_add e0 0) (layT_add e0 0 maxT)
theorem lv2 (h : Lv w f ⟨mW, mH, mA, ⟨1, e0⟩, pl, maxT⟩ [e0] [] [] [] w1) : Calls Try.prog 19 #[.pointer (some ⟨f, 0, none⟩), .int .i64 5, .bool false] w1 fun e w' => e = .returned (.int .i64 0) ∧ Lv w f ⟨mW, mH, mA, zeroO, pl, 1005⟩ [e0] [] [(e0.p, 1005)] [] w' ∧ Kp w1 w' f :=
  h.reply (now := 5) (ok := false) (by omega) (by omega) (by show (1 : Int) ≠ 0; decide) wf0 (by simp) (by simp) _ _ _ rfl rfl rfl
theorem lv3 (h : Lv w f ⟨mW, mH, mA, zeroO, pl, 1005⟩ [e0] [] [(e0.p, 1005)] [] w1) : Calls Try.prog 18 #[.pointer (some ⟨f, 0, none⟩), .int .i64 6] w1 fun e' w' => e' = .returned (.tuple #[oV zeroO, .bool false]) ∧ Lv w f ⟨mW, mH, mA, zeroO, pl, 1005⟩ [e0] [] [(e0.p, 1005)] [] w' ∧ Kp w1 w' f :=
  h.hold (now := 6) rfl (by simp) (by show (6 : Int) < 1005; omega)
theorem lv4 (h : Lv w f ⟨mW, mH, mA, zeroO, pl, 1005⟩ [e0] [] [(e0.p, 1005)] [] w1) : Calls Try.prog 24 #[.pointer (some ⟨f, 0, none⟩)] w1 fun e w' => e = .returned (.tuple #[.int .i64 1005, .bool true]) ∧ Lv w f ⟨mW, mH, mA, zeroO, pl, 1005⟩ [e0] [] [(e0.p, 1005)] [] w' ∧ Kp w1 w' f :=
  h.at_ (by rw [todR_add]; simp)
theorem lv5 (h : Lv w f ⟨mW, mH, mA, zeroO, pl, 1005⟩ [e0] [] [(e0.p, 1005)] [] w1) : Calls Try.prog 18 #[.pointer (some ⟨f, 0, none⟩), .int .i64 1005] w1 fun e' w' => e' = .returned (.tuple #[oV ⟨1, e0⟩, .bool true]) ∧ ∃ pl', Lv w f ⟨mW, mH, mA, ⟨1, e0⟩, pl', maxT⟩ [e0] [] [(e0.p, 1005)] [] w' ∧ Kp w1 w' f :=
  h.plan (now := 1005) (p := e0.p) (op := ⟨1, e0⟩) (t := maxT) rfl (by simp) (Int.le_refl _) rfl (layP_again e0) (layT_again e0 maxT)
theorem lv6 (h : Lv w f ⟨mW, mH, mA, ⟨1, e0⟩, pl, maxT⟩ [e0] [] [(e0.p, 1005)] [] w1) : Calls Try.prog 19 #[.pointer (some ⟨f, 0, none⟩), .int .i64 1005, .bool true] w1 fun e w' => e = .returned (.int .i64 0) ∧ Lv w f ⟨mW, mH, mA, zeroO, pl, maxT⟩ [e0] [e0] [] [] w' ∧ Kp w1 w' f :=
  h.reply (now := 1005) (ok := true) (by omega) (by omega) (by show (1 : Int) ≠ 0; decide) wf0 (by simp) (by simp) _ _ _ rfl rfl (replA_one e0 1 1005)
theorem lv7 {P : List Oq} (h : Lv w f ⟨mW, mH, mA, zeroO, pl, minT⟩ [] [e0] [] P w1) : Calls Try.prog 18 #[.pointer (some ⟨f, 0, none⟩), .int .i64 2000] w1 fun e' w' => e' = .returned (.tuple #[oV ⟨3, e0⟩, .bool true]) ∧ ∃ pl', Lv w f ⟨mW, mH, mA, ⟨3, e0⟩, pl', maxT⟩ [] [e0] [] [] w' ∧ Kp w1 w' f :=
  h.plan (now := 2000) (p := e0.p) (op := ⟨3, e0⟩) (t := maxT) rfl (by simp) (by show minT ≤ 2000; decide) rfl (layP_rem e0 2000) (layT_rem e0 2000 maxT)
theorem lv8 (h : Lv w f ⟨mW, mH, mA, ⟨3, e0⟩, pl, maxT⟩ [] [e0] [] [] w1) : Calls Try.prog 19 #[.pointer (some ⟨f, 0, none⟩), .int .i64 2000, .bool true] w1 fun e w' => e = .returned (.int .i64 0) ∧ Lv w f ⟨mW, mH, mA, zeroO, pl, maxT⟩ [] [] [] [] w' ∧ Kp w1 w' f :=
  h.reply (now := 2000) (ok := true) (by omega) (by omega) (by show (3 : Int) ≠ 0; decide) wf0 (by simp) (by simp) _ _ _ rfl (replH_one e0) rfl
end
set_option maxHeartbeats 8000000 in
theorem live_any (w : World) : Calls Try.prog 7 #[] w (Gives w (.bool true)) := by
  have hN := new_lv w
  go_enter Try.func7, Try.ntmps7
  go_upto_region 3 with (first
    | (have kk := q2; (with_reducible refine stE (.tmp 2) (.tmp 20) ?_ ?_ g2 e0 zeroE ?_ ?_ ?_ ?_); (focus rfl); (focus rfl); (focus (repeat (first | with_reducible refine ev_ne ?_ rfl | with_reducible refine ev_no ?_ | (with_reducible refine ev_eq (n := 128) ?_ rfl; repeat (first | with_reducible refine sz_put ?_ | with_reducible refine sz_no ?_ | rfl)) | rfl))); (focus (repeat (first | with_reducible refine ev_ne ?_ rfl | with_reducible refine ev_no ?_ | (with_reducible refine ev_eq (n := 128) ?_ rfl; repeat (first | with_reducible refine sz_put ?_ | with_reducible refine sz_no ?_ | rfl)) | rfl))); (focus exact q2); intro W3 gr3 r2; have k2 := grown_below gr3 b2 h2 b2.size; clear q2)
    | (have kk := L1; (with_reducible refine alG infoEz ?_ ?_ ?_); (focus rfl); (focus rfl); intro g2 W2 h2 l2 b2 q2)
    | ((with_reducible refine bdG (T := 36) (v := eV e0) [(0, .tmp 19), (1, .const (.int .i64 1))] ?_ ?_ ?_ ?_); (focus rfl); (focus rfl); (focus exact bdE32 _))
    | ((with_reducible refine bdG (T := 34) (v := (Value.agg (qcells p0).toArray)) [(0, .tmp 18)] ?_ ?_ ?_ ?_); (focus rfl); (focus rfl); (focus exact bdQ32 _))
    | ((with_reducible refine bdG (T := 32) (v := (Value.agg (pcells (⟨a32, 8⟩)).toArray)) [(0, .tmp 17), (1, .const (.int .i64 8))] ?_ ?_ ?_ ?_); (focus rfl); (focus rfl); (focus exact bdP32 _))
    | ((with_reducible refine bdG (T := 24) (v := (Value.agg (acells a32).toArray)) [(0, .const (.int .u8 32))] ?_ ?_ ?_ ?_); (focus rfl); (focus rfl); (focus exact bdA32 _))
    | (go_at_call 16; refine hN.mono ?_; rintro e' w1 ⟨f, x, rfl, hd, ht, L1⟩; obtain ⟨mW, mH, mA, d, pl, ti⟩ := x; dsimp only at hd ht; subst hd ht))
  have L3 := (L1.below k2).1
  clear hN L1 k2 b2 gr3 h2 l2
  have hC := L3.drained rfl
  go_upto_region 5 with (first
    | (go_at_call 22; refine hC.mono ?_; rintro e' w4 ⟨rfl, L4, K4⟩))
  have r2_4 := K4 _ _ _ r2 (row_ne r2 L3.fb.row (by decide))
  clear r2 K4 L3 hC
  go_upto_region 6 with (first
    | (have kk := r5; go_at_call 17; refine (L5.want1 (EsW.one r5) wf0 chk0).mono ?_; rintro e' w6 ⟨rfl, mW6, L6, K6⟩)
    | (have kk := r2_4; (with_reducible refine bsG (T := 22) (U := 36) (n := 1) [(0, .tmp 29)] (ecs e0) ?_ ?_ ?_ ?_); (focus rfl); (focus rfl); (focus exact (fun w => bsE1 e0 w)); intro W5 r5 b5; have L5 := (L4.below b5).1; have r2_5 := r2_4.below b5 r2_4.lt)
    | (have kk := r2_4; (with_reducible refine ldE (.tmp 2) ?_ ?_ g2 0 e0 ?_ ?_ ?_); (focus rfl); (focus rfl); (focus (repeat (first | with_reducible refine ev_ne ?_ rfl | with_reducible refine ev_no ?_ | (with_reducible refine ev_eq (n := 128) ?_ rfl; repeat (first | with_reducible refine sz_put ?_ | with_reducible refine sz_no ?_ | rfl)) | rfl))); (focus exact r2_4.en)))
  have r2_6 := K6 _ _ _ r2_5 (row_ne r2_5 L5.fb.row (by decide))
  clear r2_4 r2_5 K6 L5 L4 r5 b5
  go_upto_region 7 with (first
    | (have kk := q7; (with_reducible refine stO (.tmp 3) (.tmp 35) ?_ ?_ gr3 ⟨1, e0⟩ zeroO ?_ ?_ ?_ ?_); (focus rfl); (focus rfl); (focus (repeat (first | with_reducible refine ev_ne ?_ rfl | with_reducible refine ev_no ?_ | (with_reducible refine ev_eq (n := 128) ?_ rfl; repeat (first | with_reducible refine sz_put ?_ | with_reducible refine sz_no ?_ | rfl)) | rfl))); (focus (repeat (first | with_reducible refine ev_ne ?_ rfl | with_reducible refine ev_no ?_ | (with_reducible refine ev_eq (n := 128) ?_ rfl; repeat (first | with_reducible refine sz_put ?_ | with_reducible refine sz_no ?_ | rfl)) | rfl))); (focus exact q7); intro V7 gr7 r3_b; have k7 := grown_below gr7 b7 h7 b7.size; clear q7)
    | (have kk := L7; (with_reducible refine alG infoOz ?_ ?_ ?_); (focus rfl); (focus rfl); intro gr3 U7 h7 l7 b7 q7)
    | (go_at_call 18; refine (lv1 L6).mono ?_; rintro e' w7 ⟨rfl, pl7, L7, K7⟩))
  have r2_7b := (K7 _ _ _ r2_6 (row_ne r2_6 L6.fb.row (by decide))).below k7 (K7 _ _ _ r2_6 (row_ne r2_6 L6.fb.row (by decide))).lt
  have L7b := (L7.below k7).1
  clear r2_6 L6 K7 L7 k7 gr7 h7 l7 b7
  have r3_7b := r3_b
  clear r3_b
  go_upto_region 8 with (first
    | (go_at_call 19; refine (lv2 L7b).mono ?_; rintro e' w8 ⟨rfl, L8, K8⟩))
  have r2_8 := K8 _ _ _ r2_7b (row_ne r2_7b L7b.fb.row (by decide))
  have r3_8 := K8 _ _ _ r3_7b (row_ne r3_7b L7b.fb.row (by decide))
  clear r2_7b r3_7b L7b K8
  go_upto_region 9 with (first
    | (have kk := q9; (with_reducible refine stO (.tmp 6) (.tmp 42) ?_ ?_ gr6 zeroO zeroO ?_ ?_ ?_ ?_); (focus rfl); (focus rfl); (focus (repeat (first | with_reducible refine ev_ne ?_ rfl | with_reducible refine ev_no ?_ | (with_reducible refine ev_eq (n := 128) ?_ rfl; repeat (first | with_reducible refine sz_put ?_ | with_reducible refine sz_no ?_ | rfl)) | rfl))); (focus (repeat (first | with_reducible refine ev_ne ?_ rfl | with_reducible refine ev_no ?_ | (with_reducible refine ev_eq (n := 128) ?_ rfl; repeat (first | with_reducible refine sz_put ?_ | with_reducible refine sz_no ?_ | rfl)) | rfl))); (focus exact q9); intro V9 gr9 r6_b; have k9 := grown_below gr9 b9 h9 b9.size; clear q9)
    | (have kk := L9; (with_reducible refine alG infoOz ?_ ?_ ?_); (focus rfl); (focus rfl); intro gr6 U9 h9 l9 b9 q9)
    | (go_at_call 18; refine (lv3 L8).mono ?_; rintro e' w9 ⟨rfl, L9, K9⟩))
  have r2_9b := (K9 _ _ _ r2_8 (row_ne r2_8 L8.fb.row (by decide))).below k9 (K9 _ _ _ r2_8 (row_ne r2_8 L8.fb.row (by decide))).lt
  have r3_9b := (K9 _ _ _ r3_8 (row_ne r3_8 L8.fb.row (by decide))).below k9 (K9 _ _ _ r3_8 (row_ne r3_8 L8.fb.row (by decide))).lt
  have L9b := (L9.below k9).1
  clear r2_8 r3_8 L8 K9 L9 k9 gr9 h9 l9 b9
  clear r6_b
  go_upto_region 10 with (first
    | (go_at_call 24; refine (lv4 L9b).mono ?_; rintro e' w10 ⟨rfl, L10, K10⟩))
  have r2_10 := K10 _ _ _ r2_9b (row_ne r2_9b L9b.fb.row (by decide))
  have r3_10 := K10 _ _ _ r3_9b (row_ne r3_9b L9b.fb.row (by decide))
  clear r2_9b r3_9b L9b K10
  go_upto_region 11 with (first
    | (have kk := q11; (with_reducible refine stO (.tmp 10) (.tmp 52) ?_ ?_ gr10 ⟨1, e0⟩ zeroO ?_ ?_ ?_ ?_); (focus rfl); (focus rfl); (focus (repeat (first | with_reducible refine ev_ne ?_ rfl | with_reducible refine ev_no ?_ | (with_reducible refine ev_eq (n := 128) ?_ rfl; repeat (first | with_reducible refine sz_put ?_ | with_reducible refine sz_no ?_ | rfl)) | rfl))); (focus (repeat (first | with_reducible refine ev_ne ?_ rfl | with_reducible refine ev_no ?_ | (with_reducible refine ev_eq (n := 128) ?_ rfl; repeat (first | with_reducible refine sz_put ?_ | with_reducible refine sz_no ?_ | rfl)) | rfl))); (focus exact q11); intro V11 gr11 r10_b; have k11 := grown_below gr11 b11 h11 b11.size; clear q11)
    | (have kk := L11; (with_reducible refine alG infoOz ?_ ?_ ?_); (focus rfl); (focus rfl); intro gr10 U11 h11 l11 b11 q11)
    | (go_at_call 18; refine (lv5 L10).mono ?_; rintro e' w11 ⟨rfl, pl11, L11, K11⟩))
  have r2_11b := (K11 _ _ _ r2_10 (row_ne r2_10 L10.fb.row (by decide))).below k11 (K11 _ _ _ r2_10 (row_ne r2_10 L10.fb.row (by decide))).lt
  have r3_11b := (K11 _ _ _ r3_10 (row_ne r3_10 L10.fb.row (by decide))).below k11 (K11 _ _ _ r3_10 (row_ne r3_10 L10.fb.row (by decide))).lt
  have L11b := (L11.below k11).1
  clear r2_10 r3_10 L10 K11 L11 k11 gr11 h11 l11 b11
  have r10_11b := r10_b
  clear r10_b
  go_upto_region 12 with (first
    | (go_at_call 19; refine (lv6 L11b).mono ?_; rintro e' w12 ⟨rfl, L12, K12⟩))
  have r2_12 := K12 _ _ _ r2_11b (row_ne r2_11b L11b.fb.row (by decide))
  have r3_12 := K12 _ _ _ r3_11b (row_ne r3_11b L11b.fb.row (by decide))
  have r10_12 := K12 _ _ _ r10_11b (row_ne r10_11b L11b.fb.row (by decide))
  clear r2_11b r3_11b r10_11b L11b K12
  go_upto_region 13 with (first
    | (go_at_call 20; refine L13.has1.mono ?_; rintro e' w14 ⟨sa, sc, rfl, L14, K14⟩)
    | (go_at_call 22; refine (L12.drained (by rw [eqM_one]; rfl)).mono ?_; rintro e' w13 ⟨rfl, L13, K13⟩))
  have r2_14 := K14 _ _ _ (K13 _ _ _ r2_12 (row_ne r2_12 L12.fb.row (by decide))) (row_ne (K13 _ _ _ r2_12 (row_ne r2_12 L12.fb.row (by decide))) L13.fb.row (by decide))
  have r3_14 := K14 _ _ _ (K13 _ _ _ r3_12 (row_ne r3_12 L12.fb.row (by decide))) (row_ne (K13 _ _ _ r3_12 (row_ne r3_12 L12.fb.row (by decide))) L13.fb.row (by decide))
  have r10_14 := K14 _ _ _ (K13 _ _ _ r10_12 (row_ne r10_12 L12.fb.row (by decide))) (row_ne (K13 _ _ _ r10_12 (row_ne r10_12 L12.fb.row (by decide))) L13.fb.row (by decide))
  clear r2_12 r3_12 r10_12 L12 L13 K13 K14
  go_upto_region 14 with (first
    | (go_at_call 17; refine (L14.want0 (ad := none) (c := 0)).mono ?_; rintro e' w15 ⟨rfl, mW15, L15, K15⟩))
  have r2_15 := K15 _ _ _ r2_14 (row_ne r2_14 L14.fb.row (by decide))
  have r3_15 := K15 _ _ _ r3_14 (row_ne r3_14 L14.fb.row (by decide))
  have r10_15 := K15 _ _ _ r10_14 (row_ne r10_14 L14.fb.row (by decide))
  clear r2_14 r3_14 r10_14 L14 K15
  go_upto_region 15 with (first
    | (have kk := q16; (with_reducible refine stO (.tmp 14) (.tmp 69) ?_ ?_ gr14 ⟨3, e0⟩ zeroO ?_ ?_ ?_ ?_); (focus rfl); (focus rfl); (focus (repeat (first | with_reducible refine ev_ne ?_ rfl | with_reducible refine ev_no ?_ | (with_reducible refine ev_eq (n := 128) ?_ rfl; repeat (first | with_reducible refine sz_put ?_ | with_reducible refine sz_no ?_ | rfl)) | rfl))); (focus (repeat (first | with_reducible refine ev_ne ?_ rfl | with_reducible refine ev_no ?_ | (with_reducible refine ev_eq (n := 128) ?_ rfl; repeat (first | with_reducible refine sz_put ?_ | with_reducible refine sz_no ?_ | rfl)) | rfl))); (focus exact q16); intro V16 gr16 r14_b; have k16 := grown_below gr16 b16 h16 b16.size; clear q16)
    | (have kk := L16; (with_reducible refine alG infoOz ?_ ?_ ?_); (focus rfl); (focus rfl); intro gr14 U16 h16 l16 b16 q16)
    | (go_at_call 18; refine (lv7 L15).mono ?_; rintro e' w16 ⟨rfl, pl16, L16, K16⟩))
  have r2_16b := (K16 _ _ _ r2_15 (row_ne r2_15 L15.fb.row (by decide))).below k16 (K16 _ _ _ r2_15 (row_ne r2_15 L15.fb.row (by decide))).lt
  have r3_16b := (K16 _ _ _ r3_15 (row_ne r3_15 L15.fb.row (by decide))).below k16 (K16 _ _ _ r3_15 (row_ne r3_15 L15.fb.row (by decide))).lt
  have r10_16b := (K16 _ _ _ r10_15 (row_ne r10_15 L15.fb.row (by decide))).below k16 (K16 _ _ _ r10_15 (row_ne r10_15 L15.fb.row (by decide))).lt
  have L16b := (L16.below k16).1
  clear r2_15 r3_15 r10_15 L15 K16 L16 k16 gr16 h16 l16 b16
  have hEQ : ∀ V, (binOp .eql 52 (oV ⟨1, e0⟩) (oV ⟨1, e0⟩)).run Try.prog V = .ok (.bool true) V := fun V => by rw [run_eqlO, eqOq_self]
  have gEQ := fun op a b V => guardO op a b ⟨1, e0⟩ ⟨1, e0⟩ V
  have c14 : V16.cell? ⟨gr14, 0, none⟩ = some (.int .i64 3) := r14_b.cell 0
  clear r14_b
  go_wp2_with (first
    | (go_at_call 20; refine L17.has0.mono ?_; rintro e' w18 ⟨sb, sd, rfl, L18, K18⟩)
    | (have kk := L17; go_at_call 8; refine (num_any _ _).mono ?_; rintro e' w' ⟨rfl, rfl⟩)
    | (go_at_call 19; refine (lv8 L16b).mono ?_; rintro e' w17 ⟨rfl, L17, K17⟩)
    | (go_at_call 8; refine (num_any _ _).mono ?_; rintro e' w' ⟨rfl, rfl⟩)
    | (have kk := r3_16b; (with_reducible refine ldO (.tmp 3) ?_ ?_ gr3 0 ⟨1, e0⟩ ?_ ?_ ?_); (focus rfl); (focus rfl); (focus (repeat (first | with_reducible refine ev_ne ?_ rfl | with_reducible refine ev_no ?_ | (with_reducible refine ev_eq (n := 128) ?_ rfl; repeat (first | with_reducible refine sz_put ?_ | with_reducible refine sz_no ?_ | rfl)) | rfl))); (focus exact r3_16b.op))
    | (have kk := r10_16b; (with_reducible refine ldO (.tmp 10) ?_ ?_ gr10 0 ⟨1, e0⟩ ?_ ?_ ?_); (focus rfl); (focus rfl); (focus (repeat (first | with_reducible refine ev_ne ?_ rfl | with_reducible refine ev_no ?_ | (with_reducible refine ev_eq (n := 128) ?_ rfl; repeat (first | with_reducible refine sz_put ?_ | with_reducible refine sz_no ?_ | rfl)) | rfl))); (focus exact r10_16b.op))
    | (have kk := r2_16b; (with_reducible refine ldE (.tmp 2) ?_ ?_ g2 0 e0 ?_ ?_ ?_); (focus rfl); (focus rfl); (focus (repeat (first | with_reducible refine ev_ne ?_ rfl | with_reducible refine ev_no ?_ | (with_reducible refine ev_eq (n := 128) ?_ rfl; repeat (first | with_reducible refine sz_put ?_ | with_reducible refine sz_no ?_ | rfl)) | rfl))); (focus exact r2_16b.en))
    | (have kk := r2_16b; (with_reducible refine bdOp 1 (.tmp 74) e0 ?_ ?_ ?_ ?_); (focus rfl); (focus rfl); (focus (repeat (first | with_reducible refine ev_ne ?_ rfl | with_reducible refine ev_no ?_ | (with_reducible refine ev_eq (n := 128) ?_ rfl; repeat (first | with_reducible refine sz_put ?_ | with_reducible refine sz_no ?_ | rfl)) | rfl)))))

  have hr : ∀ (tm : Array Value) (V : World), (results Try.f7 tm).run Try.prog V = .ok (tm.getD 0 undef) V := fun tm V => results_tmp rfl tm _ V
  refine bodyPost_ret (v := .bool true) ?_ ?_ ?_
  · exact hr _ _
  · rfl
  · exact ⟨rfl, L18.b⟩
end Go.Proofs.Ytiihlgcafppehaa
