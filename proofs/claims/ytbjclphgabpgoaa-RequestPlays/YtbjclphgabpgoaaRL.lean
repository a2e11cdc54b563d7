/-
  live: a request is asked, asked again in vain, and sent until it ends.
-/
import Derived.Test.YtbjclphgabpgoaaRE
import Derived.Test.YtbjclphgabpgoaaRG
import Derived.Test.YtbjclphgabpgoaaEv
namespace Go.Proofs.Ytbjclphgabpgoaa
open Go.RowKit Go.Maps Go.Shelf
set_option linter.unusedSimpArgs false
set_option linter.unusedVariables false
set_option maxRecDepth 20000
def a32 : Ad := ⟨[32, 0, 0, 0, 0, 0, 0, 0, 0, 0, 0, 0, 0, 0, 0, 0], rfl⟩
def p0 : Pr := ⟨⟨a32, 8⟩, zeroP⟩
def i0 : Id8 := ⟨[0, 0, 0, 0, 0, 0, 0, 1], rfl⟩
def n1 : Sr := ⟨p0, i0, 5, 1, 2000⟩
def n3 : Sr := ⟨p0, i0, 6, 1, 2000⟩
def n4 : Sr := ⟨p0, i0, 6, 2, 6000⟩
def n5 : Sr := ⟨p0, i0, 6, 3, 14000⟩
theorem bdA32 (w : World) : (Instr.build 34 #[(0, .int .u8 32)]).run Try.prog w = .ok (Value.agg (acells a32).toArray) w := by kernel_rfl
theorem bdP32 (w : World) : (Instr.build 36 #[(0, (Value.agg (acells a32).toArray)), (1, .int .i64 8)]).run Try.prog w = .ok (Value.agg (pcells (⟨a32, 8⟩)).toArray) w := by kernel_rfl
theorem bdQ32 (w : World) : (Instr.build 38 #[(0, (Value.agg (pcells (⟨a32, 8⟩)).toArray))]).run Try.prog w = .ok (Value.agg (qcells p0).toArray) w := by kernel_rfl
theorem bdI01 (w : World) : (Instr.build 40 #[(7, .int .u8 1)]).run Try.prog w = .ok (idV i0) w := by kernel_rfl
theorem bdDi6 (w : World) : (Instr.build 42 #[(0, .int .u16 6), (1, .int .u16 5)]).run Try.prog w = .ok (.agg #[.int .u16 6, .int .u16 5]) w := by kernel_rfl
theorem wf0 : wfQ p0 := ⟨rfl, rfl⟩
theorem num_any (e : Int) (w : World) : Calls Try.prog 15 #[.int .i64 e] w fun e' w' => e' = .returned (.int .i64 e) ∧ w = w' := by
  go_enter Try.func15, Try.ntmps15
  go_wp2
  go_ret
  exact ⟨rfl, rfl⟩
section
variable {ops : Array Oper} {rest : List Oper} {op : Oper} {a : Act} {w : World} {Q : Exit → Act → World → Prop} {K : Act → World → Prop} {E : Prop} {S : World → Prop}
theorem stQr (x y : Operand) (hw : Region.wanted op (yielded ops a.tmps) = true) (ho : op.op = .store 38 x y) (b : Nat) (n u : Pr) (hx : a.eval x = .pointer (some ⟨b, 0, none⟩)) (hy : a.eval y = (Value.agg (qcells n).toArray)) (hr : Row w b 38 (qcells u))
    (h : ∀ W, w.grownBy W (some b) → Row W b 38 (qcells n) → wpList Try.prog ops Q rest (a.put op.dst undef) W) : wpList Try.prog ops Q (op :: rest) a w :=
  wpList_step fun K hK => by
    rw [if_pos hw]
    refine wp_store_mid _ x y ho b 0 _ hx hy (by simpa [qcells_len] using hr.there (n := 34) (by rw [qcells_len]; omega)) (by rw [infoQ]; simp [qcells_len]) (all_oneCell_toArray (qcells_one n)) (hK _ _ (h _ (grownBy_setCells b _ _ _) ?_))
    have := Row.setCells (qcells n) [] w (qcells u) hr (by rw [qcells_len, qcells_len])
    simpa using this
end
/-- Tick of one request that is late and is sent again. -/
def TkOne (w : World) (t mb : Nat) (most : Int) (n : Sr) (e : Ending) (w' : World) : Prop :=
  ∃ g c1 a2 c2, e = .returned (.tuple #[.slice (some ⟨g, 0, none⟩) 1 c1, .slice a2 0 c2]) ∧ Turn w w' t mb most [n] ∧ w.heap.size ≤ g ∧ g < w'.heap.size ∧ LS w' g 0 n ∧ ∀ W, w'.grownBy W (some mb) → mb < w.heap.size → LS W g 0 n
theorem tick_one {w : World} {t mb : Nat} {most : Int} {n : Sr} (h : Tb w t mb most [n]) (now : Int) (ha : 0 ≤ now) (hb : now ≤ 562949953421312) (ht : n.t ≤ now) (hm : n.m ≠ 4) :
    Calls Try.prog 20 #[.pointer (some ⟨t, 0, none⟩), .int .i64 now] w (TkOne w t mb most (sentR n now)) := by
  refine (tick_any h now ha hb (by simp)).mono ?_
  rintro e w' ⟨a1, c1, a2, c2, K, hp, _, rfl, hT, hO⟩
  have e1 : [n].filter (lateB now) = [n] := by simp [lateB, ht]
  rw [e1, List.perm_singleton] at hp
  subst hp
  have e2 : againR now [n] = [sentR n now] := by simp [againR, moreB, hm]
  have e3 : goneR [n] = [] := by simp [goneR, hm]
  have ks : keyB (sentR n now).p (sentR n now).id n = true := keyB_self n
  have e4 : tickR now [n] [n] = [sentR n now] := by simp [tickR, tickS, hm, putN, ks]
  rw [e2, e3] at hO ⊢
  rw [e4] at hT
  obtain ⟨g, rfl, h1, h2, h3⟩ := own_elem hO.l (by simp)
  have hc := h3 0 (by simp)
  rw [Nat.zero_mul] at hc
  refine ⟨g, c1, a2, c2, rfl, hT, h1, h2, hc, fun W hg hmb => ?_⟩
  obtain ⟨g', e', _, _, h4⟩ := own_elem (own_two hO.l hg (fun e => by cases e; omega)) (by simp)
  have hc := h4 0 (by simp)
  rw [Nat.zero_mul] at hc
  cases e'
  exact hc
theorem lv1 : askL 2 [] 0 p0 i0 5 = [n1] := rfl
theorem lv2 : askL 2 [n1] 0 p0 i0 4 = [n1] := rfl
theorem lv3 : askL 2 [n1] 0 p0 i0 6 = [n3] := rfl
theorem lv4 : sentR n3 2000 = n4 := rfl
theorem lv5 : sentR n4 6000 = n5 := rfl
theorem lvK1 {W : World} {t mb : Nat} (h : Tb W t mb 2 []) : Calls Try.prog 13 #[.pointer (some ⟨t, 0, none⟩), .int .i64 0, (Value.agg (qcells p0).toArray), idV i0, .int .u16 5] W fun e w' => e = .returned (.tuple #[.bool true, .int .i64 0]) ∧ Turn W w' t mb 2 [n1] := ask_any h 0 p0 i0 5 wf0 (by omega) (by omega) (by omega) (by omega) (by simp)
theorem lvK2 {W : World} {t mb : Nat} (h : Tb W t mb 2 [n1]) : Calls Try.prog 13 #[.pointer (some ⟨t, 0, none⟩), .int .i64 0, (Value.agg (qcells p0).toArray), idV i0, .int .u16 4] W fun e w' => e = .returned (.tuple #[.bool false, .int .i64 0]) ∧ Turn W w' t mb 2 [n1] := ask_any h 0 p0 i0 4 wf0 (by omega) (by omega) (by omega) (by omega) (by simp)
theorem lvK3 {W : World} {t mb : Nat} (h : Tb W t mb 2 [n1]) : Calls Try.prog 13 #[.pointer (some ⟨t, 0, none⟩), .int .i64 0, (Value.agg (qcells p0).toArray), idV i0, .int .u16 6] W fun e w' => e = .returned (.tuple #[.bool true, .int .i64 0]) ∧ Turn W w' t mb 2 [n3] := ask_any h 0 p0 i0 6 wf0 (by omega) (by omega) (by omega) (by omega) (by simp)
theorem lvT1 {W : World} {t mb : Nat} (h : Tb W t mb 2 [n3]) : Calls Try.prog 20 #[.pointer (some ⟨t, 0, none⟩), .int .i64 2000] W (TkOne W t mb 2 n4) := tick_one h 2000 (by omega) (by omega) (by show (2000 : Int) ≤ 2000; omega) (by show ¬ (1 : Int) = 4; omega)
theorem lvT2 {W : World} {t mb : Nat} (h : Tb W t mb 2 [n4]) : Calls Try.prog 20 #[.pointer (some ⟨t, 0, none⟩), .int .i64 6000] W (TkOne W t mb 2 n5) := tick_one h 6000 (by omega) (by omega) (by show (6000 : Int) ≤ 6000; omega) (by show ¬ (2 : Int) = 4; omega)
theorem lvM1 {W : World} {t mb : Nat} (h : Tb W t mb 2 [n5]) : Calls Try.prog 16 #[.pointer (some ⟨t, 0, none⟩), (Value.agg (qcells p0).toArray), idV i0, .agg #[.int .u16 6, .int .u16 5]] W fun e w' => e = .returned (.bool true) ∧ Turn W w' t mb 2 [] := met_any h p0 i0 6 5 wf0
theorem lvO1 (W : World) : Calls Try.prog 11 #[.int .u16 7, .int .u16 9] W fun e w' => e = .returned (.int .u16 8) ∧ W = w' := own_any 7 9 W
theorem lvO2 (W : World) : Calls Try.prog 11 #[.int .u16 7, .int .u16 7] W fun e w' => e = .returned (.int .u16 7) ∧ W = w' := own_any 7 7 W
set_option maxHeartbeats 8000000 in
theorem live_any (w : World) : Calls Try.prog 9 #[] w (Gives w (.bool true)) := by
  have hN := new_any 2 w
  obtain ⟨t, ht⟩ : ∃ t, w.heap.size + 1 = t := ⟨_, rfl⟩
  obtain ⟨mb, hmb⟩ : ∃ mb, w.heap.size = mb := ⟨_, rfl⟩
  have HB : Hid (∀ (W W' : World) (L : List Sr), Below w.heap.size w W → Turn W W' t mb 2 L → Below w.heap.size w W') := fun W W' L hb hT => hT.below hb (by omega) hb.size
  have HM : Hid (w.heap.size = mb) := hmb
  rw [ht] at hN
  have hN' : Calls Try.prog 10 #[.int .i64 2] w fun e w' => e = .returned (.pointer (some ⟨t, 0, none⟩)) ∧ Tb w' t mb 2 [] ∧ Below w.heap.size w w' := by rw [← hmb]; exact hN
  clear hN ht hmb
  go_enter Try.func9, Try.ntmps9
  go_upto_region 4 with (first
    | (have kk := ri; (with_reducible refine stI (.tmp 3) (.tmp 18) ?_ ?_ gi i0 zeroI ?_ ?_ ?_ ?_); (focus rfl); (focus rfl); (focus (repeat (first | with_reducible refine ev_ne ?_ rfl | with_reducible refine ev_no ?_ | (with_reducible refine ev_eq (n := 110) ?_ rfl; repeat (first | with_reducible refine sz_put ?_ | with_reducible refine sz_no ?_ | rfl)) | rfl))); (focus (repeat (first | with_reducible refine ev_ne ?_ rfl | with_reducible refine ev_no ?_ | (with_reducible refine ev_eq (n := 110) ?_ rfl; repeat (first | with_reducible refine sz_put ?_ | with_reducible refine sz_no ?_ | rfl)) | rfl))); (focus exact ri); intro Wi1 gi1 qi1; have bi := grown_below gi1 hBi hgei hBi.size; have s1 := sq.below bi; have b1 := bt bq bi; have qp1 := qpq.below bi qpq.lt; have np : gq ≠ mb := (by have := HM.out; have := hz0; have := hgeq; omega); have ni : gi ≠ mb := (by have := HM.out; have := hz0; have := hgei; have := bq0.size; omega); clear ri)
    | (have kk := qpq; (with_reducible refine alG infoIz ?_ ?_ ?_); (focus rfl); (focus rfl); intro gi Wi hgei hgli hBi ri)
    | ((with_reducible refine bdG (T := 40) (v := idV i0) [(7, .const (.int .u8 1))] ?_ ?_ ?_ ?_); (focus rfl); (focus rfl); (focus exact bdI01 _))
    | (have kk := rq; (with_reducible refine stQr (.tmp 2) (.tmp 17) ?_ ?_ gq p0 zeroQ ?_ ?_ ?_ ?_); (focus rfl); (focus rfl); (focus (repeat (first | with_reducible refine ev_ne ?_ rfl | with_reducible refine ev_no ?_ | (with_reducible refine ev_eq (n := 110) ?_ rfl; repeat (first | with_reducible refine sz_put ?_ | with_reducible refine sz_no ?_ | rfl)) | rfl))); (focus (repeat (first | with_reducible refine ev_ne ?_ rfl | with_reducible refine ev_no ?_ | (with_reducible refine ev_eq (n := 110) ?_ rfl; repeat (first | with_reducible refine sz_put ?_ | with_reducible refine sz_no ?_ | rfl)) | rfl))); (focus exact rq); intro Wq1 gq1 qpq; have bq0 := grown_below gq1 hBq hgeq hBq.size; have sq := s0.below bq0; have bq := bt b0 bq0; clear rq)
    | (have kk := s0; (with_reducible refine alG infoQz ?_ ?_ ?_); (focus rfl); (focus rfl); intro gq Wq hgeq hglq hBq rq)
    | ((with_reducible refine bdG (T := 38) (v := (Value.agg (qcells p0).toArray)) [(0, .tmp 16)] ?_ ?_ ?_ ?_); (focus rfl); (focus rfl); (focus exact bdQ32 _))
    | ((with_reducible refine bdG (T := 36) (v := (Value.agg (pcells (⟨a32, 8⟩)).toArray)) [(0, .tmp 15), (1, .const (.int .i64 8))] ?_ ?_ ?_ ?_); (focus rfl); (focus rfl); (focus exact bdP32 _))
    | ((with_reducible refine bdG (T := 34) (v := (Value.agg (acells a32).toArray)) [(0, .const (.int .u8 32))] ?_ ?_ ?_ ?_); (focus rfl); (focus rfl); (focus exact bdA32 _))
    | (go_at_call 10; refine hN'.mono ?_; rintro e w0 ⟨rfl, s0, b0⟩; have hz0 : w.heap.size + 1 ≤ w0.heap.size := (by have := s0.map.lt; have := HM.out; omega)))
  go_upto_region 11 with (first
    | (have kk := s5; go_at_call 20; refine (lvT2 s5).mono ?_; rintro e w6 ⟨g6, c61, a62, c62, rfl, hT6, ge6, gl6, l6, _⟩; have s6 := hT6.tb; have b6 := HB.out _ _ _ b5 hT6; have l56 := keep5 _ hT6.gr s4.map.lt; have qp6 := hT6.row qp5 np; have qi6 := hT6.row qi5 ni; have v43 := l56.m_; have v44 := l6.at_; have e43 : n4.m = 2 := rfl; have e44 : n5.t = 14000 := rfl; rw [e43] at v43; rw [e44] at v44; rw [Nat.zero_add] at v43 v44)
    | (have kk := s4; go_at_call 20; refine (lvT1 s4).mono ?_; rintro e w5 ⟨g5, c51, a52, c52, rfl, hT5, ge5, gl5, l5, keep5'⟩; have s5 := hT5.tb; have b5 := HB.out _ _ _ b4 hT5; have keep5 := fun W h h2 => keep5' W h h2; have qp5 := hT5.row qp4 np; have qi5 := hT5.row qi4 ni)
    | (have kk := s3; go_at_call 13; refine (lvK3 s3).mono ?_; rintro e w4 ⟨rfl, hT4⟩; have s4 := hT4.tb; have b4 := HB.out _ _ _ b3 hT4; have qp4 := hT4.row qp3 np; have qi4 := hT4.row qi3 ni)
    | (have kk := s3; (with_reducible refine ldI (.tmp 3) ?_ ?_ gi 0 i0 ?_ ?_ ?_); (focus rfl); (focus rfl); (focus (repeat (first | with_reducible refine ev_ne ?_ rfl | with_reducible refine ev_no ?_ | (with_reducible refine ev_eq (n := 110) ?_ rfl; repeat (first | with_reducible refine sz_put ?_ | with_reducible refine sz_no ?_ | rfl)) | rfl))); (focus exact qi3.range))
    | (have kk := s3; (with_reducible refine ldQ (.tmp 2) ?_ ?_ gq 0 p0 ?_ ?_ ?_); (focus rfl); (focus rfl); (focus (repeat (first | with_reducible refine ev_ne ?_ rfl | with_reducible refine ev_no ?_ | (with_reducible refine ev_eq (n := 110) ?_ rfl; repeat (first | with_reducible refine sz_put ?_ | with_reducible refine sz_no ?_ | rfl)) | rfl))); (focus exact qp3.range))
    | (have kk := s2; go_at_call 13; refine (lvK2 s2).mono ?_; rintro e w3 ⟨rfl, hT3⟩; have s3 := hT3.tb; have b3 := HB.out _ _ _ b2 hT3; have qp3 := hT3.row qp2 np; have qi3 := hT3.row qi2 ni)
    | (have kk := s2; (with_reducible refine ldI (.tmp 3) ?_ ?_ gi 0 i0 ?_ ?_ ?_); (focus rfl); (focus rfl); (focus (repeat (first | with_reducible refine ev_ne ?_ rfl | with_reducible refine ev_no ?_ | (with_reducible refine ev_eq (n := 110) ?_ rfl; repeat (first | with_reducible refine sz_put ?_ | with_reducible refine sz_no ?_ | rfl)) | rfl))); (focus exact qi2.range))
    | (have kk := s2; (with_reducible refine ldQ (.tmp 2) ?_ ?_ gq 0 p0 ?_ ?_ ?_); (focus rfl); (focus rfl); (focus (repeat (first | with_reducible refine ev_ne ?_ rfl | with_reducible refine ev_no ?_ | (with_reducible refine ev_eq (n := 110) ?_ rfl; repeat (first | with_reducible refine sz_put ?_ | with_reducible refine sz_no ?_ | rfl)) | rfl))); (focus exact qp2.range))
    | (have kk := qi1; go_at_call 13; refine (lvK1 s1).mono ?_; rintro e w2 ⟨rfl, hT2⟩; have s2 := hT2.tb; have b2 := HB.out _ _ _ b1 hT2; have qp2 := hT2.row qp1 np; have qi2 := hT2.row qi1 ni)
    | (have kk := qi1; (with_reducible refine ldI (.tmp 3) ?_ ?_ gi 0 i0 ?_ ?_ ?_); (focus rfl); (focus rfl); (focus (repeat (first | with_reducible refine ev_ne ?_ rfl | with_reducible refine ev_no ?_ | (with_reducible refine ev_eq (n := 110) ?_ rfl; repeat (first | with_reducible refine sz_put ?_ | with_reducible refine sz_no ?_ | rfl)) | rfl))); (focus exact qi1.range))
    | (have kk := qi1; (with_reducible refine ldQ (.tmp 2) ?_ ?_ gq 0 p0 ?_ ?_ ?_); (focus rfl); (focus rfl); (focus (repeat (first | with_reducible refine ev_ne ?_ rfl | with_reducible refine ev_no ?_ | (with_reducible refine ev_eq (n := 110) ?_ rfl; repeat (first | with_reducible refine sz_put ?_ | with_reducible refine sz_no ?_ | rfl)) | rfl))); (focus exact qp1.range)))
  go_wp2_with (first
    | (have kk := s6; go_at_call 16; refine (lvM1 s6).mono ?_; rintro e w8 ⟨rfl, hT8⟩; have bF := HB.out _ _ _ b6 hT8)
    | ((with_reducible refine bdG (T := 42) (v := .agg #[.int .u16 6, .int .u16 5]) [(0, .const (.int .u16 6)), (1, .const (.int .u16 5))] ?_ ?_ ?_ ?_); (focus rfl); (focus rfl); (focus exact bdDi6 _))
    | (have kk := s6; (with_reducible refine ldI (.tmp 3) ?_ ?_ gi 0 i0 ?_ ?_ ?_); (focus rfl); (focus rfl); (focus (repeat (first | with_reducible refine ev_ne ?_ rfl | with_reducible refine ev_no ?_ | (with_reducible refine ev_eq (n := 110) ?_ rfl; repeat (first | with_reducible refine sz_put ?_ | with_reducible refine sz_no ?_ | rfl)) | rfl))); (focus exact qi6.range))
    | (have kk := s6; (with_reducible refine ldQ (.tmp 2) ?_ ?_ gq 0 p0 ?_ ?_ ?_); (focus rfl); (focus rfl); (focus (repeat (first | with_reducible refine ev_ne ?_ rfl | with_reducible refine ev_no ?_ | (with_reducible refine ev_eq (n := 110) ?_ rfl; repeat (first | with_reducible refine sz_put ?_ | with_reducible refine sz_no ?_ | rfl)) | rfl))); (focus exact qp6.range))
    | (have kk := s6; go_at_call 11; with_reducible refine (lvO1 _).mono ?_; rintro e w' ⟨rfl, rfl⟩)
    | (have kk := s6; go_at_call 11; with_reducible refine (lvO2 _).mono ?_; rintro e w' ⟨rfl, rfl⟩)
    | (have kk := s6; go_at_call 15; refine (num_any _ _).mono ?_; rintro e w' ⟨rfl, rfl⟩))
  go_ret
  exact ⟨rfl, bF⟩
end Go.Proofs.Ytbjclphgabpgoaa
