/-
  live: a distance is kept; what is feasible then; it is forgotten.
-/
import Derived.Test.YtdcbnibgckdkbaaV9
namespace Go.Proofs.Ytdcbnibgckdkbaa
open Go.RowKit Go.Maps Go.Shelf
set_option linter.unusedSimpArgs false
set_option linter.unusedVariables false
set_option maxRecDepth 20000
def a32 : Ad := ⟨[32, 0, 0, 0, 0, 0, 0, 0, 0, 0, 0, 0, 0, 0, 0, 0], rfl⟩
def p0 : Pr := ⟨⟨a32, 8⟩, zeroP⟩
def i0 : Id8 := ⟨[0, 0, 0, 0, 0, 0, 0, 1], rfl⟩
def n1 : Sr := ⟨p0, i0, 5, 100, 0⟩
def n2 : Sr := ⟨p0, i0, 5, 100, 5⟩
theorem bdA32 (w : World) : (Instr.build 32 #[(0, .int .u8 32)]).run Try.prog w = .ok (Value.agg (acells a32).toArray) w := by kernel_rfl
theorem bdP32 (w : World) : (Instr.build 34 #[(0, (Value.agg (acells a32).toArray)), (1, .int .i64 8)]).run Try.prog w = .ok (Value.agg (pcells (⟨a32, 8⟩)).toArray) w := by kernel_rfl
theorem bdQ32 (w : World) : (Instr.build 36 #[(0, (Value.agg (pcells (⟨a32, 8⟩)).toArray))]).run Try.prog w = .ok (Value.agg (qcells p0).toArray) w := by kernel_rfl
theorem bdI01 (w : World) : (Instr.build 38 #[(7, .int .u8 1)]).run Try.prog w = .ok (idV i0) w := by kernel_rfl
theorem bdDi (s m : Int) (w : World) : (Instr.build 41 #[(0, .int .u16 s), (1, .int .u16 m)]).run Try.prog w = .ok (dV s m) w := by kernel_rfl
theorem wf0 : wfQ p0 := ⟨rfl, rfl⟩
theorem lv1 : keepR 3 [] 0 p0 i0 5 100 = (0, [n1]) := rfl
theorem lv2 : keepR 3 [n1] 5 p0 i0 5 120 = (0, [n2]) := rfl
theorem num_any (e : Int) (w : World) : Calls Try.prog 11 #[.int .i64 e] w fun e' w' => e' = .returned (.int .i64 e) ∧ w = w' := by
  go_enter Try.func11, Try.ntmps11
  go_wp2
  go_ret
  exact ⟨rfl, rfl⟩
section
variable {ops : Array Oper} {rest : List Oper} {op : Oper} {a : Act} {w : World} {Q : Exit → Act → World → Prop} {K : Act → World → Prop} {E : Prop} {S : World → Prop}
theorem stQr (x y : Operand) (hw : Region.wanted op (yielded ops a.tmps) = true) (ho : op.op = .store 36 x y) (b : Nat) (n u : Pr) (hx : a.eval x = .pointer (some ⟨b, 0, none⟩)) (hy : a.eval y = (Value.agg (qcells n).toArray)) (hr : Row w b 36 (qcells u))
    (h : ∀ W, w.grownBy W (some b) → Row W b 36 (qcells n) → wpList Try.prog ops Q rest (a.put op.dst undef) W) : wpList Try.prog ops Q (op :: rest) a w :=
  wpList_step fun K hK => by
    rw [if_pos hw]
    refine wp_store_mid _ x y ho b 0 _ hx hy (by simpa [qcells_len] using hr.there (n := 34) (by rw [qcells_len]; omega)) (by rw [infoQ]; simp [qcells_len]) (all_oneCell_toArray (qcells_one n)) (hK _ _ (h _ (grownBy_setCells b _ _ _) ?_))
    have := Row.setCells (qcells n) [] w (qcells u) hr (by rw [qcells_len, qcells_len])
    simpa using this
end
theorem sc43 (n : Sr) : (scs n)[43]? = some (.int .u16 n.m) := by
  simp [scs, dcs, qcells_len, icells_len, List.getElem?_append_right]
theorem tick_len {w : World} {t mb : Nat} {most : Int} {L : List Sr} (h : Tb w t mb most L) (now : Int) :
    Calls Try.prog 15 #[.pointer (some ⟨t, 0, none⟩), .int .i64 now] w fun e w' => ∃ a c, e = .returned (.slice a (L.filter (overB now)).length c) ∧ Turn w w' t mb most (L.filter (fun n => !overB now n)) := by
  refine (tick_any h now).mono ?_
  rintro e w' ⟨r, K, rfl, hp, _, hT, hO⟩
  obtain ⟨a, c, rfl, _⟩ := Kd.own_at hO
  exact ⟨a, c, by rw [hp.length_eq], hT⟩
theorem list_len {w : World} {t mb : Nat} {most : Int} {L : List Sr} (h : Tb w t mb most L) : Calls Try.prog 23 #[.pointer (some ⟨t, 0, none⟩)] w fun e w' => ∃ a c, e = .returned (.slice a L.length c) ∧ Below w.heap.size w w' := by
  refine (list_any h).mono ?_
  rintro e w' ⟨r, K, rfl, hp, _, hO, hB⟩
  obtain ⟨a, c, rfl, _⟩ := Kd.own_at hO
  exact ⟨a, c, by rw [hp.length_eq], hB⟩
set_option maxHeartbeats 8000000 in
theorem live_any (w : World) : Calls Try.prog 9 #[] w (Gives w (.bool true)) := by
  have hN := new_any 3 w
  obtain ⟨t, ht⟩ : ∃ t, w.heap.size + 1 = t := ⟨_, rfl⟩
  obtain ⟨mb, hmb⟩ : ∃ mb, w.heap.size = mb := ⟨_, rfl⟩
  have HB : Hid (∀ (W W' : World) (L : List Sr), Below w.heap.size w W → Turn W W' t mb 3 L → Below w.heap.size w W') := fun W W' L hb hT => hT.below hb (by omega) hb.size
  have HM : Hid (w.heap.size = mb) := hmb
  rw [ht] at hN
  rw [show Tb = Tb from rfl] at hN
  have hN' : Calls Try.prog 10 #[.int .i64 3] w fun e w' => e = .returned (.pointer (some ⟨t, 0, none⟩)) ∧ Tb w' t mb 3 [] ∧ Below w.heap.size w w' := by rw [← hmb]; exact hN
  clear hN ht hmb
  have K1 : ∀ W, Tb W t mb 3 [] → Calls Try.prog 12 #[.pointer (some ⟨t, 0, none⟩), .int .i64 0, (Value.agg (qcells p0).toArray), idV i0, dV 5 100] W fun e w' => e = .returned (.int .i64 0) ∧ Turn W w' t mb 3 [n1] := fun W h => keep_any h 0 p0 i0 5 100 wf0 (by omega) (by omega) (by omega) (by omega) (by omega) (by omega) (by simp)
  have K2 : ∀ W, Tb W t mb 3 [n1] → Calls Try.prog 12 #[.pointer (some ⟨t, 0, none⟩), .int .i64 5, (Value.agg (qcells p0).toArray), idV i0, dV 5 120] W fun e w' => e = .returned (.int .i64 0) ∧ Turn W w' t mb 3 [n2] := fun W h => keep_any h 5 p0 i0 5 120 wf0 (by omega) (by omega) (by omega) (by omega) (by omega) (by omega) (by simp)
  have G1 : ∀ W, Tb W t mb 3 [n2] → Calls Try.prog 19 #[.pointer (some ⟨t, 0, none⟩), (Value.agg (qcells p0).toArray), idV i0] W (Gives W (.tuple #[sV n2, .bool true])) := fun W h => get_any h p0 i0 wf0
  have F1 : ∀ W, Tb W t mb 3 [n2] → Calls Try.prog 24 #[.pointer (some ⟨t, 0, none⟩), (Value.agg (qcells p0).toArray), idV i0, dV 5 100] W (Gives W (.bool false)) := fun W h => feas_any h p0 i0 5 100 wf0
  have F2 : ∀ W, Tb W t mb 3 [n2] → Calls Try.prog 24 #[.pointer (some ⟨t, 0, none⟩), (Value.agg (qcells p0).toArray), idV i0, dV 6 500] W (Gives W (.bool true)) := fun W h => feas_any h p0 i0 6 500 wf0
  have T1 : ∀ W, Tb W t mb 3 [n2] → Calls Try.prog 15 #[.pointer (some ⟨t, 0, none⟩), .int .i64 180004] W fun e w' => ∃ a c, e = .returned (.slice a 0 c) ∧ Turn W w' t mb 3 [n2] := fun W h => tick_len h 180004
  have T2 : ∀ W, Tb W t mb 3 [n2] → Calls Try.prog 15 #[.pointer (some ⟨t, 0, none⟩), .int .i64 180005] W fun e w' => ∃ a c, e = .returned (.slice a 1 c) ∧ Turn W w' t mb 3 [] := fun W h => tick_len h 180005
  go_enter Try.func9, Try.ntmps9
  go_wp2_with (first
    | (have kk := s9; go_at_call 15; refine (T2 _ s9).mono ?_; rintro e w10 ⟨a10, z10, rfl, hT10⟩; have bF := HB.out _ _ _ b9 hT10)
    | (have kk := s8; go_at_call 15; refine (T1 _ s8).mono ?_; rintro e w9 ⟨a9, z9, rfl, hT9⟩; have s9 := hT9.tb; have b9 := HB.out _ _ _ b8 hT9)
    | (have kk := s7; go_at_call 24; refine (F2 _ s7).mono ?_; rintro e w8 ⟨rfl, k8⟩; have s8 := s7.below k8; have b8 := bt b7 k8; have c43 := ((r6.below k8 r6.lt).cell 43).trans (sc43 n2); have c44 := ((r6.below k8 r6.lt).cell 44).trans (sc44 n2); have e43 : n2.m = 100 := rfl; have e44 : n2.t = 5 := rfl; rw [e43] at c43; rw [e44] at c44)
    | (have kk := s7; refine ldI (.tmp 3) rfl rfl _ _ i0 rfl qi7.range ?_)
    | (have kk := s7; refine ldQ (.tmp 2) rfl rfl _ _ p0 rfl qp7.range ?_)
    | (have kk := r6; go_at_call 24; refine (F1 _ s6).mono ?_; rintro e w7 ⟨rfl, k7⟩; have s7 := s6.below k7; have b7 := bt b6 k7; have qp7 := qp6.below k7 qp6.lt; have qi7 := qi6.below k7 qi6.lt; replace r6 := r6.below k7 r6.lt)
    | (have kk := r6; refine ldI (.tmp 3) rfl rfl _ _ i0 rfl qi6.range ?_)
    | (have kk := r6; refine ldQ (.tmp 2) rfl rfl _ _ p0 rfl qp6.range ?_)
    | (have kk := r5; refine stS (.tmp 4) (.tmp 38) rfl rfl g5 n2 _ rfl rfl r5 ?_; intro W6 g6 r6; have b56 := grown_below g6 hB5 hge5 hB5.size; have s6 := s4.below b56; have b6 := bt b4 b56; have qp6 := qp4.below b56 qp4.lt; have qi6 := qi4.below b56 qi4.lt; clear r5)
    | (have kk := s4; refine alG infoSz rfl rfl ?_; intro g5 W5 hge5 hgl5 hB5 r5)
    | (have kk := s3; go_at_call 19; refine (G1 _ s3).mono ?_; rintro e w4 ⟨rfl, k4⟩; have s4 := s3.below k4; have b4 := bt b3 k4; have qp4 := qp3.below k4 qp3.lt; have qi4 := qi3.below k4 qi3.lt)
    | (have kk := s3; go_at_call 11; refine (num_any _ _).mono ?_; rintro e w' ⟨rfl, rfl⟩)
    | (have kk := s3; refine ldI (.tmp 3) rfl rfl _ _ i0 rfl qi3.range ?_)
    | (have kk := s3; refine ldQ (.tmp 2) rfl rfl _ _ p0 rfl qp3.range ?_)
    | (have kk := s2; go_at_call 12; refine (K2 _ s2).mono ?_; rintro e w3 ⟨rfl, hT3⟩; have s3 := hT3.tb; have b3 := HB.out _ _ _ b2 hT3; have qp3 := hT3.row qp2 np; have qi3 := hT3.row qi2 ni)
    | (have kk := s2; go_at_call 11; refine (num_any _ _).mono ?_; rintro e w' ⟨rfl, rfl⟩)
    | (have kk := s2; refine ldI (.tmp 3) rfl rfl _ _ i0 rfl qi2.range ?_)
    | (have kk := s2; refine ldQ (.tmp 2) rfl rfl _ _ p0 rfl qp2.range ?_)
    | (have kk := qi1; go_at_call 12; refine (K1 _ s1).mono ?_; rintro e w2 ⟨rfl, hT2⟩; have s2 := hT2.tb; have b2 := HB.out _ _ _ b1 hT2; have qp2 := hT2.row qp1 np; have qi2 := hT2.row qi1 ni)
    | (have kk := qi1; refine ldI (.tmp 3) rfl rfl _ _ i0 rfl qi1.range ?_)
    | (have kk := qi1; refine ldQ (.tmp 2) rfl rfl _ _ p0 rfl qp1.range ?_)
    | ((with_reducible refine bdG (T := 41) (v := dV 5 100) [(0, .const (.int .u16 5)), (1, .const (.int .u16 100))] ?_ ?_ ?_ ?_); (focus rfl); (focus rfl); (focus exact bdDi _ _ _))
    | ((with_reducible refine bdG (T := 41) (v := dV 5 120) [(0, .const (.int .u16 5)), (1, .const (.int .u16 120))] ?_ ?_ ?_ ?_); (focus rfl); (focus rfl); (focus exact bdDi _ _ _))
    | ((with_reducible refine bdG (T := 41) (v := dV 6 500) [(0, .const (.int .u16 6)), (1, .const (.int .u16 500))] ?_ ?_ ?_ ?_); (focus rfl); (focus rfl); (focus exact bdDi _ _ _))
    | (have kk := ri; refine stI (.tmp 3) (.tmp 12) rfl rfl gi i0 _ rfl rfl ri ?_; intro Wi1 gi1 qi1; have bi := grown_below gi1 hBi hgei hBi.size; have s1 := sq.below bi; have b1 := bt bq bi; have qp1 := qpq.below bi qpq.lt; have np : gq ≠ mb := (by have := HM.out; have := hz0; have := hgeq; omega); have ni : gi ≠ mb := (by have := HM.out; have := hz0; have := hgei; have := bq0.size; omega); clear ri)
    | (have kk := qpq; refine alG infoIz rfl rfl ?_; intro gi Wi hgei hgli hBi ri)
    | ((with_reducible refine bdG (T := 38) (v := idV i0) [(7, .const (.int .u8 1))] ?_ ?_ ?_ ?_); (focus rfl); (focus rfl); (focus exact bdI01 _))
    | (have kk := rq; refine stQr (.tmp 2) (.tmp 11) rfl rfl gq p0 _ rfl rfl rq ?_; intro Wq1 gq1 qpq; have bq0 := grown_below gq1 hBq hgeq hBq.size; have sq := s0.below bq0; have bq := bt b0 bq0; clear rq)
    | (have kk := s0; refine alG infoQz rfl rfl ?_; intro gq Wq hgeq hglq hBq rq)
    | ((with_reducible refine bdG (T := 36) (v := (Value.agg (qcells p0).toArray)) [(0, .tmp 10)] ?_ ?_ ?_ ?_); (focus rfl); (focus rfl); (focus exact bdQ32 _))
    | ((with_reducible refine bdG (T := 34) (v := (Value.agg (pcells (⟨a32, 8⟩)).toArray)) [(0, .tmp 9), (1, .const (.int .i64 8))] ?_ ?_ ?_ ?_); (focus rfl); (focus rfl); (focus exact bdP32 _))
    | ((with_reducible refine bdG (T := 32) (v := (Value.agg (acells a32).toArray)) [(0, .const (.int .u8 32))] ?_ ?_ ?_ ?_); (focus rfl); (focus rfl); (focus exact bdA32 _))
    | (go_at_call 10; refine hN'.mono ?_; rintro e w0 ⟨rfl, s0, b0⟩; have hz0 : w.heap.size + 1 ≤ w0.heap.size := (by have := s0.map.lt; have := HM.out; omega)))
  go_ret
  exact ⟨rfl, bF⟩
end Go.Proofs.Ytdcbnibgckdkbaa
