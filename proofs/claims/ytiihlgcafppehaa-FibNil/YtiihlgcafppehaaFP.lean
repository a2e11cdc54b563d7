/-
  Expand of one entry: within, the entries of one Dst.
-/
import Derived.Test.YtiihlgcafppehaaFO
namespace Go.Proofs.Ytiihlgcafppehaa
open Go.RowKit Go.Maps Go.Shelf
set_option linter.unusedSimpArgs false
set_option linter.unusedVariables false
set_option maxRecDepth 20000
theorem own_midE {w : World} {B : Nat} {ad : Option Addr} {c : Nat} {K : List En} {n : En} {i : Nat} (h : kE.Own w B (.slice ad K.length c) K) (hi : K[i]? = some n) : ∃ g A Z, ad = some ⟨g, 0, none⟩ ∧ B ≤ g ∧ Row w g 36 (A ++ (ecs n ++ Z)) ∧ A.length = i * 51 ∧ ∀ w' n', Row w' g 36 (A ++ (ecs n' ++ Z)) → kE.Own w' B (.slice ad K.length c) (K.set i n') := by
  have hlt : i < K.length := (List.getElem?_eq_some_iff.1 hi).1
  rcases h.2 with ⟨_, h0⟩ | ⟨g, cap, cur, e, hB, hh, hc1, hc2, hc3, hc4⟩
  · omega
  obtain ⟨rfl, rfl⟩ : ad = some ⟨g, 0, none⟩ ∧ c = cap := by cases e; exact ⟨rfl, rfl⟩
  have hn : K[i] = n := by have := List.getElem?_eq_getElem hlt; rw [hi] at this; exact (Option.some.inj this).symm
  have hK : K = K.take i ++ n :: K.drop (i + 1) := by rw [← hn, ← List.drop_eq_getElem_cons hlt, List.take_append_drop]
  have hcs : kE.cs K = kE.cs (K.take i) ++ (ecs n ++ kE.cs (K.drop (i + 1))) := by
    conv => lhs; rw [hK]
    rw [kE.cs_append]
    congr 1
  have hl1 : (kE.cs (K.take i)).length = i * 51 := by rw [kE.cs_len, List.length_take, Nat.min_eq_left (by omega)]; rfl
  have hcur : cur.toList = kE.cs (K.take i) ++ (ecs n ++ (kE.cs (K.drop (i + 1)) ++ cur.toList.drop (K.length * 51))) := by
    have h1 : cur.toList.take (K.length * 51) = kE.cs K := hc4
    conv => lhs; rw [← List.take_append_drop (K.length * 51) cur.toList, h1, hcs]
    simp [List.append_assoc]
  refine ⟨g, kE.cs (K.take i), kE.cs (K.drop (i + 1)) ++ cur.toList.drop (K.length * 51), rfl, hB, ?_, hl1, fun w' n' hr => ?_⟩
  · show w.heap[g]? = _
    rw [hh, ← hcur]
    simp [Kd.T, kE]
  · have hset : kE.cs (K.set i n') = kE.cs (K.take i) ++ (ecs n' ++ kE.cs (K.drop (i + 1))) := by
      have : K.set i n' = K.take i ++ n' :: K.drop (i + 1) := List.set_eq_take_append_cons_drop .. |>.trans (by rw [if_pos hlt])
      rw [this, kE.cs_append]
      congr 1
    have hl : (K.set i n').length = K.length := List.length_set ..
    have hsz : (kE.cs (K.take i) ++ (ecs n' ++ (kE.cs (K.drop (i + 1)) ++ cur.toList.drop (K.length * 51)))).length = cur.size := by
      have h3 := congrArg List.length hcur
      rw [Array.length_toList] at h3
      rw [h3]
      simp only [List.length_append, ecs_len]
    unfold Kd.Own
    rw [hl]
    refine ⟨by rw [kE.cs_len, hl], .inr ⟨g, c, _, rfl, hB, hr, hc1, hc2, by rw [List.size_toArray, hsz]; exact hc3, ?_⟩⟩
    rw [hset]
    show ((kE.cs (K.take i) ++ (ecs n' ++ (kE.cs (K.drop (i + 1)) ++ cur.toList.drop (K.length * 51)))).toArray.toList).take (K.length * 51) = _
    have e2 : kE.cs (K.take i) ++ (ecs n' ++ (kE.cs (K.drop (i + 1)) ++ cur.toList.drop (K.length * 51))) = (kE.cs (K.take i) ++ (ecs n' ++ kE.cs (K.drop (i + 1)))) ++ cur.toList.drop (K.length * 51) := by simp [List.append_assoc]
    have h4 : (kE.cs (K.take i) ++ (ecs n' ++ kE.cs (K.drop (i + 1)))).length = K.length * 51 := by
      rw [← hset, kE.cs_len, hl]; rfl
    rw [e2]
    show List.take _ (List.toArray _).toList = _
    rw [List.toList_toArray, List.take_append_of_le_length (by omega), List.take_of_length_le (by omega)]
/-- One entry of a row of its own is written. -/
theorem stEo {ops : Array Oper} {rest : List Oper} {op : Oper} {a : Act} {w : World} {Q : Exit → Act → World → Prop} (x y : Operand) (hw : Region.wanted op (yielded ops a.tmps) = true) (ho : op.op = .store 36 x y) (B g c : Nat) (K : List En) (i : Nat) (hi : i < K.length) (n : En) (hx : a.eval x = .pointer (some ⟨g, i * 51, none⟩)) (hy : a.eval y = eV n) (hO : kE.Own w B (.slice (some ⟨g, 0, none⟩) K.length c) K)
    (h : ∀ W, w.grownBy W (some g) → kE.Own W B (.slice (some ⟨g, 0, none⟩) K.length c) (K.set i n) → wpList Try.prog ops Q rest (a.put op.dst undef) W) : wpList Try.prog ops Q (op :: rest) a w := by
  obtain ⟨g', A, Z, e, hB, hr, hA, hk⟩ := own_midE hO (List.getElem?_eq_getElem hi)
  cases e
  refine wpList_step fun K' hK' => ?_
  rw [if_pos hw]
  refine wp_store_mid _ x y ho g (i * 51) _ hx hy ?_ (by rw [infoEs]; simp [ecs_len]) (all_oneCell_toArray (ecs_one n)) (hK' _ _ (h _ (grownBy_setCells g _ _ _) ?_))
  · have := hr.thereMid (o := i * 51) (n := 51) (by simp only [List.length_append, ecs_len]; omega)
    simpa [ecs_len] using this
  · have := Row.setMid (ecs n) A (ecs K[i]) Z w hr (by rw [ecs_len, ecs_len])
    rw [hA] at this
    simpa using hk _ n this
theorem guardP' (op : BinOp) (x y : Operand) (a b : Pf) (w : World) : (eqGuard op 32 x y (Value.agg (pcells a).toArray) (Value.agg (pcells b).toArray)).run Try.prog w = .ok () w := run_eqGuard_agg w op _ x y _ _ (by kernel_rfl)
theorem bsE1 (n : En) (w : World) : (Instr.buildSlice 22 1 #[(0, eV n)]).run Try.prog w = .ok (.slice (some ⟨w.heap.size, 0, none⟩) 1 1) (w.alloc (.cells (ecs n).toArray 36)) := by
  obtain ⟨p, i, a⟩ := n
  induction p using Pr.lits with | h =>
  induction a using Ad.lits with | h =>
  show _ = _
  kernel_rfl
theorem own_rowE {w : World} {B g n c : Nat} {L : List En} (h : kE.Own w B (.slice (some ⟨g, 0, none⟩) n c) L) : B ≤ g ∧ ∃ cs, Row w g 36 cs := by
  rcases h.2 with ⟨e2, _⟩ | ⟨g', cap, cur, e2, hB, hh, _⟩
  · cases e2
  · cases e2
    refine ⟨hB, cur.toList, ?_⟩
    unfold Row
    rw [hh]
    rfl
section
variable {ops : Array Oper} {rest : List Oper} {op : Oper} {a : Act} {w : World} {Q : Exit → Act → World → Prop}
theorem bdPr (x y : Operand) (d s : Pf) (hw : Region.wanted op (yielded ops a.tmps) = true) (ho : op.op = .build 34 #[(0, x), (1, y)]) (hx : a.eval x = (Value.agg (pcells d).toArray)) (hy : a.eval y = (Value.agg (pcells s).toArray))
    (h : wpList Try.prog ops Q rest (a.put op.dst (Value.agg (qcells (⟨d, s⟩)).toArray)) w) : wpList Try.prog ops Q (op :: rest) a w :=
  wpList_step fun K hK => by
    rw [if_pos hw]
    unfold Oper.wp execOp
    simp only [ho, List.map_toArray, List.map_cons, List.map_nil, hx, hy, Sem.run_bind, bdQ, Result.andThen_ok, Sem.run_pure]
    exact hK _ _ h
theorem bdEt (x y z : Operand) (p : Pr) (i : Int) (b : Ad) (hw : Region.wanted op (yielded ops a.tmps) = true) (ho : op.op = .build 36 #[(0, x), (1, y), (2, z)]) (hx : a.eval x = (Value.agg (qcells p).toArray)) (hy : a.eval y = .int .i64 i) (hz : a.eval z = (Value.agg (acells b).toArray))
    (h : wpList Try.prog ops Q rest (a.put op.dst (eV ⟨p, i, b⟩)) w) : wpList Try.prog ops Q (op :: rest) a w :=
  wpList_step fun K hK => by
    rw [if_pos hw]
    unfold Oper.wp execOp
    simp only [ho, List.map_toArray, List.map_cons, List.map_nil, hx, hy, hz, Sem.run_bind, bdEn, Result.andThen_ok, Sem.run_pure]
    exact hK _ _ h
end
/-- A round of within. -/
structure Wi (w0 : World) (g5 g9 g10 g' c' : Nat) (e : En) (V : World) : Prop where
  d : Row V g5 32 (pcells e.p.d)
  x : Row V g9 36 (ecs e)
  s : Row V g10 32 (pcells e.p.s)
  o : kE.Own V w0.heap.size (.slice (some ⟨g', 0, none⟩) 1 c') [e]
  b : Below w0.heap.size w0 V
theorem Wi.below {w0 V V' : World} {g5 g9 g10 g' c' : Nat} {e : En} (h : Wi w0 g5 g9 g10 g' c' e V) (hb : Below V.heap.size V V') : Wi w0 g5 g9 g10 g' c' e V' :=
  ⟨h.d.below hb h.d.lt, h.x.below hb h.x.lt, h.s.below hb h.s.lt, own_below h.o hb, bt h.b hb⟩
theorem Wi.app {w0 V V' : World} {g5 g9 g10 g' c' : Nat} {e : En} (h : Wi w0 g5 g9 g10 g' c' e V) (hg : V.grownBy V' (Value.slice none 0 0).ownBlock) : Wi w0 g5 g9 g10 g' c' e V' :=
  h.below ⟨hg.os, hg.tape, hg.output, hg.size, fun i hi => hg.block i hi (by simp [Value.ownBlock])⟩
theorem Wi.again {w0 V V' : World} {g5 g9 g10 g' c' : Nat} {e : En} (h : Wi w0 g5 g9 g10 g' c' e V) (hg : V.grownBy V' (some g9)) (hr : Row V' g9 36 (ecs e)) (hne : g9 ≠ g') (hB : w0.heap.size ≤ g9) : Wi w0 g5 g9 g10 g' c' e V' :=
  ⟨h.d.keep hg (row_ne h.d h.x (by decide)), hr, h.s.keep hg (row_ne h.s h.x (by decide)), World.ownsRow.kept h.o hg (.inr (by simp [Value.ownBlock]; omega)), grown_below hg h.b hB h.b.size⟩
set_option maxHeartbeats 8000000 in
theorem within_one {w : World} {g c : Nat} {e : En} (hl : LE w g 0 e) (hg : g < w.heap.size) : Calls Try.prog 35 #[.slice none 0 0, .slice (some ⟨g, 0, none⟩) 1 c] w fun e' w' => ∃ g' c', e' = .returned (.slice (some ⟨g', 0, none⟩) 1 c') ∧ kE.Own w' w.heap.size (.slice (some ⟨g', 0, none⟩) 1 c') [e] ∧ Below w.heap.size w w' := by
  have hD := dstOf_any (w := w) (n := 1) (c := c) (by omega) hl hg
  have hCv := covE_nil
  go_enter Try.func35, Try.ntmps35
  go_upto_region 3 with (first
    | (have kk := q5; go_at_call 49; have r4 := Row.new W3 22 [.slice (some ⟨g, 0, none⟩) 1 c, .slice none 0 0]; have b4' := ba W3 (.cells ([.slice (some ⟨g, 0, none⟩) 1 c, .slice none 0 0] : List Value).toArray 22); have b4 := bt b3 b4'; have q54 := q5.below b4' q5.lt; refine (concat_one r4 (hl.below b4 hg) (Nat.lt_of_lt_of_le hg b4.size)).mono ?_; rintro e' W5 ⟨g', c', rfl, o5, b5⟩)
    | (have kk := r5; (with_reducible refine stP0 (.tmp 5) (.tmp 12) ?_ ?_ g5 e.p.d ⟨zeroA, 0⟩ ?_ ?_ ?_ ?_); (focus rfl); (focus rfl); (focus rfl); (focus rfl); (focus exact r5); intro W3 gr3 q5; have b3 := bt k1 (grown_below gr3 b5' h5 b5'.size); clear r5)
    | (have kk := k1; (with_reducible refine alG infoPz0 ?_ ?_ ?_); (focus rfl); (focus rfl); intro g5 W2 h5 l5 b5' r5)
    | (go_at_call 33; refine hD.mono ?_; rintro e' W1 ⟨rfl, k1⟩))
  have q55 := q54.below b5 q54.lt
  have b5w := bt b4 b5
  have o5B := Kd.own_up o5 b4.size
  clear r4 b4' b4 q54 b5 q5 b3 o5
  go_upto_region 4 with (go_at_call 50; refine (sortS_one g' c' _ _).mono ?_; rintro e' W6 ⟨rfl, k6⟩)
  go_upto_region 5 with (go_at_call 52; refine (compact_one g' c' _ _).mono ?_; rintro e' W7 ⟨rfl, k7⟩)
  have k67 := bt k6 k7
  have q57 := q55.below k67 q55.lt
  have o7 := own_below o5B k67
  have b7 := bt b5w k67
  obtain ⟨_, cs7, h37⟩ := own_rowE o7
  have ng5 : g5 ≠ g' := row_ne q57 h37 (by decide)
  clear h37
  clear k6 k7 k67 q55 b5w o5B
  go_wp2_with fail
  go_loopw [7, 23] (fun v u wr => ∃ j : Int, u = .int .i64 j ∧ (j = 0 ∧ v = .slice none 0 0 ∨ j = 1) ∧ Row wr g5 32 (pcells e.p.d) ∧ kE.Own wr w.heap.size (.slice (some ⟨g', 0, none⟩) 1 c') [e] ∧ Below w.heap.size w wr) (fun _ u _ => 1 - (intOf u).toNat)
  case atStart => exact ⟨0, rfl, .inl ⟨rfl, rfl⟩, q57, o7, b7⟩
  case round =>
    clear q57 o7 b7
    obtain ⟨j, rfl, hj, qX, oX, bX⟩ := hrel
    rcases hj with ⟨rfl, rfl⟩ | rfl
    · have hsl := (EsW.own oX).2
      have hE : LE wr g' 0 e := by
        rcases hsl.lies with h | ⟨g2, o2, h, _, hc⟩
        · cases h
        · cases h
          simpa using hc 0 e rfl
      obtain ⟨hgB, cs9, h39⟩ := own_rowE oX
      have hgl := h39.lt
      have hEQ : ∀ V, (binOp .eql 32 (Value.agg (pcells e.p.d).toArray) (Value.agg (pcells e.p.d).toArray)).run Try.prog V = .ok (.bool true) V := fun V => by rw [run_eqlP]; simp
      have gEQ := fun op a b V => guardP' op a b e.p.d e.p.d V
      clear hsl h39
      go_wp2_with (first
        | (have kk := w14; (with_reducible refine stEo (.tmp 58) (.tmp 57) ?_ ?_ w.heap.size g' c' [e] 0 (by simp) e ?_ ?_ ?_ ?_); (focus rfl); (focus rfl); (focus rfl); (focus rfl); (focus exact w14.o); intro V9 g99 o9)
        | (have kk := w14; (with_reducible refine bdEt (.tmp 52) (.tmp 54) (.tmp 56) e.p e.i e.a ?_ ?_ ?_ ?_ ?_ ?_); (focus rfl); (focus rfl); (focus (repeat (first | with_reducible refine ev_ne ?_ rfl | with_reducible refine ev_no ?_ | (with_reducible refine ev_eq (n := 61) ?_ rfl; repeat (first | with_reducible refine sz_put ?_ | with_reducible refine sz_no ?_ | rfl)) | rfl))); (focus (repeat (first | with_reducible refine ev_ne ?_ rfl | with_reducible refine ev_no ?_ | (with_reducible refine ev_eq (n := 61) ?_ rfl; repeat (first | with_reducible refine sz_put ?_ | with_reducible refine sz_no ?_ | rfl)) | rfl))); (focus (repeat (first | with_reducible refine ev_ne ?_ rfl | with_reducible refine ev_no ?_ | (with_reducible refine ev_eq (n := 61) ?_ rfl; repeat (first | with_reducible refine sz_put ?_ | with_reducible refine sz_no ?_ | rfl)) | rfl))))
        | (have kk := w14; (with_reducible refine ldA (.tmp 55) ?_ ?_ g9 35 e.a ?_ ?_ ?_); (focus rfl); (focus rfl); (focus rfl); (focus exact (by have := w14.x.en.a; simpa using this)))
        | (have kk := w14; (with_reducible refine bdPr (.tmp 50) (.tmp 51) e.p.d e.p.s ?_ ?_ ?_ ?_ ?_); (focus rfl); (focus rfl); (focus (repeat (first | with_reducible refine ev_ne ?_ rfl | with_reducible refine ev_no ?_ | (with_reducible refine ev_eq (n := 61) ?_ rfl; repeat (first | with_reducible refine sz_put ?_ | with_reducible refine sz_no ?_ | rfl)) | rfl))); (focus (repeat (first | with_reducible refine ev_ne ?_ rfl | with_reducible refine ev_no ?_ | (with_reducible refine ev_eq (n := 61) ?_ rfl; repeat (first | with_reducible refine sz_put ?_ | with_reducible refine sz_no ?_ | rfl)) | rfl))))
        | (have kk := w14; (with_reducible refine ldP (.tmp 10) ?_ ?_ g10 0 e.p.s ?_ ?_ ?_); (focus rfl); (focus rfl); (focus rfl); (focus exact w14.s.range))
        | (have kk := w14; (with_reducible refine ldP (.tmp 5) ?_ ?_ g5 0 e.p.d ?_ ?_ ?_); (focus rfl); (focus rfl); (focus rfl); (focus exact w14.d.range))
        | (have kk := w13; (with_reducible refine stE (.tmp 9) (.tmp 47) ?_ ?_ g9 e e ?_ ?_ ?_ ?_); (focus rfl); (focus rfl); (focus rfl); (focus rfl); (focus exact w13.x); intro V7 g97 r97; have w14 := w13.again g97 r97 n9 hB9; have c34 := w14.x.en.i_; clear w13)
        | (have kk := w12; go_at_call 56; refine (lastE_one (hat12 0 e rfl) hg12).mono ?_; rintro e' V6 ⟨rfl, k6⟩; have w13 := w12.below k6; clear w12)
        | (have kk := w11; at_builtin; refine apE (.tmp 39) (.tmp 41) (by rfl) rfl w.heap.size (.slice none 0 0) [] rfl (World.ownsRow_nil _ _ _ _) _ 0 1 e rfl r41.en (by simp) w11.b.size ?_; intro v7 V5 o12 g12'; have w12 := w11.app g12'; obtain ⟨a12, c12, rfl, hat⟩ := Kd.own_at o12; obtain ⟨gg12, rfl, _, hg12, _, hat12⟩ := hat (by simp); clear w11)
        | (have kk := w10; (with_reducible refine bsG (T := 22) (U := 36) (n := 1) [(0, .tmp 40)] (ecs e) ?_ ?_ ?_ ?_); (focus rfl); (focus rfl); (focus exact (fun w => bsE1 e w)); intro V4 r41 b41; have w11 := w10.below b41; clear w10)
        | (have kk := w10; (with_reducible refine ldE (.tmp 9) ?_ ?_ g9 0 e ?_ ?_ ?_); (focus rfl); (focus rfl); (focus rfl); (focus exact w10.x.en))
        | (have kk := w10; (with_reducible refine ldP (.tmp 5) ?_ ?_ g5 0 e.p.d ?_ ?_ ?_); (focus rfl); (focus rfl); (focus rfl); (focus exact w10.d.range))
        | (have kk := w10; (with_reducible refine ldP (.tmp 35) ?_ ?_ g9 0 e.p.d ?_ ?_ ?_); (focus rfl); (focus rfl); (focus rfl); (focus exact w10.x.en.d))
        | (have kk := w9; go_at_call 54; refine (hCv _ _ _).mono ?_; rintro e' V3 ⟨rfl, k3⟩; have w10 := w9.below k3; clear w9)
        | (have kk := w9; (with_reducible refine ldP (.tmp 10) ?_ ?_ g10 0 e.p.s ?_ ?_ ?_); (focus rfl); (focus rfl); (focus rfl); (focus exact w9.s.range))
        | (have kk := q10; (with_reducible refine stP0 (.tmp 10) (.tmp 30) ?_ ?_ g10 e.p.s ⟨zeroA, 0⟩ ?_ ?_ ?_ ?_); (focus rfl); (focus rfl); (focus rfl); (focus rfl); (focus exact q10); intro V2 gr10 r10; have bb10 := bt b9 (grown_below gr10 b10 h10 b10.size); have w9 : Wi w g5 g9 g10 g' c' e V2 := ⟨qX.below bb10 qX.lt, (r9.below b10 r9.lt).keep gr10 (fun ee => by have := r9.lt; omega), r10, own_below oX bb10, bt bX bb10⟩; clear q10)
        | (have kk := r9; (with_reducible refine alG infoPz0 ?_ ?_ ?_); (focus rfl); (focus rfl); intro g10 V1 h10 l10 b10 q10)
        | (have kk := r9; (with_reducible refine ldP (.tmp 29) ?_ ?_ g9 17 e.p.s ?_ ?_ ?_); (focus rfl); (focus rfl); (focus rfl); (focus exact (by have := r9.en.s; simpa using this)))
        | (have kk := q9; (with_reducible refine stE (.tmp 9) (.tmp 27) ?_ ?_ g9 e zeroE ?_ ?_ ?_ ?_); (focus rfl); (focus rfl); (focus rfl); (focus rfl); (focus exact q9); intro V0 gr9 r9; have b9 := grown_below gr9 b9' h9 b9'.size; have n9 : g9 ≠ g' := (by omega); have hB9 : w.heap.size ≤ g9 := Nat.le_trans bX.size h9; clear q9)
        | (have kk := hE; (with_reducible refine alG infoEz ?_ ?_ ?_); (focus rfl); (focus rfl); intro g9 V00 h9 l9 b9' q9)
        | ((with_reducible refine ldE (.tmp 26) ?_ ?_ g' 0 e ?_ ?_ ?_); (focus rfl); (focus rfl); (focus rfl); (focus exact hE)))
      have n5 : g5 ≠ g' := ng5
      go_roundw
      case rel => exact ⟨1, rfl, .inr rfl, w14.d.keep g99 n5, o9, grown_below g99 w14.b hgB w14.b.size⟩
      case measure => simp [intOf]
    · go_wp2_with fail
      go_ret
      exact ⟨_, _, rfl, oX, bX⟩
end Go.Proofs.Ytiihlgcafppehaa
