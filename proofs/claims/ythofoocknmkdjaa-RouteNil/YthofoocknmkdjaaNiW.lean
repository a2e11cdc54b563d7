/-
  The walk of RouteNil.
-/
import Derived.Test.YthofoocknmkdjaaCtb
namespace Go.Proofs.Ythofoocknmkdjaa
open Go.RowKit Go.Maps Go.Shelf
set_option linter.unusedSimpArgs false
set_option linter.unusedVariables false
set_option maxRecDepth 20000
section
variable {ops : Array Oper} {rest : List Oper} {op : Oper} {a : Act} {w : World} {Q : Exit → Act → World → Prop}
end
section
variable {P : Program} {ops : Array Oper} {op : Oper} {l : List Oper} {a : Act} {w : World} {Q : Exit → Act → World → Prop}
/-- Here the walk stops. -/
theorem stop4 (_ : op.op = .move (.tmp 4)) (h : Hid (wpList P ops Q (op :: l) a w)) : wpList P ops Q (op :: l) a w := h
theorem stop4' {m : List Oper} (_ : op.op = .move (.tmp 4)) (h : Hid (wpList P ops Q ((op :: l) ++ m) a w)) : wpList P ops Q (List.append (op :: l) m) a w := h
end
set_option maxHeartbeats 8000000 in
theorem nil_walk (n : Ro) (w : World) : Calls Try.prog 6 #[rV n] w (Gives w (.bool true)) := by
  have hGet : ∀ W, Calls Try.prog 15 #[.pointer none, (Value.agg (qcells n.p).toArray), .int .i64 n.i, (Value.agg (acells n.a).toArray)] W (Gives W (.tuple #[rV zeroR, .bool false])) := fun W => get_nil n.k W
  have hSel : ∀ W, Calls Try.prog 32 #[.pointer none, (Value.agg (qcells n.p).toArray), .int .i64 n.i, (Value.agg (acells n.a).toArray)] W (Gives W (.int .i64 7)) := fun W => select_nil n.k W
  have hTell := tell_nil 0 n true
  have hSd := sel_nil n.p
  have hTk := tick_nil 5
  have hRt := retract_nil 0 n.i n.a
  have hRk := reckon_nil 31 #[]
  have hDr := drop_nil 0 none 0 0
  have hOf := of_nil n.p
  have hNew : ∀ W, Calls Try.prog 11 #[.int .i64 5] W fun e w' => e = .returned (.pointer (some ⟨W.heap.size + 1, 0, none⟩)) ∧ Below W.heap.size W w' := fun W => by
    refine (new_any 5 W).mono ?_
    rintro e w' ⟨rfl, _, h⟩
    exact ⟨rfl, h⟩
  have r0 := Row.new w 41 (ocs n)
  go_enter Try.func6, Try.ntmps6
  go_upto_region 1 with fail
  refine name_world (R := fun W => Code.wp _ _ _ _ W) (P := fun W => Below w.heap.size w W ∧ Row W w.heap.size 41 (ocs n)) _ ⟨ba _ _, r0⟩ ?_
  clear r0
  rintro X ⟨hB, r0⟩
  have bX := Below.refl X.heap.size X
  have HS : Hid (∀ W, Below X.heap.size X W → LS W w.heap.size 0 n) := fun W h => (r0.below h r0.lt).range
  have HC : Hid (∀ W, Below X.heap.size X W → W.cell? ⟨w.heap.size, 34, none⟩ = some (.int .i64 n.i)) := fun W h => ((r0.below h r0.lt).cell 34).trans (oc34 n)
  have HL : Hid (∀ W, Below X.heap.size X W → W.cell? ⟨w.heap.size, 34, none⟩ = some (.int .i64 n.i) ∧ (Instr.loadAt 32 (.pointer (some ⟨w.heap.size, 35, none⟩))).run Try.prog W = .ok (Value.agg (acells n.a).toArray) W ∧ (Instr.loadAt 36 (.pointer (some ⟨w.heap.size, 0, none⟩))).run Try.prog W = .ok (Value.agg (qcells n.p).toArray) W) := fun W h =>
    ⟨HC.out W h, run_loadAt_mid W w.heap.size 35 _ (acells n.a) _ (by have := (HS.out _ h).a; rw [Nat.zero_add] at this; exact this) Try.underlying32 rfl (by rw [infoA, acells_len]), run_loadAt_mid W w.heap.size 0 _ (qcells n.p) _ (HS.out _ h).q Try.underlying36 rfl (by rw [infoQ, qcells_len])⟩
  clear r0
  obtain ⟨c34, lA, lQ⟩ := HL.out _ bX
  go_wp2_with (first
    | (go_at_call 10; refine (live_any _).mono ?_; rintro e w9 ⟨rfl, k⟩; replace bX := bt bX k; (try simp only [Act.put, List.setIfInBounds_toArray, List.set_cons_zero, List.set_cons_succ]))
    | (go_at_call 24; refine (allPairs_nil _).mono ?_; rintro e w9 ⟨ap, cp, rfl, _, k⟩; replace bX := bt bX k; clear c34 lA lQ; obtain ⟨c34, lA, lQ⟩ := HL.out _ bX; (try simp only [Act.put, List.setIfInBounds_toArray, List.set_cons_zero, List.set_cons_succ]))
    | (go_at_call 14; refine (list_nil _).mono ?_; rintro e w' ⟨rfl, rfl⟩; (try simp only [Act.put, List.setIfInBounds_toArray, List.set_cons_zero, List.set_cons_succ]))
    | (go_at_call 21; refine (hOf _).mono ?_; rintro e w9 ⟨rfl, k⟩; replace bX := bt bX k; clear c34 lA lQ; obtain ⟨c34, lA, lQ⟩ := HL.out _ bX; (try simp only [Act.put, List.setIfInBounds_toArray, List.set_cons_zero, List.set_cons_succ]))
    | (go_at_call 34; refine (hDr _).mono ?_; rintro e w9 ⟨rfl, k⟩; replace bX := bt bX k; clear c34 lA lQ; obtain ⟨c34, lA, lQ⟩ := HL.out _ bX; (try simp only [Act.put, List.setIfInBounds_toArray, List.set_cons_zero, List.set_cons_succ]))
    | (go_at_call 33; refine (unsel_nil1 n.p _ _ _ r52).mono ?_; rintro e w9 ⟨rfl, k⟩; replace bX := bt bX k; clear c34 lA lQ; obtain ⟨c34, lA, lQ⟩ := HL.out _ bX; clear r52; (try simp only [Act.put, List.setIfInBounds_toArray, List.set_cons_zero, List.set_cons_succ]))
    | ((with_reducible refine bsG (T := 56) (U := 36) (n := 1) [(0, .tmp 95)] (qcells n.p) ?_ ?_ ?_ ?_); (focus (first | rfl | kernel_rfl)); (focus rfl); (focus exact (fun w => bsP1 n.p w)); intro W6 r52 b6; replace bX := bt bX b6; clear c34 lA lQ; obtain ⟨c34, lA, lQ⟩ := HL.out _ bX; (try simp only [Act.put, List.setIfInBounds_toArray, List.set_cons_zero, List.set_cons_succ]))
    | (go_at_call 32; refine (hSel _).mono ?_; rintro e w9 ⟨rfl, k⟩; replace bX := bt bX k; clear c34 lA lQ; obtain ⟨c34, lA, lQ⟩ := HL.out _ bX; (try simp only [Act.put, List.setIfInBounds_toArray, List.set_cons_zero, List.set_cons_succ]))
    | (go_at_call 27; refine (hRt _).mono ?_; rintro e w9 ⟨rfl, k⟩; replace bX := bt bX k; clear c34 lA lQ; obtain ⟨c34, lA, lQ⟩ := HL.out _ bX; (try simp only [Act.put, List.setIfInBounds_toArray, List.set_cons_zero, List.set_cons_succ]))
    | (go_at_call 30; refine (num_any _ _).mono ?_; rintro e w' ⟨rfl, rfl⟩; (try simp only [Act.put, List.setIfInBounds_toArray, List.set_cons_zero, List.set_cons_succ]))
    | (go_at_call 29; refine (reckon_none _ _).mono ?_; rintro e w' ⟨rfl, rfl⟩; (try simp only [Act.put, List.setIfInBounds_toArray, List.set_cons_zero, List.set_cons_succ]))
    | (go_at_call 29; refine (hRk _).mono ?_; rintro e w9 ⟨ar, cr, rfl, _, k⟩; replace bX := bt bX k; clear c34 lA lQ; obtain ⟨c34, lA, lQ⟩ := HL.out _ bX; (try simp only [Act.put, List.setIfInBounds_toArray, List.set_cons_zero, List.set_cons_succ]))
    | (go_at_call 11; refine (hNew _).mono ?_; rintro e w9 ⟨rfl, k⟩; replace bX := bt bX k; clear c34 lA lQ; obtain ⟨c34, lA, lQ⟩ := HL.out _ bX; (try simp only [Act.put, List.setIfInBounds_toArray, List.set_cons_zero, List.set_cons_succ]); refine Hid.out ?_)
    | (have kk := r3; refine stS (.tmp 12) (.tmp 47) rfl rfl g3 zeroR _ rfl rfl r3 ?_; intro W4 g4 r4; replace bX := bt bX (grown_below g4 hB3 hge3 hB3.size); clear c34 lA lQ; obtain ⟨c34, lA, lQ⟩ := HL.out _ bX; clear r3 r4 kk g4 hB3 hge3 hgl3; (try simp only [Act.put, List.setIfInBounds_toArray, List.set_cons_zero, List.set_cons_succ]))
    | (have kk := r3; refine stS (.tmp 6) (.tmp 26) rfl rfl g3 zeroR _ rfl rfl r3 ?_; intro W4 g4 r4; replace bX := bt bX (grown_below g4 hB3 hge3 hB3.size); clear c34 lA lQ; obtain ⟨c34, lA, lQ⟩ := HL.out _ bX; clear r3 r4 kk g4 hB3 hge3 hgl3; (try simp only [Act.put, List.setIfInBounds_toArray, List.set_cons_zero, List.set_cons_succ]))
    | (have kk := mk0; refine alG infoRz rfl rfl ?_; intro g3 W3 hge3 hgl3 hB3 r3; clear mk0 kk; (try simp only [Act.put, List.setIfInBounds_toArray, List.set_cons_zero, List.set_cons_succ]))
    | (go_at_call 15; refine (hGet _).mono ?_; rintro e w9 ⟨rfl, k⟩; replace bX := bt bX k; clear c34 lA lQ; obtain ⟨c34, lA, lQ⟩ := HL.out _ bX; have mk0 := True.intro; (try simp only [Act.put, List.setIfInBounds_toArray, List.set_cons_zero, List.set_cons_succ]))
    | (go_at_call 19; refine (next_nil _).mono ?_; rintro e w' ⟨rfl, rfl⟩; (try simp only [Act.put, List.setIfInBounds_toArray, List.set_cons_zero, List.set_cons_succ]))
    | (go_at_call 28; refine (hTk _).mono ?_; rintro e w9 ⟨rfl, k⟩; replace bX := bt bX k; clear c34 lA lQ; obtain ⟨c34, lA, lQ⟩ := HL.out _ bX; (try simp only [Act.put, List.setIfInBounds_toArray, List.set_cons_zero, List.set_cons_succ]))
    | (go_at_call 17; refine (hSd _).mono ?_; rintro e w9 ⟨rfl, k⟩; replace bX := bt bX k; clear c34 lA lQ; obtain ⟨c34, lA, lQ⟩ := HL.out _ bX; have mk0 := True.intro; (try simp only [Act.put, List.setIfInBounds_toArray, List.set_cons_zero, List.set_cons_succ]))
    | (go_at_call 26; refine (hTell _).mono ?_; rintro e w9 ⟨rfl, k⟩; replace bX := bt bX k; clear c34 lA lQ; obtain ⟨c34, lA, lQ⟩ := HL.out _ bX; (try simp only [Act.put, List.setIfInBounds_toArray, List.set_cons_zero, List.set_cons_succ]))
    | (refine ldS (.tmp 1) rfl rfl _ _ n rfl (HS.out _ bX) ?_; (try simp only [Act.put, List.setIfInBounds_toArray, List.set_cons_zero, List.set_cons_succ]))
    | (refine ldQ (.tmp 23) rfl rfl _ _ n.p rfl (HS.out _ bX).q ?_; (try simp only [Act.put, List.setIfInBounds_toArray, List.set_cons_zero, List.set_cons_succ]))
    | (refine ldQ (.tmp 40) rfl rfl _ _ n.p rfl (HS.out _ bX).q ?_; (try simp only [Act.put, List.setIfInBounds_toArray, List.set_cons_zero, List.set_cons_succ]))
    | ((refine ldQ (.tmp 82) ?_ rfl w.heap.size 0 n.p rfl (HS.out _ bX).q ?_); (focus kernel_rfl); (try simp only [Act.put, List.setIfInBounds_toArray, List.set_cons_zero, List.set_cons_succ]))
    | ((refine ldQ (.tmp 94) ?_ rfl w.heap.size 0 n.p rfl (HS.out _ bX).q ?_); (focus kernel_rfl); (try simp only [Act.put, List.setIfInBounds_toArray, List.set_cons_zero, List.set_cons_succ]))
    | ((refine ldQ (.tmp 128) ?_ rfl w.heap.size 0 n.p rfl (HS.out _ bX).q ?_); (focus kernel_rfl); (try simp only [Act.put, List.setIfInBounds_toArray, List.set_cons_zero, List.set_cons_succ]))
    | (refine ldA (.tmp 44) rfl rfl _ _ n.a rfl (by have := (HS.out _ bX).a; simpa using this) ?_; (try simp only [Act.put, List.setIfInBounds_toArray, List.set_cons_zero, List.set_cons_succ]))
    | ((refine ldA (.tmp 69) ?_ rfl w.heap.size 35 n.a rfl (by have := (HS.out _ bX).a; simpa using this) ?_); (focus kernel_rfl); (try simp only [Act.put, List.setIfInBounds_toArray, List.set_cons_zero, List.set_cons_succ]))
    | ((refine ldA (.tmp 86) ?_ rfl w.heap.size 35 n.a rfl (by have := (HS.out _ bX).a; simpa using this) ?_); (focus kernel_rfl); (try simp only [Act.put, List.setIfInBounds_toArray, List.set_cons_zero, List.set_cons_succ])))
  unfold Hid
  go_upto_region 10 with (first
    | (go_at_call 29; refine (reckon_none _ _).mono ?_; rintro e w' ⟨rfl, rfl⟩))
  simp only [List.append_eq, List.cons_append, List.nil_append]
  apply wp_region_lit
  refine cutB 8 58 7 (fun b W => b = true ∧ Below X.heap.size X W) ?_ ?_
  · simp only [List.take_succ_cons, List.take_zero]
    go_wp2_with (first
      | (go_at_call 30; refine (num_any _ _).mono ?_; rintro e w' ⟨rfl, rfl⟩; (try simp only [Act.put, List.setIfInBounds_toArray, List.set_cons_zero, List.set_cons_succ])))
    exact CutQ.normal ⟨by kernel_rfl, by kernel_rfl, _, rfl, rfl, bX⟩
  · intro xs0 b0 W0 hl0 hPB
    obtain ⟨u58, xs1, rfl, hl1⟩ := len_s hl0
    obtain ⟨u59, xs2, rfl, hl2⟩ := len_s hl1
    obtain ⟨u60, xs3, rfl, hl3⟩ := len_s hl2
    obtain ⟨u61, xs4, rfl, hl4⟩ := len_s hl3
    obtain ⟨u62, xs5, rfl, hl5⟩ := len_s hl4
    obtain ⟨u63, xs6, rfl, hl6⟩ := len_s hl5
    obtain ⟨u64, xs7, rfl, hl7⟩ := len_s hl6
    obtain rfl := len_z hl7
    clear hl0 hl1 hl2 hl3 hl4 hl5 hl6 hl7
    simp only [List.drop_succ_cons, List.drop_zero]
    simp only [over, List.cons_append, List.nil_append, Act.put, List.setIfInBounds_toArray, List.set_cons_zero, List.set_cons_succ, Nat.reduceAdd]
    obtain ⟨rfl, k0⟩ := hPB
    replace bX := k0
    clear c34 lA lQ
    obtain ⟨c34, lA, lQ⟩ := HL.out _ bX
    refine cutB 9 66 8 (fun b W => b = true ∧ Below X.heap.size X W) ?_ ?_
    · simp only [List.take_succ_cons, List.take_zero]
      go_wp2_with (first
        | (go_at_call 27; refine (hRt _).mono ?_; rintro e w9 ⟨rfl, k⟩; replace bX := bt bX k; clear c34 lA lQ; obtain ⟨c34, lA, lQ⟩ := HL.out _ bX; (try simp only [Act.put, List.setIfInBounds_toArray, List.set_cons_zero, List.set_cons_succ]))
        | (refine ldA (.tmp 69) (by rfl) rfl w.heap.size 35 n.a rfl (by have := (HS.out _ bX).a; simpa using this) ?_; (try simp only [Act.put, List.setIfInBounds_toArray, List.set_cons_zero, List.set_cons_succ])))
      exact CutQ.normal ⟨by kernel_rfl, by kernel_rfl, _, rfl, rfl, bX⟩
    · intro xs0 b1 W1 hl0 hPB
      obtain ⟨u66, xs1, rfl, hl1⟩ := len_s hl0
      obtain ⟨u67, xs2, rfl, hl2⟩ := len_s hl1
      obtain ⟨u68, xs3, rfl, hl3⟩ := len_s hl2
      obtain ⟨u69, xs4, rfl, hl4⟩ := len_s hl3
      obtain ⟨u70, xs5, rfl, hl5⟩ := len_s hl4
      obtain ⟨u71, xs6, rfl, hl6⟩ := len_s hl5
      obtain ⟨u72, xs7, rfl, hl7⟩ := len_s hl6
      obtain ⟨u73, xs8, rfl, hl8⟩ := len_s hl7
      obtain rfl := len_z hl8
      clear hl0 hl1 hl2 hl3 hl4 hl5 hl6 hl7 hl8
      simp only [List.drop_succ_cons, List.drop_zero]
      simp only [over, List.cons_append, List.nil_append, Act.put, List.setIfInBounds_toArray, List.set_cons_zero, List.set_cons_succ, Nat.reduceAdd]
      obtain ⟨rfl, k1⟩ := hPB
      replace bX := k1
      clear c34 lA lQ
      obtain ⟨c34, lA, lQ⟩ := HL.out _ bX
      refine cutB 6 75 5 (fun b W => b = true ∧ Below X.heap.size X W) ?_ ?_
      · simp only [List.take_succ_cons, List.take_zero]
        go_wp2_with (first
          | (go_at_call 29; refine (hRk _).mono ?_; rintro e w9 ⟨ar, cr, rfl, _, k⟩; replace bX := bt bX k; clear c34 lA lQ; obtain ⟨c34, lA, lQ⟩ := HL.out _ bX; (try simp only [Act.put, List.setIfInBounds_toArray, List.set_cons_zero, List.set_cons_succ])))
        exact CutQ.normal ⟨by kernel_rfl, by kernel_rfl, _, rfl, rfl, bX⟩
      · intro xs0 b2 W2 hl0 hPB
        obtain ⟨u75, xs1, rfl, hl1⟩ := len_s hl0
        obtain ⟨u76, xs2, rfl, hl2⟩ := len_s hl1
        obtain ⟨u77, xs3, rfl, hl3⟩ := len_s hl2
        obtain ⟨u78, xs4, rfl, hl4⟩ := len_s hl3
        obtain ⟨u79, xs5, rfl, hl5⟩ := len_s hl4
        obtain rfl := len_z hl5
        clear hl0 hl1 hl2 hl3 hl4 hl5
        simp only [List.drop_succ_cons, List.drop_zero]
        simp only [over, List.cons_append, List.nil_append, Act.put, List.setIfInBounds_toArray, List.set_cons_zero, List.set_cons_succ, Nat.reduceAdd]
        obtain ⟨rfl, k2⟩ := hPB
        replace bX := k2
        clear c34 lA lQ
        obtain ⟨c34, lA, lQ⟩ := HL.out _ bX
        refine cutB 12 81 11 (fun b W => b = true ∧ Below X.heap.size X W) ?_ ?_
        · simp only [List.take_succ_cons, List.take_zero]
          go_wp2_with (first
            | (go_at_call 30; refine (num_any _ _).mono ?_; rintro e w' ⟨rfl, rfl⟩; (try simp only [Act.put, List.setIfInBounds_toArray, List.set_cons_zero, List.set_cons_succ]))
            | (go_at_call 32; refine (hSel _).mono ?_; rintro e w9 ⟨rfl, k⟩; replace bX := bt bX k; clear c34 lA lQ; obtain ⟨c34, lA, lQ⟩ := HL.out _ bX; (try simp only [Act.put, List.setIfInBounds_toArray, List.set_cons_zero, List.set_cons_succ]))
            | (refine ldA (.tmp 86) (by rfl) rfl w.heap.size 35 n.a rfl (by have := (HS.out _ bX).a; simpa using this) ?_; (try simp only [Act.put, List.setIfInBounds_toArray, List.set_cons_zero, List.set_cons_succ]))
            | (refine ldQ (.tmp 82) (by rfl) rfl w.heap.size 0 n.p rfl (HS.out _ bX).q ?_; (try simp only [Act.put, List.setIfInBounds_toArray, List.set_cons_zero, List.set_cons_succ])))
          exact CutQ.normal ⟨by kernel_rfl, by kernel_rfl, _, rfl, rfl, bX⟩
        · intro xs0 b3 W3 hl0 hPB
          obtain ⟨u81, xs1, rfl, hl1⟩ := len_s hl0
          obtain ⟨u82, xs2, rfl, hl2⟩ := len_s hl1
          obtain ⟨u83, xs3, rfl, hl3⟩ := len_s hl2
          obtain ⟨u84, xs4, rfl, hl4⟩ := len_s hl3
          obtain ⟨u85, xs5, rfl, hl5⟩ := len_s hl4
          obtain ⟨u86, xs6, rfl, hl6⟩ := len_s hl5
          obtain ⟨u87, xs7, rfl, hl7⟩ := len_s hl6
          obtain ⟨u88, xs8, rfl, hl8⟩ := len_s hl7
          obtain ⟨u89, xs9, rfl, hl9⟩ := len_s hl8
          obtain ⟨u90, xs10, rfl, hl10⟩ := len_s hl9
          obtain ⟨u91, xs11, rfl, hl11⟩ := len_s hl10
          obtain rfl := len_z hl11
          clear hl0 hl1 hl2 hl3 hl4 hl5 hl6 hl7 hl8 hl9 hl10 hl11
          simp only [List.drop_succ_cons, List.drop_zero]
          simp only [over, List.cons_append, List.nil_append, Act.put, List.setIfInBounds_toArray, List.set_cons_zero, List.set_cons_succ, Nat.reduceAdd]
          obtain ⟨rfl, k3⟩ := hPB
          replace bX := k3
          clear c34 lA lQ
          obtain ⟨c34, lA, lQ⟩ := HL.out _ bX
          refine cutB 8 93 7 (fun b W => b = true ∧ Below X.heap.size X W) ?_ ?_
          · simp only [List.take_succ_cons, List.take_zero]
            go_wp2_with (first
              | (go_at_call 33; refine (unsel_nil1 n.p _ _ _ r52).mono ?_; rintro e w9 ⟨rfl, k⟩; clear r52; replace bX := bt bX k; clear c34 lA lQ; obtain ⟨c34, lA, lQ⟩ := HL.out _ bX; (try simp only [Act.put, List.setIfInBounds_toArray, List.set_cons_zero, List.set_cons_succ]))
              | ((with_reducible refine bsG (T := 56) (U := 36) (n := 1) [(0, .tmp 95)] (qcells n.p) ?_ ?_ ?_ ?_); (focus rfl); (focus rfl); (focus exact (fun w => bsP1 n.p w)); intro W6 r52 k; replace bX := bt bX k; clear c34 lA lQ; obtain ⟨c34, lA, lQ⟩ := HL.out _ bX; (try simp only [Act.put, List.setIfInBounds_toArray, List.set_cons_zero, List.set_cons_succ]))
              | (refine ldQ (.tmp 94) (by rfl) rfl w.heap.size 0 n.p rfl (HS.out _ bX).q ?_; (try simp only [Act.put, List.setIfInBounds_toArray, List.set_cons_zero, List.set_cons_succ])))
            exact CutQ.normal ⟨by kernel_rfl, by kernel_rfl, _, rfl, rfl, bX⟩
          · intro xs0 b4 W4 hl0 hPB
            obtain ⟨u93, xs1, rfl, hl1⟩ := len_s hl0
            obtain ⟨u94, xs2, rfl, hl2⟩ := len_s hl1
            obtain ⟨u95, xs3, rfl, hl3⟩ := len_s hl2
            obtain ⟨u96, xs4, rfl, hl4⟩ := len_s hl3
            obtain ⟨u97, xs5, rfl, hl5⟩ := len_s hl4
            obtain ⟨u98, xs6, rfl, hl6⟩ := len_s hl5
            obtain ⟨u99, xs7, rfl, hl7⟩ := len_s hl6
            obtain rfl := len_z hl7
            clear hl0 hl1 hl2 hl3 hl4 hl5 hl6 hl7
            simp only [List.drop_succ_cons, List.drop_zero]
            simp only [over, List.cons_append, List.nil_append, Act.put, List.setIfInBounds_toArray, List.set_cons_zero, List.set_cons_succ, Nat.reduceAdd]
            obtain ⟨rfl, k4⟩ := hPB
            replace bX := k4
            clear c34 lA lQ
            obtain ⟨c34, lA, lQ⟩ := HL.out _ bX
            refine cutB 16 101 15 (fun b W => b = true ∧ Below X.heap.size X W) ?_ ?_
            · simp only [List.take_succ_cons, List.take_zero]
              go_wp2_with fail
              exact CutQ.normal ⟨by kernel_rfl, by kernel_rfl, _, rfl, rfl, bX⟩
            · intro xs0 b5 W5 hl0 hPB
              obtain ⟨u101, xs1, rfl, hl1⟩ := len_s hl0
              obtain ⟨u102, xs2, rfl, hl2⟩ := len_s hl1
              obtain ⟨u103, xs3, rfl, hl3⟩ := len_s hl2
              obtain ⟨u104, xs4, rfl, hl4⟩ := len_s hl3
              obtain ⟨u105, xs5, rfl, hl5⟩ := len_s hl4
              obtain ⟨u106, xs6, rfl, hl6⟩ := len_s hl5
              obtain ⟨u107, xs7, rfl, hl7⟩ := len_s hl6
              obtain ⟨u108, xs8, rfl, hl8⟩ := len_s hl7
              obtain ⟨u109, xs9, rfl, hl9⟩ := len_s hl8
              obtain ⟨u110, xs10, rfl, hl10⟩ := len_s hl9
              obtain ⟨u111, xs11, rfl, hl11⟩ := len_s hl10
              obtain ⟨u112, xs12, rfl, hl12⟩ := len_s hl11
              obtain ⟨u113, xs13, rfl, hl13⟩ := len_s hl12
              obtain ⟨u114, xs14, rfl, hl14⟩ := len_s hl13
              obtain ⟨u115, xs15, rfl, hl15⟩ := len_s hl14
              obtain rfl := len_z hl15
              clear hl0 hl1 hl2 hl3 hl4 hl5 hl6 hl7 hl8 hl9 hl10 hl11 hl12 hl13 hl14 hl15
              simp only [List.drop_succ_cons, List.drop_zero]
              simp only [over, List.cons_append, List.nil_append, Act.put, List.setIfInBounds_toArray, List.set_cons_zero, List.set_cons_succ, Nat.reduceAdd]
              obtain ⟨rfl, k5⟩ := hPB
              replace bX := k5
              clear c34 lA lQ
              obtain ⟨c34, lA, lQ⟩ := HL.out _ bX
              refine cutB 6 117 5 (fun b W => b = true ∧ Below X.heap.size X W) ?_ ?_
              · simp only [List.take_succ_cons, List.take_zero]
                go_wp2_with (first
                  | (go_at_call 34; refine (hDr _).mono ?_; rintro e w9 ⟨rfl, k⟩; replace bX := bt bX k; clear c34 lA lQ; obtain ⟨c34, lA, lQ⟩ := HL.out _ bX; (try simp only [Act.put, List.setIfInBounds_toArray, List.set_cons_zero, List.set_cons_succ])))
                exact CutQ.normal ⟨by kernel_rfl, by kernel_rfl, _, rfl, rfl, bX⟩
              · intro xs0 b6 W6 hl0 hPB
                obtain ⟨u117, xs1, rfl, hl1⟩ := len_s hl0
                obtain ⟨u118, xs2, rfl, hl2⟩ := len_s hl1
                obtain ⟨u119, xs3, rfl, hl3⟩ := len_s hl2
                obtain ⟨u120, xs4, rfl, hl4⟩ := len_s hl3
                obtain ⟨u121, xs5, rfl, hl5⟩ := len_s hl4
                obtain rfl := len_z hl5
                clear hl0 hl1 hl2 hl3 hl4 hl5
                simp only [List.drop_succ_cons, List.drop_zero]
                simp only [over, List.cons_append, List.nil_append, Act.put, List.setIfInBounds_toArray, List.set_cons_zero, List.set_cons_succ, Nat.reduceAdd]
                obtain ⟨rfl, k6⟩ := hPB
                replace bX := k6
                clear c34 lA lQ
                obtain ⟨c34, lA, lQ⟩ := HL.out _ bX
                refine cutB 4 123 3 (fun b W => b = true ∧ Below X.heap.size X W) ?_ ?_
                · simp only [List.take_succ_cons, List.take_zero]
                  go_wp2_with fail
                  exact CutQ.normal ⟨by kernel_rfl, by kernel_rfl, _, rfl, rfl, bX⟩
                · intro xs0 b7 W7 hl0 hPB
                  obtain ⟨u123, xs1, rfl, hl1⟩ := len_s hl0
                  obtain ⟨u124, xs2, rfl, hl2⟩ := len_s hl1
                  obtain ⟨u125, xs3, rfl, hl3⟩ := len_s hl2
                  obtain rfl := len_z hl3
                  clear hl0 hl1 hl2 hl3
                  simp only [List.drop_succ_cons, List.drop_zero]
                  simp only [over, List.cons_append, List.nil_append, Act.put, List.setIfInBounds_toArray, List.set_cons_zero, List.set_cons_succ, Nat.reduceAdd]
                  obtain ⟨rfl, k7⟩ := hPB
                  replace bX := k7
                  clear c34 lA lQ
                  obtain ⟨c34, lA, lQ⟩ := HL.out _ bX
                  refine cutB 16 127 15 (fun b W => b = true ∧ Below X.heap.size X W) ?_ ?_
                  · simp only [List.take_succ_cons, List.take_zero]
                    go_wp2_with (first
                      | (go_at_call 24; refine (allPairs_nil _).mono ?_; rintro e w9 ⟨ap, cp, rfl, _, k⟩; replace bX := bt bX k; clear c34 lA lQ; obtain ⟨c34, lA, lQ⟩ := HL.out _ bX; (try simp only [Act.put, List.setIfInBounds_toArray, List.set_cons_zero, List.set_cons_succ]))
                      | (go_at_call 14; refine (list_nil _).mono ?_; rintro e w' ⟨rfl, rfl⟩; (try simp only [Act.put, List.setIfInBounds_toArray, List.set_cons_zero, List.set_cons_succ]))
                      | (go_at_call 21; refine (hOf _).mono ?_; rintro e w9 ⟨rfl, k⟩; replace bX := bt bX k; clear c34 lA lQ; obtain ⟨c34, lA, lQ⟩ := HL.out _ bX; (try simp only [Act.put, List.setIfInBounds_toArray, List.set_cons_zero, List.set_cons_succ]))
                      | (refine ldQ (.tmp 128) (by rfl) rfl w.heap.size 0 n.p rfl (HS.out _ bX).q ?_; (try simp only [Act.put, List.setIfInBounds_toArray, List.set_cons_zero, List.set_cons_succ])))
                    exact CutQ.normal ⟨by kernel_rfl, by kernel_rfl, _, rfl, rfl, bX⟩
                  · intro xs0 b8 W8 hl0 hPB
                    obtain ⟨u127, xs1, rfl, hl1⟩ := len_s hl0
                    obtain ⟨u128, xs2, rfl, hl2⟩ := len_s hl1
                    obtain ⟨u129, xs3, rfl, hl3⟩ := len_s hl2
                    obtain ⟨u130, xs4, rfl, hl4⟩ := len_s hl3
                    obtain ⟨u131, xs5, rfl, hl5⟩ := len_s hl4
                    obtain ⟨u132, xs6, rfl, hl6⟩ := len_s hl5
                    obtain ⟨u133, xs7, rfl, hl7⟩ := len_s hl6
                    obtain ⟨u134, xs8, rfl, hl8⟩ := len_s hl7
                    obtain ⟨u135, xs9, rfl, hl9⟩ := len_s hl8
                    obtain ⟨u136, xs10, rfl, hl10⟩ := len_s hl9
                    obtain ⟨u137, xs11, rfl, hl11⟩ := len_s hl10
                    obtain ⟨u138, xs12, rfl, hl12⟩ := len_s hl11
                    obtain ⟨u139, xs13, rfl, hl13⟩ := len_s hl12
                    obtain ⟨u140, xs14, rfl, hl14⟩ := len_s hl13
                    obtain ⟨u141, xs15, rfl, hl15⟩ := len_s hl14
                    obtain rfl := len_z hl15
                    clear hl0 hl1 hl2 hl3 hl4 hl5 hl6 hl7 hl8 hl9 hl10 hl11 hl12 hl13 hl14 hl15
                    simp only [List.drop_succ_cons, List.drop_zero]
                    simp only [over, List.cons_append, List.nil_append, Act.put, List.setIfInBounds_toArray, List.set_cons_zero, List.set_cons_succ, Nat.reduceAdd]
                    obtain ⟨rfl, k8⟩ := hPB
                    replace bX := k8
                    clear c34 lA lQ
                    obtain ⟨c34, lA, lQ⟩ := HL.out _ bX
                    go_wp2_with (go_at_call 10; refine (live_any _).mono ?_; rintro e w9 ⟨rfl, k⟩; replace bX := bt bX k)
                    go_ret
                    exact ⟨rfl, bt hB bX⟩
end Go.Proofs.Ythofoocknmkdjaa
