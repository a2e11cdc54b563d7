/-
  The document's CheckRule: it answers, for every rule.
-/
import Derived.Test.YtfohknbgfpbmiaaNm
namespace Go.Proofs.Ytfohknbgfpbmiaa
open Go.RowKit
set_option linter.unusedSimpArgs false
set_option maxRecDepth 20000
theorem LR.cells {W : World} {g : Nat} {r : Ru} (h : LR W g 0 r) : W.cell? ⟨g, 0, none⟩ = some (.int .i64 r.ch) ∧ W.cell? ⟨g, 1, none⟩ = some (.string r.nm) ∧ W.cell? ⟨g, 19, none⟩ = some (.bool r.hd) ∧ W.cell? ⟨g, 20, none⟩ = some (.int .i64 r.ge) ∧ W.cell? ⟨g, 21, none⟩ = some (.int .i64 r.le) ∧ W.cell? ⟨g, 39, none⟩ = some (.bool r.hs) ∧ W.cell? ⟨g, 48, none⟩ = some (.bool r.deny) ∧ W.cell? ⟨g, 49, none⟩ = some (.int .i64 r.add) := by
  have c0 := h.ch
  have c1 := h.nm
  have c3 := h.hd
  have c4 := h.ge
  have c5 := h.le
  have c7 := h.hs
  have c9 := h.deny
  have c10 := h.add
  simp only [Nat.zero_add] at c0 c1 c3 c4 c5 c7 c9 c10
  exact ⟨c0, c1, c3, c4, c5, c7, c9, c10⟩
theorem eqP0 (p : Pf) : ∃ z : Bool, ∀ w, (Op.equalIn 10000 26 (Value.agg (pcells p).toArray) (.agg #[.int .u8 0, .int .u8 0, .int .u8 0, .int .u8 0, .int .u8 0, .int .u8 0, .int .u8 0, .int .u8 0, .int .u8 0, .int .u8 0, .int .u8 0, .int .u8 0, .int .u8 0, .int .u8 0, .int .u8 0, .int .u8 0, .int .i64 0])).run Try.prog w = .ok z w := ⟨_, fun w => eqP 9997 p zeroP w⟩
set_option maxHeartbeats 16000000 in
theorem rcheckRule_any (r : Ru) (w : World) : Calls Try.prog 16 #[ruV r] w (SomeI w) := by
  have hBits := rbits_any r.dst
  have hCd := rcheck_any r.dst
  have hCs := rcheck_any r.src
  obtain ⟨zd, hEd⟩ := eqP0 r.dst
  obtain ⟨zs, hEs⟩ := eqP0 r.src
  generalize chk r.dst = kd at *
  generalize chk r.src = ks at *
  have hR := LR.new w r 41
  go_enter Try.func16, Try.ntmps16
  go_upto_region 1 with fail
  refine name_world (R := fun W => Code.wp _ _ _ _ W) (P := fun W => Below w.heap.size w W ∧ LR W w.heap.size 0 r ∧ w.heap.size < W.heap.size) _ ⟨ba _ _, hR, by simp⟩ ?_
  clear hR
  rintro X ⟨hB, hR, hs⟩
  have HK : Hid (∀ W, Below X.heap.size X W → _) := fun W h => (hR.below h hs).cells
  have hb := Below.refl X.heap.size X
  have hD := hR.dst
  have hS := hR.src
  obtain ⟨c0, c1, c3, c4, c5, c7, c9, c10⟩ := HK.out _ hb
  apply wp_region_lit
  refine cutB 16 6 15 (fun _ W => Below X.heap.size X W) ?_ ?_
  · simp only [List.take_succ_cons, List.take_zero]
    go_wp2_with (first | (go_at_call 28; refine (rname_any _ _).mono ?_; rintro e wm ⟨bm, rfl, hn⟩; replace hb := hb.trans (Below.mono hn hb.size); clear hn; replace hD := hR.dst.below hb hs; replace hS := hR.src.below hb hs; clear c0 c1 c3 c4 c5 c7 c9 c10; obtain ⟨c0, c1, c3, c4, c5, c7, c9, c10⟩ := HK.out _ hb; cases bm) | (go_at_call 27; refine (rin_any _ _ _ _).mono ?_; rintro e wn ⟨bn, rfl, hn⟩; replace hb := hb.trans (Below.mono hn hb.size); clear hn; replace hD := hR.dst.below hb hs; replace hS := hR.src.below hb hs; clear c0 c1 c3 c4 c5 c7 c9 c10; obtain ⟨c0, c1, c3, c4, c5, c7, c9, c10⟩ := HK.out _ hb; cases bn))
    all_goals exact CutQ.normal ⟨by kernel_rfl, by kernel_rfl, _, rfl, hb⟩
  · intro xs0 b W hl0 hPB
    obtain ⟨u6, xs1, rfl, hl1⟩ := len_s hl0
    obtain ⟨u7, xs2, rfl, hl2⟩ := len_s hl1
    obtain ⟨u8, xs3, rfl, hl3⟩ := len_s hl2
    obtain ⟨u9, xs4, rfl, hl4⟩ := len_s hl3
    obtain ⟨u10, xs5, rfl, hl5⟩ := len_s hl4
    obtain ⟨u11, xs6, rfl, hl6⟩ := len_s hl5
    obtain ⟨u12, xs7, rfl, hl7⟩ := len_s hl6
    obtain ⟨u13, xs8, rfl, hl8⟩ := len_s hl7
    obtain ⟨u14, xs9, rfl, hl9⟩ := len_s hl8
    obtain ⟨u15, xs10, rfl, hl10⟩ := len_s hl9
    obtain ⟨u16, xs11, rfl, hl11⟩ := len_s hl10
    obtain ⟨u17, xs12, rfl, hl12⟩ := len_s hl11
    obtain ⟨u18, xs13, rfl, hl13⟩ := len_s hl12
    obtain ⟨u19, xs14, rfl, hl14⟩ := len_s hl13
    obtain ⟨u20, xs15, rfl, hl15⟩ := len_s hl14
    obtain rfl := len_z hl15
    clear hl0 hl1 hl2 hl3 hl4 hl5 hl6 hl7 hl8 hl9 hl10 hl11 hl12 hl13 hl14 hl15
    simp only [List.drop_succ_cons, List.drop_zero]
    simp only [over, List.cons_append, List.nil_append, Act.put, List.setIfInBounds_toArray, List.set_cons_zero, List.set_cons_succ, Nat.reduceAdd]
    replace hb := hPB; clear hPB; replace hD := hR.dst.below hb hs; replace hS := hR.src.below hb hs; clear c0 c1 c3 c4 c5 c7 c9 c10; obtain ⟨c0, c1, c3, c4, c5, c7, c9, c10⟩ := HK.out _ hb
    refine cutB 9 22 8 (fun _ W => Below X.heap.size X W) ?_ ?_
    · simp only [List.take_succ_cons, List.take_zero]
      cases b with
      | true =>
        go_wp2_with fail
        all_goals exact CutQ.normal ⟨by kernel_rfl, by kernel_rfl, _, rfl, hb⟩
      | false =>
        go_wp2_with fail
        all_goals exact CutQ.normal ⟨by kernel_rfl, by kernel_rfl, _, rfl, hb⟩
    · intro xs0 b W hl0 hPB
      obtain ⟨j22, xs1, rfl, hl1⟩ := len_s hl0
      obtain ⟨j23, xs2, rfl, hl2⟩ := len_s hl1
      obtain ⟨j24, xs3, rfl, hl3⟩ := len_s hl2
      obtain ⟨j25, xs4, rfl, hl4⟩ := len_s hl3
      obtain ⟨j26, xs5, rfl, hl5⟩ := len_s hl4
      obtain ⟨j27, xs6, rfl, hl6⟩ := len_s hl5
      obtain ⟨j28, xs7, rfl, hl7⟩ := len_s hl6
      obtain ⟨j29, xs8, rfl, hl8⟩ := len_s hl7
      obtain rfl := len_z hl8
      clear hl0 hl1 hl2 hl3 hl4 hl5 hl6 hl7 hl8
      simp only [List.drop_succ_cons, List.drop_zero]
      simp only [over, List.cons_append, List.nil_append, Act.put, List.setIfInBounds_toArray, List.set_cons_zero, List.set_cons_succ, Nat.reduceAdd]
      replace hb := hPB; clear hPB; replace hD := hR.dst.below hb hs; replace hS := hR.src.below hb hs; clear c0 c1 c3 c4 c5 c7 c9 c10; obtain ⟨c0, c1, c3, c4, c5, c7, c9, c10⟩ := HK.out _ hb
      refine cutB 5 31 4 (fun _ W => Below X.heap.size X W) ?_ ?_
      · simp only [List.take_succ_cons, List.take_zero]
        cases b with
        | true =>
          go_wp2_with (go_at_call 27; refine (rin_any _ _ _ _).mono ?_; rintro e wn ⟨bn, rfl, hn⟩; replace hb := hb.trans (Below.mono hn hb.size); clear hn; replace hD := hR.dst.below hb hs; replace hS := hR.src.below hb hs; clear c0 c1 c3 c4 c5 c7 c9 c10; obtain ⟨c0, c1, c3, c4, c5, c7, c9, c10⟩ := HK.out _ hb; cases bn)
          all_goals exact CutQ.normal ⟨by kernel_rfl, by kernel_rfl, _, rfl, hb⟩
        | false =>
          go_wp2_with (go_at_call 27; refine (rin_any _ _ _ _).mono ?_; rintro e wn ⟨bn, rfl, hn⟩; replace hb := hb.trans (Below.mono hn hb.size); clear hn; replace hD := hR.dst.below hb hs; replace hS := hR.src.below hb hs; clear c0 c1 c3 c4 c5 c7 c9 c10; obtain ⟨c0, c1, c3, c4, c5, c7, c9, c10⟩ := HK.out _ hb; cases bn)
          all_goals exact CutQ.normal ⟨by kernel_rfl, by kernel_rfl, _, rfl, hb⟩
      · intro xs0 b W hl0 hPB
        obtain ⟨k31, xs1, rfl, hl1⟩ := len_s hl0
        obtain ⟨k32, xs2, rfl, hl2⟩ := len_s hl1
        obtain ⟨k33, xs3, rfl, hl3⟩ := len_s hl2
        obtain ⟨k34, xs4, rfl, hl4⟩ := len_s hl3
        obtain rfl := len_z hl4
        clear hl0 hl1 hl2 hl3 hl4
        simp only [List.drop_succ_cons, List.drop_zero]
        simp only [over, List.cons_append, List.nil_append, Act.put, List.setIfInBounds_toArray, List.set_cons_zero, List.set_cons_succ, Nat.reduceAdd]
        replace hb := hPB; clear hPB; replace hD := hR.dst.below hb hs; replace hS := hR.src.below hb hs; clear c0 c1 c3 c4 c5 c7 c9 c10; obtain ⟨c0, c1, c3, c4, c5, c7, c9, c10⟩ := HK.out _ hb
        cases khd : r.hd with
        | true =>
          rw [khd] at c3
          go_upto_region 4 with (first | (refine ldP (.tmp 39) (by rfl) rfl _ _ r.dst rfl hD ?_) | (go_at_call 29; refine (hBits _).mono ?_; rintro e wk ⟨ba1, bb1, rfl, hn⟩; replace hb := hb.trans (Below.mono hn hb.size); clear hn; replace hD := hR.dst.below hb hs; replace hS := hR.src.below hb hs; clear c0 c1 c3 c4 c5 c7 c9 c10; obtain ⟨c0, c1, c3, c4, c5, c7, c9, c10⟩ := HK.out _ hb))
          apply wp_region_lit
          refine cutB 8 44 7 (fun _ W => Below X.heap.size X W) ?_ ?_
          · simp only [List.take_succ_cons, List.take_zero]
            cases b with
            | true =>
              go_wp2_with (first | (refine ldP (.tmp 46) (by rfl) rfl _ _ r.dst rfl hD ?_) | (go_at_call 26; refine (hCd _).mono ?_; rintro e wk ⟨rfl, hn⟩; replace hb := hb.trans (Below.mono hn hb.size); clear hn; replace hD := hR.dst.below hb hs; replace hS := hR.src.below hb hs; clear c0 c1 c3 c4 c5 c7 c9 c10; obtain ⟨c0, c1, c3, c4, c5, c7, c9, c10⟩ := HK.out _ hb))
              all_goals exact CutQ.normal ⟨by kernel_rfl, by kernel_rfl, _, rfl, hb⟩
            | false =>
              go_wp2_with (first | (refine ldP (.tmp 46) (by rfl) rfl _ _ r.dst rfl hD ?_) | (go_at_call 26; refine (hCd _).mono ?_; rintro e wk ⟨rfl, hn⟩; replace hb := hb.trans (Below.mono hn hb.size); clear hn; replace hD := hR.dst.below hb hs; replace hS := hR.src.below hb hs; clear c0 c1 c3 c4 c5 c7 c9 c10; obtain ⟨c0, c1, c3, c4, c5, c7, c9, c10⟩ := HK.out _ hb))
              all_goals exact CutQ.normal ⟨by kernel_rfl, by kernel_rfl, _, rfl, hb⟩
          · intro xs0 b W hl0 hPB
            obtain ⟨y44, xs1, rfl, hl1⟩ := len_s hl0
            obtain ⟨y45, xs2, rfl, hl2⟩ := len_s hl1
            obtain ⟨y46, xs3, rfl, hl3⟩ := len_s hl2
            obtain ⟨y47, xs4, rfl, hl4⟩ := len_s hl3
            obtain ⟨y48, xs5, rfl, hl5⟩ := len_s hl4
            obtain ⟨y49, xs6, rfl, hl6⟩ := len_s hl5
            obtain ⟨y50, xs7, rfl, hl7⟩ := len_s hl6
            obtain rfl := len_z hl7
            clear hl0 hl1 hl2 hl3 hl4 hl5 hl6 hl7
            simp only [List.drop_succ_cons, List.drop_zero]
            simp only [over, List.cons_append, List.nil_append, Act.put, List.setIfInBounds_toArray, List.set_cons_zero, List.set_cons_succ, Nat.reduceAdd]
            replace hb := hPB; clear hPB; replace hD := hR.dst.below hb hs; replace hS := hR.src.below hb hs; clear c0 c1 c3 c4 c5 c7 c9 c10; obtain ⟨c0, c1, c3, c4, c5, c7, c9, c10⟩ := HK.out _ hb
            refine cutB 6 52 5 (fun _ W => Below X.heap.size X W) ?_ ?_
            · simp only [List.take_succ_cons, List.take_zero]
              cases b with
              | true =>
                go_wp2_with fail
                all_goals exact CutQ.normal ⟨by kernel_rfl, by kernel_rfl, _, rfl, hb⟩
              | false =>
                go_wp2_with fail
                all_goals exact CutQ.normal ⟨by kernel_rfl, by kernel_rfl, _, rfl, hb⟩
            · intro xs0 b W hl0 hPB
              obtain ⟨z52, xs1, rfl, hl1⟩ := len_s hl0
              obtain ⟨z53, xs2, rfl, hl2⟩ := len_s hl1
              obtain ⟨z54, xs3, rfl, hl3⟩ := len_s hl2
              obtain ⟨z55, xs4, rfl, hl4⟩ := len_s hl3
              obtain ⟨z56, xs5, rfl, hl5⟩ := len_s hl4
              obtain rfl := len_z hl5
              clear hl0 hl1 hl2 hl3 hl4 hl5
              simp only [List.drop_succ_cons, List.drop_zero]
              simp only [over, List.cons_append, List.nil_append, Act.put, List.setIfInBounds_toArray, List.set_cons_zero, List.set_cons_succ, Nat.reduceAdd]
              replace hb := hPB; clear hPB; replace hD := hR.dst.below hb hs; replace hS := hR.src.below hb hs; clear c0 c1 c3 c4 c5 c7 c9 c10; obtain ⟨c0, c1, c3, c4, c5, c7, c9, c10⟩ := HK.out _ hb
              refine cutB 7 58 6 (fun _ W => Below X.heap.size X W) ?_ ?_
              · simp only [List.take_succ_cons, List.take_zero]
                cases b with
                | true =>
                  go_wp2_with fail
                  all_goals exact CutQ.normal ⟨by kernel_rfl, by kernel_rfl, _, rfl, hb⟩
                | false =>
                  go_wp2_with fail
                  all_goals exact CutQ.normal ⟨by kernel_rfl, by kernel_rfl, _, rfl, hb⟩
              · intro xs0 b W hl0 hPB
                obtain ⟨q58, xs1, rfl, hl1⟩ := len_s hl0
                obtain ⟨q59, xs2, rfl, hl2⟩ := len_s hl1
                obtain ⟨q60, xs3, rfl, hl3⟩ := len_s hl2
                obtain ⟨q61, xs4, rfl, hl4⟩ := len_s hl3
                obtain ⟨q62, xs5, rfl, hl5⟩ := len_s hl4
                obtain ⟨q63, xs6, rfl, hl6⟩ := len_s hl5
                obtain rfl := len_z hl6
                clear hl0 hl1 hl2 hl3 hl4 hl5 hl6
                simp only [List.drop_succ_cons, List.drop_zero]
                simp only [over, List.cons_append, List.nil_append, Act.put, List.setIfInBounds_toArray, List.set_cons_zero, List.set_cons_succ, Nat.reduceAdd]
                replace hb := hPB; clear hPB; replace hD := hR.dst.below hb hs; replace hS := hR.src.below hb hs; clear c0 c1 c3 c4 c5 c7 c9 c10; obtain ⟨c0, c1, c3, c4, c5, c7, c9, c10⟩ := HK.out _ hb
                refine cutB 5 65 4 (fun _ W => Below X.heap.size X W) ?_ ?_
                · simp only [List.take_succ_cons, List.take_zero]
                  cases b with
                  | true =>
                    go_wp2_with fail
                    all_goals exact CutQ.normal ⟨by kernel_rfl, by kernel_rfl, _, rfl, hb⟩
                  | false =>
                    go_wp2_with fail
                    all_goals exact CutQ.normal ⟨by kernel_rfl, by kernel_rfl, _, rfl, hb⟩
                · intro xs0 b W hl0 hPB
                  obtain ⟨s65, xs1, rfl, hl1⟩ := len_s hl0
                  obtain ⟨s66, xs2, rfl, hl2⟩ := len_s hl1
                  obtain ⟨s67, xs3, rfl, hl3⟩ := len_s hl2
                  obtain ⟨s68, xs4, rfl, hl4⟩ := len_s hl3
                  obtain rfl := len_z hl4
                  clear hl0 hl1 hl2 hl3 hl4
                  simp only [List.drop_succ_cons, List.drop_zero]
                  simp only [over, List.cons_append, List.nil_append, Act.put, List.setIfInBounds_toArray, List.set_cons_zero, List.set_cons_succ, Nat.reduceAdd]
                  replace hb := hPB; clear hPB; replace hD := hR.dst.below hb hs; replace hS := hR.src.below hb hs; clear c0 c1 c3 c4 c5 c7 c9 c10; obtain ⟨c0, c1, c3, c4, c5, c7, c9, c10⟩ := HK.out _ hb
                  cases khs : r.hs with
                  | true =>
                    rw [khs] at c7
                    go_upto_region 7 with fail
                    apply wp_region_lit
                    refine cutB 7 89 6 (fun _ W => Below X.heap.size X W) ?_ ?_
                    · simp only [List.take_succ_cons, List.take_zero]
                      cases b with
                      | true =>
                        go_wp2_with (first | (refine ldP (.tmp 91) (by rfl) rfl _ _ r.src rfl hS ?_) | (go_at_call 26; refine (hCs _).mono ?_; rintro e wk ⟨rfl, hn⟩; replace hb := hb.trans (Below.mono hn hb.size); clear hn; replace hD := hR.dst.below hb hs; replace hS := hR.src.below hb hs; clear c0 c1 c3 c4 c5 c7 c9 c10; obtain ⟨c0, c1, c3, c4, c5, c7, c9, c10⟩ := HK.out _ hb))
                        all_goals exact CutQ.normal ⟨by kernel_rfl, by kernel_rfl, _, rfl, hb⟩
                      | false =>
                        go_wp2_with (first | (refine ldP (.tmp 91) (by rfl) rfl _ _ r.src rfl hS ?_) | (go_at_call 26; refine (hCs _).mono ?_; rintro e wk ⟨rfl, hn⟩; replace hb := hb.trans (Below.mono hn hb.size); clear hn; replace hD := hR.dst.below hb hs; replace hS := hR.src.below hb hs; clear c0 c1 c3 c4 c5 c7 c9 c10; obtain ⟨c0, c1, c3, c4, c5, c7, c9, c10⟩ := HK.out _ hb))
                        all_goals exact CutQ.normal ⟨by kernel_rfl, by kernel_rfl, _, rfl, hb⟩
                    · intro xs0 b W hl0 hPB
                      obtain ⟨p89, xs1, rfl, hl1⟩ := len_s hl0
                      obtain ⟨p90, xs2, rfl, hl2⟩ := len_s hl1
                      obtain ⟨p91, xs3, rfl, hl3⟩ := len_s hl2
                      obtain ⟨p92, xs4, rfl, hl4⟩ := len_s hl3
                      obtain ⟨p93, xs5, rfl, hl5⟩ := len_s hl4
                      obtain ⟨p94, xs6, rfl, hl6⟩ := len_s hl5
                      obtain rfl := len_z hl6
                      clear hl0 hl1 hl2 hl3 hl4 hl5 hl6
                      simp only [List.drop_succ_cons, List.drop_zero]
                      simp only [over, List.cons_append, List.nil_append, Act.put, List.setIfInBounds_toArray, List.set_cons_zero, List.set_cons_succ, Nat.reduceAdd]
                      replace hb := hPB; clear hPB; replace hD := hR.dst.below hb hs; replace hS := hR.src.below hb hs; clear c0 c1 c3 c4 c5 c7 c9 c10; obtain ⟨c0, c1, c3, c4, c5, c7, c9, c10⟩ := HK.out _ hb
                      cases b with
                      | true =>
                        go_wp2_with fail
                        go_ret
                        exact ⟨_, rfl, hB.trans (hb.mono hB.size)⟩
                      | false =>
                        go_wp2_with fail
                        go_ret
                        exact ⟨_, rfl, hB.trans (hb.mono hB.size)⟩
                  | false =>
                    rw [khs] at c7
                    go_upto_region 8 with fail
                    apply wp_region_lit
                    refine cutB 7 96 6 (fun _ W => Below X.heap.size X W) ?_ ?_
                    · simp only [List.take_succ_cons, List.take_zero]
                      cases b with
                      | true =>
                        go_wp2_with (refine ldP (.tmp 98) (by rfl) rfl _ _ r.src rfl hS ?_)
                        all_goals exact CutQ.normal ⟨by kernel_rfl, by kernel_rfl, _, rfl, hb⟩
                      | false =>
                        go_wp2_with (refine ldP (.tmp 98) (by rfl) rfl _ _ r.src rfl hS ?_)
                        all_goals exact CutQ.normal ⟨by kernel_rfl, by kernel_rfl, _, rfl, hb⟩
                    · intro xs0 b W hl0 hPB
                      obtain ⟨p96, xs1, rfl, hl1⟩ := len_s hl0
                      obtain ⟨p97, xs2, rfl, hl2⟩ := len_s hl1
                      obtain ⟨p98, xs3, rfl, hl3⟩ := len_s hl2
                      obtain ⟨p99, xs4, rfl, hl4⟩ := len_s hl3
                      obtain ⟨p100, xs5, rfl, hl5⟩ := len_s hl4
                      obtain ⟨p101, xs6, rfl, hl6⟩ := len_s hl5
                      obtain rfl := len_z hl6
                      clear hl0 hl1 hl2 hl3 hl4 hl5 hl6
                      simp only [List.drop_succ_cons, List.drop_zero]
                      simp only [over, List.cons_append, List.nil_append, Act.put, List.setIfInBounds_toArray, List.set_cons_zero, List.set_cons_succ, Nat.reduceAdd]
                      replace hb := hPB; clear hPB; replace hD := hR.dst.below hb hs; replace hS := hR.src.below hb hs; clear c0 c1 c3 c4 c5 c7 c9 c10; obtain ⟨c0, c1, c3, c4, c5, c7, c9, c10⟩ := HK.out _ hb
                      cases b with
                      | true =>
                        go_wp2_with fail
                        go_ret
                        exact ⟨_, rfl, hB.trans (hb.mono hB.size)⟩
                      | false =>
                        go_wp2_with fail
                        go_ret
                        exact ⟨_, rfl, hB.trans (hb.mono hB.size)⟩
        | false =>
          rw [khd] at c3
          go_upto_region 5 with fail
          apply wp_region_lit
          refine cutB 8 70 7 (fun _ W => Below X.heap.size X W) ?_ ?_
          · simp only [List.take_succ_cons, List.take_zero]
            cases b with
            | true =>
              go_wp2_with (refine ldP (.tmp 72) (by rfl) rfl _ _ r.dst rfl hD ?_)
              all_goals exact CutQ.normal ⟨by kernel_rfl, by kernel_rfl, _, rfl, hb⟩
            | false =>
              go_wp2_with (refine ldP (.tmp 72) (by rfl) rfl _ _ r.dst rfl hD ?_)
              all_goals exact CutQ.normal ⟨by kernel_rfl, by kernel_rfl, _, rfl, hb⟩
          · intro xs0 b W hl0 hPB
            obtain ⟨y70, xs1, rfl, hl1⟩ := len_s hl0
            obtain ⟨y71, xs2, rfl, hl2⟩ := len_s hl1
            obtain ⟨y72, xs3, rfl, hl3⟩ := len_s hl2
            obtain ⟨y73, xs4, rfl, hl4⟩ := len_s hl3
            obtain ⟨y74, xs5, rfl, hl5⟩ := len_s hl4
            obtain ⟨y75, xs6, rfl, hl6⟩ := len_s hl5
            obtain ⟨y76, xs7, rfl, hl7⟩ := len_s hl6
            obtain rfl := len_z hl7
            clear hl0 hl1 hl2 hl3 hl4 hl5 hl6 hl7
            simp only [List.drop_succ_cons, List.drop_zero]
            simp only [over, List.cons_append, List.nil_append, Act.put, List.setIfInBounds_toArray, List.set_cons_zero, List.set_cons_succ, Nat.reduceAdd]
            replace hb := hPB; clear hPB; replace hD := hR.dst.below hb hs; replace hS := hR.src.below hb hs; clear c0 c1 c3 c4 c5 c7 c9 c10; obtain ⟨c0, c1, c3, c4, c5, c7, c9, c10⟩ := HK.out _ hb
            refine cutB 5 78 4 (fun _ W => Below X.heap.size X W) ?_ ?_
            · simp only [List.take_succ_cons, List.take_zero]
              cases b with
              | true =>
                go_wp2_with fail
                all_goals exact CutQ.normal ⟨by kernel_rfl, by kernel_rfl, _, rfl, hb⟩
              | false =>
                go_wp2_with fail
                all_goals exact CutQ.normal ⟨by kernel_rfl, by kernel_rfl, _, rfl, hb⟩
            · intro xs0 b W hl0 hPB
              obtain ⟨z78, xs1, rfl, hl1⟩ := len_s hl0
              obtain ⟨z79, xs2, rfl, hl2⟩ := len_s hl1
              obtain ⟨z80, xs3, rfl, hl3⟩ := len_s hl2
              obtain ⟨z81, xs4, rfl, hl4⟩ := len_s hl3
              obtain rfl := len_z hl4
              clear hl0 hl1 hl2 hl3 hl4
              simp only [List.drop_succ_cons, List.drop_zero]
              simp only [over, List.cons_append, List.nil_append, Act.put, List.setIfInBounds_toArray, List.set_cons_zero, List.set_cons_succ, Nat.reduceAdd]
              replace hb := hPB; clear hPB; replace hD := hR.dst.below hb hs; replace hS := hR.src.below hb hs; clear c0 c1 c3 c4 c5 c7 c9 c10; obtain ⟨c0, c1, c3, c4, c5, c7, c9, c10⟩ := HK.out _ hb
              refine cutB 4 83 3 (fun _ W => Below X.heap.size X W) ?_ ?_
              · simp only [List.take_succ_cons, List.take_zero]
                cases b with
                | true =>
                  go_wp2_with fail
                  all_goals exact CutQ.normal ⟨by kernel_rfl, by kernel_rfl, _, rfl, hb⟩
                | false =>
                  go_wp2_with fail
                  all_goals exact CutQ.normal ⟨by kernel_rfl, by kernel_rfl, _, rfl, hb⟩
              · intro xs0 b W hl0 hPB
                obtain ⟨q83, xs1, rfl, hl1⟩ := len_s hl0
                obtain ⟨q84, xs2, rfl, hl2⟩ := len_s hl1
                obtain ⟨q85, xs3, rfl, hl3⟩ := len_s hl2
                obtain rfl := len_z hl3
                clear hl0 hl1 hl2 hl3
                simp only [List.drop_succ_cons, List.drop_zero]
                simp only [over, List.cons_append, List.nil_append, Act.put, List.setIfInBounds_toArray, List.set_cons_zero, List.set_cons_succ, Nat.reduceAdd]
                replace hb := hPB; clear hPB; replace hD := hR.dst.below hb hs; replace hS := hR.src.below hb hs; clear c0 c1 c3 c4 c5 c7 c9 c10; obtain ⟨c0, c1, c3, c4, c5, c7, c9, c10⟩ := HK.out _ hb
                cases khs : r.hs with
                | true =>
                  rw [khs] at c7
                  go_upto_region 7 with fail
                  apply wp_region_lit
                  refine cutB 7 89 6 (fun _ W => Below X.heap.size X W) ?_ ?_
                  · simp only [List.take_succ_cons, List.take_zero]
                    cases b with
                    | true =>
                      go_wp2_with (first | (refine ldP (.tmp 91) (by rfl) rfl _ _ r.src rfl hS ?_) | (go_at_call 26; refine (hCs _).mono ?_; rintro e wk ⟨rfl, hn⟩; replace hb := hb.trans (Below.mono hn hb.size); clear hn; replace hD := hR.dst.below hb hs; replace hS := hR.src.below hb hs; clear c0 c1 c3 c4 c5 c7 c9 c10; obtain ⟨c0, c1, c3, c4, c5, c7, c9, c10⟩ := HK.out _ hb))
                      all_goals exact CutQ.normal ⟨by kernel_rfl, by kernel_rfl, _, rfl, hb⟩
                    | false =>
                      go_wp2_with (first | (refine ldP (.tmp 91) (by rfl) rfl _ _ r.src rfl hS ?_) | (go_at_call 26; refine (hCs _).mono ?_; rintro e wk ⟨rfl, hn⟩; replace hb := hb.trans (Below.mono hn hb.size); clear hn; replace hD := hR.dst.below hb hs; replace hS := hR.src.below hb hs; clear c0 c1 c3 c4 c5 c7 c9 c10; obtain ⟨c0, c1, c3, c4, c5, c7, c9, c10⟩ := HK.out _ hb))
                      all_goals exact CutQ.normal ⟨by kernel_rfl, by kernel_rfl, _, rfl, hb⟩
                  · intro xs0 b W hl0 hPB
                    obtain ⟨p89, xs1, rfl, hl1⟩ := len_s hl0
                    obtain ⟨p90, xs2, rfl, hl2⟩ := len_s hl1
                    obtain ⟨p91, xs3, rfl, hl3⟩ := len_s hl2
                    obtain ⟨p92, xs4, rfl, hl4⟩ := len_s hl3
                    obtain ⟨p93, xs5, rfl, hl5⟩ := len_s hl4
                    obtain ⟨p94, xs6, rfl, hl6⟩ := len_s hl5
                    obtain rfl := len_z hl6
                    clear hl0 hl1 hl2 hl3 hl4 hl5 hl6
                    simp only [List.drop_succ_cons, List.drop_zero]
                    simp only [over, List.cons_append, List.nil_append, Act.put, List.setIfInBounds_toArray, List.set_cons_zero, List.set_cons_succ, Nat.reduceAdd]
                    replace hb := hPB; clear hPB; replace hD := hR.dst.below hb hs; replace hS := hR.src.below hb hs; clear c0 c1 c3 c4 c5 c7 c9 c10; obtain ⟨c0, c1, c3, c4, c5, c7, c9, c10⟩ := HK.out _ hb
                    cases b with
                    | true =>
                      go_wp2_with fail
                      go_ret
                      exact ⟨_, rfl, hB.trans (hb.mono hB.size)⟩
                    | false =>
                      go_wp2_with fail
                      go_ret
                      exact ⟨_, rfl, hB.trans (hb.mono hB.size)⟩
                | false =>
                  rw [khs] at c7
                  go_upto_region 8 with fail
                  apply wp_region_lit
                  refine cutB 7 96 6 (fun _ W => Below X.heap.size X W) ?_ ?_
                  · simp only [List.take_succ_cons, List.take_zero]
                    cases b with
                    | true =>
                      go_wp2_with (refine ldP (.tmp 98) (by rfl) rfl _ _ r.src rfl hS ?_)
                      all_goals exact CutQ.normal ⟨by kernel_rfl, by kernel_rfl, _, rfl, hb⟩
                    | false =>
                      go_wp2_with (refine ldP (.tmp 98) (by rfl) rfl _ _ r.src rfl hS ?_)
                      all_goals exact CutQ.normal ⟨by kernel_rfl, by kernel_rfl, _, rfl, hb⟩
                  · intro xs0 b W hl0 hPB
                    obtain ⟨p96, xs1, rfl, hl1⟩ := len_s hl0
                    obtain ⟨p97, xs2, rfl, hl2⟩ := len_s hl1
                    obtain ⟨p98, xs3, rfl, hl3⟩ := len_s hl2
                    obtain ⟨p99, xs4, rfl, hl4⟩ := len_s hl3
                    obtain ⟨p100, xs5, rfl, hl5⟩ := len_s hl4
                    obtain ⟨p101, xs6, rfl, hl6⟩ := len_s hl5
                    obtain rfl := len_z hl6
                    clear hl0 hl1 hl2 hl3 hl4 hl5 hl6
                    simp only [List.drop_succ_cons, List.drop_zero]
                    simp only [over, List.cons_append, List.nil_append, Act.put, List.setIfInBounds_toArray, List.set_cons_zero, List.set_cons_succ, Nat.reduceAdd]
                    replace hb := hPB; clear hPB; replace hD := hR.dst.below hb hs; replace hS := hR.src.below hb hs; clear c0 c1 c3 c4 c5 c7 c9 c10; obtain ⟨c0, c1, c3, c4, c5, c7, c9, c10⟩ := HK.out _ hb
                    cases b with
                    | true =>
                      go_wp2_with fail
                      go_ret
                      exact ⟨_, rfl, hB.trans (hb.mono hB.size)⟩
                    | false =>
                      go_wp2_with fail
                      go_ret
                      exact ⟨_, rfl, hB.trans (hb.mono hB.size)⟩
end Go.Proofs.Ytfohknbgfpbmiaa
