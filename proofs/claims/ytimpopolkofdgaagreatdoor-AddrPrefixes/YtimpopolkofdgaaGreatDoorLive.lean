/-
  The law's own example: live answers true.
-/
import Derived.Test.YtimpopolkofdgaaGreatDoorLiveF
namespace Go.Proofs.YtimpopolkofdgaaGreatDoor
open Go.RowKit Go.Shelf
set_option linter.unusedSimpArgs false
set_option maxRecDepth 20000
theorem two_pairs {W : World} {B : Nat} {X : World} (_ : Below B X W) (q r : Pr) (t : TypeId) : ∀ j p, [q, r][j]? = some p → LQ (W.alloc (.cells (qcells q ++ qcells r).toArray t)) W.heap.size (0 + j * 34) p := by
  have h := rangeAt_new W (qcells q ++ qcells r) t
  intro j p hp
  rcases j with _ | _ | j
  · simp at hp; subst hp; exact rangeAt_left h
  · simp at hp; subst hp; exact rangeAt_right h (qcells_len q)
  · simp at hp
theorem bsQ {ops : Array Oper} {rest : List Oper} {op : Oper} {a : Act} {w : World} {Q : Exit → Act → World → Prop} (x y : Operand) (hw : Region.wanted op (yielded ops a.tmps) = true) (ho : op.op = .buildSlice 51 2 #[(0, x), (1, y)]) (q r : Pr) (hx : a.eval x = (Value.agg (qcells q).toArray)) (hy : a.eval y = (Value.agg (qcells r).toArray))
    (h : ∀ W, Hid (W = w.alloc (.cells (qcells q ++ qcells r).toArray 53)) → wpList Tryz.prog ops Q rest (a.put op.dst (.slice (some ⟨w.heap.size, 0, none⟩) 2 2)) W) : wpList Tryz.prog ops Q (op :: rest) a w :=
  wpList_step fun K hK => by
    rw [if_pos hw]
    unfold Oper.wp execOp
    simp only [ho, List.map_toArray, List.map_cons, List.map_nil, hx, hy, Sem.run_bind, run_bs, Result.andThen_ok, Sem.run_pure]
    exact hK _ _ (h _ rfl)
set_option maxHeartbeats 8000000 in
theorem live_any (w : World) (hG : Glob w) (hT : Tz w) (hs8 : 8 ≤ w.heap.size) : Calls Tryz.prog 6 #[] w (Gives w (.bool true)) := by
  have hP1 := fun W h1 h2 => parse_any s1 W h1 h2 (by decide)
  rw [show prsV s1 = .tuple #[(Value.agg (acells a1).toArray), .int .i64 0] by rw [prsV, prs1]] at hP1
  have hP2 := fun W h1 h2 => parse_any s2 W h1 h2 (by decide)
  rw [show prsV s2 = .tuple #[(Value.agg (acells a2).toArray), .int .i64 0] by rw [prsV, prs2]] at hP2
  have hP3 := fun W h1 h2 => ppair_any s3 W h1 h2 (by decide)
  rw [prq3] at hP3
  have hP4 := fun W h1 h2 => ppair_any s4 W h1 h2 (by decide)
  rw [prq4] at hP4
  have hP5 := fun W h1 h2 => pfx_any s5 W h1 h2 (by decide)
  rw [prf5] at hP5
  have hB6 := fun g o c W => best_any a1 a1 g o 2 c [q3, q4] W rfl
  rw [bst6] at hB6
  have hF7 := fam_any a1
  rw [fam7] at hF7
  have hP8 := fun W h1 h2 h3 => print_any a2 W h1 h2 h3
  rw [prt8] at hP8
  have hP8 : ∀ W, Glob W → Tz W → 8 ≤ W.heap.size → Calls Tryz.prog 12 #[(Value.agg (acells a2).toArray)] W (Gives W (.string ⟨#[50, 48, 48, 49, 58, 100, 98, 56, 58, 58, 49, 58, 48, 58, 48, 58, 49]⟩)) := hP8
  have hC9 := compare_any a1 a2
  rw [cmp9] at hC9
  have hn0 := num_any 0 (by decide) (by decide)
  have hn21 := num_any 21 (by decide) (by decide)
  have hq3 : q3.d.n = 104 := rfl
  have HG : Hid (∀ W, Below w.heap.size w W → Glob W ∧ Tz W ∧ 8 ≤ W.heap.size) := fun W hb => ⟨hG.keep hb hs8, hT.keep hb hs8, Nat.le_trans hs8 hb.size⟩
  obtain ⟨a, ha⟩ : ∃ a, a = a1 := ⟨_, rfl⟩
  obtain ⟨b, hb⟩ : ∃ a, a = a2 := ⟨_, rfl⟩
  obtain ⟨q, hq⟩ : ∃ a, a = q3 := ⟨_, rfl⟩
  obtain ⟨r, hr⟩ : ∃ a, a = q4 := ⟨_, rfl⟩
  rw [← ha] at hP1 hB6 hF7 hC9
  rw [← hb] at hP2 hP8 hC9
  rw [← hq] at hP3 hB6 hq3
  rw [← hr] at hP4 hB6
  clear ha hb hq hr
  have hBw := Below.refl w.heap.size w
  dsimp only at hP3 hP4 hP5 hB6
  go_enter Tryz.func6, Tryz.ntmps6
  go_wp2_with (first
    | (refine stAq (.tmp 1) (.tmp 15) (by rfl) rfl _ _ a rfl rfl (Row.there (Row.new _ _ _) (by simp)) ?_; intro w2 hw2; have hst := hw2.out ▸ storedRow w1 _ _ a (by simp); clear hw2; obtain ⟨hB2, r1, -⟩ := hst; replace hBw := bt hBw hB2; clear hB2)
    | (refine stAq (.tmp 3) (.tmp 19) (by rfl) rfl _ _ b rfl rfl (Row.there (Row.new _ _ _) (by simp)) ?_; intro w4 hw4; have hst := hw4.out ▸ storedRow w3 _ _ b (by simp); clear hw4; obtain ⟨hB4, r3, -⟩ := hst; replace hBw := bt hBw hB4; replace r1 := r1.below hB4 r1.lt; clear hB4)
    | (refine stQq (.tmp 5) (.tmp 23) (by rfl) rfl _ _ q rfl rfl (Row.there (Row.new _ _ _) (by simp)) ?_; intro w6 hw6; have hst := hw6.out ▸ storedRowQ w5 _ _ q (by simp); clear hw6; obtain ⟨hB6', r5, -⟩ := hst; replace hBw := bt hBw hB6'; replace r1 := r1.below hB6' r1.lt; replace r3 := r3.below hB6' r3.lt; clear hB6')
    | (refine stQq (.tmp 7) (.tmp 27) (by rfl) rfl _ _ r rfl rfl (Row.there (Row.new _ _ _) (by simp)) ?_; intro w8 hw8; have hst := hw8.out ▸ storedRowQ w7 _ _ r (by simp); clear hw8; obtain ⟨hB8, r7, -⟩ := hst; replace hBw := bt hBw hB8; replace r1 := r1.below hB8 r1.lt; replace r3 := r3.below hB8 r3.lt; replace r5 := r5.below hB8 r5.lt; clear hB8)
    | (refine stPq (.tmp 11) (.tmp 40) (by rfl) rfl _ _ zeroP rfl rfl (Row.there (Row.new _ _ _) (by simp)) ?_; intro w11 hw11; have hst := hw11.out ▸ storedRowP w10 _ _ zeroP (by simp); clear hw11; obtain ⟨hB11, -, -⟩ := hst; replace hBw := bt hBw hB11; replace r1 := r1.below hB11 r1.lt; replace r3 := r3.below hB11 r3.lt; replace r5 := r5.below hB11 r5.lt; clear hB11)
    | (refine ldA (.tmp 1) (by rfl) rfl _ _ a rfl r1.range ?_)
    | (refine ldA (.tmp 3) (by rfl) rfl _ _ b rfl r3.range ?_)
    | (refine ldQ (.tmp 5) (by rfl) rfl _ _ q rfl r5.range ?_)
    | (refine ldQ (.tmp 7) (by rfl) rfl _ _ r rfl r7.range ?_)
    | (go_at_call 32; refine (hC9 _).mono ?_; rintro e w14 ⟨rfl, hB14⟩; replace hBw := bt hBw hB14; clear hB14 hC9)
    | (go_at_call 12; have hh := HG.out _ hBw; refine (hP8 _ hh.1 hh.2.1 hh.2.2).mono ?_; rintro e w13 ⟨rfl, hB13⟩; replace hBw := bt hBw hB13; replace r1 := r1.below hB13 r1.lt; replace r3 := r3.below hB13 r3.lt; replace r5 := r5.below hB13 r5.lt; have c5 := (LQ.d r5.range).n; rw [hq3] at c5; simp only [Nat.zero_add] at c5; clear hh hP8)
    | (go_at_call 10; refine (hF7 _).mono ?_; rintro e w12 ⟨rfl, hB12⟩; replace hBw := bt hBw hB12; replace r1 := r1.below hB12 r1.lt; replace r3 := r3.below hB12 r3.lt; replace r5 := r5.below hB12 r5.lt; clear hB12 hF7)
    | (go_at_call 14; have hh := HG.out _ hBw; refine (hP5 _ hh.1 hh.2.2).mono ?_; rintro e w10 ⟨rfl, hB10⟩; replace hBw := bt hBw hB10; replace r1 := r1.below hB10 r1.lt; replace r3 := r3.below hB10 r3.lt; replace r5 := r5.below hB10 r5.lt; clear hB10 hh hP5)
    | (have hh7 := r7; refine bsQ (.tmp 32) (.tmp 33) (by rfl) rfl q r rfl rfl ?_; intro w0 hw0; have hT2 := hw0.out ▸ two_pairs hBw q r 53; have hBb : Below w8.heap.size w8 w0 := hw0.out ▸ ba w8 _; have hl0 : w8.heap.size < w0.heap.size := (by rw [hw0.out]; simp); clear hw0; replace hBw := bt hBw hBb; replace r1 := r1.below hBb r1.lt; replace r3 := r3.below hBb r3.lt; replace r5 := r5.below hBb r5.lt; replace r7 := r7.below hBb r7.lt; clear hBb)
    | (go_at_call 36; refine (hB6 w8.heap.size 0 2 _ hT2 hl0 (by decide)).mono ?_; rintro e w9 ⟨rfl, hB9⟩; replace hBw := bt hBw hB9; replace r1 := r1.below hB9 r1.lt; replace r3 := r3.below hB9 r3.lt; replace r5 := r5.below hB9 r5.lt; clear hB9 hB6 hT2 hl0 r7 hh7)
    | (go_at_call 34; have hh5 := r5; have hh := HG.out _ hBw; refine (hP4 _ hh.1 hh.2.2).mono ?_; rintro e w7 ⟨rfl, hB7⟩; replace hBw := bt hBw hB7; replace r1 := r1.below hB7 r1.lt; replace r3 := r3.below hB7 r3.lt; replace r5 := r5.below hB7 r5.lt; clear hB7 hh hP4 hh5)
    | (go_at_call 34; have hh := HG.out _ hBw; refine (hP3 _ hh.1 hh.2.2).mono ?_; rintro e w5 ⟨rfl, hB5⟩; replace hBw := bt hBw hB5; replace r1 := r1.below hB5 r1.lt; replace r3 := r3.below hB5 r3.lt; clear hB5 hh hP3)
    | (go_at_call 7; have hh1 := r1; have hh := HG.out _ hBw; refine (hP2 _ hh.1 hh.2.2).mono ?_; rintro e w3 ⟨rfl, hB3⟩; replace hBw := bt hBw hB3; replace r1 := r1.below hB3 r1.lt; clear hB3 hh hP2 hh1)
    | (go_at_call 7; have hh := HG.out _ hBw; refine (hP1 _ hh.1 hh.2.2).mono ?_; rintro e w1 ⟨rfl, hB1⟩; replace hBw := bt hBw hB1; clear hB1 hh hP1)
    | (go_at_call 9; have hh13 := hB13; refine (hn21 _).mono ?_; rintro e w16 ⟨rfl, rfl⟩)
    | (go_at_call 9; refine (hn0 _).mono ?_; rintro e w15 ⟨rfl, rfl⟩))
  go_ret
  exact ⟨rfl, hBw⟩
end Go.Proofs.YtimpopolkofdgaaGreatDoor
