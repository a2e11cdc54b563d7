/-
  The walk of RequestEnds.
-/
import Derived.Test.YtbjclphgabpgoaaEnP
namespace Go.Proofs.Ytbjclphgabpgoaa
open Go.RowKit Go.Maps Go.Shelf
set_option linter.unusedSimpArgs false
set_option linter.unusedVariables false
set_option maxRecDepth 20000
set_option maxHeartbeats 16000000 in
theorem ends_walk (most : Int) (ad : Option Addr) (c : Nat) (l : List Ac) (p : Pr) (i : Id8) (s : Int) (w : World) (hl : AsW w ad l) (hf : ∀ x ∈ l, AcFit x) (hn : l.length ≤ maxLen) (hp : wfQ p) (hs : 0 ≤ s ∧ s < 65536) :
    Calls Try.prog 4 #[.int .i64 most, .slice ad l.length c, (Value.agg (qcells p).toArray), idV i, .int .u16 s] w (Gives w (.bool true)) := by
  obtain ⟨hB, r0, r1⟩ := low_rows w (qcells p) (icells i) 38 40
  have HS : Hid (0 ≤ s ∧ s < 65536) := hs
  clear hs
  go_enter Try.func4, Try.ntmps4
  go_upto_region 1 with fail
  refine name_world (R := fun W => Code.wp _ _ _ _ W) (P := fun W => Below w.heap.size w W ∧ Row W w.heap.size 38 (qcells p) ∧ Row W (w.heap.size + 1) 40 (icells i)) _ ⟨hB, r0, r1⟩ ?_
  clear hB r0 r1
  rintro X ⟨hB, r0, r1⟩
  have hlX := hl.below hB
  have HQ : Hid (∀ W, Below X.heap.size X W → LQ W w.heap.size 0 p) := fun W h => (r0.below h r0.lt).range
  have HI : Hid (∀ W, Below X.heap.size X W → LI W (w.heap.size + 1) 0 i) := fun W h => (r1.below h r1.lt).range
  have HB : Hid (∀ W, Below X.heap.size X W → Below w.heap.size w W) := fun W h => bt hB h
  have hR := right_any ad c l X hlX hn
  have hNew := new_any most X
  clear r0 r1 hl hB
  by_cases hm0 : most < 1
  · go_wp2_with (first
      | (have kk := hb; go_at_call 9; refine (live_any _).mono ?_; rintro e w9 ⟨rfl, k⟩)
      | (go_at_call 8; refine hR.mono ?_; rintro e w1 ⟨b, rfl, rfl, hb⟩; cases b))
    all_goals (go_ret; exact ⟨rfl, HB.out _ k⟩)
  by_cases hm1 : 150 < most
  · go_wp2_with (first
      | (have kk := hb; go_at_call 9; refine (live_any _).mono ?_; rintro e w9 ⟨rfl, k⟩)
      | (go_at_call 8; refine hR.mono ?_; rintro e w1 ⟨b, rfl, rfl, hb⟩; cases b))
    all_goals (go_ret; exact ⟨rfl, HB.out _ k⟩)
  obtain ⟨mb, hmb⟩ : ∃ mb, X.heap.size = mb := ⟨_, rfl⟩
  obtain ⟨t, ht⟩ : ∃ t, X.heap.size + 1 = t := ⟨_, rfl⟩
  have HT : Hid (∀ (W W' : World) (L : List Sr), Below X.heap.size X W → Turn W W' t mb most L → Below X.heap.size X W') := fun W W' L h k => k.below h (by omega) h.size
  have HMo : Hid (1 ≤ most ∧ most ≤ 150) := by show _ ∧ _; omega
  have hNew' : Calls Try.prog 10 #[.int .i64 most] X fun e w' => e = .returned (.pointer (some ⟨t, 0, none⟩)) ∧ Tb w' t mb most [] ∧ Below X.heap.size X w' := by rw [← ht, ← hmb]; exact hNew
  clear hNew ht hmb
  go_upto_region 10 with (first
    | (have kk := s0; go_at_call 13; refine (en_ask s0 HMo.out.1 hp HS.out.1 HS.out.2).mono ?_; rintro e w2 ⟨rfl, hT2⟩; have s2 := hT2.tb; replace bX := HT.out _ _ _ bX hT2)
    | (have kk := s0; (with_reducible refine ldI (.tmp 8) ?_ ?_ (w.heap.size + 1) 0 i ?_ ?_ ?_); (focus rfl); (focus rfl); (focus (repeat (first | with_reducible refine ev_ne ?_ rfl | with_reducible refine ev_no ?_ | (with_reducible refine ev_eq (n := 137) ?_ rfl; repeat (first | with_reducible refine sz_put ?_ | with_reducible refine sz_no ?_ | rfl)) | rfl))); (focus exact HI.out _ bX))
    | (have kk := s0; (with_reducible refine ldQ (.tmp 7) ?_ ?_ w.heap.size 0 p ?_ ?_ ?_); (focus rfl); (focus rfl); (focus (repeat (first | with_reducible refine ev_ne ?_ rfl | with_reducible refine ev_no ?_ | (with_reducible refine ev_eq (n := 137) ?_ rfl; repeat (first | with_reducible refine sz_put ?_ | with_reducible refine sz_no ?_ | rfl)) | rfl))); (focus exact HQ.out _ bX))
    | (have kk := hb; go_at_call 9; refine (live_any _).mono ?_; rintro e w9 ⟨rfl, k⟩)
    | (have kk := hb; go_at_call 10; refine hNew'.mono ?_; rintro e w0 ⟨rfl, s0, bX⟩)
    | (go_at_call 8; refine hR.mono ?_; rintro e w1 ⟨b, rfl, rfl, hb⟩; cases b))
  · go_ret
    exact ⟨rfl, HB.out _ k⟩
  obtain ⟨hl2, hok⟩ := hb trivial
  clear hR hNew' hb hn s0 hT2 hm0 hm1
  go_wp2_with ((with_reducible refine bdG (T := 61) (v := .agg #[.int .i64 2000, .int .i64 6000, .int .i64 14000, .int .i64 30000]) [(0, .const (.int .i64 2000)), (1, .const (.int .i64 6000)), (2, .const (.int .i64 14000)), (3, .const (.int .i64 30000))] ?_ ?_ ?_ ?_); (focus rfl); (focus rfl); (focus exact bd4 _))
  go_loopw [14, 50] (fun u v wr => ∃ (z n : Int) (L : List Sr), v = .int .i64 z ∧ u = .int .i64 n ∧ Tb wr t mb most L ∧ Below X.heap.size X wr ∧ (z = 0 ∧ n = 1 ∧ L = [en0 p i s] ∨ z = 1 ∧ n = 2 ∧ L = [en1 p i s] ∨ z = 2 ∧ n = 3 ∧ L = [en2 p i s] ∨ z = 3 ∧ n = 4 ∧ L = [en3 p i s] ∨ z = 4 ∧ n = 4 ∧ L = [])) (fun _ v _ => 4 - (intOf v).toNat)
  case atStart => exact ⟨0, _, _, rfl, rfl, s2, bX, .inl ⟨rfl, rfl, rfl⟩⟩
  case round =>
    clear s2 bX
    obtain ⟨z, n, L, rfl, rfl, tb, bX, ⟨rfl, rfl, rfl⟩ | ⟨rfl, rfl, rfl⟩ | ⟨rfl, rfl, rfl⟩ | ⟨rfl, rfl, rfl⟩ | ⟨rfl, rfl, rfl⟩⟩ := hrel
    ·
        have tb0 : Tb wr t mb most [en0 p i s] := tb
        clear tb
        have hix : ∀ W, (Instr.index 61 (.agg #[.int .i64 2000, .int .i64 6000, .int .i64 14000, .int .i64 30000]) (.int .i64 0)).run Try.prog W = .ok (.int .i64 2000) W := fun W => by kernel_rfl
        go_upto_region 14 with (go_at_call 20; refine (en_none tb0 1999 (by omega) (by omega) (by simp) (by intro n hn; rw [List.mem_singleton.1 hn]; show (1999 : Int) < 2000; omega)).mono ?_; rintro e w3 ⟨a1, c1, a2, c2, rfl, hT3⟩; have s3 := hT3.tb; replace bX := HT.out _ _ _ bX hT3)
        go_upto_region 15 with (go_at_call 20; refine (en_again s3 2000 (by omega) (by omega) (by show (2000 : Int) ≤ 2000; omega) (by show ¬ (1 : Int) = 4; omega) (n' := en1 p i s) rfl).mono ?_; rintro e w4 ⟨a3, c3, a4, c4, rfl, hT4⟩; have s4 := hT4.tb; replace bX := HT.out _ _ _ bX hT4)
        clear hT3 hT4 s3 tb0 hix
        go_wp2_with fail
        go_roundw
        case rel => exact ⟨1, _, _, by first | rfl | go_num, by first | rfl | go_num, s4, bX, .inr (.inl ⟨rfl, rfl, rfl⟩)⟩
        case measure => first | (simp [intOf]; done) | (simp only [intOf]; omega) | decide
    ·
        have tb0 : Tb wr t mb most [en1 p i s] := tb
        clear tb
        have hix : ∀ W, (Instr.index 61 (.agg #[.int .i64 2000, .int .i64 6000, .int .i64 14000, .int .i64 30000]) (.int .i64 1)).run Try.prog W = .ok (.int .i64 6000) W := fun W => by kernel_rfl
        go_upto_region 14 with (go_at_call 20; refine (en_none tb0 5999 (by omega) (by omega) (by simp) (by intro n hn; rw [List.mem_singleton.1 hn]; show (5999 : Int) < 6000; omega)).mono ?_; rintro e w3 ⟨a1, c1, a2, c2, rfl, hT3⟩; have s3 := hT3.tb; replace bX := HT.out _ _ _ bX hT3)
        go_upto_region 15 with (go_at_call 20; refine (en_again s3 6000 (by omega) (by omega) (by show (6000 : Int) ≤ 6000; omega) (by show ¬ (2 : Int) = 4; omega) (n' := en2 p i s) rfl).mono ?_; rintro e w4 ⟨a3, c3, a4, c4, rfl, hT4⟩; have s4 := hT4.tb; replace bX := HT.out _ _ _ bX hT4)
        clear hT3 hT4 s3 tb0 hix
        go_wp2_with fail
        go_roundw
        case rel => exact ⟨2, _, _, by first | rfl | go_num, by first | rfl | go_num, s4, bX, .inr (.inr (.inl ⟨rfl, rfl, rfl⟩))⟩
        case measure => first | (simp [intOf]; done) | (simp only [intOf]; omega) | decide
    ·
        have tb0 : Tb wr t mb most [en2 p i s] := tb
        clear tb
        have hix : ∀ W, (Instr.index 61 (.agg #[.int .i64 2000, .int .i64 6000, .int .i64 14000, .int .i64 30000]) (.int .i64 2)).run Try.prog W = .ok (.int .i64 14000) W := fun W => by kernel_rfl
        go_upto_region 14 with (go_at_call 20; refine (en_none tb0 13999 (by omega) (by omega) (by simp) (by intro n hn; rw [List.mem_singleton.1 hn]; show (13999 : Int) < 14000; omega)).mono ?_; rintro e w3 ⟨a1, c1, a2, c2, rfl, hT3⟩; have s3 := hT3.tb; replace bX := HT.out _ _ _ bX hT3)
        go_upto_region 15 with (go_at_call 20; refine (en_again s3 14000 (by omega) (by omega) (by show (14000 : Int) ≤ 14000; omega) (by show ¬ (3 : Int) = 4; omega) (n' := en3 p i s) rfl).mono ?_; rintro e w4 ⟨a3, c3, a4, c4, rfl, hT4⟩; have s4 := hT4.tb; replace bX := HT.out _ _ _ bX hT4)
        clear hT3 hT4 s3 tb0 hix
        go_wp2_with fail
        go_roundw
        case rel => exact ⟨3, _, _, by first | rfl | go_num, by first | rfl | go_num, s4, bX, .inr (.inr (.inr (.inl ⟨rfl, rfl, rfl⟩)))⟩
        case measure => first | (simp [intOf]; done) | (simp only [intOf]; omega) | decide
    ·
        have tb0 : Tb wr t mb most [en3 p i s] := tb
        clear tb
        have hix : ∀ W, (Instr.index 61 (.agg #[.int .i64 2000, .int .i64 6000, .int .i64 14000, .int .i64 30000]) (.int .i64 3)).run Try.prog W = .ok (.int .i64 30000) W := fun W => by kernel_rfl
        go_upto_region 14 with (go_at_call 20; refine (en_none tb0 29999 (by omega) (by omega) (by simp) (by intro n hn; rw [List.mem_singleton.1 hn]; show (29999 : Int) < 30000; omega)).mono ?_; rintro e w3 ⟨a1, c1, a2, c2, rfl, hT3⟩; have s3 := hT3.tb; replace bX := HT.out _ _ _ bX hT3)
        go_upto_region 15 with (go_at_call 20; refine (en_gone s3 30000 (by omega) (by omega) (by show (30000 : Int) ≤ 30000; omega) rfl).mono ?_; rintro e w4 ⟨a3, c3, a4, c4, rfl, hT4⟩; have s4 := hT4.tb; replace bX := HT.out _ _ _ bX hT4)
        clear hT3 hT4 s3 tb0 hix
        go_wp2_with fail
        go_roundw
        case rel => exact ⟨4, _, _, by first | rfl | go_num, by first | rfl | go_num, s4, bX, .inr (.inr (.inr (.inr (⟨rfl, rfl, rfl⟩))))⟩
        case measure => first | (simp [intOf]; done) | (simp only [intOf]; omega) | decide
    ·
        have tb0 : Tb wr t mb most [] := tb
        clear tb
        go_upto_region 21 with (go_at_call 25; refine (list_len tb0).mono ?_; rintro e w5 ⟨a5, c5, rfl, k5⟩; have s5 := tb0.below k5; replace bX := bt bX k5)
        clear tb0 k5
        go_wp2_with fail
        go_loopw [21, 22] (fun v u wr => ∃ j : Nat, j ≤ l.length ∧ u = .int .i64 j ∧ v = .int .i64 (ensR most (l.take j)).1 ∧ Tb wr t mb most (ensR most (l.take j)).2 ∧ Below X.heap.size X wr) (fun _ u _ => l.length - (intOf u).toNat)
        case atStart => exact ⟨0, Nat.zero_le _, rfl, rfl, s5, bX⟩
        case round =>
          clear s5 bX
          obtain ⟨j, hj, rfl, rfl, tb, bX⟩ := hrel
          have hI := ensR_ok (most := most) (by have := HMo.out; omega) hok j hj
          by_cases hlt : j < l.length
          · have hlr := hlX.below bX
            rcases hlr.lies with h0 | ⟨g, o, rfl, hg, hcs⟩
            · rw [h0] at hlt; simp at hlt
            have hq : LC wr g (o + j * 46) l[j] := hcs j l[j] (List.getElem?_eq_getElem hlt)
            have ha := hf l[j] (List.getElem_mem hlt)
            have hI2 := ensR_ok (most := most) (by have := HMo.out; omega) hok (j + 1) hlt
            have HS2 : Hid (ensR most (l.take (j + 1)) = ensS most (ensR most (l.take j)) l[j]) := ensR_take hlt
            have hji : (j : Int) < (l.length : Int) := by omega
            have hw64 : wrap64 ((j : Int) + 1) = (j : Int) + 1 := by unfold wrap64; omega
            have HJ : Hid (j + 1 ≤ l.length) := hlt
            have HM : Hid (l.length - ((j : Int) + 1).toNat < l.length - ((j : Int)).toNat) := meas hlt
            have hG := hok l[j] (List.getElem_mem hlt)
            have hw2 : wrap64 ((ensR most (l.take j)).1 + l[j].g) = (ensR most (l.take j)).1 + l[j].g := by
              have := hI.t0; have := hI.t1; have := hG.1; have := hG.2
              unfold wrap64; omega
            have hAsk : ∀ W, Below wr.heap.size wr W → Calls Try.prog 13 #[.pointer (some ⟨t, 0, none⟩), .int .i64 ((ensR most (l.take j)).1 + l[j].g), (Value.agg (qcells (l[j].p)).toArray), idV l[j].i, .int .u16 l[j].s] W fun e w' => ∃ b z, e = .returned (.tuple #[.bool b, .int .i64 z]) ∧ Tb w' t mb most (askL most (ensR most (l.take j)).2 ((ensR most (l.take j)).1 + l[j].g) l[j].p l[j].i l[j].s) ∧ Below X.heap.size X w' := fun W hW => by
              have := hI.t0; have := hI.t1; have := hG.1; have := hG.2; have := hI.ll; have := HMo.out
              refine (ask_any (tb.below hW) _ l[j].p l[j].i l[j].s ha.q (by omega) (by omega) ha.s0 ha.s1 (by omega)).mono ?_
              rintro e w' ⟨rfl, hT⟩
              exact ⟨_, _, rfl, hT.tb, HT.out _ _ _ (bt bX hW) hT⟩
            have ck := hq.k
            have cg := hq.g
            have HL2 := hI2.ll
            clear hI2 hI hcs hlr hok hf hj hl2
            generalize l[j] = a at *
            clear hG ha
            obtain ⟨x, hx⟩ : ∃ x, ensR most (l.take j) = x := ⟨_, rfl⟩
            rw [hx] at HS2 hw2 hAsk tb
            rw [show ensR most (l.take j) = x from hx]
            clear hx
            by_cases hk : a.k = 0
            · have hk' : (a.k == 0) = true := by simpa using hk
              have HE : Hid (ensR most (l.take (j + 1)) = (x.1 + a.g, askL most x.2 (x.1 + a.g) a.p a.i a.s)) := by show _ = _; rw [HS2.out]; unfold ensS; rw [if_pos hk]
              rw [HE.out] at HL2
              have hle : ¬ most < ((askL most x.2 (x.1 + a.g) a.p a.i a.s).length : Int) := by
                have h3 : ((askL most x.2 (x.1 + a.g) a.p a.i a.s).length : Int) ≤ most := HL2
                omega
              clear hk HS2 HL2
              go_upto_region 27 with fail
              refine wp_region_noPanic ?_
              refine wp_region_N (S := fun W => Below wr.heap.size wr W) 18 (by kernel_rfl) ((Below.refl _ _).drew) (fun hHeld => ?_)
              refine takeN_lit (i := 0) (v := ?_) (F := #[false, true, true, true, true, true, true, true, true, true, true, true, true, true, true, true, true, true, false]) rfl (by kernel_rfl) (by kernel_rfl) (by kernel_rfl) (by kernel_rfl) (fun _ _ _ h => h) (Or.inl ⟨by rfl, ?_⟩) (by assumption) ?_
              rotate_left
              · (intro w hSw; (try dsimp only at hSw); go_simp <;> with_reducible rfl)
              try simp only [Act.put, List.setIfInBounds_toArray, List.set_cons_zero, List.set_cons_succ]
              refine takeN_lit (i := 1) (v := ?_) (F := #[true, false, true, true, true, true, true, true, true, true, true, true, true, true, true, true, true, true, false]) rfl (by kernel_rfl) (by kernel_rfl) (by kernel_rfl) (by kernel_rfl) (fun _ _ _ h => h) (Or.inl ⟨by rfl, ?_⟩) (by assumption) ?_
              rotate_left
              · (intro w hSw; (try dsimp only at hSw); go_simp <;> with_reducible rfl)
              try simp only [Act.put, List.setIfInBounds_toArray, List.set_cons_zero, List.set_cons_succ]
              refine takeN_lit (i := 2) (v := ?_) (F := #[true, true, false, true, false, false, false, true, true, true, true, true, true, true, true, true, true, true, false]) rfl (by kernel_rfl) (by kernel_rfl) (by kernel_rfl) (by kernel_rfl) (fun _ _ _ h => h) (Or.inl ⟨by rfl, ?_⟩) (by assumption) ?_
              rotate_left
              · (intro w hSw; (try dsimp only at hSw); go_simp <;> with_reducible rfl)
              try simp only [Act.put, List.setIfInBounds_toArray, List.set_cons_zero, List.set_cons_succ]
              refine takeN_lit (i := 3) (v := ?_) (F := #[true, true, true, false, false, false, false, true, true, true, true, true, true, true, true, true, true, true, false]) rfl (by kernel_rfl) (by kernel_rfl) (by kernel_rfl) (by kernel_rfl) (fun _ _ _ h => h) (Or.inl ⟨by rfl, ?_⟩) (by assumption) ?_
              rotate_left
              · (intro w hSw; (try dsimp only at hSw); go_simp <;> with_reducible rfl)
              try simp only [Act.put, List.setIfInBounds_toArray, List.set_cons_zero, List.set_cons_succ]
              refine takeN_lit (i := 4) (v := ?_) (F := #[true, true, true, true, false, false, false, true, true, true, true, true, true, true, true, true, true, true, false]) rfl (by kernel_rfl) (by kernel_rfl) (by kernel_rfl) (by kernel_rfl) (fun _ _ _ h => h) (Or.inl ⟨by rfl, ?_⟩) (by assumption) ?_
              rotate_left
              · (intro w hSw; (try dsimp only at hSw); go_simp <;> with_reducible rfl)
              try simp only [Act.put, List.setIfInBounds_toArray, List.set_cons_zero, List.set_cons_succ]
              refine takeN_lit (i := 5) (v := ?_) (F := #[true, true, true, true, true, false, false, true, true, true, true, true, true, true, true, true, true, true, false]) rfl (by kernel_rfl) (by kernel_rfl) (by kernel_rfl) (by kernel_rfl) (fun _ _ _ h => h) (Or.inl ⟨by rfl, ?_⟩) (by assumption) ?_
              rotate_left
              · (intro w hSw; (try dsimp only at hSw); go_simp <;> with_reducible rfl)
              try simp only [Act.put, List.setIfInBounds_toArray, List.set_cons_zero, List.set_cons_succ]
              refine takeN_lit (i := 6) (F := #[true, true, true, true, true, true, false, true, true, true, true, true, true, true, true, true, true, true, false]) rfl (by kernel_rfl) (by kernel_rfl) (by kernel_rfl) (by kernel_rfl) (fun _ _ _ h => h) (yQ a.p (fun w h => (hq.below h hg).p) (by rfl) rfl rfl) (by assumption) ?_
              try simp only [Act.put, List.setIfInBounds_toArray, List.set_cons_zero, List.set_cons_succ]
              refine takeN_lit (i := 7) (v := ?_) (F := #[true, true, true, true, true, true, true, false, true, false, false, false, true, true, true, true, true, true, false]) rfl (by kernel_rfl) (by kernel_rfl) (by kernel_rfl) (by kernel_rfl) (fun _ _ _ h => h) (Or.inl ⟨by rfl, ?_⟩) (by assumption) ?_
              rotate_left
              · (intro w hSw; (try dsimp only at hSw); go_simp <;> with_reducible rfl)
              try simp only [Act.put, List.setIfInBounds_toArray, List.set_cons_zero, List.set_cons_succ]
              refine takeN_lit (i := 8) (v := ?_) (F := #[true, true, true, true, true, true, true, true, false, false, false, false, true, true, true, true, true, true, false]) rfl (by kernel_rfl) (by kernel_rfl) (by kernel_rfl) (by kernel_rfl) (fun _ _ _ h => h) (Or.inl ⟨by rfl, ?_⟩) (by assumption) ?_
              rotate_left
              · (intro w hSw; (try dsimp only at hSw); go_simp <;> with_reducible rfl)
              try simp only [Act.put, List.setIfInBounds_toArray, List.set_cons_zero, List.set_cons_succ]
              refine takeN_lit (i := 9) (v := ?_) (F := #[true, true, true, true, true, true, true, true, true, false, false, false, true, true, true, true, true, true, false]) rfl (by kernel_rfl) (by kernel_rfl) (by kernel_rfl) (by kernel_rfl) (fun _ _ _ h => h) (Or.inl ⟨by rfl, ?_⟩) (by assumption) ?_
              rotate_left
              · (intro w hSw; (try dsimp only at hSw); go_simp <;> with_reducible rfl)
              try simp only [Act.put, List.setIfInBounds_toArray, List.set_cons_zero, List.set_cons_succ]
              refine takeN_lit (i := 10) (v := ?_) (F := #[true, true, true, true, true, true, true, true, true, true, false, false, true, true, true, true, true, true, false]) rfl (by kernel_rfl) (by kernel_rfl) (by kernel_rfl) (by kernel_rfl) (fun _ _ _ h => h) (Or.inl ⟨by rfl, ?_⟩) (by assumption) ?_
              rotate_left
              · (intro w hSw; (try dsimp only at hSw); go_simp <;> with_reducible rfl)
              try simp only [Act.put, List.setIfInBounds_toArray, List.set_cons_zero, List.set_cons_succ]
              refine takeN_lit (i := 11) (F := #[true, true, true, true, true, true, true, true, true, true, true, false, true, true, true, true, true, true, false]) rfl (by kernel_rfl) (by kernel_rfl) (by kernel_rfl) (by kernel_rfl) (fun _ _ _ h => h) (yI a.i (fun w h => (hq.below h hg).i) (by rfl) rfl rfl) (by assumption) ?_
              try simp only [Act.put, List.setIfInBounds_toArray, List.set_cons_zero, List.set_cons_succ]
              refine takeN_lit (i := 12) (v := ?_) (F := #[true, true, true, true, true, true, true, true, true, true, true, true, false, true, false, false, false, false, false]) rfl (by kernel_rfl) (by kernel_rfl) (by kernel_rfl) (by kernel_rfl) (fun _ _ _ h => h) (Or.inl ⟨by rfl, ?_⟩) (by assumption) ?_
              rotate_left
              · (intro w hSw; (try dsimp only at hSw); go_simp <;> with_reducible rfl)
              try simp only [Act.put, List.setIfInBounds_toArray, List.set_cons_zero, List.set_cons_succ]
              refine takeN_lit (i := 13) (v := ?_) (F := #[true, true, true, true, true, true, true, true, true, true, true, true, true, false, false, false, false, false, false]) rfl (by kernel_rfl) (by kernel_rfl) (by kernel_rfl) (by kernel_rfl) (fun _ _ _ h => h) (Or.inl ⟨by rfl, ?_⟩) (by assumption) ?_
              rotate_left
              · (intro w hSw; (try dsimp only at hSw); go_simp <;> with_reducible rfl)
              try simp only [Act.put, List.setIfInBounds_toArray, List.set_cons_zero, List.set_cons_succ]
              refine takeN_lit (i := 14) (v := ?_) (F := #[true, true, true, true, true, true, true, true, true, true, true, true, true, true, false, false, false, false, false]) rfl (by kernel_rfl) (by kernel_rfl) (by kernel_rfl) (by kernel_rfl) (fun _ _ _ h => h) (Or.inl ⟨by rfl, ?_⟩) (by assumption) ?_
              rotate_left
              · (intro w hSw; (try dsimp only at hSw); go_simp <;> with_reducible rfl)
              try simp only [Act.put, List.setIfInBounds_toArray, List.set_cons_zero, List.set_cons_succ]
              refine takeN_lit (i := 15) (v := ?_) (F := #[true, true, true, true, true, true, true, true, true, true, true, true, true, true, true, false, false, false, false]) rfl (by kernel_rfl) (by kernel_rfl) (by kernel_rfl) (by kernel_rfl) (fun _ _ _ h => h) (Or.inl ⟨by rfl, ?_⟩) (by assumption) ?_
              rotate_left
              · (intro w hSw; (try dsimp only at hSw); go_simp <;> with_reducible rfl)
              try simp only [Act.put, List.setIfInBounds_toArray, List.set_cons_zero, List.set_cons_succ]
              refine takeN_lit (i := 16) (v := ?_) (F := #[true, true, true, true, true, true, true, true, true, true, true, true, true, true, true, true, false, false, false]) rfl (by kernel_rfl) (by kernel_rfl) (by kernel_rfl) (by kernel_rfl) (fun _ _ _ h => h) (Or.inl ⟨by rfl, ?_⟩) (by assumption) ?_
              rotate_left
              · (intro w hSw; (try dsimp only at hSw); go_simp <;> with_reducible rfl)
              try simp only [Act.put, List.setIfInBounds_toArray, List.set_cons_zero, List.set_cons_succ]
              refine takeN_lit (i := 17) (v := ?_) (F := #[true, true, true, true, true, true, true, true, true, true, true, true, true, true, true, true, true, false, false]) rfl (by kernel_rfl) (by kernel_rfl) (by kernel_rfl) (by kernel_rfl) (fun _ _ _ h => h) (Or.inl ⟨by rfl, ?_⟩) (by assumption) ?_
              rotate_left
              · (intro w hSw; (try dsimp only at hSw); have c := (hq.below hSw hg).s; go_simp <;> with_reducible rfl)
              try simp only [Act.put, List.setIfInBounds_toArray, List.set_cons_zero, List.set_cons_succ]
              refine wpAnyN_ready (rs := [18]) (by kernel_rfl) (by simp) ?_
              refine consN_lit rfl (fun K hK => ?_) ?_
              · go_simp
                refine (hAsk _ hHeld).mono ?_
                rintro e w2 ⟨b2, z2, rfl, tb2, b2'⟩
                refine hK.out _ _ (Or.inl rfl) (fun _ => ?_)
                clear hK K
                try simp only [Act.put, List.setIfInBounds_toArray, List.set_cons_zero, List.set_cons_succ]
                refine wpAnyN_done (by kernel_rfl) ?_ _
                refine NoPanic.normal ?_
                clear hAsk hHeld tb bX ck cg hq
                go_wp2_with (go_at_call 25; refine (list_len tb2).mono ?_; rintro e w6 ⟨a6, c6, rfl, k6⟩; have s6 := tb2.below k6; have b6 := bt b2' k6)
                go_roundw
                case rel => exact ⟨j + 1, HJ.out, by first | rfl | go_num, by rw [HE.out] <;> first | rfl | exact congrArg (Value.int .i64) hw2, by rw [HE.out]; exact s6, b6⟩
                case measure => first | (rw [hw64]; simp only [intOf]; exact HM.out) | (simp only [intOf]; exact HM.out)
              exact AllReadyN.nil
            · have hk' : (a.k == 0) = false := by simpa using hk
              have HE : Hid (ensR most (l.take (j + 1)) = (x.1 + a.g, x.2)) := by show _ = _; rw [HS2.out]; unfold ensS; rw [if_neg hk]
              rw [HE.out] at HL2
              have hle : ¬ most < ((x.2).length : Int) := by
                have h3 : ((x.2).length : Int) ≤ most := HL2
                omega
              clear hk HS2 hAsk HL2
              go_wp2_with (go_at_call 25; refine (list_len tb).mono ?_; rintro e w6 ⟨a6, c6, rfl, k6⟩; have s6 := tb.below k6; have b6 := bt bX k6)
              go_roundw
              case rel => exact ⟨j + 1, HJ.out, by first | rfl | go_num, by rw [HE.out] <;> first | rfl | exact congrArg (Value.int .i64) hw2, by rw [HE.out]; exact s6, b6⟩
              case measure => first | (rw [hw64]; simp only [intOf]; exact HM.out) | (simp only [intOf]; exact HM.out)
          · have hjl : j = l.length := by omega
            subst hjl
            clear hI hj hlt hf hl2 hlX hok tb
            go_wp2_with (go_at_call 9; refine (live_any _).mono ?_; rintro e w12 ⟨rfl, k12⟩; replace bX := bt bX k12)
            go_ret
            exact ⟨by first | rfl | simp, HB.out _ bX⟩
end Go.Proofs.Ytbjclphgabpgoaa
