/-
  The walk of RequestOnce.
-/
import Derived.Test.YtbjclphgabpgoaaOnP
namespace Go.Proofs.Ytbjclphgabpgoaa
open Go.RowKit Go.Maps Go.Shelf
set_option linter.unusedSimpArgs false
set_option linter.unusedVariables false
set_option maxRecDepth 20000
theorem bdDv (s m : Int) (w : World) : (Instr.build 42 #[(0, .int .u16 s), (1, .int .u16 m)]).run Try.prog w = .ok (dV s m) w := by kernel_rfl
set_option maxHeartbeats 16000000 in
theorem once_walk (ad : Option Addr) (c : Nat) (l : List Ac) (p : Pr) (i : Id8) (s : Int) (w : World) (hl : AsW w ad l) (hf : ∀ x ∈ l, AcFit x) (hn : l.length ≤ maxLen) (hp : wfQ p) (hs : 0 ≤ s ∧ s < 65536) :
    Calls Try.prog 6 #[.slice ad l.length c, (Value.agg (qcells p).toArray), idV i, .int .u16 s] w (Gives w (.bool true)) := by
  obtain ⟨hB, r0, r1⟩ := low_rows w (qcells p) (icells i) 38 40
  have HS : Hid (0 ≤ s ∧ s < 65536) := hs
  clear hs
  go_enter Try.func6, Try.ntmps6
  go_upto_region 1 with fail
  refine name_world (R := fun W => Code.wp _ _ _ _ W) (P := fun W => Below w.heap.size w W ∧ Row W w.heap.size 38 (qcells p) ∧ Row W (w.heap.size + 1) 40 (icells i)) _ ⟨hB, r0, r1⟩ ?_
  clear hB r0 r1
  rintro X ⟨hB, r0, r1⟩
  have hlX := hl.below hB
  have HQ : Hid (∀ W, Below X.heap.size X W → LQ W w.heap.size 0 p) := fun W h => (r0.below h r0.lt).range
  have HI : Hid (∀ W, Below X.heap.size X W → LI W (w.heap.size + 1) 0 i) := fun W h => (r1.below h r1.lt).range
  have HB : Hid (∀ W, Below X.heap.size X W → Below w.heap.size w W) := fun W h => bt hB h
  have hR := right_any ad c l X hlX hn
  have hNew := new_any 151 X
  clear r0 r1 hl hB
  go_wp2_with (first
    | (have kk := hb; go_at_call 9; refine (live_any _).mono ?_; rintro e w9 ⟨rfl, k⟩)
    | (have kk := hb; go_at_call 10; refine hNew.mono ?_; rintro e w0 ⟨rfl, tb0, b0⟩)
    | (go_at_call 8; refine hR.mono ?_; rintro e w1 ⟨b, rfl, rfl, hb⟩; cases b))
  · go_ret
    exact ⟨rfl, HB.out _ k⟩
  obtain ⟨hl2, hok⟩ := hb trivial
  clear hR hNew hb hn hok
  obtain ⟨mb, hmb⟩ : ∃ mb, X.heap.size = mb := ⟨_, rfl⟩
  obtain ⟨t, ht⟩ : ∃ t, X.heap.size + 1 = t := ⟨_, rfl⟩
  have HT : Hid (∀ (W W' : World) (L : List Sr), Below X.heap.size X W → Turn W W' t mb 151 L → Below X.heap.size X W') := fun W W' L h k => k.below h (by omega) h.size
  rw [ht, hmb] at tb0
  rw [ht]
  clear ht hmb
  go_loopw [10] (fun u wr => ∃ j : Nat, j ≤ l.length ∧ u = .int .i64 j ∧ Tb wr t mb 151 (onR p (l.take j)) ∧ Below X.heap.size X wr) (fun u _ => l.length - (intOf u).toNat)
  case atStart => exact ⟨0, Nat.zero_le _, rfl, tb0, b0⟩
  case round =>
    clear tb0 b0
    obtain ⟨j, hj, rfl, tb, bX⟩ := hrel
    have hI := onR_ok (p := p) (l := l) j hj
    by_cases hlt : j < l.length
    · have hlr := hlX.below bX
      rcases hlr.lies with h0 | ⟨g, o, rfl, hg, hcs⟩
      · rw [h0] at hlt; simp at hlt
      have hq : LC wr g (o + j * 46) l[j] := hcs j l[j] (List.getElem?_eq_getElem hlt)
      have ha := hf l[j] (List.getElem_mem hlt)
      have HS2 : Hid (onR p (l.take (j + 1)) = onS p (onR p (l.take j)) l[j]) := onR_take hlt
      have hji : (j : Int) < (l.length : Int) := by omega
      have hw64 : wrap64 ((j : Int) + 1) = (j : Int) + 1 := by unfold wrap64; omega
      have HJ : Hid (j + 1 ≤ l.length) := hlt
      have HM : Hid (l.length - ((j : Int) + 1).toNat < l.length - ((j : Int)).toNat) := meas hlt
      have hAsk : ∀ W, Below wr.heap.size wr W → Calls Try.prog 13 #[.pointer (some ⟨t, 0, none⟩), .int .i64 0, (Value.agg (qcells (l[j].p)).toArray), idV l[j].i, .int .u16 l[j].s] W fun e w' => ∃ b z, e = .returned (.tuple #[.bool b, .int .i64 z]) ∧ Tb w' t mb 151 (askL 151 (onR p (l.take j)) 0 l[j].p l[j].i l[j].s) ∧ Below X.heap.size X w' := fun W hW => by
        have := hI.ll
        refine (ask_any (tb.below hW) 0 l[j].p l[j].i l[j].s ha.q (by omega) (by omega) ha.s0 ha.s1 (by omega)).mono ?_
        rintro e w' ⟨rfl, hT⟩
        exact ⟨_, _, rfl, hT.tb, HT.out _ _ _ (bt bX hW) hT⟩
      have ck := hq.k
      have hp0 := HQ.out _ bX
      have hpl : w.heap.size < wr.heap.size := block_lt_of_cell hp0.d.n
      clear hI hcs hlr hf hj hl2
      generalize l[j] = a at *
      clear ha
      obtain ⟨x, hx⟩ : ∃ x, onR p (l.take j) = x := ⟨_, rfl⟩
      rw [hx] at HS2 hAsk tb
      clear hx
      by_cases hk : a.k = 0
      · have hk' : (a.k == 0) = true := by simpa using hk
        have hEQ := fun W => run_neqQ a.p p W
        have gEQ := fun op x y W => guardQ op x y a.p p W
        have HE1 : Hid (qB a.p p = true → onR p (l.take (j + 1)) = x) := fun h => by rw [HS2.out]; unfold onS; rw [if_neg (by rw [h]; simp)]
        have HE0 : Hid (qB a.p p = false → onR p (l.take (j + 1)) = askL 151 x 0 a.p a.i a.s) := fun h => by rw [HS2.out]; unfold onS; rw [if_pos ⟨hk, h⟩]
        clear hk HS2
        generalize qB a.p p = b1 at *
        go_upto_region 9 with fail
        refine wp_region_noPanic ?_
        refine wp_region_held_drew (S := fun W => Below wr.heap.size wr W) (by kernel_rfl) ((Below.refl _ _).drew) (fun hHeld => ?_)
        refine take_lit (i := 0) (v := ?_) rfl (by kernel_rfl) (by kernel_rfl) (by kernel_rfl) (fun _ _ _ h => h) (Or.inl ⟨by rfl, ?_⟩) (by assumption) ?_
        rotate_left
        · (intro w hSw; (try dsimp only at hSw); go_simp <;> with_reducible rfl)
        try simp only [Act.put, List.setIfInBounds_toArray, List.set_cons_zero, List.set_cons_succ]
        refine take_lit (i := 1) (v := ?_) rfl (by kernel_rfl) (by kernel_rfl) (by kernel_rfl) (fun _ _ _ h => h) (Or.inl ⟨by rfl, ?_⟩) (by assumption) ?_
        rotate_left
        · (intro w hSw; (try dsimp only at hSw); go_simp <;> with_reducible rfl)
        try simp only [Act.put, List.setIfInBounds_toArray, List.set_cons_zero, List.set_cons_succ]
        refine take_lit (i := 2) (v := ?_) rfl (by kernel_rfl) (by kernel_rfl) (by kernel_rfl) (fun _ _ _ h => h) (Or.inl ⟨by rfl, ?_⟩) (by assumption) ?_
        rotate_left
        · (intro w hSw; (try dsimp only at hSw); go_simp <;> with_reducible rfl)
        try simp only [Act.put, List.setIfInBounds_toArray, List.set_cons_zero, List.set_cons_succ]
        refine take_lit (i := 3) (v := ?_) rfl (by kernel_rfl) (by kernel_rfl) (by kernel_rfl) (fun _ _ _ h => h) (Or.inl ⟨by rfl, ?_⟩) (by assumption) ?_
        rotate_left
        · (intro w hSw; (try dsimp only at hSw); go_simp <;> with_reducible rfl)
        try simp only [Act.put, List.setIfInBounds_toArray, List.set_cons_zero, List.set_cons_succ]
        refine take_lit (i := 4) (v := ?_) rfl (by kernel_rfl) (by kernel_rfl) (by kernel_rfl) (fun _ _ _ h => h) (Or.inl ⟨by rfl, ?_⟩) (by assumption) ?_
        rotate_left
        · (intro w hSw; (try dsimp only at hSw); have c := (hq.below hSw hg).k; go_simp <;> with_reducible rfl)
        try simp only [Act.put, List.setIfInBounds_toArray, List.set_cons_zero, List.set_cons_succ]
        refine take_lit (i := 5) (v := ?_) rfl (by kernel_rfl) (by kernel_rfl) (by kernel_rfl) (fun _ _ _ h => h) (Or.inl ⟨by rfl, ?_⟩) (by assumption) ?_
        rotate_left
        · (intro w hSw; (try dsimp only at hSw); go_simp <;> with_reducible rfl)
        try simp only [Act.put, List.setIfInBounds_toArray, List.set_cons_zero, List.set_cons_succ]
        refine take_lit (i := 6) (v := ?_) rfl (by kernel_rfl) (by kernel_rfl) (by kernel_rfl) (fun _ _ _ h => h) (Or.inl ⟨by rfl, ?_⟩) (by assumption) ?_
        rotate_left
        · (intro w hSw; (try dsimp only at hSw); go_simp <;> with_reducible rfl)
        try simp only [Act.put, List.setIfInBounds_toArray, List.set_cons_zero, List.set_cons_succ]
        refine take_lit (i := 7) (v := ?_) rfl (by kernel_rfl) (by kernel_rfl) (by kernel_rfl) (fun _ _ _ h => h) (Or.inl ⟨by rfl, ?_⟩) (by assumption) ?_
        rotate_left
        · (intro w hSw; (try dsimp only at hSw); go_simp <;> with_reducible rfl)
        try simp only [Act.put, List.setIfInBounds_toArray, List.set_cons_zero, List.set_cons_succ]
        refine take_lit (i := 8) (v := ?_) rfl (by kernel_rfl) (by kernel_rfl) (by kernel_rfl) (fun _ _ _ h => h) (Or.inl ⟨by rfl, ?_⟩) (by assumption) ?_
        rotate_left
        · (intro w hSw; (try dsimp only at hSw); go_simp <;> with_reducible rfl)
        try simp only [Act.put, List.setIfInBounds_toArray, List.set_cons_zero, List.set_cons_succ]
        refine take_lit (i := 9) (v := ?_) rfl (by kernel_rfl) (by kernel_rfl) (by kernel_rfl) (fun _ _ _ h => h) (Or.inl ⟨by rfl, ?_⟩) (by assumption) ?_
        rotate_left
        · (intro w hSw; (try dsimp only at hSw); go_simp <;> with_reducible rfl)
        try simp only [Act.put, List.setIfInBounds_toArray, List.set_cons_zero, List.set_cons_succ]
        refine take_lit (i := 10) (v := ?_) rfl (by kernel_rfl) (by kernel_rfl) (by kernel_rfl) (fun _ _ _ h => h) (Or.inl ⟨by rfl, ?_⟩) (by assumption) ?_
        rotate_left
        · (intro w hSw; (try dsimp only at hSw); go_simp <;> with_reducible rfl)
        try simp only [Act.put, List.setIfInBounds_toArray, List.set_cons_zero, List.set_cons_succ]
        refine take_lit (i := 11) rfl (by kernel_rfl) (by kernel_rfl) (by kernel_rfl) (fun _ _ _ h => h) (yQ a.p (fun w h => (hq.below h hg).p) (by rfl) rfl rfl) (by assumption) ?_
        try simp only [Act.put, List.setIfInBounds_toArray, List.set_cons_zero, List.set_cons_succ]
        refine take_lit (i := 12) rfl (by kernel_rfl) (by kernel_rfl) (by kernel_rfl) (fun _ _ _ h => h) (yQ p (fun w h => hp0.below h hpl) (by rfl) rfl rfl) (by assumption) ?_
        try simp only [Act.put, List.setIfInBounds_toArray, List.set_cons_zero, List.set_cons_succ]
        refine take_lit (i := 13) (v := ?_) rfl (by kernel_rfl) (by kernel_rfl) (by kernel_rfl) (fun _ _ _ h => h) (Or.inl ⟨by rfl, ?_⟩) (by assumption) ?_
        rotate_left
        · (intro w hSw; (try dsimp only at hSw); have z := hEQ w; have z2 := fun op x y => gEQ op x y w; go_simp <;> with_reducible rfl)
        try simp only [Act.put, List.setIfInBounds_toArray, List.set_cons_zero, List.set_cons_succ]
        refine take_lit (i := 14) (v := ?_) rfl (by kernel_rfl) (by kernel_rfl) (by kernel_rfl) (fun _ _ _ h => h) (Or.inl ⟨by rfl, ?_⟩) (by assumption) ?_
        rotate_left
        · (intro w hSw; (try dsimp only at hSw); go_simp <;> with_reducible rfl)
        try simp only [Act.put, List.setIfInBounds_toArray, List.set_cons_zero, List.set_cons_succ]
        refine wpAnyH_done (by kernel_rfl) ?_ _
        refine NoPanic.normal ?_
        clear hEQ gEQ ck hp0 hpl
        refine name_world (R := fun W => Exit.then _ _ _ _ W) (P := fun W => Below wr.heap.size wr W) _ hHeld ?_
        clear hHeld
        intro W5 hHeld
        have hq5 := hq.below hHeld hg
        have hg5 : g < W5.heap.size := Nat.lt_of_lt_of_le hg hHeld.size
        have tb5 := tb.below hHeld
        have b5 := bt bX hHeld
        have hAsk5 := fun W (h : Below W5.heap.size W5 W) => hAsk W (bt hHeld h)
        clear hAsk hq tb bX hHeld
        cases b1 with
        | true =>
          have HE := HE1.out rfl
          clear HE1 HE0 hAsk5
          go_wp2_with fail
          go_roundw
          case rel => exact ⟨j + 1, HJ.out, by first | rfl | go_num, by rw [HE]; exact tb5, b5⟩
          case measure => first | (rw [hw64]; simp only [intOf]; exact HM.out) | (simp only [intOf]; exact HM.out)
        | false =>
          have HE := HE0.out rfl
          clear HE1 HE0 tb5 b5
          go_upto_region 10 with fail
          refine wp_region_noPanic ?_
          refine wp_region_N (S := fun W => Below W5.heap.size W5 W) 17 (by kernel_rfl) ((Below.refl _ _).drew) (fun hHeld => ?_)
          refine takeN_lit (i := 0) (v := ?_) (F := #[false, true, true, true, true, true, true, true, true, true, true, true, true, true, true, true, true, false]) rfl (by kernel_rfl) (by kernel_rfl) (by kernel_rfl) (by kernel_rfl) (fun _ _ _ h => h) (Or.inl ⟨by rfl, ?_⟩) (by assumption) ?_
          rotate_left
          · (intro w hSw; (try dsimp only at hSw); go_simp <;> with_reducible rfl)
          try simp only [Act.put, List.setIfInBounds_toArray, List.set_cons_zero, List.set_cons_succ]
          refine takeN_lit (i := 1) (v := ?_) (F := #[true, false, true, false, false, false, true, true, true, true, true, true, true, true, true, true, true, false]) rfl (by kernel_rfl) (by kernel_rfl) (by kernel_rfl) (by kernel_rfl) (fun _ _ _ h => h) (Or.inl ⟨by rfl, ?_⟩) (by assumption) ?_
          rotate_left
          · (intro w hSw; (try dsimp only at hSw); go_simp <;> with_reducible rfl)
          try simp only [Act.put, List.setIfInBounds_toArray, List.set_cons_zero, List.set_cons_succ]
          refine takeN_lit (i := 2) (v := ?_) (F := #[true, true, false, false, false, false, true, true, true, true, true, true, true, true, true, true, true, false]) rfl (by kernel_rfl) (by kernel_rfl) (by kernel_rfl) (by kernel_rfl) (fun _ _ _ h => h) (Or.inl ⟨by rfl, ?_⟩) (by assumption) ?_
          rotate_left
          · (intro w hSw; (try dsimp only at hSw); go_simp <;> with_reducible rfl)
          try simp only [Act.put, List.setIfInBounds_toArray, List.set_cons_zero, List.set_cons_succ]
          refine takeN_lit (i := 3) (v := ?_) (F := #[true, true, true, false, false, false, true, true, true, true, true, true, true, true, true, true, true, false]) rfl (by kernel_rfl) (by kernel_rfl) (by kernel_rfl) (by kernel_rfl) (fun _ _ _ h => h) (Or.inl ⟨by rfl, ?_⟩) (by assumption) ?_
          rotate_left
          · (intro w hSw; (try dsimp only at hSw); go_simp <;> with_reducible rfl)
          try simp only [Act.put, List.setIfInBounds_toArray, List.set_cons_zero, List.set_cons_succ]
          refine takeN_lit (i := 4) (v := ?_) (F := #[true, true, true, true, false, false, true, true, true, true, true, true, true, true, true, true, true, false]) rfl (by kernel_rfl) (by kernel_rfl) (by kernel_rfl) (by kernel_rfl) (fun _ _ _ h => h) (Or.inl ⟨by rfl, ?_⟩) (by assumption) ?_
          rotate_left
          · (intro w hSw; (try dsimp only at hSw); go_simp <;> with_reducible rfl)
          try simp only [Act.put, List.setIfInBounds_toArray, List.set_cons_zero, List.set_cons_succ]
          refine takeN_lit (i := 5) (F := #[true, true, true, true, true, false, true, true, true, true, true, true, true, true, true, true, true, false]) rfl (by kernel_rfl) (by kernel_rfl) (by kernel_rfl) (by kernel_rfl) (fun _ _ _ h => h) (yQ a.p (fun w h => (hq5.below h hg5).p) (by rfl) rfl rfl) (by assumption) ?_
          try simp only [Act.put, List.setIfInBounds_toArray, List.set_cons_zero, List.set_cons_succ]
          refine takeN_lit (i := 6) (v := ?_) (F := #[true, true, true, true, true, true, false, true, false, false, false, true, true, true, true, true, true, false]) rfl (by kernel_rfl) (by kernel_rfl) (by kernel_rfl) (by kernel_rfl) (fun _ _ _ h => h) (Or.inl ⟨by rfl, ?_⟩) (by assumption) ?_
          rotate_left
          · (intro w hSw; (try dsimp only at hSw); go_simp <;> with_reducible rfl)
          try simp only [Act.put, List.setIfInBounds_toArray, List.set_cons_zero, List.set_cons_succ]
          refine takeN_lit (i := 7) (v := ?_) (F := #[true, true, true, true, true, true, true, false, false, false, false, true, true, true, true, true, true, false]) rfl (by kernel_rfl) (by kernel_rfl) (by kernel_rfl) (by kernel_rfl) (fun _ _ _ h => h) (Or.inl ⟨by rfl, ?_⟩) (by assumption) ?_
          rotate_left
          · (intro w hSw; (try dsimp only at hSw); go_simp <;> with_reducible rfl)
          try simp only [Act.put, List.setIfInBounds_toArray, List.set_cons_zero, List.set_cons_succ]
          refine takeN_lit (i := 8) (v := ?_) (F := #[true, true, true, true, true, true, true, true, false, false, false, true, true, true, true, true, true, false]) rfl (by kernel_rfl) (by kernel_rfl) (by kernel_rfl) (by kernel_rfl) (fun _ _ _ h => h) (Or.inl ⟨by rfl, ?_⟩) (by assumption) ?_
          rotate_left
          · (intro w hSw; (try dsimp only at hSw); go_simp <;> with_reducible rfl)
          try simp only [Act.put, List.setIfInBounds_toArray, List.set_cons_zero, List.set_cons_succ]
          refine takeN_lit (i := 9) (v := ?_) (F := #[true, true, true, true, true, true, true, true, true, false, false, true, true, true, true, true, true, false]) rfl (by kernel_rfl) (by kernel_rfl) (by kernel_rfl) (by kernel_rfl) (fun _ _ _ h => h) (Or.inl ⟨by rfl, ?_⟩) (by assumption) ?_
          rotate_left
          · (intro w hSw; (try dsimp only at hSw); go_simp <;> with_reducible rfl)
          try simp only [Act.put, List.setIfInBounds_toArray, List.set_cons_zero, List.set_cons_succ]
          refine takeN_lit (i := 10) (F := #[true, true, true, true, true, true, true, true, true, true, false, true, true, true, true, true, true, false]) rfl (by kernel_rfl) (by kernel_rfl) (by kernel_rfl) (by kernel_rfl) (fun _ _ _ h => h) (yI a.i (fun w h => (hq5.below h hg5).i) (by rfl) rfl rfl) (by assumption) ?_
          try simp only [Act.put, List.setIfInBounds_toArray, List.set_cons_zero, List.set_cons_succ]
          refine takeN_lit (i := 11) (v := ?_) (F := #[true, true, true, true, true, true, true, true, true, true, true, false, true, false, false, false, false, false]) rfl (by kernel_rfl) (by kernel_rfl) (by kernel_rfl) (by kernel_rfl) (fun _ _ _ h => h) (Or.inl ⟨by rfl, ?_⟩) (by assumption) ?_
          rotate_left
          · (intro w hSw; (try dsimp only at hSw); go_simp <;> with_reducible rfl)
          try simp only [Act.put, List.setIfInBounds_toArray, List.set_cons_zero, List.set_cons_succ]
          refine takeN_lit (i := 12) (v := ?_) (F := #[true, true, true, true, true, true, true, true, true, true, true, true, false, false, false, false, false, false]) rfl (by kernel_rfl) (by kernel_rfl) (by kernel_rfl) (by kernel_rfl) (fun _ _ _ h => h) (Or.inl ⟨by rfl, ?_⟩) (by assumption) ?_
          rotate_left
          · (intro w hSw; (try dsimp only at hSw); go_simp <;> with_reducible rfl)
          try simp only [Act.put, List.setIfInBounds_toArray, List.set_cons_zero, List.set_cons_succ]
          refine takeN_lit (i := 13) (v := ?_) (F := #[true, true, true, true, true, true, true, true, true, true, true, true, true, false, false, false, false, false]) rfl (by kernel_rfl) (by kernel_rfl) (by kernel_rfl) (by kernel_rfl) (fun _ _ _ h => h) (Or.inl ⟨by rfl, ?_⟩) (by assumption) ?_
          rotate_left
          · (intro w hSw; (try dsimp only at hSw); go_simp <;> with_reducible rfl)
          try simp only [Act.put, List.setIfInBounds_toArray, List.set_cons_zero, List.set_cons_succ]
          refine takeN_lit (i := 14) (v := ?_) (F := #[true, true, true, true, true, true, true, true, true, true, true, true, true, true, false, false, false, false]) rfl (by kernel_rfl) (by kernel_rfl) (by kernel_rfl) (by kernel_rfl) (fun _ _ _ h => h) (Or.inl ⟨by rfl, ?_⟩) (by assumption) ?_
          rotate_left
          · (intro w hSw; (try dsimp only at hSw); go_simp <;> with_reducible rfl)
          try simp only [Act.put, List.setIfInBounds_toArray, List.set_cons_zero, List.set_cons_succ]
          refine takeN_lit (i := 15) (v := ?_) (F := #[true, true, true, true, true, true, true, true, true, true, true, true, true, true, true, false, false, false]) rfl (by kernel_rfl) (by kernel_rfl) (by kernel_rfl) (by kernel_rfl) (fun _ _ _ h => h) (Or.inl ⟨by rfl, ?_⟩) (by assumption) ?_
          rotate_left
          · (intro w hSw; (try dsimp only at hSw); go_simp <;> with_reducible rfl)
          try simp only [Act.put, List.setIfInBounds_toArray, List.set_cons_zero, List.set_cons_succ]
          refine takeN_lit (i := 16) (v := ?_) (F := #[true, true, true, true, true, true, true, true, true, true, true, true, true, true, true, true, false, false]) rfl (by kernel_rfl) (by kernel_rfl) (by kernel_rfl) (by kernel_rfl) (fun _ _ _ h => h) (Or.inl ⟨by rfl, ?_⟩) (by assumption) ?_
          rotate_left
          · (intro w hSw; (try dsimp only at hSw); have c := (hq5.below hSw hg5).s; go_simp <;> with_reducible rfl)
          try simp only [Act.put, List.setIfInBounds_toArray, List.set_cons_zero, List.set_cons_succ]
          refine wpAnyN_ready (rs := [17]) (by kernel_rfl) (by simp) ?_
          refine consN_lit rfl (fun K hK => ?_) ?_
          · go_simp
            refine (hAsk5 _ hHeld).mono ?_
            rintro e w2 ⟨b2, z2, rfl, tb2, b2'⟩
            refine hK.out _ _ (Or.inl rfl) (fun _ => ?_)
            clear hK K
            try simp only [Act.put, List.setIfInBounds_toArray, List.set_cons_zero, List.set_cons_succ]
            refine wpAnyN_done (by kernel_rfl) ?_ _
            refine NoPanic.normal ?_
            clear hAsk5 hHeld
            go_wp2_with fail
            go_roundw
            case rel => exact ⟨j + 1, HJ.out, by first | rfl | go_num, by rw [HE]; exact tb2, b2'⟩
            case measure => first | (rw [hw64]; simp only [intOf]; exact HM.out) | (simp only [intOf]; exact HM.out)
          exact AllReadyN.nil
      · have hk' : (a.k == 0) = false := by simpa using hk
        have HE : Hid (onR p (l.take (j + 1)) = x) := by show _ = _; rw [HS2.out]; unfold onS; rw [if_neg (fun h => hk h.1)]
        clear hk HS2 hAsk
        go_upto_region 9 with fail
        refine wp_region_noPanic ?_
        refine wp_region_held_drew (S := fun W => Below wr.heap.size wr W) (by kernel_rfl) ((Below.refl _ _).drew) (fun hHeld => ?_)
        refine take_lit (i := 0) (v := ?_) rfl (by kernel_rfl) (by kernel_rfl) (by kernel_rfl) (fun _ _ _ h => h) (Or.inl ⟨by rfl, ?_⟩) (by assumption) ?_
        rotate_left
        · (intro w hSw; (try dsimp only at hSw); go_simp <;> with_reducible rfl)
        try simp only [Act.put, List.setIfInBounds_toArray, List.set_cons_zero, List.set_cons_succ]
        refine take_lit (i := 1) (v := ?_) rfl (by kernel_rfl) (by kernel_rfl) (by kernel_rfl) (fun _ _ _ h => h) (Or.inl ⟨by rfl, ?_⟩) (by assumption) ?_
        rotate_left
        · (intro w hSw; (try dsimp only at hSw); go_simp <;> with_reducible rfl)
        try simp only [Act.put, List.setIfInBounds_toArray, List.set_cons_zero, List.set_cons_succ]
        refine take_lit (i := 2) (v := ?_) rfl (by kernel_rfl) (by kernel_rfl) (by kernel_rfl) (fun _ _ _ h => h) (Or.inl ⟨by rfl, ?_⟩) (by assumption) ?_
        rotate_left
        · (intro w hSw; (try dsimp only at hSw); go_simp <;> with_reducible rfl)
        try simp only [Act.put, List.setIfInBounds_toArray, List.set_cons_zero, List.set_cons_succ]
        refine take_lit (i := 3) (v := ?_) rfl (by kernel_rfl) (by kernel_rfl) (by kernel_rfl) (fun _ _ _ h => h) (Or.inl ⟨by rfl, ?_⟩) (by assumption) ?_
        rotate_left
        · (intro w hSw; (try dsimp only at hSw); go_simp <;> with_reducible rfl)
        try simp only [Act.put, List.setIfInBounds_toArray, List.set_cons_zero, List.set_cons_succ]
        refine take_lit (i := 4) (v := ?_) rfl (by kernel_rfl) (by kernel_rfl) (by kernel_rfl) (fun _ _ _ h => h) (Or.inl ⟨by rfl, ?_⟩) (by assumption) ?_
        rotate_left
        · (intro w hSw; (try dsimp only at hSw); have c := (hq.below hSw hg).k; go_simp <;> with_reducible rfl)
        try simp only [Act.put, List.setIfInBounds_toArray, List.set_cons_zero, List.set_cons_succ]
        refine take_lit (i := 5) (v := ?_) rfl (by kernel_rfl) (by kernel_rfl) (by kernel_rfl) (fun _ _ _ h => h) (Or.inl ⟨by rfl, ?_⟩) (by assumption) ?_
        rotate_left
        · (intro w hSw; (try dsimp only at hSw); go_simp <;> with_reducible rfl)
        try simp only [Act.put, List.setIfInBounds_toArray, List.set_cons_zero, List.set_cons_succ]
        refine take_lit (i := 6) (v := ?_) rfl (by kernel_rfl) (by kernel_rfl) (by kernel_rfl) (fun _ _ _ h => h) (Or.inl ⟨by rfl, ?_⟩) (by assumption) ?_
        rotate_left
        · (intro w hSw; (try dsimp only at hSw); go_simp <;> with_reducible rfl)
        try simp only [Act.put, List.setIfInBounds_toArray, List.set_cons_zero, List.set_cons_succ]
        refine take_lit (i := 7) rfl (by kernel_rfl) (by kernel_rfl) (by kernel_rfl) (fun _ _ _ h => h) (Or.inr ⟨by rfl, rfl⟩) (by assumption) ?_
        try simp only [Act.put, List.setIfInBounds_toArray, List.set_cons_zero, List.set_cons_succ]
        refine take_lit (i := 8) rfl (by kernel_rfl) (by kernel_rfl) (by kernel_rfl) (fun _ _ _ h => h) (Or.inr ⟨by rfl, rfl⟩) (by assumption) ?_
        try simp only [Act.put, List.setIfInBounds_toArray, List.set_cons_zero, List.set_cons_succ]
        refine take_lit (i := 9) rfl (by kernel_rfl) (by kernel_rfl) (by kernel_rfl) (fun _ _ _ h => h) (Or.inr ⟨by rfl, rfl⟩) (by assumption) ?_
        try simp only [Act.put, List.setIfInBounds_toArray, List.set_cons_zero, List.set_cons_succ]
        refine take_lit (i := 10) rfl (by kernel_rfl) (by kernel_rfl) (by kernel_rfl) (fun _ _ _ h => h) (Or.inr ⟨by rfl, rfl⟩) (by assumption) ?_
        try simp only [Act.put, List.setIfInBounds_toArray, List.set_cons_zero, List.set_cons_succ]
        refine take_lit (i := 11) rfl (by kernel_rfl) (by kernel_rfl) (by kernel_rfl) (fun _ _ _ h => h) (Or.inr ⟨by rfl, rfl⟩) (by assumption) ?_
        try simp only [Act.put, List.setIfInBounds_toArray, List.set_cons_zero, List.set_cons_succ]
        refine take_lit (i := 12) rfl (by kernel_rfl) (by kernel_rfl) (by kernel_rfl) (fun _ _ _ h => h) (Or.inr ⟨by rfl, rfl⟩) (by assumption) ?_
        try simp only [Act.put, List.setIfInBounds_toArray, List.set_cons_zero, List.set_cons_succ]
        refine take_lit (i := 13) rfl (by kernel_rfl) (by kernel_rfl) (by kernel_rfl) (fun _ _ _ h => h) (Or.inr ⟨by rfl, rfl⟩) (by assumption) ?_
        try simp only [Act.put, List.setIfInBounds_toArray, List.set_cons_zero, List.set_cons_succ]
        refine take_lit (i := 14) (v := ?_) rfl (by kernel_rfl) (by kernel_rfl) (by kernel_rfl) (fun _ _ _ h => h) (Or.inl ⟨by rfl, ?_⟩) (by assumption) ?_
        rotate_left
        · (intro w hSw; (try dsimp only at hSw); go_simp <;> with_reducible rfl)
        try simp only [Act.put, List.setIfInBounds_toArray, List.set_cons_zero, List.set_cons_succ]
        refine wpAnyH_done (by kernel_rfl) ?_ _
        refine NoPanic.normal ?_
        have tb5 := tb.below hHeld
        have b5 := bt bX hHeld
        clear ck hp0 hpl hHeld tb bX hq
        go_wp2_with fail
        go_roundw
        case rel => exact ⟨j + 1, HJ.out, by first | rfl | go_num, by rw [HE.out]; exact tb5, b5⟩
        case measure => first | (rw [hw64]; simp only [intOf]; exact HM.out) | (simp only [intOf]; exact HM.out)
    · have hjl : j = l.length := by omega
      subst hjl
      rw [List.take_length] at *
      have HO : Hid (OnI p 150 (onR p l)) := ⟨Nat.le_trans hI.ll hl2, hI.np⟩
      generalize onR p l = L at *
      obtain ⟨m, hm⟩ : ∃ m, L.length = m := ⟨_, rfl⟩
      have hm1 : m ≤ 150 := by rw [← hm]; exact HO.out.ll
      have hwm : wrap64 ((m : Int) + 1) = (m : Int) + 1 := by unfold wrap64; omega
      have hLm : Hid (L.length = m) := hm
      clear hI hj hlt hf hl2 hlX hm hm1
      go_upto_region 12 with (go_at_call 25; refine (on_list0 tb hLm.out).mono ?_; rintro e w1 ⟨a1, c1, rfl, k1⟩; have s1 := tb.below k1; replace bX := bt bX k1)
      go_upto_region 13 with (first
        | (have kk := s1; go_at_call 13; refine (on_ask s1 HO.out hp 0 (by omega) (by omega) s HS.out.1 HS.out.2).mono ?_; rintro e w2 ⟨rfl, hT2⟩; have s2 := hT2.tb; replace bX := HT.out _ _ _ bX hT2)
        | (have kk := s1; (with_reducible refine ldI (.tmp 6) ?_ ?_ (w.heap.size + 1) 0 i ?_ ?_ ?_); (focus rfl); (focus rfl); (focus (repeat (first | with_reducible refine ev_ne ?_ rfl | with_reducible refine ev_no ?_ | (with_reducible refine ev_eq (n := 173) ?_ rfl; repeat (first | with_reducible refine sz_put ?_ | with_reducible refine sz_no ?_ | rfl)) | rfl))); (focus exact HI.out _ bX))
        | (have kk := s1; (with_reducible refine ldQ (.tmp 5) ?_ ?_ w.heap.size 0 p ?_ ?_ ?_); (focus rfl); (focus rfl); (focus (repeat (first | with_reducible refine ev_ne ?_ rfl | with_reducible refine ev_no ?_ | (with_reducible refine ev_eq (n := 173) ?_ rfl; repeat (first | with_reducible refine sz_put ?_ | with_reducible refine sz_no ?_ | rfl)) | rfl))); (focus exact HQ.out _ bX)))
      go_upto_region 14 with (first
        | (have kk := s2; go_at_call 13; refine (on_vain s2 HO.out hp 1 (by omega) (by omega) s HS.out.1 HS.out.2 (less_self' s)).mono ?_; rintro e w3 ⟨rfl, hT3⟩; have s3 := hT3.tb; replace bX := HT.out _ _ _ bX hT3)
        | (have kk := s2; (with_reducible refine ldI (.tmp 6) ?_ ?_ (w.heap.size + 1) 0 i ?_ ?_ ?_); (focus rfl); (focus rfl); (focus (repeat (first | with_reducible refine ev_ne ?_ rfl | with_reducible refine ev_no ?_ | (with_reducible refine ev_eq (n := 173) ?_ rfl; repeat (first | with_reducible refine sz_put ?_ | with_reducible refine sz_no ?_ | rfl)) | rfl))); (focus exact HI.out _ bX))
        | (have kk := s2; (with_reducible refine ldQ (.tmp 5) ?_ ?_ w.heap.size 0 p ?_ ?_ ?_); (focus rfl); (focus rfl); (focus (repeat (first | with_reducible refine ev_ne ?_ rfl | with_reducible refine ev_no ?_ | (with_reducible refine ev_eq (n := 173) ?_ rfl; repeat (first | with_reducible refine sz_put ?_ | with_reducible refine sz_no ?_ | rfl)) | rfl))); (focus exact HQ.out _ bX)))
      go_upto_region 15 with (first
        | (have kk := s3; go_at_call 13; refine (on_vain s3 HO.out hp 1 (by omega) (by omega) (IntKind.u16.wrap (s - 1)) (wrap_bd _).1 (wrap_bd _).2 (less_back s)).mono ?_; rintro e w4 ⟨rfl, hT4⟩; have s4 := hT4.tb; replace bX := HT.out _ _ _ bX hT4)
        | (have kk := s3; (with_reducible refine ldI (.tmp 6) ?_ ?_ (w.heap.size + 1) 0 i ?_ ?_ ?_); (focus rfl); (focus rfl); (focus (repeat (first | with_reducible refine ev_ne ?_ rfl | with_reducible refine ev_no ?_ | (with_reducible refine ev_eq (n := 173) ?_ rfl; repeat (first | with_reducible refine sz_put ?_ | with_reducible refine sz_no ?_ | rfl)) | rfl))); (focus exact HI.out _ bX))
        | (have kk := s3; (with_reducible refine ldQ (.tmp 5) ?_ ?_ w.heap.size 0 p ?_ ?_ ?_); (focus rfl); (focus rfl); (focus (repeat (first | with_reducible refine ev_ne ?_ rfl | with_reducible refine ev_no ?_ | (with_reducible refine ev_eq (n := 173) ?_ rfl; repeat (first | with_reducible refine sz_put ?_ | with_reducible refine sz_no ?_ | rfl)) | rfl))); (focus exact HQ.out _ bX)))
      go_upto_region 16 with (first
        | (have kk := s4; go_at_call 16; refine (on_unmet s4 HO.out hp s 65535 (met_inf s)).mono ?_; rintro e w5 ⟨rfl, hT5⟩; have s5 := hT5.tb; replace bX := HT.out _ _ _ bX hT5)
        | (have kk := s4; (with_reducible refine bdG (T := 42) (v := dV s 65535) [(0, .tmp 100), (1, .const (.int .u16 65535))] ?_ ?_ ?_ ?_); (focus rfl); (focus rfl); (focus exact bdDv _ _ _))
        | (have kk := s4; (with_reducible refine ldI (.tmp 6) ?_ ?_ (w.heap.size + 1) 0 i ?_ ?_ ?_); (focus rfl); (focus rfl); (focus (repeat (first | with_reducible refine ev_ne ?_ rfl | with_reducible refine ev_no ?_ | (with_reducible refine ev_eq (n := 173) ?_ rfl; repeat (first | with_reducible refine sz_put ?_ | with_reducible refine sz_no ?_ | rfl)) | rfl))); (focus exact HI.out _ bX))
        | (have kk := s4; (with_reducible refine ldQ (.tmp 5) ?_ ?_ w.heap.size 0 p ?_ ?_ ?_); (focus rfl); (focus rfl); (focus (repeat (first | with_reducible refine ev_ne ?_ rfl | with_reducible refine ev_no ?_ | (with_reducible refine ev_eq (n := 173) ?_ rfl; repeat (first | with_reducible refine sz_put ?_ | with_reducible refine sz_no ?_ | rfl)) | rfl))); (focus exact HQ.out _ bX)))
      go_upto_region 17 with (first
        | (have kk := s5; go_at_call 16; refine (on_unmet s5 HO.out hp (IntKind.u16.wrap (s - 1)) 1 (met_back s HS.out.1 HS.out.2)).mono ?_; rintro e w6 ⟨rfl, hT6⟩; have s6 := hT6.tb; replace bX := HT.out _ _ _ bX hT6)
        | (have kk := s5; (with_reducible refine bdG (T := 42) (v := dV (IntKind.u16.wrap (s - 1)) 1) [(0, .tmp 107), (1, .const (.int .u16 1))] ?_ ?_ ?_ ?_); (focus rfl); (focus rfl); (focus exact bdDv _ _ _))
        | (have kk := s5; (with_reducible refine ldI (.tmp 6) ?_ ?_ (w.heap.size + 1) 0 i ?_ ?_ ?_); (focus rfl); (focus rfl); (focus (repeat (first | with_reducible refine ev_ne ?_ rfl | with_reducible refine ev_no ?_ | (with_reducible refine ev_eq (n := 173) ?_ rfl; repeat (first | with_reducible refine sz_put ?_ | with_reducible refine sz_no ?_ | rfl)) | rfl))); (focus exact HI.out _ bX))
        | (have kk := s5; (with_reducible refine ldQ (.tmp 5) ?_ ?_ w.heap.size 0 p ?_ ?_ ?_); (focus rfl); (focus rfl); (focus (repeat (first | with_reducible refine ev_ne ?_ rfl | with_reducible refine ev_no ?_ | (with_reducible refine ev_eq (n := 173) ?_ rfl; repeat (first | with_reducible refine sz_put ?_ | with_reducible refine sz_no ?_ | rfl)) | rfl))); (focus exact HQ.out _ bX)))
      go_upto_region 18 with (first
        | (have kk := s6; go_at_call 16; refine (on_met s6 HO.out hp s 1 (met_self s)).mono ?_; rintro e w7 ⟨rfl, hT7⟩; have s7 := hT7.tb; replace bX := HT.out _ _ _ bX hT7)
        | (have kk := s6; (with_reducible refine bdG (T := 42) (v := dV s 1) [(0, .tmp 113), (1, .const (.int .u16 1))] ?_ ?_ ?_ ?_); (focus rfl); (focus rfl); (focus exact bdDv _ _ _))
        | (have kk := s6; (with_reducible refine ldI (.tmp 6) ?_ ?_ (w.heap.size + 1) 0 i ?_ ?_ ?_); (focus rfl); (focus rfl); (focus (repeat (first | with_reducible refine ev_ne ?_ rfl | with_reducible refine ev_no ?_ | (with_reducible refine ev_eq (n := 173) ?_ rfl; repeat (first | with_reducible refine sz_put ?_ | with_reducible refine sz_no ?_ | rfl)) | rfl))); (focus exact HI.out _ bX))
        | (have kk := s6; (with_reducible refine ldQ (.tmp 5) ?_ ?_ w.heap.size 0 p ?_ ?_ ?_); (focus rfl); (focus rfl); (focus (repeat (first | with_reducible refine ev_ne ?_ rfl | with_reducible refine ev_no ?_ | (with_reducible refine ev_eq (n := 173) ?_ rfl; repeat (first | with_reducible refine sz_put ?_ | with_reducible refine sz_no ?_ | rfl)) | rfl))); (focus exact HQ.out _ bX)))
      go_upto_region 19 with (first
        | (have kk := s7; go_at_call 13; refine (on_ask s7 HO.out hp 2 (by omega) (by omega) (IntKind.u16.wrap (s - 1)) (wrap_bd _).1 (wrap_bd _).2).mono ?_; rintro e w8 ⟨rfl, hT8⟩; have s8 := hT8.tb; replace bX := HT.out _ _ _ bX hT8)
        | (have kk := s7; (with_reducible refine ldI (.tmp 6) ?_ ?_ (w.heap.size + 1) 0 i ?_ ?_ ?_); (focus rfl); (focus rfl); (focus (repeat (first | with_reducible refine ev_ne ?_ rfl | with_reducible refine ev_no ?_ | (with_reducible refine ev_eq (n := 173) ?_ rfl; repeat (first | with_reducible refine sz_put ?_ | with_reducible refine sz_no ?_ | rfl)) | rfl))); (focus exact HI.out _ bX))
        | (have kk := s7; (with_reducible refine ldQ (.tmp 5) ?_ ?_ w.heap.size 0 p ?_ ?_ ?_); (focus rfl); (focus rfl); (focus (repeat (first | with_reducible refine ev_ne ?_ rfl | with_reducible refine ev_no ?_ | (with_reducible refine ev_eq (n := 173) ?_ rfl; repeat (first | with_reducible refine sz_put ?_ | with_reducible refine sz_no ?_ | rfl)) | rfl))); (focus exact HQ.out _ bX)))
      clear hT2 hT3 hT4 hT5 hT6 hT7 s1 s2 s3 s4 s5 s6 s7
      go_wp2_with (first
        | (have kk := s10; go_at_call 9; refine (live_any _).mono ?_; rintro e w12 ⟨rfl, k12⟩; replace bX := bt bX k12)
        | (have kk := s10; go_at_call 25; refine (on_list0 s10 hLm.out).mono ?_; rintro e w11 ⟨a11, c11, rfl, k11⟩; replace bX := bt bX k11)
        | (have kk := r52; go_at_call 18; refine (on_forget s9 rfl HO.out hp r52).mono ?_; rintro e w10 ⟨rfl, hT10⟩; have s10 := hT10.tb; replace bX := HT.out _ _ _ bX hT10; clear r52)
        | (have kk := s9; (with_reducible refine bsG (T := 82) (U := 38) (n := 1) [(0, .tmp 158)] (qcells p) ?_ ?_ ?_ ?_); (focus rfl); (focus rfl); (focus exact (fun w => bsQ1 p w)); intro W6 r52 b6; replace bX := bt bX b6; replace s9 := s9.below b6)
        | (have kk := s9; (with_reducible refine ldQ (.tmp 5) ?_ ?_ w.heap.size 0 p ?_ ?_ ?_); (focus rfl); (focus rfl); (focus (repeat (first | with_reducible refine ev_ne ?_ rfl | with_reducible refine ev_no ?_ | (with_reducible refine ev_eq (n := 173) ?_ rfl; repeat (first | with_reducible refine sz_put ?_ | with_reducible refine sz_no ?_ | rfl)) | rfl))); (focus exact HQ.out _ bX))
        | (have kk := s8; go_at_call 25; refine (on_list s8 hLm.out).mono ?_; rintro e w9 ⟨a9, c9, rfl, k9⟩; have s9 := s8.below k9; replace bX := bt bX k9; clear s8))
      go_ret
      exact ⟨by first | rfl | simp, HB.out _ bX⟩
end Go.Proofs.Ytbjclphgabpgoaa
