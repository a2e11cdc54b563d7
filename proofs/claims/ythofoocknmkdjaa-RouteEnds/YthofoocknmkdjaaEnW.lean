/-
  The walk of RouteEnds.
-/
import Derived.Test.YthofoocknmkdjaaXV
namespace Go.Proofs.Ythofoocknmkdjaa
open Go.RowKit Go.Maps Go.Shelf
set_option linter.unusedSimpArgs false
set_option linter.unusedVariables false
set_option maxRecDepth 20000
set_option maxHeartbeats 16000000 in
theorem ends_walk (ad : Option Addr) (c : Nat) (l : List Ac) (rt : Bool) (w : World) (hl : AsW w ad l) (hf : ∀ x ∈ l, AcFit x) (hn : l.length ≤ maxLen) :
    Calls Try.prog 5 #[.slice ad l.length c, .bool rt] w (Gives w (.bool true)) := by
  have hR := right_any ad c l w hl hn
  have hNew := new_any 150 w
  go_enter Try.func5, Try.ntmps5
  go_wp2_with (first
    | (have kk := hb; go_at_call 10; refine (live_any _).mono ?_; rintro e w9 ⟨rfl, k⟩)
    | (have kk := hb; go_at_call 11; refine hNew.mono ?_; rintro e w0 ⟨rfl, tb0, b0⟩)
    | (go_at_call 9; refine hR.mono ?_; rintro e w1 ⟨b, rfl, rfl, hb⟩; cases b))
  · go_ret
    exact ⟨rfl, k⟩
  obtain ⟨hl2, hok⟩ := hb trivial
  clear hR hNew hb hn
  obtain ⟨mb, hmb⟩ : ∃ mb, w.heap.size = mb := ⟨_, rfl⟩
  obtain ⟨t, ht⟩ : ∃ t, w.heap.size + 1 = t := ⟨_, rfl⟩
  have HT : Hid (∀ (W W' : World) (L : List Ro), Below w.heap.size w W → Turn W W' t mb 150 L → Below w.heap.size w W') := fun W W' L h k => k.below h (by omega) h.size
  rw [ht, hmb] at tb0
  rw [ht]
  clear ht hmb
  go_loopw [6, 7, 8] (fun v m u wr => ∃ (j : Nat) (now mx : Int) (L : List Ro), j ≤ l.length ∧ u = .int .i64 j ∧ v = .int .i64 now ∧ m = .int .i64 mx ∧ Tb wr t mb 150 L ∧ EnP j now mx L ∧ Below w.heap.size w wr) (fun _ _ u _ => l.length - (intOf u).toNat)
  case atStart => exact ⟨0, 0, 0, [], Nat.zero_le _, rfl, rfl, rfl, tb0, ⟨by decide, by decide, by decide, by decide, Nat.le_refl _, fun n hn => by cases hn⟩, b0⟩
  case round =>
    clear tb0 b0
    obtain ⟨j, now, mx, L, hj, rfl, rfl, rfl, tb, hI, bX⟩ := hrel
    by_cases hlt : j < l.length
    · have hlr := hl.below bX
      rcases hlr.lies with h0 | ⟨g, o, rfl, hg, hcs⟩
      · rw [h0] at hlt; simp at hlt
      have hq : LC wr g (o + j * 84) l[j] := hcs j l[j] (List.getElem?_eq_getElem hlt)
      have ha := hf l[j] (List.getElem_mem hlt)
      have hji : (j : Int) < (l.length : Int) := by omega
      have hw64 : wrap64 ((j : Int) + 1) = (j : Int) + 1 := by unfold wrap64; omega
      have hG := hok l[j] (List.getElem_mem hlt)
      have hw2 : wrap64 (now + l[j].g) = now + l[j].g := by
        have := hI.t0; have := hI.t1; have := hG.1; have := hG.2
        unfold wrap64; omega
      have hTell : ∀ W, Below wr.heap.size wr W → Calls Try.prog 26 #[.pointer (some ⟨t, 0, none⟩), .int .i64 (now + l[j].g), rV l[j].r, .bool l[j].o] W fun e w' => ∃ z, e = .returned z ∧ Tb w' t mb 150 (tellR 150 L (now + l[j].g) l[j].r l[j].o).2.2 ∧ Below w.heap.size w w' := fun W hW => by
        have := hI.t0; have := hI.t1; have := hG.1; have := hG.2; have := hI.ll
        refine (tell_any (tb.below hW) l[j].r _ l[j].o (by omega) (by omega) ha.w ha.f (by omega)).mono ?_
        rintro e w' ⟨rfl, hT⟩
        exact ⟨_, rfl, hT.tb, HT.out _ _ _ (bt bX hW) hT⟩
      have HE1 : Hid (EnP (j + 1) (now + l[j].g) mx L) := hI.gap _ hG.1 hG.2
      have HE2 : Hid (EnP (j + 1) (now + l[j].g) (max mx (min l[j].r.d 2147483648)) (tellR 150 L (now + l[j].g) l[j].r l[j].o).2.2) := hI.tell _ hG.1 hG.2 _ _ fun h => by unfold tellR; rw [if_pos (.inl h)]
      have HJ : Hid (j + 1 ≤ l.length) := hlt
      have HM : Hid (l.length - ((j : Int) + 1).toNat < l.length - ((j : Int)).toNat) := meas hlt
      have ck := hq.k
      have cg := hq.g
      have co := fun W (h : Below wr.heap.size wr W) => (h.cell (p := ⟨g, o + j * 84 + 83, none⟩) hg).trans hq.ok
      have hg0 : g < w.heap.size := by
        rcases hl.lies with h0 | ⟨g', o', e, hg', _⟩
        · rw [h0] at hlt; simp at hlt
        · cases e; exact hg'
      have cd : Hid (∀ W, Below w.heap.size w W → W.cell? ⟨g, o + j * 84 + 2 + 79, none⟩ = some (.int .i64 l[j].r.d)) := fun W h => by
        rcases hl.lies with h0 | ⟨g', o', e, hg', hc'⟩
        · rw [h0] at hlt; simp at hlt
        · cases e
          exact (h.cell (p := ⟨g, o + j * 84 + 2 + 79, none⟩) hg0).trans (hc' j _ (List.getElem?_eq_getElem hlt)).r.d
      clear hI hcs hlr hok hf hj hl2
      generalize l[j]'hlt = x at *
      clear ha hG
      have hqd := hq
      by_cases hk : x.k = 0
      · have hk' : (x.k == 0) = true := by simpa using hk
        clear hk HE1
        go_upto_region 12 with fail
        refine wp_region_noPanic ?_
        refine wp_region_N (S := fun W => Below wr.heap.size wr W) 12 (by kernel_rfl) ((Below.refl _ _).drew) (fun hHeld => ?_)
        refine takeN_lit (i := 0) (v := ?_) (F := #[false, true, true, true, true, true, true, true, true, true, true, true, false]) rfl (by kernel_rfl) (by kernel_rfl) (by kernel_rfl) (by kernel_rfl) (fun _ _ _ h => h) (Or.inl ⟨by rfl, ?_⟩) (by assumption) ?_
        rotate_left
        · (intro w hSw; (try dsimp only at hSw); go_simp <;> with_reducible rfl)
        try simp only [Act.put, List.setIfInBounds_toArray, List.set_cons_zero, List.set_cons_succ]
        refine takeN_lit (i := 1) (v := ?_) (F := #[true, false, true, true, true, true, true, true, true, true, true, true, false]) rfl (by kernel_rfl) (by kernel_rfl) (by kernel_rfl) (by kernel_rfl) (fun _ _ _ h => h) (Or.inl ⟨by rfl, ?_⟩) (by assumption) ?_
        rotate_left
        · (intro w hSw; (try dsimp only at hSw); go_simp <;> with_reducible rfl)
        try simp only [Act.put, List.setIfInBounds_toArray, List.set_cons_zero, List.set_cons_succ]
        refine takeN_lit (i := 2) (v := ?_) (F := #[true, true, false, true, false, false, false, true, true, true, true, true, false]) rfl (by kernel_rfl) (by kernel_rfl) (by kernel_rfl) (by kernel_rfl) (fun _ _ _ h => h) (Or.inl ⟨by rfl, ?_⟩) (by assumption) ?_
        rotate_left
        · (intro w hSw; (try dsimp only at hSw); go_simp <;> with_reducible rfl)
        try simp only [Act.put, List.setIfInBounds_toArray, List.set_cons_zero, List.set_cons_succ]
        refine takeN_lit (i := 3) (v := ?_) (F := #[true, true, true, false, false, false, false, true, true, true, true, true, false]) rfl (by kernel_rfl) (by kernel_rfl) (by kernel_rfl) (by kernel_rfl) (fun _ _ _ h => h) (Or.inl ⟨by rfl, ?_⟩) (by assumption) ?_
        rotate_left
        · (intro w hSw; (try dsimp only at hSw); go_simp <;> with_reducible rfl)
        try simp only [Act.put, List.setIfInBounds_toArray, List.set_cons_zero, List.set_cons_succ]
        refine takeN_lit (i := 4) (v := ?_) (F := #[true, true, true, true, false, false, false, true, true, true, true, true, false]) rfl (by kernel_rfl) (by kernel_rfl) (by kernel_rfl) (by kernel_rfl) (fun _ _ _ h => h) (Or.inl ⟨by rfl, ?_⟩) (by assumption) ?_
        rotate_left
        · (intro w hSw; (try dsimp only at hSw); go_simp <;> with_reducible rfl)
        try simp only [Act.put, List.setIfInBounds_toArray, List.set_cons_zero, List.set_cons_succ]
        refine takeN_lit (i := 5) (v := ?_) (F := #[true, true, true, true, true, false, false, true, true, true, true, true, false]) rfl (by kernel_rfl) (by kernel_rfl) (by kernel_rfl) (by kernel_rfl) (fun _ _ _ h => h) (Or.inl ⟨by rfl, ?_⟩) (by assumption) ?_
        rotate_left
        · (intro w hSw; (try dsimp only at hSw); go_simp <;> with_reducible rfl)
        try simp only [Act.put, List.setIfInBounds_toArray, List.set_cons_zero, List.set_cons_succ]
        refine takeN_lit (i := 6) (F := #[true, true, true, true, true, true, false, true, true, true, true, true, false]) rfl (by kernel_rfl) (by kernel_rfl) (by kernel_rfl) (by kernel_rfl) (fun _ _ _ h => h) (yS x.r (fun w h => (hqd.below h hg).r) (by rfl) rfl rfl) (by assumption) ?_
        try simp only [Act.put, List.setIfInBounds_toArray, List.set_cons_zero, List.set_cons_succ]
        refine takeN_lit (i := 7) (v := ?_) (F := #[true, true, true, true, true, true, true, false, true, false, false, false, false]) rfl (by kernel_rfl) (by kernel_rfl) (by kernel_rfl) (by kernel_rfl) (fun _ _ _ h => h) (Or.inl ⟨by rfl, ?_⟩) (by assumption) ?_
        rotate_left
        · (intro w hSw; (try dsimp only at hSw); go_simp <;> with_reducible rfl)
        try simp only [Act.put, List.setIfInBounds_toArray, List.set_cons_zero, List.set_cons_succ]
        refine takeN_lit (i := 8) (v := ?_) (F := #[true, true, true, true, true, true, true, true, false, false, false, false, false]) rfl (by kernel_rfl) (by kernel_rfl) (by kernel_rfl) (by kernel_rfl) (fun _ _ _ h => h) (Or.inl ⟨by rfl, ?_⟩) (by assumption) ?_
        rotate_left
        · (intro w hSw; (try dsimp only at hSw); go_simp <;> with_reducible rfl)
        try simp only [Act.put, List.setIfInBounds_toArray, List.set_cons_zero, List.set_cons_succ]
        refine takeN_lit (i := 9) (v := ?_) (F := #[true, true, true, true, true, true, true, true, true, false, false, false, false]) rfl (by kernel_rfl) (by kernel_rfl) (by kernel_rfl) (by kernel_rfl) (fun _ _ _ h => h) (Or.inl ⟨by rfl, ?_⟩) (by assumption) ?_
        rotate_left
        · (intro w hSw; (try dsimp only at hSw); go_simp <;> with_reducible rfl)
        try simp only [Act.put, List.setIfInBounds_toArray, List.set_cons_zero, List.set_cons_succ]
        refine takeN_lit (i := 10) (v := ?_) (F := #[true, true, true, true, true, true, true, true, true, true, false, false, false]) rfl (by kernel_rfl) (by kernel_rfl) (by kernel_rfl) (by kernel_rfl) (fun _ _ _ h => h) (Or.inl ⟨by rfl, ?_⟩) (by assumption) ?_
        rotate_left
        · (intro w hSw; (try dsimp only at hSw); go_simp <;> with_reducible rfl)
        try simp only [Act.put, List.setIfInBounds_toArray, List.set_cons_zero, List.set_cons_succ]
        refine takeN_lit (i := 11) (v := ?_) (F := #[true, true, true, true, true, true, true, true, true, true, true, false, false]) rfl (by kernel_rfl) (by kernel_rfl) (by kernel_rfl) (by kernel_rfl) (fun _ _ _ h => h) (Or.inl ⟨by rfl, ?_⟩) (by assumption) ?_
        rotate_left
        · (intro w hSw; (try dsimp only at hSw); have hz := co _ hSw; go_simp <;> with_reducible rfl)
        try simp only [Act.put, List.setIfInBounds_toArray, List.set_cons_zero, List.set_cons_succ]
        refine wpAnyN_ready (rs := [12]) (by kernel_rfl) (by simp) ?_
        refine consN_lit rfl (fun K hK => ?_) ?_
        · go_simp
          refine (hTell _ hHeld).mono ?_
          rintro e w2 ⟨z, rfl, tb2, b2⟩
          refine hK.out _ _ (Or.inl rfl) (fun _ => ?_)
          clear hK K
          try simp only [Act.put, List.setIfInBounds_toArray, List.set_cons_zero, List.set_cons_succ]
          refine wpAnyN_done (by kernel_rfl) ?_ _
          refine NoPanic.normal ?_
          have cd1 := cd.out _ b2
          have cd2 : w2.cell? ⟨g, o + j * 84 + 81, none⟩ = some (.int .i64 x.r.d) := cd1
          clear hTell hHeld cd hq hqd ck cg co
          go_wp2_with fail
          go_roundw
          case rel => exact ⟨j + 1, now + x.g, max mx (min x.r.d 2147483648), _, HJ.out, by first | rfl | go_num, by first | rfl | exact congrArg (Value.int .i64) hw2, by first | rfl | simp, tb2, HE2.out, b2⟩
          case measure => first | (rw [hw64]; simp only [intOf]; exact HM.out) | (simp only [intOf]; exact HM.out)
        exact AllReadyN.nil
      · have hk' : (x.k == 0) = false := by simpa using hk
        clear hk HE2 hTell cd
        go_wp2_with fail
        go_roundw
        case rel => exact ⟨j + 1, now + x.g, mx, L, HJ.out, by first | rfl | go_num, by first | rfl | exact congrArg (Value.int .i64) hw2, rfl, tb, HE1.out, bX⟩
        case measure => first | (rw [hw64]; simp only [intOf]; exact HM.out) | (simp only [intOf]; exact HM.out)
    · have hjl : j = l.length := by omega
      subst hjl
      have n0 := hI.t0
      have n1 := hI.t1
      have m0 := hI.m0
      have m1 := hI.m1
      have hat := hI.at_
      have hLl := hI.ll
      have hLs := list_any tb
      have hji : ¬ (l.length : Int) < (l.length : Int) := by omega
      have n2 : now ≤ 161061273600 := by omega
      clear hj hlt hok hf hl hI n1
      go_wp2_with (first
        | (go_at_call 14; refine hLs.mono ?_; rintro e w1 ⟨a1, c1, K, rfl, hp, hasc, hO, k1⟩; replace tb := tb.below k1; replace bX := bt bX k1; clear hLs hasc k1; refine Hid.out ?_))
      unfold Hid
      have hKl : Hid (K.length ≤ 150) := by show _ ≤ _; rw [hp.length_eq]; omega
      cases rt with
      | false =>
        have e2 : wrap64 (2 * mx) = 2 * mx := by unfold wrap64; omega
        have e3 : wrap64 (now + 2 * mx) = now + 2 * mx := by unfold wrap64; omega
        have hTk := tick_all tb (now + 2 * mx) (by omega) (by omega) (fun n hn => by have := hat n hn; omega) (fun n hn => expN_u (hat n hn) m0)
        clear hat hp hO hKl hLl
        go_wp2_with (first
          | (go_at_call 10; refine (live_any _).mono ?_; rintro e w9 ⟨rfl, k⟩; replace bX := bt bX k)
          | (go_at_call 14; refine (list_zero tb2).mono ?_; rintro e w8 ⟨a8, c8, rfl, k8⟩; replace bX := bt bX k8)
          | (go_at_call 28; refine hTk.mono ?_; rintro e w2 ⟨a2, n2', c2, a3, c3, rfl, hT2⟩; have tb2 := hT2.tb; replace bX := HT.out _ _ _ bX hT2; clear hT2 hTk))
        go_ret
        exact ⟨rfl, bX⟩
      | true =>
        have hB0 : EnB now mx K K.length 0 L := ⟨hp.length_eq.symm, hat, fun n hn => ⟨n, hp.mem_iff.2 hn, rfl⟩, fun n hn m hm => by simp at hm⟩
        have HMx : Hid (0 ≤ mx ∧ mx ≤ 2147483648) := ⟨m0, m1⟩
        have HNow : Hid (0 ≤ now ∧ now ≤ 161061273600) := ⟨n0, n2⟩
        clear hat hp hLl
        go_wp2_with fail
        go_loopw [10] (fun u wr2 => ∃ (j : Nat) (L' : List Ro), j ≤ K.length ∧ u = .int .i64 j ∧ Tb wr2 t mb 150 L' ∧ EnB now mx K K.length j L' ∧ kN.Own wr2 wr.heap.size (.slice a1 K.length c1) K ∧ Below w.heap.size w wr2) (fun u _ => K.length - (intOf u).toNat)
        case atStart => exact ⟨0, L, Nat.zero_le _, rfl, tb, hB0, hO, bX⟩
        case round =>
          clear tb hB0 hO bX
          obtain ⟨j, L', hj, rfl, tb, hB, hO, bX⟩ := hrel
          rename World => Y
          by_cases hlt : j < K.length
          · obtain ⟨g, rfl, _, hg, hc⟩ := own_elem hO (by intro e; rw [e] at hlt; simp at hlt)
            have q := hc j hlt
            have hS := hB.step hlt
            have hji2 : (j : Int) < (K.length : Int) := by omega
            have hw64 : wrap64 ((j : Int) + 1) = (j : Int) + 1 := by have := hKl.out; unfold wrap64; omega
            have hRt : ∀ W, Below Y.heap.size Y W → Calls Try.prog 27 #[.pointer (some ⟨t, 0, none⟩), .int .i64 now, .int .i64 K[j].i, (Value.agg (acells (K[j].a)).toArray)] W fun e w' => ∃ z, e = .returned z ∧ Tb w' t mb 150 (mapR (fun n => retr n now) (mineB K[j].i K[j].a) L') ∧ kN.Own w' wr.heap.size (.slice (some ⟨g, 0, none⟩) K.length c1) K ∧ Below w.heap.size w w' := fun W hW => by
              refine (retract_any (tb.below hW) now K[j].i K[j].a HNow.out.1 (by have := HNow.out.2; omega)).mono ?_
              rintro e w' ⟨rfl, hT⟩
              exact ⟨_, rfl, hT.tb, hT.own (tb.below hW) (own_below hO hW), HT.out _ _ _ (bt bX hW) hT⟩
            have HE : Hid (EnB now mx K K.length (j + 1) (mapR (fun n => retr n now) (mineB K[j].i K[j].a) L')) := hS
            have HJ : Hid (j + 1 ≤ K.length) := hlt
            have HM : Hid (K.length - ((j : Int) + 1).toNat < K.length - ((j : Int)).toNat) := meas hlt
            have ci := q.i_
            clear hc hS hB hO tb hKl HMx HNow
            generalize mapR (fun n => retr n now) (mineB (K[j]'hlt).i (K[j]'hlt).a) L' = L2 at *
            generalize (K[j]'hlt) = n at *
            go_upto_region 19 with fail
            refine wp_region_noPanic ?_
            refine wp_region_N (S := fun W => Below Y.heap.size Y W) 12 (by kernel_rfl) ((Below.refl _ _).drew) (fun hHeld => ?_)
            refine takeN_lit (i := 0) (v := ?_) (F := #[false, true, true, true, true, true, true, true, true, true, true, true, false]) rfl (by kernel_rfl) (by kernel_rfl) (by kernel_rfl) (by kernel_rfl) (fun _ _ _ h => h) (Or.inl ⟨by rfl, ?_⟩) (by assumption) ?_
            rotate_left
            · (intro w hSw; (try dsimp only at hSw); go_simp <;> with_reducible rfl)
            try simp only [Act.put, List.setIfInBounds_toArray, List.set_cons_zero, List.set_cons_succ]
            refine takeN_lit (i := 1) (v := ?_) (F := #[true, false, true, true, true, true, true, true, true, true, true, true, false]) rfl (by kernel_rfl) (by kernel_rfl) (by kernel_rfl) (by kernel_rfl) (fun _ _ _ h => h) (Or.inl ⟨by rfl, ?_⟩) (by assumption) ?_
            rotate_left
            · (intro w hSw; (try dsimp only at hSw); go_simp <;> with_reducible rfl)
            try simp only [Act.put, List.setIfInBounds_toArray, List.set_cons_zero, List.set_cons_succ]
            refine takeN_lit (i := 2) (v := ?_) (F := #[true, true, false, true, false, false, false, true, true, true, true, true, false]) rfl (by kernel_rfl) (by kernel_rfl) (by kernel_rfl) (by kernel_rfl) (fun _ _ _ h => h) (Or.inl ⟨by rfl, ?_⟩) (by assumption) ?_
            rotate_left
            · (intro w hSw; (try dsimp only at hSw); go_simp <;> with_reducible rfl)
            try simp only [Act.put, List.setIfInBounds_toArray, List.set_cons_zero, List.set_cons_succ]
            refine takeN_lit (i := 3) (v := ?_) (F := #[true, true, true, false, false, false, false, true, true, true, true, true, false]) rfl (by kernel_rfl) (by kernel_rfl) (by kernel_rfl) (by kernel_rfl) (fun _ _ _ h => h) (Or.inl ⟨by rfl, ?_⟩) (by assumption) ?_
            rotate_left
            · (intro w hSw; (try dsimp only at hSw); go_simp <;> with_reducible rfl)
            try simp only [Act.put, List.setIfInBounds_toArray, List.set_cons_zero, List.set_cons_succ]
            refine takeN_lit (i := 4) (v := ?_) (F := #[true, true, true, true, false, false, false, true, true, true, true, true, false]) rfl (by kernel_rfl) (by kernel_rfl) (by kernel_rfl) (by kernel_rfl) (fun _ _ _ h => h) (Or.inl ⟨by rfl, ?_⟩) (by assumption) ?_
            rotate_left
            · (intro w hSw; (try dsimp only at hSw); go_simp <;> with_reducible rfl)
            try simp only [Act.put, List.setIfInBounds_toArray, List.set_cons_zero, List.set_cons_succ]
            refine takeN_lit (i := 5) (v := ?_) (F := #[true, true, true, true, true, false, false, true, true, true, true, true, false]) rfl (by kernel_rfl) (by kernel_rfl) (by kernel_rfl) (by kernel_rfl) (fun _ _ _ h => h) (Or.inl ⟨by rfl, ?_⟩) (by assumption) ?_
            rotate_left
            · (intro w hSw; (try dsimp only at hSw); go_simp <;> with_reducible rfl)
            try simp only [Act.put, List.setIfInBounds_toArray, List.set_cons_zero, List.set_cons_succ]
            refine takeN_lit (i := 6) (v := ?_) (F := #[true, true, true, true, true, true, false, true, true, true, true, true, false]) rfl (by kernel_rfl) (by kernel_rfl) (by kernel_rfl) (by kernel_rfl) (fun _ _ _ h => h) (Or.inl ⟨by rfl, ?_⟩) (by assumption) ?_
            rotate_left
            · (intro w hSw; (try dsimp only at hSw); have hz := (hSw.cell (p := ⟨g, j * 81 + 34, none⟩) hg).trans ci; go_simp <;> with_reducible rfl)
            try simp only [Act.put, List.setIfInBounds_toArray, List.set_cons_zero, List.set_cons_succ]
            refine takeN_lit (i := 7) (v := ?_) (F := #[true, true, true, true, true, true, true, false, true, false, false, false, false]) rfl (by kernel_rfl) (by kernel_rfl) (by kernel_rfl) (by kernel_rfl) (fun _ _ _ h => h) (Or.inl ⟨by rfl, ?_⟩) (by assumption) ?_
            rotate_left
            · (intro w hSw; (try dsimp only at hSw); go_simp <;> with_reducible rfl)
            try simp only [Act.put, List.setIfInBounds_toArray, List.set_cons_zero, List.set_cons_succ]
            refine takeN_lit (i := 8) (v := ?_) (F := #[true, true, true, true, true, true, true, true, false, false, false, false, false]) rfl (by kernel_rfl) (by kernel_rfl) (by kernel_rfl) (by kernel_rfl) (fun _ _ _ h => h) (Or.inl ⟨by rfl, ?_⟩) (by assumption) ?_
            rotate_left
            · (intro w hSw; (try dsimp only at hSw); go_simp <;> with_reducible rfl)
            try simp only [Act.put, List.setIfInBounds_toArray, List.set_cons_zero, List.set_cons_succ]
            refine takeN_lit (i := 9) (v := ?_) (F := #[true, true, true, true, true, true, true, true, true, false, false, false, false]) rfl (by kernel_rfl) (by kernel_rfl) (by kernel_rfl) (by kernel_rfl) (fun _ _ _ h => h) (Or.inl ⟨by rfl, ?_⟩) (by assumption) ?_
            rotate_left
            · (intro w hSw; (try dsimp only at hSw); go_simp <;> with_reducible rfl)
            try simp only [Act.put, List.setIfInBounds_toArray, List.set_cons_zero, List.set_cons_succ]
            refine takeN_lit (i := 10) (v := ?_) (F := #[true, true, true, true, true, true, true, true, true, true, false, false, false]) rfl (by kernel_rfl) (by kernel_rfl) (by kernel_rfl) (by kernel_rfl) (fun _ _ _ h => h) (Or.inl ⟨by rfl, ?_⟩) (by assumption) ?_
            rotate_left
            · (intro w hSw; (try dsimp only at hSw); go_simp <;> with_reducible rfl)
            try simp only [Act.put, List.setIfInBounds_toArray, List.set_cons_zero, List.set_cons_succ]
            refine takeN_lit (i := 11) (F := #[true, true, true, true, true, true, true, true, true, true, true, false, false]) rfl (by kernel_rfl) (by kernel_rfl) (by kernel_rfl) (by kernel_rfl) (fun _ _ _ h => h) (yA n.a (fun w h => by have := (q.below h hg).a; simpa using this) (by rfl) rfl rfl) (by assumption) ?_
            try simp only [Act.put, List.setIfInBounds_toArray, List.set_cons_zero, List.set_cons_succ]
            refine wpAnyN_ready (rs := [12]) (by kernel_rfl) (by simp) ?_
            refine consN_lit rfl (fun K hK => ?_) ?_
            · go_simp
              refine (hRt _ hHeld).mono ?_
              rintro e w2 ⟨z, rfl, tb2, hO2, b2⟩
              refine hK.out _ _ (Or.inl rfl) (fun _ => ?_)
              clear hK K
              try simp only [Act.put, List.setIfInBounds_toArray, List.set_cons_zero, List.set_cons_succ]
              refine wpAnyN_done (by kernel_rfl) ?_ _
              refine NoPanic.normal ?_
              clear hRt hHeld q ci
              go_wp2_with fail
              go_roundw
              case rel => exact ⟨j + 1, L2, HJ.out, by first | rfl | go_num, tb2, HE.out, hO2, b2⟩
              case measure => first | (rw [hw64]; simp only [intOf]; exact HM.out) | (simp only [intOf]; exact HM.out)
            exact AllReadyN.nil
          · have hjl : j = K.length := by omega
            subst hjl
            have hr := hB.all
            have hat := hB.at_
            have hll := hB.ll
            have n0 := HNow.out.1
            have n2 := HNow.out.2
            have m0 := HMx.out.1
            have m1 := HMx.out.2
            have e3 : wrap64 (now + mx) = now + mx := by unfold wrap64; omega
            have hTk := tick_all tb (now + mx) (by omega) (by omega) (fun n hn => by have := hat n hn; omega) (fun n hn => by rw [expN_gone (hr n hn)]; have := hat n hn; omega)
            rw [hll] at hTk
            have hji2 : ¬ (K.length : Int) < (K.length : Int) := by omega
            clear hlt hj hr hat hll hB hO hKl
            go_wp2_with (first
              | (go_at_call 10; refine (live_any _).mono ?_; rintro e w9 ⟨rfl, k⟩; replace bX := bt bX k)
              | (go_at_call 14; refine (list_zero tb2).mono ?_; rintro e w8 ⟨a8, c8, rfl, k8⟩; replace bX := bt bX k8)
              | (go_at_call 28; refine hTk.mono ?_; rintro e w2 ⟨a2, n2', c2, a3, c3, rfl, hT2⟩; have tb2 := hT2.tb; replace bX := HT.out _ _ _ bX hT2; clear hT2 hTk))
            go_ret
            exact ⟨rfl, bX⟩
end Go.Proofs.Ythofoocknmkdjaa
