/-
  The walk of SourceKeeps.
-/
import Derived.Test.YtdcbnibgckdkbaaV11
namespace Go.Proofs.Ytdcbnibgckdkbaa
open Go.RowKit Go.Maps Go.Shelf
set_option linter.unusedSimpArgs false
set_option linter.unusedVariables false
set_option maxRecDepth 20000
theorem fea_none {o : Option Sr} {s m : Int} (h : o.isSome = false) : feaO o s m = true := by
  cases o with
  | none => rfl
  | some n => cases h
set_option maxHeartbeats 32000000 in
theorem keeps_walk (most : Int) (ad : Option Addr) (c : Nat) (l : List Ac) (p : Pr) (i : Id8) (s m : Int) (w : World) (hl : AsW w ad l) (hf : ∀ x ∈ l, AcFit x) (hn : l.length ≤ maxLen) (hp : wfQ p) (s0 : 0 ≤ s) :
    Calls Try.prog 4 #[.int .i64 most, .slice ad l.length c, (Value.agg (qcells p).toArray), idV i, dV s m] w (Gives w (.bool true)) := by
  obtain ⟨hB, r0, r1, r2⟩ := low_rows3 w (qcells p) (icells i) (dcs s m) 36 38 41
  go_enter Try.func4, Try.ntmps4
  go_upto_region 1 with fail
  refine name_world (R := fun W => Code.wp _ _ _ _ W) (P := fun W => Below w.heap.size w W ∧ Row W w.heap.size 36 (qcells p) ∧ Row W (w.heap.size + 1) 38 (icells i) ∧ Row W (w.heap.size + 2) 41 (dcs s m)) _ ⟨hB, r0, r1, r2⟩ ?_
  clear hB r0 r1 r2
  rintro X ⟨hB, r0, r1, r2⟩
  have hlX := hl.below hB
  have HQ : Hid (∀ W, Below X.heap.size X W → LQ W w.heap.size 0 p) := fun W h => (r0.below h r0.lt).range
  have HI : Hid (∀ W, Below X.heap.size X W → LI W (w.heap.size + 1) 0 i) := fun W h => (r1.below h r1.lt).range
  have HD : Hid (∀ W, Below X.heap.size X W → Sn.LD W (w.heap.size + 2) 0 s m) := fun W h => (r2.below h r2.lt).range
  have HB : Hid (∀ W, Below X.heap.size X W → Below w.heap.size w W) := fun W h => bt hB h
  have hR := right_any ad c l X hlX hn
  have hNew := new_any most X
  have cs0 : X.cell? ⟨w.heap.size + 2, 0, none⟩ = some (.int .u16 s) := r2.cell 0
  have cm0 : X.cell? ⟨w.heap.size + 2, 1, none⟩ = some (.int .u16 m) := r2.cell 1
  clear r0 r1 r2 hl hB
  by_cases hgo : 1 ≤ most ∧ most ≤ 200 ∧ s ≤ 16000 ∧ m ≠ 65535
  · obtain ⟨h1, h2, h3, h4⟩ := hgo
    have h4' : (m == 65535) = false := by simpa using h4
    have HM4 : Hid (m ≠ 65535) := h4
    clear h4
    go_wp2_with (first
      | (have kk := hb; go_at_call 9; refine (live_any _).mono ?_; rintro e w9 ⟨rfl, k⟩)
      | (have kk := hb; go_at_call 10; refine hNew.mono ?_; rintro e w0 ⟨rfl, tb0, b0⟩)
      | (go_at_call 8; refine hR.mono ?_; rintro e w1 ⟨b, rfl, rfl, hb⟩; cases b))
    · go_ret
      exact ⟨rfl, HB.out _ k⟩
    obtain ⟨hl2, hok⟩ := hb trivial
    clear hR hNew hb hn cs0 cm0
    obtain ⟨mb, hmb⟩ : ∃ mb, X.heap.size = mb := ⟨_, rfl⟩
    obtain ⟨t, ht⟩ : ∃ t, X.heap.size + 1 = t := ⟨_, rfl⟩
    have HT : Hid (∀ (W W' : World) (L : List Sr), Below X.heap.size X W → Turn W W' t mb most L → Below X.heap.size X W') := fun W W' L h k => k.below h (by omega) h.size
    rw [ht, hmb] at tb0
    rw [ht]
    clear ht hmb
    go_loopw [12, 13, 14] (fun v f u wr => ∃ (j : Nat) (x : Int × List Sr) (b : Bool), j ≤ l.length ∧ u = .int .i64 j ∧ v = .int .i64 x.1 ∧ f = .bool b ∧ KpI most j x ∧ Tb wr t mb most x.2 ∧ Below X.heap.size X wr ∧ (b = true → (getN x.2 p i).isSome = true ∧ feaO (getN x.2 p i) s m = false)) (fun _ _ u _ => l.length - (intOf u).toNat)
    case atStart => exact ⟨0, (0, []), false, Nat.zero_le _, rfl, rfl, rfl, ⟨by simp, by simp, by simp, by simp; omega, by simp⟩, tb0, b0, fun h => by cases h⟩
    case round =>
      clear tb0 b0
      obtain ⟨j, x, b, hj, rfl, rfl, rfl, hI, tb, b5, hno⟩ := hrel
      by_cases hlt : j < l.length
      · have hlr := hlX.below b5
        rcases hlr.lies with h0 | ⟨g, o, rfl, hg, hcs⟩
        · rw [h0] at hlt; simp at hlt
        have hq : LC wr g (o + j * 46) l[j] := hcs j l[j] (List.getElem?_eq_getElem hlt)
        have ha := hf l[j] (List.getElem_mem hlt)
        have hG := hok l[j] (List.getElem_mem hlt)
        have hji : (j : Int) < (l.length : Int) := by omega
        have hw64 : wrap64 ((j : Int) + 1) = (j : Int) + 1 := by unfold wrap64; omega
        have HJ : Hid (j + 1 ≤ l.length) := hlt
        have HM : Hid (l.length - ((j : Int) + 1).toNat < l.length - ((j : Int)).toNat) := meas hlt
        clear hcs hlr hok hf
        generalize l[j] = a at *
        have hw2 : wrap64 (x.1 + a.g) = (kpS most x a).1 := by
          show wrap64 (x.1 + a.g) = x.1 + a.g
          have := hI.t0; have := hI.t1; have := hG.1; have := hG.2
          unfold wrap64; omega
        have HKp : Hid (a.k = 0 → ∀ W, Below wr.heap.size wr W → Calls Try.prog 12 #[.pointer (some ⟨t, 0, none⟩), .int .i64 (kpS most x a).1, (Value.agg (qcells a.p).toArray), idV a.i, dV a.s a.m] W fun e w' => ∃ z, e = .returned (.int .i64 z) ∧ Tb w' t mb most (kpS most x a).2 ∧ Below X.heap.size X w') := fun hk W hW => by
          have := hI.t0; have := hI.t1; have := hG.1; have := hG.2; have := hI.ll
          refine (keep_any (tb.below hW) (x.1 + a.g) a.p a.i a.s a.m ha.q (by omega) (by omega) ha.s0 ha.s1 ha.m0 ha.m1 (by omega)).mono ?_
          rintro e w' ⟨rfl, hT⟩
          refine ⟨_, rfl, ?_, HT.out _ _ _ (bt b5 hW) hT⟩
          unfold kpS
          rw [if_pos hk]
          exact hT.tb
        have HTk : Hid (a.k ≠ 0 → a.k = 2 → Calls Try.prog 15 #[.pointer (some ⟨t, 0, none⟩), .int .i64 (kpS most x a).1] wr fun e w' => ∃ a1 n1 c1, e = .returned (.slice a1 n1 c1) ∧ Tb w' t mb most (kpS most x a).2 ∧ Below X.heap.size X w') := fun hk hk2 => by
          refine (tick_len tb (x.1 + a.g)).mono ?_
          rintro e w' ⟨a1, c1, rfl, hT⟩
          refine ⟨_, _, _, rfl, ?_, HT.out _ _ _ b5 hT⟩
          unfold kpS
          rw [if_neg hk, if_pos hk2]
          exact hT.tb
        have HEl : Hid (a.k ≠ 0 → a.k ≠ 2 → Tb wr t mb most (kpS most x a).2) := fun hk hk2 => by
          unfold kpS
          rw [if_neg hk, if_neg hk2]
          exact tb
        have HSt : Hid ((a.k = 0 → a.s ≤ 16000) → KpI most (j + 1) (kpS most x a) ∧ (b = true → (getN (kpS most x a).2 p i).isSome = true → feaO (getN (kpS most x a).2 p i) s m = false)) := fun hs => ⟨hI.step hG hs, fun hb => kp_never tb.map.nd tb.nok hI.low ha hs s0 h3 HM4.out (hno hb).1 (hno hb).2⟩
        have ck := hq.k
        have cg := hq.g
        have cS := hq.s
        obtain ⟨y, hy⟩ : ∃ y, kpS most x a = y := ⟨_, rfl⟩
        rw [hy] at HKp HTk HEl HSt hw2
        have hv1 : (getN y.2 p i).isSome = false → feaO (getN y.2 p i) s m = true := fun h => fea_none h
        have HNo : Hid (∀ (th is : Bool), (getN y.2 p i).isSome = th → feaO (getN y.2 p i) s m = is → ((th && !is) = true → (getN y.2 p i).isSome = true ∧ feaO (getN y.2 p i) s m = false)) := fun th is e1 e2 h => by
          rw [e1, e2]
          cases th <;> cases is <;> simp_all
        clear hy hI tb hG hno
        obtain ⟨now, hnow⟩ : ∃ now, x.1 = now := ⟨_, rfl⟩
        rw [hnow] at hw2 ⊢
        clear hnow
        by_cases hk : a.k = 0
        · have hk' : (a.k == 0) = true := by simpa using hk
          have hKeep := HKp.out hk
          clear HKp HTk HEl ha
          by_cases hs : 16000 < a.s
          · clear HSt hKeep hv1 HNo
            go_wp2_with (first
              | (go_at_call 9; refine (live_any _).mono ?_; rintro e w9 ⟨rfl, k⟩))
            go_ret
            exact ⟨rfl, HB.out _ (bt b5 k)⟩
          · obtain ⟨hI2, hv2⟩ := HSt.out (fun _ => by omega)
            clear HSt hk
            go_upto_region 16 with fail
            refine wp_region_noPanic ?_
            refine wp_region_N (S := fun W => Below wr.heap.size wr W) 17 (by kernel_rfl) ((Below.refl _ _).drew) (fun hHeld => ?_)
            refine takeN_lit (i := 0) (v := ?_) (F := #[false, true, true, true, true, true, true, true, true, true, true, true, true, true, true, true, true, false]) rfl (by kernel_rfl) (by kernel_rfl) (by kernel_rfl) (by kernel_rfl) (fun _ _ _ h => h) (Or.inl ⟨by rfl, ?_⟩) (by assumption) ?_
            rotate_left
            · (intro w hSw; (try dsimp only at hSw); go_simp <;> with_reducible rfl)
            try simp only [Act.put, List.setIfInBounds_toArray, List.set_cons_zero, List.set_cons_succ]
            refine takeN_lit (i := 1) (v := ?_) (F := #[true, false, true, true, true, true, true, true, true, true, true, true, true, true, true, true, true, false]) rfl (by kernel_rfl) (by kernel_rfl) (by kernel_rfl) (by kernel_rfl) (fun _ _ _ h => h) (Or.inl ⟨by rfl, ?_⟩) (by assumption) ?_
            rotate_left
            · (intro w hSw; (try dsimp only at hSw); go_simp <;> with_reducible rfl)
            try simp only [Act.put, List.setIfInBounds_toArray, List.set_cons_zero, List.set_cons_succ]
            refine takeN_lit (i := 2) (v := ?_) (F := #[true, true, false, true, false, false, false, true, true, true, true, true, true, true, true, true, true, false]) rfl (by kernel_rfl) (by kernel_rfl) (by kernel_rfl) (by kernel_rfl) (fun _ _ _ h => h) (Or.inl ⟨by rfl, ?_⟩) (by assumption) ?_
            rotate_left
            · (intro w hSw; (try dsimp only at hSw); go_simp <;> with_reducible rfl)
            try simp only [Act.put, List.setIfInBounds_toArray, List.set_cons_zero, List.set_cons_succ]
            refine takeN_lit (i := 3) (v := ?_) (F := #[true, true, true, false, false, false, false, true, true, true, true, true, true, true, true, true, true, false]) rfl (by kernel_rfl) (by kernel_rfl) (by kernel_rfl) (by kernel_rfl) (fun _ _ _ h => h) (Or.inl ⟨by rfl, ?_⟩) (by assumption) ?_
            rotate_left
            · (intro w hSw; (try dsimp only at hSw); go_simp <;> with_reducible rfl)
            try simp only [Act.put, List.setIfInBounds_toArray, List.set_cons_zero, List.set_cons_succ]
            refine takeN_lit (i := 4) (v := ?_) (F := #[true, true, true, true, false, false, false, true, true, true, true, true, true, true, true, true, true, false]) rfl (by kernel_rfl) (by kernel_rfl) (by kernel_rfl) (by kernel_rfl) (fun _ _ _ h => h) (Or.inl ⟨by rfl, ?_⟩) (by assumption) ?_
            rotate_left
            · (intro w hSw; (try dsimp only at hSw); go_simp <;> with_reducible rfl)
            try simp only [Act.put, List.setIfInBounds_toArray, List.set_cons_zero, List.set_cons_succ]
            refine takeN_lit (i := 5) (v := ?_) (F := #[true, true, true, true, true, false, false, true, true, true, true, true, true, true, true, true, true, false]) rfl (by kernel_rfl) (by kernel_rfl) (by kernel_rfl) (by kernel_rfl) (fun _ _ _ h => h) (Or.inl ⟨by rfl, ?_⟩) (by assumption) ?_
            rotate_left
            · (intro w hSw; (try dsimp only at hSw); go_simp <;> with_reducible rfl)
            try simp only [Act.put, List.setIfInBounds_toArray, List.set_cons_zero, List.set_cons_succ]
            refine takeN_lit (i := 6) (F := #[true, true, true, true, true, true, false, true, true, true, true, true, true, true, true, true, true, false]) rfl (by kernel_rfl) (by kernel_rfl) (by kernel_rfl) (by kernel_rfl) (fun _ _ _ h => h) (yQ a.p (fun w h => (hq.below h hg).p) (by rfl) rfl rfl) (by assumption) ?_
            try simp only [Act.put, List.setIfInBounds_toArray, List.set_cons_zero, List.set_cons_succ]
            refine takeN_lit (i := 7) (v := ?_) (F := #[true, true, true, true, true, true, true, false, true, false, false, false, true, true, true, true, true, false]) rfl (by kernel_rfl) (by kernel_rfl) (by kernel_rfl) (by kernel_rfl) (fun _ _ _ h => h) (Or.inl ⟨by rfl, ?_⟩) (by assumption) ?_
            rotate_left
            · (intro w hSw; (try dsimp only at hSw); go_simp <;> with_reducible rfl)
            try simp only [Act.put, List.setIfInBounds_toArray, List.set_cons_zero, List.set_cons_succ]
            refine takeN_lit (i := 8) (v := ?_) (F := #[true, true, true, true, true, true, true, true, false, false, false, false, true, true, true, true, true, false]) rfl (by kernel_rfl) (by kernel_rfl) (by kernel_rfl) (by kernel_rfl) (fun _ _ _ h => h) (Or.inl ⟨by rfl, ?_⟩) (by assumption) ?_
            rotate_left
            · (intro w hSw; (try dsimp only at hSw); go_simp <;> with_reducible rfl)
            try simp only [Act.put, List.setIfInBounds_toArray, List.set_cons_zero, List.set_cons_succ]
            refine takeN_lit (i := 9) (v := ?_) (F := #[true, true, true, true, true, true, true, true, true, false, false, false, true, true, true, true, true, false]) rfl (by kernel_rfl) (by kernel_rfl) (by kernel_rfl) (by kernel_rfl) (fun _ _ _ h => h) (Or.inl ⟨by rfl, ?_⟩) (by assumption) ?_
            rotate_left
            · (intro w hSw; (try dsimp only at hSw); go_simp <;> with_reducible rfl)
            try simp only [Act.put, List.setIfInBounds_toArray, List.set_cons_zero, List.set_cons_succ]
            refine takeN_lit (i := 10) (v := ?_) (F := #[true, true, true, true, true, true, true, true, true, true, false, false, true, true, true, true, true, false]) rfl (by kernel_rfl) (by kernel_rfl) (by kernel_rfl) (by kernel_rfl) (fun _ _ _ h => h) (Or.inl ⟨by rfl, ?_⟩) (by assumption) ?_
            rotate_left
            · (intro w hSw; (try dsimp only at hSw); go_simp <;> with_reducible rfl)
            try simp only [Act.put, List.setIfInBounds_toArray, List.set_cons_zero, List.set_cons_succ]
            refine takeN_lit (i := 11) (F := #[true, true, true, true, true, true, true, true, true, true, true, false, true, true, true, true, true, false]) rfl (by kernel_rfl) (by kernel_rfl) (by kernel_rfl) (by kernel_rfl) (fun _ _ _ h => h) (yI a.i (fun w h => (hq.below h hg).i) (by rfl) rfl rfl) (by assumption) ?_
            try simp only [Act.put, List.setIfInBounds_toArray, List.set_cons_zero, List.set_cons_succ]
            refine takeN_lit (i := 12) (v := ?_) (F := #[true, true, true, true, true, true, true, true, true, true, true, true, false, true, false, false, false, false]) rfl (by kernel_rfl) (by kernel_rfl) (by kernel_rfl) (by kernel_rfl) (fun _ _ _ h => h) (Or.inl ⟨by rfl, ?_⟩) (by assumption) ?_
            rotate_left
            · (intro w hSw; (try dsimp only at hSw); go_simp <;> with_reducible rfl)
            try simp only [Act.put, List.setIfInBounds_toArray, List.set_cons_zero, List.set_cons_succ]
            refine takeN_lit (i := 13) (v := ?_) (F := #[true, true, true, true, true, true, true, true, true, true, true, true, true, false, false, false, false, false]) rfl (by kernel_rfl) (by kernel_rfl) (by kernel_rfl) (by kernel_rfl) (fun _ _ _ h => h) (Or.inl ⟨by rfl, ?_⟩) (by assumption) ?_
            rotate_left
            · (intro w hSw; (try dsimp only at hSw); go_simp <;> with_reducible rfl)
            try simp only [Act.put, List.setIfInBounds_toArray, List.set_cons_zero, List.set_cons_succ]
            refine takeN_lit (i := 14) (v := ?_) (F := #[true, true, true, true, true, true, true, true, true, true, true, true, true, true, false, false, false, false]) rfl (by kernel_rfl) (by kernel_rfl) (by kernel_rfl) (by kernel_rfl) (fun _ _ _ h => h) (Or.inl ⟨by rfl, ?_⟩) (by assumption) ?_
            rotate_left
            · (intro w hSw; (try dsimp only at hSw); go_simp <;> with_reducible rfl)
            try simp only [Act.put, List.setIfInBounds_toArray, List.set_cons_zero, List.set_cons_succ]
            refine takeN_lit (i := 15) (v := ?_) (F := #[true, true, true, true, true, true, true, true, true, true, true, true, true, true, true, false, false, false]) rfl (by kernel_rfl) (by kernel_rfl) (by kernel_rfl) (by kernel_rfl) (fun _ _ _ h => h) (Or.inl ⟨by rfl, ?_⟩) (by assumption) ?_
            rotate_left
            · (intro w hSw; (try dsimp only at hSw); go_simp <;> with_reducible rfl)
            try simp only [Act.put, List.setIfInBounds_toArray, List.set_cons_zero, List.set_cons_succ]
            refine takeN_lit (i := 16) (F := #[true, true, true, true, true, true, true, true, true, true, true, true, true, true, true, true, false, false]) rfl (by kernel_rfl) (by kernel_rfl) (by kernel_rfl) (by kernel_rfl) (fun _ _ _ h => h) (Sn.yD a.s a.m (fun w h => (hq.below h hg).d) (by rfl) rfl rfl) (by assumption) ?_
            try simp only [Act.put, List.setIfInBounds_toArray, List.set_cons_zero, List.set_cons_succ]
            refine wpAnyN_ready (rs := [17]) (by kernel_rfl) (by simp) ?_
            refine consN_lit rfl (fun K hK => ?_) ?_
            · go_simp
              refine (hKeep _ hHeld).mono ?_
              rintro e w2 ⟨z, rfl, htb5, b6⟩
              refine hK.out _ _ (Or.inl rfl) (fun _ => ?_)
              clear hK K
              try simp only [Act.put, List.setIfInBounds_toArray, List.set_cons_zero, List.set_cons_succ]
              refine wpAnyN_done (by kernel_rfl) ?_ _
              refine NoPanic.normal ?_
              clear hKeep hHeld b5 ck cg cS hq
              have b5 := b6
              clear b6
              have tb2 : Tb w2 t mb most y.2 := htb5
              have hGet := get_any tb2 p i hp
              have hFea := fun W (hW : Below w2.heap.size w2 W) => feas_any (tb2.below hW) p i s m hp
              have hLst := fun W (hW : Below w2.heap.size w2 W) => list_len (tb2.below hW)
              have HEnd : Hid (∀ W, Below w2.heap.size w2 W → KpI most (j + 1) y ∧ Tb W t mb most y.2 ∧ Below X.heap.size X W) := fun W hW => ⟨hI2, tb2.below hW, bt b5 hW⟩
              rw [show getV (getN y.2 p i) = .tuple #[sV ((getN y.2 p i).getD zeroS), .bool (getN y.2 p i).isSome] from rfl] at hGet
              have hmo := hI2.mo
              clear hI2 tb2 htb5
              generalize y.2.length = N at *
              generalize (getN y.2 p i).getD zeroS = sr at *
              obtain ⟨is, his⟩ : ∃ is, feaO (getN y.2 p i) s m = is := ⟨_, rfl⟩
              obtain ⟨th, hth⟩ : ∃ th, (getN y.2 p i).isSome = th := ⟨_, rfl⟩
              have HN : Hid ((th && !is) = true → (getN y.2 p i).isSome = true ∧ feaO (getN y.2 p i) s m = false) := HNo.out th is hth his
              rw [hth] at hGet hv1 hv2
              rw [his] at hFea hv1 hv2
              clear hth his HNo
              have bX := Below.refl w2.heap.size w2
              cases th with
              | false =>
                obtain rfl : is = true := hv1 rfl
                go_wp2_with (first
                  | (go_at_call 23; refine (hLst _ bX).mono ?_; rintro e w8 ⟨a8, c8, rfl, k8⟩; replace bX := bt bX k8)
                  | (go_at_call 24; refine (hFea _ bX).mono ?_; rintro e w7 ⟨rfl, k7⟩; replace bX := bt bX k7)
                  | (have kk := r6; refine stS (.tmp 15) (.tmp 100) rfl rfl g6 sr _ rfl rfl r6 ?_; intro W7 g7 r7; replace bX := bt bX (grown_below g7 hB6 hge6 hB6.size); clear r6)
                  | (refine alG infoSz rfl rfl ?_; intro g6 W6 hge6 hgl6 hB6 r6)
                  | (go_at_call 19; refine hGet.mono ?_; rintro e w6 ⟨rfl, k6⟩; replace bX := bt bX k6)
                  | (refine Sn.ldD (.tmp 9) rfl rfl s m rfl (HD.out _ (bt b5 bX)) ?_)
                  | (refine ldI (.tmp 8) rfl rfl _ _ i rfl (HI.out _ (bt b5 bX)) ?_)
                  | (refine ldQ (.tmp 7) rfl rfl _ _ p rfl (HQ.out _ (bt b5 bX)) ?_))
                go_roundw
                case rel => exact ⟨j + 1, y, false, HJ.out, by first | rfl | go_num, by first | rfl | exact congrArg (Value.int .i64) hw2, rfl, (HEnd.out _ bX).1, (HEnd.out _ bX).2.1, (HEnd.out _ bX).2.2, HN.out⟩
                case measure => first | (rw [hw64]; simp only [intOf]; exact HM.out) | (simp only [intOf]; exact HM.out)
              | true =>
                cases is with
                | false =>
                  cases b with
                  | false =>
                    go_wp2_with (first
                      | (go_at_call 23; refine (hLst _ bX).mono ?_; rintro e w8 ⟨a8, c8, rfl, k8⟩; replace bX := bt bX k8)
                      | (go_at_call 24; refine (hFea _ bX).mono ?_; rintro e w7 ⟨rfl, k7⟩; replace bX := bt bX k7)
                      | (have kk := r6; refine stS (.tmp 15) (.tmp 100) rfl rfl g6 sr _ rfl rfl r6 ?_; intro W7 g7 r7; replace bX := bt bX (grown_below g7 hB6 hge6 hB6.size); clear r6)
                      | (refine alG infoSz rfl rfl ?_; intro g6 W6 hge6 hgl6 hB6 r6)
                      | (go_at_call 19; refine hGet.mono ?_; rintro e w6 ⟨rfl, k6⟩; replace bX := bt bX k6)
                      | (refine Sn.ldD (.tmp 9) rfl rfl s m rfl (HD.out _ (bt b5 bX)) ?_)
                      | (refine ldI (.tmp 8) rfl rfl _ _ i rfl (HI.out _ (bt b5 bX)) ?_)
                      | (refine ldQ (.tmp 7) rfl rfl _ _ p rfl (HQ.out _ (bt b5 bX)) ?_))
                    go_roundw
                    case rel => exact ⟨j + 1, y, true, HJ.out, by first | rfl | go_num, by first | rfl | exact congrArg (Value.int .i64) hw2, rfl, (HEnd.out _ bX).1, (HEnd.out _ bX).2.1, (HEnd.out _ bX).2.2, HN.out⟩
                    case measure => first | (rw [hw64]; simp only [intOf]; exact HM.out) | (simp only [intOf]; exact HM.out)
                  | true =>
                    go_wp2_with (first
                      | (go_at_call 23; refine (hLst _ bX).mono ?_; rintro e w8 ⟨a8, c8, rfl, k8⟩; replace bX := bt bX k8)
                      | (go_at_call 24; refine (hFea _ bX).mono ?_; rintro e w7 ⟨rfl, k7⟩; replace bX := bt bX k7)
                      | (have kk := r6; refine stS (.tmp 15) (.tmp 100) rfl rfl g6 sr _ rfl rfl r6 ?_; intro W7 g7 r7; replace bX := bt bX (grown_below g7 hB6 hge6 hB6.size); clear r6)
                      | (refine alG infoSz rfl rfl ?_; intro g6 W6 hge6 hgl6 hB6 r6)
                      | (go_at_call 19; refine hGet.mono ?_; rintro e w6 ⟨rfl, k6⟩; replace bX := bt bX k6)
                      | (refine Sn.ldD (.tmp 9) rfl rfl s m rfl (HD.out _ (bt b5 bX)) ?_)
                      | (refine ldI (.tmp 8) rfl rfl _ _ i rfl (HI.out _ (bt b5 bX)) ?_)
                      | (refine ldQ (.tmp 7) rfl rfl _ _ p rfl (HQ.out _ (bt b5 bX)) ?_))
                    go_roundw
                    case rel => exact ⟨j + 1, y, true, HJ.out, by first | rfl | go_num, by first | rfl | exact congrArg (Value.int .i64) hw2, rfl, (HEnd.out _ bX).1, (HEnd.out _ bX).2.1, (HEnd.out _ bX).2.2, HN.out⟩
                    case measure => first | (rw [hw64]; simp only [intOf]; exact HM.out) | (simp only [intOf]; exact HM.out)
                | true =>
                  obtain rfl : b = false := by
                    cases b with
                    | false => rfl
                    | true => exact absurd (hv2 rfl rfl) (by simp)
                  go_wp2_with (first
                    | (go_at_call 23; refine (hLst _ bX).mono ?_; rintro e w8 ⟨a8, c8, rfl, k8⟩; replace bX := bt bX k8)
                    | (go_at_call 24; refine (hFea _ bX).mono ?_; rintro e w7 ⟨rfl, k7⟩; replace bX := bt bX k7)
                    | (have kk := r6; refine stS (.tmp 15) (.tmp 100) rfl rfl g6 sr _ rfl rfl r6 ?_; intro W7 g7 r7; replace bX := bt bX (grown_below g7 hB6 hge6 hB6.size); clear r6)
                    | (refine alG infoSz rfl rfl ?_; intro g6 W6 hge6 hgl6 hB6 r6)
                    | (go_at_call 19; refine hGet.mono ?_; rintro e w6 ⟨rfl, k6⟩; replace bX := bt bX k6)
                    | (refine Sn.ldD (.tmp 9) rfl rfl s m rfl (HD.out _ (bt b5 bX)) ?_)
                    | (refine ldI (.tmp 8) rfl rfl _ _ i rfl (HI.out _ (bt b5 bX)) ?_)
                    | (refine ldQ (.tmp 7) rfl rfl _ _ p rfl (HQ.out _ (bt b5 bX)) ?_))
                  go_roundw
                  case rel => exact ⟨j + 1, y, false, HJ.out, by first | rfl | go_num, by first | rfl | exact congrArg (Value.int .i64) hw2, rfl, (HEnd.out _ bX).1, (HEnd.out _ bX).2.1, (HEnd.out _ bX).2.2, HN.out⟩
                  case measure => first | (rw [hw64]; simp only [intOf]; exact HM.out) | (simp only [intOf]; exact HM.out)
            exact AllReadyN.nil
        · have hk' : (a.k == 0) = false := by simpa using hk
          obtain ⟨hI2, hv2⟩ := HSt.out (fun h => absurd h hk)
          by_cases hk2 : a.k = 2
          · have hk2' : (a.k == 2) = true := by simpa using hk2
            have hTick := HTk.out hk hk2
            clear HKp HTk HEl ha HSt hk hk2
            go_upto_region 19 with (first
              | (go_at_call 15; refine hTick.mono ?_; rintro e W5 ⟨a1, n1, c1, rfl, htb5, b6⟩))
            clear hTick b5 ck cg cS hq
            have b5 := b6
            clear b6
            have tb2 : Tb W5 t mb most y.2 := htb5
            have hGet := get_any tb2 p i hp
            have hFea := fun W (hW : Below W5.heap.size W5 W) => feas_any (tb2.below hW) p i s m hp
            have hLst := fun W (hW : Below W5.heap.size W5 W) => list_len (tb2.below hW)
            have HEnd : Hid (∀ W, Below W5.heap.size W5 W → KpI most (j + 1) y ∧ Tb W t mb most y.2 ∧ Below X.heap.size X W) := fun W hW => ⟨hI2, tb2.below hW, bt b5 hW⟩
            rw [show getV (getN y.2 p i) = .tuple #[sV ((getN y.2 p i).getD zeroS), .bool (getN y.2 p i).isSome] from rfl] at hGet
            have hmo := hI2.mo
            clear hI2 tb2 htb5
            generalize y.2.length = N at *
            generalize (getN y.2 p i).getD zeroS = sr at *
            obtain ⟨is, his⟩ : ∃ is, feaO (getN y.2 p i) s m = is := ⟨_, rfl⟩
            obtain ⟨th, hth⟩ : ∃ th, (getN y.2 p i).isSome = th := ⟨_, rfl⟩
            have HN : Hid ((th && !is) = true → (getN y.2 p i).isSome = true ∧ feaO (getN y.2 p i) s m = false) := HNo.out th is hth his
            rw [hth] at hGet hv1 hv2
            rw [his] at hFea hv1 hv2
            clear hth his HNo
            have bX := Below.refl W5.heap.size W5
            cases th with
            | false =>
              obtain rfl : is = true := hv1 rfl
              go_wp2_with (first
                | (go_at_call 23; refine (hLst _ bX).mono ?_; rintro e w8 ⟨a8, c8, rfl, k8⟩; replace bX := bt bX k8)
                | (go_at_call 24; refine (hFea _ bX).mono ?_; rintro e w7 ⟨rfl, k7⟩; replace bX := bt bX k7)
                | (have kk := r6; refine stS (.tmp 15) (.tmp 100) rfl rfl g6 sr _ rfl rfl r6 ?_; intro W7 g7 r7; replace bX := bt bX (grown_below g7 hB6 hge6 hB6.size); clear r6)
                | (refine alG infoSz rfl rfl ?_; intro g6 W6 hge6 hgl6 hB6 r6)
                | (go_at_call 19; refine hGet.mono ?_; rintro e w6 ⟨rfl, k6⟩; replace bX := bt bX k6)
                | (refine Sn.ldD (.tmp 9) rfl rfl s m rfl (HD.out _ (bt b5 bX)) ?_)
                | (refine ldI (.tmp 8) rfl rfl _ _ i rfl (HI.out _ (bt b5 bX)) ?_)
                | (refine ldQ (.tmp 7) rfl rfl _ _ p rfl (HQ.out _ (bt b5 bX)) ?_))
              go_roundw
              case rel => exact ⟨j + 1, y, false, HJ.out, by first | rfl | go_num, by first | rfl | exact congrArg (Value.int .i64) hw2, rfl, (HEnd.out _ bX).1, (HEnd.out _ bX).2.1, (HEnd.out _ bX).2.2, HN.out⟩
              case measure => first | (rw [hw64]; simp only [intOf]; exact HM.out) | (simp only [intOf]; exact HM.out)
            | true =>
              cases is with
              | false =>
                cases b with
                | false =>
                  go_wp2_with (first
                    | (go_at_call 23; refine (hLst _ bX).mono ?_; rintro e w8 ⟨a8, c8, rfl, k8⟩; replace bX := bt bX k8)
                    | (go_at_call 24; refine (hFea _ bX).mono ?_; rintro e w7 ⟨rfl, k7⟩; replace bX := bt bX k7)
                    | (have kk := r6; refine stS (.tmp 15) (.tmp 100) rfl rfl g6 sr _ rfl rfl r6 ?_; intro W7 g7 r7; replace bX := bt bX (grown_below g7 hB6 hge6 hB6.size); clear r6)
                    | (refine alG infoSz rfl rfl ?_; intro g6 W6 hge6 hgl6 hB6 r6)
                    | (go_at_call 19; refine hGet.mono ?_; rintro e w6 ⟨rfl, k6⟩; replace bX := bt bX k6)
                    | (refine Sn.ldD (.tmp 9) rfl rfl s m rfl (HD.out _ (bt b5 bX)) ?_)
                    | (refine ldI (.tmp 8) rfl rfl _ _ i rfl (HI.out _ (bt b5 bX)) ?_)
                    | (refine ldQ (.tmp 7) rfl rfl _ _ p rfl (HQ.out _ (bt b5 bX)) ?_))
                  go_roundw
                  case rel => exact ⟨j + 1, y, true, HJ.out, by first | rfl | go_num, by first | rfl | exact congrArg (Value.int .i64) hw2, rfl, (HEnd.out _ bX).1, (HEnd.out _ bX).2.1, (HEnd.out _ bX).2.2, HN.out⟩
                  case measure => first | (rw [hw64]; simp only [intOf]; exact HM.out) | (simp only [intOf]; exact HM.out)
                | true =>
                  go_wp2_with (first
                    | (go_at_call 23; refine (hLst _ bX).mono ?_; rintro e w8 ⟨a8, c8, rfl, k8⟩; replace bX := bt bX k8)
                    | (go_at_call 24; refine (hFea _ bX).mono ?_; rintro e w7 ⟨rfl, k7⟩; replace bX := bt bX k7)
                    | (have kk := r6; refine stS (.tmp 15) (.tmp 100) rfl rfl g6 sr _ rfl rfl r6 ?_; intro W7 g7 r7; replace bX := bt bX (grown_below g7 hB6 hge6 hB6.size); clear r6)
                    | (refine alG infoSz rfl rfl ?_; intro g6 W6 hge6 hgl6 hB6 r6)
                    | (go_at_call 19; refine hGet.mono ?_; rintro e w6 ⟨rfl, k6⟩; replace bX := bt bX k6)
                    | (refine Sn.ldD (.tmp 9) rfl rfl s m rfl (HD.out _ (bt b5 bX)) ?_)
                    | (refine ldI (.tmp 8) rfl rfl _ _ i rfl (HI.out _ (bt b5 bX)) ?_)
                    | (refine ldQ (.tmp 7) rfl rfl _ _ p rfl (HQ.out _ (bt b5 bX)) ?_))
                  go_roundw
                  case rel => exact ⟨j + 1, y, true, HJ.out, by first | rfl | go_num, by first | rfl | exact congrArg (Value.int .i64) hw2, rfl, (HEnd.out _ bX).1, (HEnd.out _ bX).2.1, (HEnd.out _ bX).2.2, HN.out⟩
                  case measure => first | (rw [hw64]; simp only [intOf]; exact HM.out) | (simp only [intOf]; exact HM.out)
              | true =>
                obtain rfl : b = false := by
                  cases b with
                  | false => rfl
                  | true => exact absurd (hv2 rfl rfl) (by simp)
                go_wp2_with (first
                  | (go_at_call 23; refine (hLst _ bX).mono ?_; rintro e w8 ⟨a8, c8, rfl, k8⟩; replace bX := bt bX k8)
                  | (go_at_call 24; refine (hFea _ bX).mono ?_; rintro e w7 ⟨rfl, k7⟩; replace bX := bt bX k7)
                  | (have kk := r6; refine stS (.tmp 15) (.tmp 100) rfl rfl g6 sr _ rfl rfl r6 ?_; intro W7 g7 r7; replace bX := bt bX (grown_below g7 hB6 hge6 hB6.size); clear r6)
                  | (refine alG infoSz rfl rfl ?_; intro g6 W6 hge6 hgl6 hB6 r6)
                  | (go_at_call 19; refine hGet.mono ?_; rintro e w6 ⟨rfl, k6⟩; replace bX := bt bX k6)
                  | (refine Sn.ldD (.tmp 9) rfl rfl s m rfl (HD.out _ (bt b5 bX)) ?_)
                  | (refine ldI (.tmp 8) rfl rfl _ _ i rfl (HI.out _ (bt b5 bX)) ?_)
                  | (refine ldQ (.tmp 7) rfl rfl _ _ p rfl (HQ.out _ (bt b5 bX)) ?_))
                go_roundw
                case rel => exact ⟨j + 1, y, false, HJ.out, by first | rfl | go_num, by first | rfl | exact congrArg (Value.int .i64) hw2, rfl, (HEnd.out _ bX).1, (HEnd.out _ bX).2.1, (HEnd.out _ bX).2.2, HN.out⟩
                case measure => first | (rw [hw64]; simp only [intOf]; exact HM.out) | (simp only [intOf]; exact HM.out)
          · have hk2' : (a.k == 2) = false := by simpa using hk2
            have htb5 := HEl.out hk hk2
            clear HKp HTk HEl ha HSt hk hk2
            go_upto_region 19 with fail
            clear ck cg cS hq
            have tb2 : Tb wr t mb most y.2 := htb5
            have hGet := get_any tb2 p i hp
            have hFea := fun W (hW : Below wr.heap.size wr W) => feas_any (tb2.below hW) p i s m hp
            have hLst := fun W (hW : Below wr.heap.size wr W) => list_len (tb2.below hW)
            have HEnd : Hid (∀ W, Below wr.heap.size wr W → KpI most (j + 1) y ∧ Tb W t mb most y.2 ∧ Below X.heap.size X W) := fun W hW => ⟨hI2, tb2.below hW, bt b5 hW⟩
            rw [show getV (getN y.2 p i) = .tuple #[sV ((getN y.2 p i).getD zeroS), .bool (getN y.2 p i).isSome] from rfl] at hGet
            have hmo := hI2.mo
            clear hI2 tb2 htb5
            generalize y.2.length = N at *
            generalize (getN y.2 p i).getD zeroS = sr at *
            obtain ⟨is, his⟩ : ∃ is, feaO (getN y.2 p i) s m = is := ⟨_, rfl⟩
            obtain ⟨th, hth⟩ : ∃ th, (getN y.2 p i).isSome = th := ⟨_, rfl⟩
            have HN : Hid ((th && !is) = true → (getN y.2 p i).isSome = true ∧ feaO (getN y.2 p i) s m = false) := HNo.out th is hth his
            rw [hth] at hGet hv1 hv2
            rw [his] at hFea hv1 hv2
            clear hth his HNo
            have bX := Below.refl wr.heap.size wr
            cases th with
            | false =>
              obtain rfl : is = true := hv1 rfl
              go_wp2_with (first
                | (go_at_call 23; refine (hLst _ bX).mono ?_; rintro e w8 ⟨a8, c8, rfl, k8⟩; replace bX := bt bX k8)
                | (go_at_call 24; refine (hFea _ bX).mono ?_; rintro e w7 ⟨rfl, k7⟩; replace bX := bt bX k7)
                | (have kk := r6; refine stS (.tmp 15) (.tmp 100) rfl rfl g6 sr _ rfl rfl r6 ?_; intro W7 g7 r7; replace bX := bt bX (grown_below g7 hB6 hge6 hB6.size); clear r6)
                | (refine alG infoSz rfl rfl ?_; intro g6 W6 hge6 hgl6 hB6 r6)
                | (go_at_call 19; refine hGet.mono ?_; rintro e w6 ⟨rfl, k6⟩; replace bX := bt bX k6)
                | (refine Sn.ldD (.tmp 9) rfl rfl s m rfl (HD.out _ (bt b5 bX)) ?_)
                | (refine ldI (.tmp 8) rfl rfl _ _ i rfl (HI.out _ (bt b5 bX)) ?_)
                | (refine ldQ (.tmp 7) rfl rfl _ _ p rfl (HQ.out _ (bt b5 bX)) ?_))
              go_roundw
              case rel => exact ⟨j + 1, y, false, HJ.out, by first | rfl | go_num, by first | rfl | exact congrArg (Value.int .i64) hw2, rfl, (HEnd.out _ bX).1, (HEnd.out _ bX).2.1, (HEnd.out _ bX).2.2, HN.out⟩
              case measure => first | (rw [hw64]; simp only [intOf]; exact HM.out) | (simp only [intOf]; exact HM.out)
            | true =>
              cases is with
              | false =>
                cases b with
                | false =>
                  go_wp2_with (first
                    | (go_at_call 23; refine (hLst _ bX).mono ?_; rintro e w8 ⟨a8, c8, rfl, k8⟩; replace bX := bt bX k8)
                    | (go_at_call 24; refine (hFea _ bX).mono ?_; rintro e w7 ⟨rfl, k7⟩; replace bX := bt bX k7)
                    | (have kk := r6; refine stS (.tmp 15) (.tmp 100) rfl rfl g6 sr _ rfl rfl r6 ?_; intro W7 g7 r7; replace bX := bt bX (grown_below g7 hB6 hge6 hB6.size); clear r6)
                    | (refine alG infoSz rfl rfl ?_; intro g6 W6 hge6 hgl6 hB6 r6)
                    | (go_at_call 19; refine hGet.mono ?_; rintro e w6 ⟨rfl, k6⟩; replace bX := bt bX k6)
                    | (refine Sn.ldD (.tmp 9) rfl rfl s m rfl (HD.out _ (bt b5 bX)) ?_)
                    | (refine ldI (.tmp 8) rfl rfl _ _ i rfl (HI.out _ (bt b5 bX)) ?_)
                    | (refine ldQ (.tmp 7) rfl rfl _ _ p rfl (HQ.out _ (bt b5 bX)) ?_))
                  go_roundw
                  case rel => exact ⟨j + 1, y, true, HJ.out, by first | rfl | go_num, by first | rfl | exact congrArg (Value.int .i64) hw2, rfl, (HEnd.out _ bX).1, (HEnd.out _ bX).2.1, (HEnd.out _ bX).2.2, HN.out⟩
                  case measure => first | (rw [hw64]; simp only [intOf]; exact HM.out) | (simp only [intOf]; exact HM.out)
                | true =>
                  go_wp2_with (first
                    | (go_at_call 23; refine (hLst _ bX).mono ?_; rintro e w8 ⟨a8, c8, rfl, k8⟩; replace bX := bt bX k8)
                    | (go_at_call 24; refine (hFea _ bX).mono ?_; rintro e w7 ⟨rfl, k7⟩; replace bX := bt bX k7)
                    | (have kk := r6; refine stS (.tmp 15) (.tmp 100) rfl rfl g6 sr _ rfl rfl r6 ?_; intro W7 g7 r7; replace bX := bt bX (grown_below g7 hB6 hge6 hB6.size); clear r6)
                    | (refine alG infoSz rfl rfl ?_; intro g6 W6 hge6 hgl6 hB6 r6)
                    | (go_at_call 19; refine hGet.mono ?_; rintro e w6 ⟨rfl, k6⟩; replace bX := bt bX k6)
                    | (refine Sn.ldD (.tmp 9) rfl rfl s m rfl (HD.out _ (bt b5 bX)) ?_)
                    | (refine ldI (.tmp 8) rfl rfl _ _ i rfl (HI.out _ (bt b5 bX)) ?_)
                    | (refine ldQ (.tmp 7) rfl rfl _ _ p rfl (HQ.out _ (bt b5 bX)) ?_))
                  go_roundw
                  case rel => exact ⟨j + 1, y, true, HJ.out, by first | rfl | go_num, by first | rfl | exact congrArg (Value.int .i64) hw2, rfl, (HEnd.out _ bX).1, (HEnd.out _ bX).2.1, (HEnd.out _ bX).2.2, HN.out⟩
                  case measure => first | (rw [hw64]; simp only [intOf]; exact HM.out) | (simp only [intOf]; exact HM.out)
              | true =>
                obtain rfl : b = false := by
                  cases b with
                  | false => rfl
                  | true => exact absurd (hv2 rfl rfl) (by simp)
                go_wp2_with (first
                  | (go_at_call 23; refine (hLst _ bX).mono ?_; rintro e w8 ⟨a8, c8, rfl, k8⟩; replace bX := bt bX k8)
                  | (go_at_call 24; refine (hFea _ bX).mono ?_; rintro e w7 ⟨rfl, k7⟩; replace bX := bt bX k7)
                  | (have kk := r6; refine stS (.tmp 15) (.tmp 100) rfl rfl g6 sr _ rfl rfl r6 ?_; intro W7 g7 r7; replace bX := bt bX (grown_below g7 hB6 hge6 hB6.size); clear r6)
                  | (refine alG infoSz rfl rfl ?_; intro g6 W6 hge6 hgl6 hB6 r6)
                  | (go_at_call 19; refine hGet.mono ?_; rintro e w6 ⟨rfl, k6⟩; replace bX := bt bX k6)
                  | (refine Sn.ldD (.tmp 9) rfl rfl s m rfl (HD.out _ (bt b5 bX)) ?_)
                  | (refine ldI (.tmp 8) rfl rfl _ _ i rfl (HI.out _ (bt b5 bX)) ?_)
                  | (refine ldQ (.tmp 7) rfl rfl _ _ p rfl (HQ.out _ (bt b5 bX)) ?_))
                go_roundw
                case rel => exact ⟨j + 1, y, false, HJ.out, by first | rfl | go_num, by first | rfl | exact congrArg (Value.int .i64) hw2, rfl, (HEnd.out _ bX).1, (HEnd.out _ bX).2.1, (HEnd.out _ bX).2.2, HN.out⟩
                case measure => first | (rw [hw64]; simp only [intOf]; exact HM.out) | (simp only [intOf]; exact HM.out)
      · have hjl : j = l.length := by omega
        subst hjl
        clear hI hno hok hf hl2 hlX
        go_wp2_with (first
          | (go_at_call 9; refine (live_any _).mono ?_; rintro e w9 ⟨rfl, k⟩))
        go_ret
        exact ⟨rfl, HB.out _ (bt b5 k)⟩
  · have hbad : ∀ b : Bool, b = true → ¬ (1 ≤ most ∧ most ≤ 200 ∧ s ≤ 16000 ∧ m ≠ 65535) := fun _ _ => hgo
    by_cases h1 : 1 ≤ most
    · by_cases h2 : most ≤ 200
      · by_cases h3 : s ≤ 16000
        · have h4 : m = 65535 := Classical.byContradiction fun h => hgo ⟨h1, h2, h3, h⟩
          have h4' : (m == 65535) = true := by simpa using h4
          clear hbad hgo h4 hNew
          go_wp2_with (first
            | (have kk := hb; go_at_call 9; refine (live_any _).mono ?_; rintro e w9 ⟨rfl, k⟩)
            | (go_at_call 8; refine hR.mono ?_; rintro e w1 ⟨b, rfl, rfl, hb⟩; cases b))
          all_goals
            go_ret
            exact ⟨rfl, HB.out _ k⟩
        · clear hbad hgo hNew
          go_wp2_with (first
            | (have kk := hb; go_at_call 9; refine (live_any _).mono ?_; rintro e w9 ⟨rfl, k⟩)
            | (go_at_call 8; refine hR.mono ?_; rintro e w1 ⟨b, rfl, rfl, hb⟩; cases b))
          all_goals
            go_ret
            exact ⟨rfl, HB.out _ k⟩
      · clear hbad hgo hNew
        go_wp2_with (first
          | (have kk := hb; go_at_call 9; refine (live_any _).mono ?_; rintro e w9 ⟨rfl, k⟩)
          | (go_at_call 8; refine hR.mono ?_; rintro e w1 ⟨b, rfl, rfl, hb⟩; cases b))
        all_goals
          go_ret
          exact ⟨rfl, HB.out _ k⟩
    · clear hbad hgo hNew
      go_wp2_with (first
        | (have kk := hb; go_at_call 9; refine (live_any _).mono ?_; rintro e w9 ⟨rfl, k⟩)
        | (go_at_call 8; refine hR.mono ?_; rintro e w1 ⟨b, rfl, rfl, hb⟩; cases b))
      all_goals
        go_ret
        exact ⟨rfl, HB.out _ k⟩
end Go.Proofs.Ytdcbnibgckdkbaa
