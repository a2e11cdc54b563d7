/-
  makePlan: what may be done now, in its order; till when that holds.
-/
import Derived.Test.YtiihlgcafppehaaFH
namespace Go.Proofs.Ytiihlgcafppehaa
open Go.RowKit Go.Maps Go.Shelf
set_option linter.unusedSimpArgs false
set_option linter.unusedVariables false
set_option maxRecDepth 20000
/-- Only the Fib's own block has turned. -/
structure PTurn (w w' : World) (f : Nat) : Prop where
  os : w'.os = w.os
  tape : w'.tape = w.tape
  out : w'.output = w.output
  size : w.heap.size ≤ w'.heap.size
  block : ∀ i, i < w.heap.size → i ≠ f → w'.heap[i]? = w.heap[i]?
def PlanP (w : World) (f : Nat) (now : Int) (x : Fv) (W H : List En) (A : List (Pr × Int)) (w' : World) : Prop :=
  ∃ ks pl K, ks.Perm (keysP W H) ∧ Fb w' f ⟨x.mW, x.mH, x.mA, x.d, pl, layTs W H A now maxT ks⟩ W H A ∧ kO.Own w' w.heap.size pl K ∧ K.Perm (lays W H A now ks) ∧ Oo.Asc K ∧ PTurn w w' f
theorem LTurn.high {w w1 w' : World} {f B it : Nat} (h : LTurn w w1 f B) (hg : w1.grownBy w' (some it)) (hi : w.heap.size ≤ it) : LTurn w w' f B :=
  ⟨hg.os.trans h.os, hg.tape.trans h.tape, hg.output.trans h.out, Nat.le_trans h.size hg.size, fun i hlt h1 h2 => (hg.block i (Nat.lt_of_lt_of_le hlt h.size) (fun e => by cases e; omega)).trans (h.block i hlt h1 h2)⟩
theorem LTurn.plan {w w' : World} {f B : Nat} (h : LTurn w w' f B) (hB : w.heap.size = B) {w2 : World} (hb : Below B w' w2) : PTurn w w2 f :=
  ⟨hb.os.trans h.os, hb.tape.trans h.tape, hb.output.trans h.out, Nat.le_trans h.size hb.size, fun i hlt h1 => (hb.block i (by omega)).trans (h.block i hlt h1 (fun h3 => by omega))⟩
theorem coll_len {L ss : List En} {left : Lit → Bool} (h : Coll L left ss) : ss.length ≤ L.length := by
  obtain ⟨rs, hp, _⟩ := h
  have := hp.length_eq
  simp at this
  omega
theorem low_fb {w w' : World} {f B : Nat} {x : Fv} {W H : List En} {A : List (Pr × Int)} (h : Fb w f x W H A) (hb : Below B w w') (h0 : f < B) (h1 : x.mW < B) (h2 : x.mH < B) (h3 : x.mA < B) : Fb w' f x W H A :=
  ⟨h.row.below hb h0, h.mw.below hb h1, h.mh.below hb h2, h.ma.below hb h3, h.wh, h.wa, h.ha, h.lw, h.lh, h.la⟩
theorem filt_snoc (H : List En) (s : List En) (n : En) : ((s ++ [n]).filter fun e => (getN mE H e.p).isNone).map En.p = (s.filter fun e => (getN mE H e.p).isNone).map En.p ++ (if (getN mE H n.p).isNone = true then [n.p] else []) := by
  rw [List.filter_append, List.map_append]
  congr 1
  by_cases h : (getN mE H n.p).isNone = true
  · simp [h]
  · simp [h]
theorem keys_len {W H : List En} (h1 : W.length + H.length ≤ 1000000) : (keysP W H).length ≤ 1000000 := by
  unfold keysP
  rw [List.length_append, List.length_map, List.length_map]
  have := List.length_filter_le (fun e : En => (getN mE H e.p).isNone) W
  omega
theorem keys_nd {W H : List En} (h1 : (H.map En.p).Nodup) (h2 : (W.map En.p).Nodup) : (keysP W H).Nodup := by
  unfold keysP
  rw [List.nodup_append]
  refine ⟨h1, List.Sublist.nodup (List.Sublist.map _ List.filter_sublist) h2, ?_⟩
  intro a ha b hb e
  obtain ⟨m, hm, rfl⟩ := List.mem_map.1 ha
  obtain ⟨n, hn, rfl⟩ := List.mem_map.1 hb
  obtain ⟨_, h3⟩ := List.mem_filter.1 hn
  have h4 : getN mE H n.p = none := by simpa using h3
  have := getN_none h4 m hm
  rw [show keyB mE n.p m = true from keyB_iff.2 e] at this
  cases this
set_option maxHeartbeats 16000000 in
theorem plan_any {w : World} {f : Nat} {x : Fv} {W H : List En} {A : List (Pr × Int)} (h : Fb w f x W H A) (now : Int) (hWH : W.length + H.length ≤ 1000000) : Calls Try.prog 39 #[.pointer (some ⟨f, 0, none⟩), .int .i64 now] w fun e w' => e = .returned (.tuple #[]) ∧ PlanP w f now x W H A w' := by
  obtain ⟨hB0, r0, r1⟩ := low_rows w [.pointer (some ⟨f, 0, none⟩)] [.int .i64 now] 46 3
  have F0 := h.below hB0
  have hfl := h.lt
  have HF : Hid (Fb w f x W H A) := h
  clear h
  go_enter Try.func39, Try.ntmps39
  go_upto_region 1 with fail
  refine name_world (R := fun V => Code.wp _ _ _ _ V) (P := fun V => Below w.heap.size w V ∧ Fb V f x W H A ∧ Row V w.heap.size 46 [.pointer (some ⟨f, 0, none⟩)] ∧ Row V (w.heap.size + 1) 3 [.int .i64 now]) _ ⟨hB0, F0, r0, r1⟩ ?_
  clear hB0 F0 r0 r1
  rintro X ⟨bX, F0, rb, rn⟩
  obtain ⟨B, hB⟩ : ∃ B, w.heap.size = B := ⟨_, rfl⟩
  have rbl := rb.lt
  have rnl := rn.lt
  have sX := bX.size
  rw [hB] at rb rn ⊢
  rw [hB] at rbl rnl
  have cb0 := rb.cell 0
  have cbd := (rb.below (Below.refl X.heap.size X).drew rbl).cell 0
  have hbf : B ≠ f := by omega
  have hbn : B + 1 ≠ f := by omega
  have F0d := F0.below (Below.refl X.heap.size X).drew
  have rbd := rb.below (Below.refl X.heap.size X).drew rbl
  have rnd := rn.below (Below.refl X.heap.size X).drew rnl
  refine wp_region_noPanic ?_
  refine wp_region_N (S := fun U => U.cell? ⟨B, 0, none⟩ = some (.pointer (some ⟨f, 0, none⟩))) 7 (by kernel_rfl) (cbd) (fun hHeld => ?_)
  refine takeN_lit (i := 0) (v := ?_) (F := #[false, true, false, false, false, false, false, false]) rfl (by kernel_rfl) (by kernel_rfl) (by kernel_rfl) (by kernel_rfl) (fun _ _ _ h => h) (Or.inl ⟨by rfl, ?_⟩) (by assumption) ?_
  rotate_left
  · (intro w hSw; (try dsimp only at hSw); have z := hSw; go_simp <;> with_reducible rfl)
  try simp only [Act.put, List.setIfInBounds_toArray, List.set_cons_zero, List.set_cons_succ]
  refine takeN_lit (i := 1) (v := ?_) (F := #[true, false, true, true, true, false, false, false]) rfl (by kernel_rfl) (by kernel_rfl) (by kernel_rfl) (by kernel_rfl) (fun _ _ _ h => h) (Or.inl ⟨by rfl, ?_⟩) (by assumption) ?_
  rotate_left
  · (intro w hSw; (try dsimp only at hSw); have z := hSw; go_simp <;> with_reducible rfl)
  try simp only [Act.put, List.setIfInBounds_toArray, List.set_cons_zero, List.set_cons_succ]
  refine takeN_lit (i := 2) (v := ?_) (F := #[true, true, false, false, false, false, false, false]) rfl (by kernel_rfl) (by kernel_rfl) (by kernel_rfl) (by kernel_rfl) (fun _ _ _ h => h) (Or.inl ⟨by rfl, ?_⟩) (by assumption) ?_
  rotate_left
  · (intro w hSw; (try dsimp only at hSw); go_simp <;> with_reducible rfl)
  try simp only [Act.put, List.setIfInBounds_toArray, List.set_cons_zero, List.set_cons_succ]
  refine takeN_lit (i := 3) (v := ?_) (F := #[true, true, true, false, false, false, false, false]) rfl (by kernel_rfl) (by kernel_rfl) (by kernel_rfl) (by kernel_rfl) (fun _ _ _ h => h) (Or.inl ⟨by rfl, ?_⟩) (by assumption) ?_
  rotate_left
  · (intro w hSw; (try dsimp only at hSw); go_simp <;> with_reducible rfl)
  try simp only [Act.put, List.setIfInBounds_toArray, List.set_cons_zero, List.set_cons_succ]
  refine wpAnyN_ready (rs := [4]) (by kernel_rfl) (by simp) ?_
  refine consN_lit rfl (fun K hK => ?_) ?_
  · skip
    refine sStPl (U := 79) (.tmp 12) (.const (.slice none 0 0)) (by rfl) rfl f none 0 0 x rfl rfl F0d.row ?_
    intro W4 g4 r4
    have F4 := F0d.own_ g4 _ _ _ r4
    have rb4 := rbd.keep g4 hbf
    have rn4 := rnd.keep g4 hbn
    refine hK.out _ _ (Or.inr ?_) (fun hHeld => ?_)
    · exact rb4.cell 0
    replace hHeld := hHeld.resolve_left (by decide)
    clear hK K
    try simp only [Act.put, List.setIfInBounds_toArray, List.set_cons_zero, List.set_cons_succ]
    refine takeN_lit (i := 5) (v := ?_) (F := #[true, true, true, true, true, false, false, false]) rfl (by kernel_rfl) (by kernel_rfl) (by kernel_rfl) (by kernel_rfl) (fun _ _ _ h => h) (Or.inl ⟨by rfl, ?_⟩) (by assumption) ?_
    rotate_left
    · (intro w hSw; (try dsimp only at hSw); go_simp <;> with_reducible rfl)
    try simp only [Act.put, List.setIfInBounds_toArray, List.set_cons_zero, List.set_cons_succ]
    refine takeN_lit (i := 6) (v := ?_) (F := #[true, true, true, true, true, true, false, false]) rfl (by kernel_rfl) (by kernel_rfl) (by kernel_rfl) (by kernel_rfl) (fun _ _ _ h => h) (Or.inl ⟨by rfl, ?_⟩) (by assumption) ?_
    rotate_left
    · (intro w hSw; (try dsimp only at hSw); go_simp <;> with_reducible rfl)
    try simp only [Act.put, List.setIfInBounds_toArray, List.set_cons_zero, List.set_cons_succ]
    refine wpAnyN_ready (rs := [7]) (by kernel_rfl) (by simp) ?_
    refine consN_lit rfl (fun K hK => ?_) ?_
    · skip
      refine sStTi (U := 79) (.tmp 14) (.const (.int .i64 9223372036854775807)) (by rfl) rfl f 9223372036854775807 _ rfl rfl F4.row ?_
      intro W7 g7 r7
      have F7 := F4.own_ g7 _ _ _ r7
      have L7 : Ly W7 f B B (B + 1) now ⟨x.mW, x.mH, x.mA, x.d, .slice none 0 0, maxT⟩ W H A [] := ⟨F7, World.ownsRow_nil _ _ _ _, rb4.keep g7 hbf, rn4.keep g7 hbn, by have := g4.size; have := g7.size; have e : X.drew.heap.size = X.heap.size := rfl; omega⟩
      have t7 : LTurn w W7 f B := (LTurn.of (by rw [hB] at bX; rw [hB]; exact bX)).trans ((LTurn.of (Below.refl X.heap.size X).drew).trans ((LTurn.self g4).trans (LTurn.self g7)))
      refine hK.out _ _ (Or.inl rfl) (fun _ => ?_)
      clear hK K
      try simp only [Act.put, List.setIfInBounds_toArray, List.set_cons_zero, List.set_cons_succ]
      refine wpAnyN_done (by kernel_rfl) ?_ _
      refine NoPanic.normal ?_
      have L7lh := L7.fb.lh
      have L7lw := L7.fb.lw
      have hmf : x.mH ≠ f := (L7.fb.mh.ne_row L7.fb.row).symm
      have hmf2 : x.mW ≠ f := (L7.fb.mw.ne_row L7.fb.row).symm
      have hi7 : w.heap.size ≤ W7.heap.size := t7.size
      have hif : W7.heap.size ≠ f := by omega
      obtain ⟨D, hown, hsz, hhas, hat⟩ := L7.fb.mh.ex
      have hwf : ∀ n ∈ H, wfQ n.p := L7.fb.mh.wf
      have hnd : (H.map En.p).Nodup := L7.fb.mh.nd
      have hndW : (W.map En.p).Nodup := L7.fb.mw.nd
      replace hhas : ∀ l : Lit, Go.Maps.has D l = true ↔ ∃ n ∈ H, kl n.p = l := hhas
      have cf1 : W7.cell? ⟨f, 1, none⟩ = some (.map (some x.mH)) := L7.fb.row.f1
      have cb1 : W7.cell? ⟨B, 0, none⟩ = some (.pointer (some ⟨f, 0, none⟩)) := L7.bf.cell 0
      clear cb0 cbd F0d rbd rnd F4 rb4 rn4 F7 g4 g7 r4 r7 F0 rb rn rbl rnl sX hbf hbn hsz
      go_wp2_with (first
        | (at_range; refine wpList_range_own _ rfl _ 67 rfl 34 36 keyLaw Try.underlying67 elV x.mH H.length D rfl hown ?_; intro w0 hrg0 hg0 hs0))
      try go_frame
      have L0 : Ly w0 f B B (B + 1) now ⟨x.mW, x.mH, x.mA, x.d, .slice none 0 0, maxT⟩ W H A [] := L7.below (below_keepO (Below.refl _ _) hg0 (by simp) (Nat.le_refl _))
      have t0 : LTurn w w0 f B := t7.trans (LTurn.of (below_keepO (Below.refl _ _) hg0 (by simp) (Nat.le_refl _)))
      clear L7 t7
      go_loopw [5] (fun _ wr => ∃ (left : Lit → Bool) (cnt : Nat) (ss : List En) (pl : Value), wr.ranges Try.prog 34 elV x.mH W7.heap.size H.length D left cnt ∧ Coll H left ss ∧ Ly wr f B B (B + 1) now ⟨x.mW, x.mH, x.mA, x.d, pl, layTs W H A now maxT (ss.map En.p)⟩ W H A (lays W H A now (ss.map En.p)) ∧ LTurn w wr f B)
        (fun _ wr => wr.rangeLeft x.mH W7.heap.size)
      case atStart => exact ⟨_, _, [], _, hrg0, ⟨H, by simp, hhas⟩, L0, t0⟩
      case round =>
        clear hrg0 hg0 hown hhas cf1 cb1 L0 t0
        obtain ⟨left, cnt, ss, pl, hrg, hC, hL, hT⟩ := hrel
        go_wp2_with (first
          | (at_next; refine wpList_next_ranges _ rfl _ rfl 34 keyLaw elV id id (fun key _ _ => ⟨key, rfl⟩) (fun v _ _ => ⟨v, rfl⟩) x.mH W7.heap.size H.length _ _ _ rfl hrg ?_ ?_))
        · intro _ hl0
          have hp := hC.done hl0
          obtain ⟨W8, hW8⟩ : ∃ W8, wr = W8 := ⟨_, rfl⟩
          obtain rfl := hW8
          rename World => W8
          have L8 := hL
          have T8 := hT
          have hif8 : W8.heap.size ≠ f := by have := T8.size; omega
          obtain ⟨D2, hown2, hsz2, hhas2, hat2⟩ := L8.fb.mw.ex
          have hwf2 : ∀ n ∈ W, wfQ n.p := L8.fb.mw.wf
          have hnd2 : (W.map En.p).Nodup := L8.fb.mw.nd
          replace hhas2 : ∀ l : Lit, Go.Maps.has D2 l = true ↔ ∃ n ∈ W, kl n.p = l := hhas2
          have cf0 : W8.cell? ⟨f, 0, none⟩ = some (.map (some x.mW)) := L8.fb.row.f0
          have cb1 : W8.cell? ⟨B, 0, none⟩ = some (.pointer (some ⟨f, 0, none⟩)) := L8.bf.cell 0
          clear hrg hC hL hT hat hsz2
          go_wp2_with (first
            | (at_range; refine wpList_range_own _ rfl _ 67 rfl 34 36 keyLaw Try.underlying67 elV x.mW W.length D2 rfl hown2 ?_; intro w0 hrg0 hg0 hs0))
          try go_frame
          have L0 := L8.below (below_keepO (Below.refl _ _) hg0 (by simp) (Nat.le_refl _))
          have t0 : LTurn w w0 f B := T8.trans (LTurn.of (below_keepO (Below.refl _ _) hg0 (by simp) (Nat.le_refl _)))
          clear L8
          go_loopw [6] (fun _ wr => ∃ (left : Lit → Bool) (cnt : Nat) (ss2 : List En) (pl : Value), wr.ranges Try.prog 34 elV x.mW W8.heap.size W.length D2 left cnt ∧ Coll W left ss2 ∧ Ly wr f B B (B + 1) now ⟨x.mW, x.mH, x.mA, x.d, pl, layTs W H A now maxT (ss.map En.p ++ (ss2.filter fun e => (getN mE H e.p).isNone).map En.p)⟩ W H A (lays W H A now (ss.map En.p ++ (ss2.filter fun e => (getN mE H e.p).isNone).map En.p)) ∧ LTurn w wr f B)
            (fun _ wr => wr.rangeLeft x.mW W8.heap.size)
          case atStart => exact ⟨_, _, [], pl, hrg0, ⟨W, by simp, hhas2⟩, by simpa using L0, t0⟩
          case round =>
            clear hrg0 hg0 hown2 hhas2 cf0 cb1 L0 t0
            obtain ⟨left, cnt, ss2, pl2, hrg, hC, hL, hT⟩ := hrel
            go_wp2_with (first
              | (at_next; refine wpList_next_ranges _ rfl _ rfl 34 keyLaw elV id id (fun key _ _ => ⟨key, rfl⟩) (fun v _ _ => ⟨v, rfl⟩) x.mW W8.heap.size W.length _ _ _ rfl hrg ?_ ?_))
            · intro _ hl0
              have hp2 := hC.done hl0
              have hks : (ss.map En.p ++ (ss2.filter fun e => (getN mE H e.p).isNone).map En.p).Perm (keysP W H) := (hp.map _).append ((hp2.filter _).map _)
              have hksn : (ss.map En.p ++ (ss2.filter fun e => (getN mE H e.p).isNone).map En.p).Nodup := hks.nodup_iff.2 (keys_nd hnd hnd2)
              have hlen : (lays W H A now (ss.map En.p ++ (ss2.filter fun e => (getN mE H e.p).isNone).map En.p)).length ≤ 1000000 := Nat.le_trans (lays_len _ _ _ _ _) (by rw [hks.length_eq]; exact keys_len hWH)
              generalize hksd : ss.map En.p ++ (ss2.filter fun e => (getN mE H e.p).isNone).map En.p = ks at *
              obtain ⟨ad, cc, epl, _⟩ := Kd.own_at hL.pl
              have hpl : pl2 = .slice ad (lays W H A now ks).length cc := epl
              subst hpl
              have hS := Oo.sortr_any (lays W H A now ks) hL.pl hlen (lays_nd hksn) hL.le
              have cb1 : wr.cell? ⟨B, 0, none⟩ = some (.pointer (some ⟨f, 0, none⟩)) := hL.bf.cell 0
              have cpl : wr.cell? ⟨f, 55, none⟩ = some (.slice ad (lays W H A now ks).length cc) := hL.fb.row.f55
              clear hat2 hrg hC hwf2 epl
              go_wp2_with (go_at_call 58; refine hS.mono ?_; rintro e w9 ⟨rfl, K, k1, k2, k3, k4⟩)
              go_end0
              have F9 := low_fb hL.fb k4 (by rw [← hB]; exact hfl) (by rw [← hB]; exact HF.out.mw.lt) (by rw [← hB]; exact HF.out.mh.lt) (by rw [← hB]; exact HF.out.ma.lt)
              rw [k1.length_eq] at k3
              exact ⟨rfl, ks, _, K, hks, F9, by rw [hB]; exact k3, k1, k2, hT.plan hB k4⟩
            · intro y c lk yd yp w1 cnt1 hkey hlk hv hat1 hrg1 hlt hg1 hs1 hen
              obtain ⟨n, hnL, rfl, hC2⟩ := hC.step hwf2 hnd2 hlk
              obtain rfl : y = (Value.agg (qcells n.p).toArray) := keyLaw.inj hkey (key_some n.p (hwf2 n hnL))
              obtain ⟨m, s1, s2, c0, hit⟩ := ranges_it hrg
              have L1 := hL.iter hit hg1
              have T1 := hT.high hg1 (Nat.le_trans T8.size (Nat.le_refl _))
              have hwn := hwf2 n hnL
              have HC : Hid (Coll W (fun z => left z && !z.sameKey (kl n.p)) (ss2 ++ [n])) := hC2
              have HCN : Hid (wr.rangeLeft x.mW W8.heap.size = cnt) := hrg.left_eq
              have HLT : Hid (cnt1 < cnt) := hlt
              have HR : Hid (∀ V V2, Below w1.heap.size w1 V → LTurn V V2 f B → V2.ranges Try.prog 34 elV x.mW W8.heap.size W.length D2 (fun z => left z && !z.sameKey (kl n.p)) cnt1) := fun V V2 hV ht => by
                have hg : w1.grownBy V none := ⟨hV.os, hV.tape, hV.output, hV.size, fun i hi _ => hV.block i hi⟩
                exact ranges_turn (hrg1.kept hg (by simp) (by simp)) ht hmf2 hif8
              have hPl : (lays W H A now (ss.map En.p ++ (ss2.filter fun e => (getN mE H e.p).isNone).map En.p)).length ≤ 10000000 := Nat.le_trans (lays_len _ _ _ _ _) (by rw [List.length_append, List.length_map, List.length_map]; have := List.length_filter_le (fun e : En => (getN mE H e.p).isNone) ss2; have := coll_len hC; have := hp.length_eq; omega)
              clear hC hC2 hL hT hrg hlt hrg1 hg1 hs1 hat1 hv hkey hlk hit hat2
              have hlk1 : ∀ V, Below w1.heap.size w1 V → (Instr.lookup 67 (.map (some x.mH)) (Value.agg (qcells n.p).toArray) true).run Try.prog V = .ok (.tuple #[eV ((getN mE H n.p).getD zeroE), .bool (getN mE H n.p).isSome]) V := fun V hV => (L1.below hV).fb.mh.look hwn
              have HFs := filt_snoc H ss2 n
              go_upto_region 10 with (first
                | (have kk := r5; (with_reducible refine stQ0 (.tmp 6) (.tmp 36) ?_ ?_ g5 n.p zeroQ ?_ ?_ ?_ ?_); (focus rfl); (focus rfl); (focus rfl); (focus rfl); (focus exact r5); intro W4 gr4 q5; have b4 := grown_below gr4 b5 h5 b5.size; have L4 := L1.below b4; clear r5)
                | ((with_reducible refine alG infoQz ?_ ?_ ?_); (focus rfl); (focus rfl); intro g5 W3 h5 l5 b5 r5))
              have q5l := q5.lt
              have HK : Hid (∀ V, Below W4.heap.size W4 V → V.cell? ⟨B, 0, none⟩ = some (.pointer (some ⟨f, 0, none⟩)) ∧ V.cell? ⟨f, 1, none⟩ = some (.map (some x.mH)) ∧ LQ V g5 0 n.p) := fun V hV => by
                have q := L4.below hV
                exact ⟨q.bf.cell 0, q.fb.row.f1, (q5.below hV q5l).range⟩
              have hlk4 : ∀ V, Below W4.heap.size W4 V → _ := fun V hV => hlk1 V (bt b4 hV)
              clear hlk1 kk gr4
              cases ho : getN mE H n.p with
              | none =>
                rw [ho] at hlk4 HFs
                refine wp_region_noPanic ?_
                refine wp_region_held_drew (S := fun V => Below W4.heap.size W4 V) (by kernel_rfl) ((Below.refl _ _).drew) (fun hHeld => ?_)
                refine take_lit (i := 0) (v := ?_) rfl (by kernel_rfl) (by kernel_rfl) (by kernel_rfl) (fun _ _ _ h => h) (Or.inl ⟨by rfl, ?_⟩) (by assumption) ?_
                rotate_left
                · (intro w hSw; (try dsimp only at hSw); have z := (HK.out _ hSw).1; go_simp <;> with_reducible rfl)
                try simp only [Act.put, List.setIfInBounds_toArray, List.set_cons_zero, List.set_cons_succ]
                refine take_lit (i := 1) (v := ?_) rfl (by kernel_rfl) (by kernel_rfl) (by kernel_rfl) (fun _ _ _ h => h) (Or.inl ⟨by rfl, ?_⟩) (by assumption) ?_
                rotate_left
                · (intro w hSw; (try dsimp only at hSw); go_simp <;> with_reducible rfl)
                try simp only [Act.put, List.setIfInBounds_toArray, List.set_cons_zero, List.set_cons_succ]
                refine take_lit (i := 2) (v := ?_) rfl (by kernel_rfl) (by kernel_rfl) (by kernel_rfl) (fun _ _ _ h => h) (Or.inl ⟨by rfl, ?_⟩) (by assumption) ?_
                rotate_left
                · (intro w hSw; (try dsimp only at hSw); go_simp <;> with_reducible rfl)
                try simp only [Act.put, List.setIfInBounds_toArray, List.set_cons_zero, List.set_cons_succ]
                refine take_lit (i := 3) (v := ?_) rfl (by kernel_rfl) (by kernel_rfl) (by kernel_rfl) (fun _ _ _ h => h) (Or.inl ⟨by rfl, ?_⟩) (by assumption) ?_
                rotate_left
                · (intro w hSw; (try dsimp only at hSw); have z := (HK.out _ hSw).2.1; go_simp <;> with_reducible rfl)
                try simp only [Act.put, List.setIfInBounds_toArray, List.set_cons_zero, List.set_cons_succ]
                refine take_lit (i := 4) rfl (by kernel_rfl) (by kernel_rfl) (by kernel_rfl) (fun _ _ _ h => h) (yQ n.p (fun w h => (HK.out _ h).2.2) (by rfl) rfl rfl) (by assumption) ?_
                try simp only [Act.put, List.setIfInBounds_toArray, List.set_cons_zero, List.set_cons_succ]
                refine take_lit (i := 5) (v := ?_) rfl (by kernel_rfl) (by kernel_rfl) (by kernel_rfl) (fun _ _ _ h => h) (Or.inl ⟨by rfl, ?_⟩) (by assumption) ?_
                rotate_left
                · (intro w hSw; (try dsimp only at hSw); have z := hlk4 _ hSw; go_simp <;> with_reducible rfl)
                try simp only [Act.put, List.setIfInBounds_toArray, List.set_cons_zero, List.set_cons_succ]
                refine take_lit (i := 6) (v := ?_) rfl (by kernel_rfl) (by kernel_rfl) (by kernel_rfl) (fun _ _ _ h => h) (Or.inl ⟨by rfl, ?_⟩) (by assumption) ?_
                rotate_left
                · (intro w hSw; (try dsimp only at hSw); go_simp <;> with_reducible rfl)
                try simp only [Act.put, List.setIfInBounds_toArray, List.set_cons_zero, List.set_cons_succ]
                refine take_lit (i := 7) (v := ?_) rfl (by kernel_rfl) (by kernel_rfl) (by kernel_rfl) (fun _ _ _ h => h) (Or.inl ⟨by rfl, ?_⟩) (by assumption) ?_
                rotate_left
                · (intro w hSw; (try dsimp only at hSw); go_simp <;> with_reducible rfl)
                try simp only [Act.put, List.setIfInBounds_toArray, List.set_cons_zero, List.set_cons_succ]
                refine take_lit (i := 8) (v := ?_) rfl (by kernel_rfl) (by kernel_rfl) (by kernel_rfl) (fun _ _ _ h => h) (Or.inl ⟨by rfl, ?_⟩) (by assumption) ?_
                rotate_left
                · (intro w hSw; (try dsimp only at hSw); go_simp <;> with_reducible rfl)
                try simp only [Act.put, List.setIfInBounds_toArray, List.set_cons_zero, List.set_cons_succ]
                refine wpAnyH_ready (rs := [9]) (by kernel_rfl) (by simp) ?_
                refine cons_lit rfl (fun K hK => ?_) ?_
                · skip
                  refine sAlG infoEz (by rfl) rfl ?_
                  intro g7 V6 hge7 hgl7 hB7 r7
                  refine hK.out _ _ ?_ (fun hHeld => ?_)
                  · exact bt hHeld hB7
                  clear hK K
                  try simp only [Act.put, List.setIfInBounds_toArray, List.set_cons_zero, List.set_cons_succ]
                  refine wpAnyH_ready (rs := [10]) (by kernel_rfl) (by simp) ?_
                  refine cons_lit rfl (fun K hK => ?_) ?_
                  · skip
                    refine sStE (.tmp 7) (.tmp 44) (by rfl) rfl g7 zeroE zeroE rfl rfl r7 ?_
                    intro V7 hg7 q7
                    refine hK.out _ _ ?_ (fun hHeld => ?_)
                    · exact grown_below hg7 hHeld (show W4.heap.size ≤ g7 from hge7) hHeld.size
                    clear hK K
                    try simp only [Act.put, List.setIfInBounds_toArray, List.set_cons_zero, List.set_cons_succ]
                    refine take_lit (i := 11) (v := ?_) rfl (by kernel_rfl) (by kernel_rfl) (by kernel_rfl) (fun _ _ _ h => h) (Or.inl ⟨by rfl, ?_⟩) (by assumption) ?_
                    rotate_left
                    · (intro w hSw; (try dsimp only at hSw); go_simp <;> with_reducible rfl)
                    try simp only [Act.put, List.setIfInBounds_toArray, List.set_cons_zero, List.set_cons_succ]
                    refine wpAnyH_done (by kernel_rfl) ?_ _
                    refine NoPanic.normal ?_
                    have L6 := L4.below hHeld
                    have q6 := q5.below hHeld q5l
                    have b6 := bt b4 hHeld
                    clear hHeld HK hlk4 L4 q5 r7 hg7 hB7 q7
                    go_wp2_with (first
                      | (have kk := q6; go_at_call 57; refine (lay_any L6 n.p hwn hPl).mono ?_; rintro e w5 ⟨rfl, pl5, L5, t5⟩)
                      | (have kk := q6; (with_reducible refine ldQ (.tmp 6) ?_ ?_ g5 0 n.p ?_ ?_ ?_); (focus rfl); (focus rfl); (focus rfl); (focus exact q6.range)))
                    have hrg5 := HR.out _ _ b6 t5
                    have T5 := (T1.trans (LTurn.of b6)).trans t5
                    go_roundw
                    case rel => exact ⟨_, cnt1, ss2 ++ [n], pl5, hrg5, HC.out, by rw [HFs, show (none : Option En).isNone = true from rfl, if_pos rfl, ← List.append_assoc, layTs_snoc, lays_snoc]; exact L5, T5⟩
                    case measure => rw [hrg5.left_eq, HCN.out]; exact HLT.out
                  exact AllReadyH.nil
                exact AllReadyH.nil
              | some u =>
                rw [ho] at hlk4 HFs
                refine wp_region_noPanic ?_
                refine wp_region_held_drew (S := fun V => Below W4.heap.size W4 V) (by kernel_rfl) ((Below.refl _ _).drew) (fun hHeld => ?_)
                refine take_lit (i := 0) (v := ?_) rfl (by kernel_rfl) (by kernel_rfl) (by kernel_rfl) (fun _ _ _ h => h) (Or.inl ⟨by rfl, ?_⟩) (by assumption) ?_
                rotate_left
                · (intro w hSw; (try dsimp only at hSw); have z := (HK.out _ hSw).1; go_simp <;> with_reducible rfl)
                try simp only [Act.put, List.setIfInBounds_toArray, List.set_cons_zero, List.set_cons_succ]
                refine take_lit (i := 1) (v := ?_) rfl (by kernel_rfl) (by kernel_rfl) (by kernel_rfl) (fun _ _ _ h => h) (Or.inl ⟨by rfl, ?_⟩) (by assumption) ?_
                rotate_left
                · (intro w hSw; (try dsimp only at hSw); go_simp <;> with_reducible rfl)
                try simp only [Act.put, List.setIfInBounds_toArray, List.set_cons_zero, List.set_cons_succ]
                refine take_lit (i := 2) (v := ?_) rfl (by kernel_rfl) (by kernel_rfl) (by kernel_rfl) (fun _ _ _ h => h) (Or.inl ⟨by rfl, ?_⟩) (by assumption) ?_
                rotate_left
                · (intro w hSw; (try dsimp only at hSw); go_simp <;> with_reducible rfl)
                try simp only [Act.put, List.setIfInBounds_toArray, List.set_cons_zero, List.set_cons_succ]
                refine take_lit (i := 3) (v := ?_) rfl (by kernel_rfl) (by kernel_rfl) (by kernel_rfl) (fun _ _ _ h => h) (Or.inl ⟨by rfl, ?_⟩) (by assumption) ?_
                rotate_left
                · (intro w hSw; (try dsimp only at hSw); have z := (HK.out _ hSw).2.1; go_simp <;> with_reducible rfl)
                try simp only [Act.put, List.setIfInBounds_toArray, List.set_cons_zero, List.set_cons_succ]
                refine take_lit (i := 4) rfl (by kernel_rfl) (by kernel_rfl) (by kernel_rfl) (fun _ _ _ h => h) (yQ n.p (fun w h => (HK.out _ h).2.2) (by rfl) rfl rfl) (by assumption) ?_
                try simp only [Act.put, List.setIfInBounds_toArray, List.set_cons_zero, List.set_cons_succ]
                refine take_lit (i := 5) (v := ?_) rfl (by kernel_rfl) (by kernel_rfl) (by kernel_rfl) (fun _ _ _ h => h) (Or.inl ⟨by rfl, ?_⟩) (by assumption) ?_
                rotate_left
                · (intro w hSw; (try dsimp only at hSw); have z := hlk4 _ hSw; go_simp <;> with_reducible rfl)
                try simp only [Act.put, List.setIfInBounds_toArray, List.set_cons_zero, List.set_cons_succ]
                refine take_lit (i := 6) (v := ?_) rfl (by kernel_rfl) (by kernel_rfl) (by kernel_rfl) (fun _ _ _ h => h) (Or.inl ⟨by rfl, ?_⟩) (by assumption) ?_
                rotate_left
                · (intro w hSw; (try dsimp only at hSw); go_simp <;> with_reducible rfl)
                try simp only [Act.put, List.setIfInBounds_toArray, List.set_cons_zero, List.set_cons_succ]
                refine take_lit (i := 7) (v := ?_) rfl (by kernel_rfl) (by kernel_rfl) (by kernel_rfl) (fun _ _ _ h => h) (Or.inl ⟨by rfl, ?_⟩) (by assumption) ?_
                rotate_left
                · (intro w hSw; (try dsimp only at hSw); go_simp <;> with_reducible rfl)
                try simp only [Act.put, List.setIfInBounds_toArray, List.set_cons_zero, List.set_cons_succ]
                refine take_lit (i := 8) (v := ?_) rfl (by kernel_rfl) (by kernel_rfl) (by kernel_rfl) (fun _ _ _ h => h) (Or.inl ⟨by rfl, ?_⟩) (by assumption) ?_
                rotate_left
                · (intro w hSw; (try dsimp only at hSw); go_simp <;> with_reducible rfl)
                try simp only [Act.put, List.setIfInBounds_toArray, List.set_cons_zero, List.set_cons_succ]
                refine wpAnyH_ready (rs := [9]) (by kernel_rfl) (by simp) ?_
                refine cons_lit rfl (fun K hK => ?_) ?_
                · skip
                  refine sAlG infoEz (by rfl) rfl ?_
                  intro g7 V6 hge7 hgl7 hB7 r7
                  refine hK.out _ _ ?_ (fun hHeld => ?_)
                  · exact bt hHeld hB7
                  clear hK K
                  try simp only [Act.put, List.setIfInBounds_toArray, List.set_cons_zero, List.set_cons_succ]
                  refine wpAnyH_ready (rs := [10]) (by kernel_rfl) (by simp) ?_
                  refine cons_lit rfl (fun K hK => ?_) ?_
                  · skip
                    refine sStE (.tmp 7) (.tmp 44) (by rfl) rfl g7 u zeroE rfl rfl r7 ?_
                    intro V7 hg7 q7
                    refine hK.out _ _ ?_ (fun hHeld => ?_)
                    · exact grown_below hg7 hHeld (show W4.heap.size ≤ g7 from hge7) hHeld.size
                    clear hK K
                    try simp only [Act.put, List.setIfInBounds_toArray, List.set_cons_zero, List.set_cons_succ]
                    refine take_lit (i := 11) (v := ?_) rfl (by kernel_rfl) (by kernel_rfl) (by kernel_rfl) (fun _ _ _ h => h) (Or.inl ⟨by rfl, ?_⟩) (by assumption) ?_
                    rotate_left
                    · (intro w hSw; (try dsimp only at hSw); go_simp <;> with_reducible rfl)
                    try simp only [Act.put, List.setIfInBounds_toArray, List.set_cons_zero, List.set_cons_succ]
                    refine wpAnyH_done (by kernel_rfl) ?_ _
                    refine NoPanic.normal ?_
                    have L6 := L4.below hHeld
                    have b6 := bt b4 hHeld
                    clear hHeld HK hlk4 L4 q5 r7 hg7 hB7 q7
                    go_wp2_with fail
                    have t5 : LTurn V7 V7 f B := LTurn.of (Below.refl _ _)
                    have hrg5 := HR.out _ _ b6 t5
                    have T5 := T1.trans (LTurn.of b6)
                    go_roundw
                    case rel => exact ⟨_, cnt1, ss2 ++ [n], pl2, hrg5, HC.out, by rw [HFs, show (some u : Option En).isNone = false from rfl, if_neg (by decide), List.append_nil]; exact L6, T5⟩
                    case measure => rw [hrg5.left_eq, HCN.out]; exact HLT.out
                  exact AllReadyH.nil
                exact AllReadyH.nil
        · intro y c lk yd yp w1 cnt1 hkey hlk hv hat1 hrg1 hlt hg1 hs1 hen
          obtain ⟨n, hnL, rfl, hC2⟩ := hC.step hwf hnd hlk
          obtain rfl : y = (Value.agg (qcells n.p).toArray) := keyLaw.inj hkey (key_some n.p (hwf n hnL))
          obtain ⟨m, s1, s2, c0, hit⟩ := ranges_it hrg
          have L1 := hL.iter hit hg1
          have T1 := hT.high hg1 hi7
          have hwn := hwf n hnL
          have HC : Hid (Coll H (fun z => left z && !z.sameKey (kl n.p)) (ss ++ [n])) := hC2
          have HCN : Hid (wr.rangeLeft x.mH W7.heap.size = cnt) := hrg.left_eq
          have HLT : Hid (cnt1 < cnt) := hlt
          have HR : Hid (∀ V V2, Below w1.heap.size w1 V → LTurn V V2 f B → V2.ranges Try.prog 34 elV x.mH W7.heap.size H.length D (fun z => left z && !z.sameKey (kl n.p)) cnt1) := fun V V2 hV ht => by
            have hg : w1.grownBy V none := ⟨hV.os, hV.tape, hV.output, hV.size, fun i hi _ => hV.block i hi⟩
            exact ranges_turn (hrg1.kept hg (by simp) (by simp)) ht hmf hif
          have hPl : (lays W H A now (ss.map En.p)).length ≤ 10000000 := Nat.le_trans (lays_len _ _ _ _ _) (by rw [List.length_map]; have := coll_len hC; have := L7lh; omega)
          clear hC hC2 hL hT hrg hlt hrg1 hg1 hs1 hat1 hv hkey hlk hit
          go_wp2_with (first
            | (have kk := q5; go_at_call 57; refine (lay_any L4 n.p hwn hPl).mono ?_; rintro e w5 ⟨rfl, pl5, L5, t5⟩)
            | (have kk := q5; (with_reducible refine ldQ (.tmp 5) ?_ ?_ g5 0 n.p ?_ ?_ ?_); (focus rfl); (focus rfl); (focus rfl); (focus exact q5.range))
            | (have kk := r5; (with_reducible refine stQ0 (.tmp 5) (.tmp 24) ?_ ?_ g5 n.p zeroQ ?_ ?_ ?_ ?_); (focus rfl); (focus rfl); (focus rfl); (focus rfl); (focus exact r5); intro W4 gr4 q5; have b4 := grown_below gr4 b5 h5 b5.size; have L4 := L1.below b4; clear r5)
            | ((with_reducible refine alG infoQz ?_ ?_ ?_); (focus rfl); (focus rfl); intro g5 W3 h5 l5 b5 r5))
          have hrg5 := HR.out _ _ b4 t5
          have T5 := (T1.trans (LTurn.of b4)).trans t5
          go_roundw
          case rel => exact ⟨_, cnt1, ss ++ [n], pl5, hrg5, HC.out, by rw [List.map_append, List.map_cons, List.map_nil, layTs_snoc, lays_snoc]; exact L5, T5⟩
          case measure => rw [hrg5.left_eq, HCN.out]; exact HLT.out
    exact AllReadyN.nil
  exact AllReadyN.nil
end Go.Proofs.Ytiihlgcafppehaa
