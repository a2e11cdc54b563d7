/-
  The document's table: Same of two lists, Tick.
-/
import Derived.Test.YtdcbnibgckdkbaaP3
namespace Go.Proofs.Ytdcbnibgckdkbaa
open Go.RowKit Go.Maps Go.Shelf
set_option linter.unusedSimpArgs false
set_option linter.unusedVariables false
set_option maxRecDepth 20000
/-- Sources in memory. -/
structure SsW (w : World) (ad : Option Addr) (K : List Sr) : Prop where
  lies : K ≠ [] → ∃ g, ad = some ⟨g, 0, none⟩ ∧ g < w.heap.size ∧ ∀ (j : Nat) (n : Sr), K[j]? = some n → LS w g (j * 45) n
theorem SsW.below {w w' : World} {ad : Option Addr} {K : List Sr} (h : SsW w ad K) (hb : Below w.heap.size w w') : SsW w' ad K :=
  ⟨fun hne => by
    obtain ⟨g, e, hg, hc⟩ := h.lies hne
    exact ⟨g, e, Nat.lt_of_lt_of_le hg hb.size, fun j n hj => rangeAt_below (hc j n hj) hb hg⟩⟩
theorem SsW.own {w : World} {B : Nat} {v : Value} {K : List Sr} (h : kN.Own w B v K) : ∃ ad c, v = .slice ad K.length c ∧ SsW w ad K := by
  obtain ⟨ad, c, e, hat⟩ := Kd.own_at h
  refine ⟨ad, c, e, ⟨fun hne => ?_⟩⟩
  obtain ⟨g, e2, _, hg, _, hc⟩ := hat hne
  exact ⟨g, e2, hg, hc⟩
set_option maxHeartbeats 8000000 in
theorem rsame_any {w : World} {K : List Sr} (a1 a2 : Option Addr) (c1 c2 : Nat) (h1 : SsW w a1 K) (h2 : SsW w a2 K) (hl : K.length ≤ 1000000) : Calls Try.prog 14 #[.slice a1 K.length c1, .slice a2 K.length c2] w (Gives w (.bool true)) := by
  go_enter Try.func14, Try.ntmps14
  go_wp2_with fail
  go_loopw [5] (fun v wr => ∃ j : Nat, j ≤ K.length ∧ v = .int .i64 j ∧ Below w.heap.size w wr) (fun v _ => K.length - (intOf v).toNat)
  case atStart => exact ⟨0, Nat.zero_le _, rfl, Below.refl _ _⟩
  case round =>
    obtain ⟨j, hj, rfl, hb⟩ := hrel
    by_cases hlt : j < K.length
    · obtain ⟨g1, rfl, k1, hc1⟩ := (h1.below hb).lies (by intro e; rw [e] at hlt; simp at hlt)
      obtain ⟨g2, rfl, k2, hc2⟩ := (h2.below hb).lies (by intro e; rw [e] at hlt; simp at hlt)
      have q1 := hc1 j _ (List.getElem?_eq_getElem hlt)
      have q2 := hc2 j _ (List.getElem?_eq_getElem hlt)
      have hji : (j : Int) < (K.length : Int) := by omega
      have hw64 : wrap64 ((j : Int) + 1) = (j : Int) + 1 := by unfold wrap64; omega
      have HJ : Hid (j + 1 ≤ K.length) := hlt
      have HM : Hid (K.length - ((j : Int) + 1).toNat < K.length - ((j : Int)).toNat) := meas hlt
      clear hc1 hc2 h1 h2
      generalize K[j] = n at *
      have hEq : ∀ W, (binOp .neq 53 (sV n) (sV n)).run Try.prog W = .ok (.bool false) W := fun W => by rw [run_neqS, eqSr_self]; rfl
      have gEq := fun op a b W => guardS op a b n n W
      go_upto_region 6 with fail
      refine wp_region_noPanic ?_
      refine wp_region_held_drew (S := fun W => Below wr.heap.size wr W) (by kernel_rfl) ((Below.refl _ _).drew) (fun hHeld => ?_)
      refine take_lit (i := 0) (v := ?_) rfl (by kernel_rfl) (by kernel_rfl) (by kernel_rfl) (fun _ _ _ h => h) (Or.inl ⟨by rfl, ?_⟩) (by assumption) ?_
      rotate_left
      · (intro w hSw; (try dsimp only at hSw); go_simp <;> with_reducible rfl)
      try simp only [Act.put, List.setIfInBounds_toArray, List.set_cons_zero, List.set_cons_succ]
      refine take_lit (i := 1) (v := ?_) rfl (by kernel_rfl) (by kernel_rfl) (by kernel_rfl) (fun _ _ _ h => h) (Or.inl ⟨by rfl, ?_⟩) (by assumption) ?_
      rotate_left
      · (intro w hSw; (try dsimp only at hSw); go_simp <;> with_reducible rfl)
      try simp only [Act.put, List.setIfInBounds_toArray, List.set_cons_zero, List.set_cons_succ]
      refine take_lit (i := 2) (v := ?_) rfl (by kernel_rfl) (by kernel_rfl) (by kernel_rfl) (fun _ _ _ h => h) (Or.inl ⟨by rfl, ?_⟩) (by assumption) ?_
      rotate_left
      · (intro w hSw; (try dsimp only at hSw); go_simp <;> with_reducible rfl)
      try simp only [Act.put, List.setIfInBounds_toArray, List.set_cons_zero, List.set_cons_succ]
      refine take_lit (i := 3) rfl (by kernel_rfl) (by kernel_rfl) (by kernel_rfl) (fun _ _ _ h => h) (yS n (fun w h => q1.below h k1) (by rfl) rfl rfl) (by assumption) ?_
      try simp only [Act.put, List.setIfInBounds_toArray, List.set_cons_zero, List.set_cons_succ]
      refine take_lit (i := 4) (v := ?_) rfl (by kernel_rfl) (by kernel_rfl) (by kernel_rfl) (fun _ _ _ h => h) (Or.inl ⟨by rfl, ?_⟩) (by assumption) ?_
      rotate_left
      · (intro w hSw; (try dsimp only at hSw); go_simp <;> with_reducible rfl)
      try simp only [Act.put, List.setIfInBounds_toArray, List.set_cons_zero, List.set_cons_succ]
      refine take_lit (i := 5) (v := ?_) rfl (by kernel_rfl) (by kernel_rfl) (by kernel_rfl) (fun _ _ _ h => h) (Or.inl ⟨by rfl, ?_⟩) (by assumption) ?_
      rotate_left
      · (intro w hSw; (try dsimp only at hSw); go_simp <;> with_reducible rfl)
      try simp only [Act.put, List.setIfInBounds_toArray, List.set_cons_zero, List.set_cons_succ]
      refine take_lit (i := 6) (v := ?_) rfl (by kernel_rfl) (by kernel_rfl) (by kernel_rfl) (fun _ _ _ h => h) (Or.inl ⟨by rfl, ?_⟩) (by assumption) ?_
      rotate_left
      · (intro w hSw; (try dsimp only at hSw); go_simp <;> with_reducible rfl)
      try simp only [Act.put, List.setIfInBounds_toArray, List.set_cons_zero, List.set_cons_succ]
      refine take_lit (i := 7) rfl (by kernel_rfl) (by kernel_rfl) (by kernel_rfl) (fun _ _ _ h => h) (yS n (fun w h => q2.below h k2) (by rfl) rfl rfl) (by assumption) ?_
      try simp only [Act.put, List.setIfInBounds_toArray, List.set_cons_zero, List.set_cons_succ]
      refine take_lit (i := 8) (v := ?_) rfl (by kernel_rfl) (by kernel_rfl) (by kernel_rfl) (fun _ _ _ h => h) (Or.inl ⟨by rfl, ?_⟩) (by assumption) ?_
      rotate_left
      · (intro w hSw; (try dsimp only at hSw); have z := hEq w; have z2 := fun op x y => gEq op x y w; go_simp <;> with_reducible rfl)
      try simp only [Act.put, List.setIfInBounds_toArray, List.set_cons_zero, List.set_cons_succ]
      refine wpAnyH_done (by kernel_rfl) ?_ _
      refine NoPanic.normal ?_
      have hb2 := bt hb hHeld
      clear hHeld hEq gEq q1 q2
      go_wp2_with fail
      go_roundw
      case rel => exact ⟨j + 1, HJ.out, by first | rfl | go_num, hb2⟩
      case measure => first | (rw [hw64]; simp only [intOf]; exact HM.out) | (simp only [intOf]; exact HM.out)
    · have hjl : j = K.length := by omega
      subst hjl
      clear h1 h2
      go_wp2_with fail
      go_ret
      exact ⟨rfl, hb⟩
/-- append of one to a row of the call's own, and where it lies then. -/
theorem app_at {w : World} {ops : Array Oper} {rest : List Oper} {o : Oper} {a : Act} {Q : Exit → Act → World → Prop} (s x : Operand) (hw : o.guard = none) (ho : o.op = .call { callee := .builtin .append, args := #[s, x], argTypes := #[28, 28] })
    (B : Nat) (v : Value) (l : List Sr) (hs : a.eval s = v) (hown : kN.Own w B v l) (g c : Nat) (p : Sr) (hx : a.eval x = .slice (some ⟨g, 0, none⟩) 1 c) (hr : Row w g 53 (scs p)) (hl : l.length ≤ 10000000) (hB : B ≤ w.heap.size)
    (h : ∀ v' w', kN.Own w' B v' (l ++ [p]) → w.grownBy w' v.ownBlock → (v'.ownBlock = v.ownBlock ∨ v'.ownBlock = some w.heap.size) → wpList Try.prog ops Q rest (a.put o.dst v') w') : wpList Try.prog ops Q (o :: rest) a w := by
  obtain ⟨i0, hi, hz0, hz1, hz2⟩ := info_parts kN.info
  refine wpList_append_own_at w hw s x 28 ho B 53 i0 (.agg (scs zeroS).toArray) 45 72 Try.underlying28 hi hz0 hz1 hz2 (by simp [Value.cells, scs_len]) (by decide) v l.length (kN.cs l) hs hown ⟨g, 0, none⟩ 1 c (scs p) hx (by rw [scs_len]) (fun j u hu => ?_) (scs_one p) (by unfold maxLen; omega) (by omega) hB (fun v' w' h1 h2 _ h4 => h v' w' ?_ h2 h4)
  · rw [Addr.add_mid, Nat.zero_add]
    rw [hr.cell]; exact hu
  · unfold Kd.Own
    rw [kN.cs_append, List.length_append, show kN.cs [p] = scs p by simp [Kd.cs, kN]]
    exact h1
/-- Two rows of the call's own that lie apart. -/
structure TwoI (w0 w : World) (v u : Value) (L G : List Sr) : Prop where
  bl : Below w0.heap.size w0 w
  l : kN.Own w w0.heap.size v L
  g : kN.Own w w0.heap.size u G
  ne : v.ownBlock = none ∨ v.ownBlock ≠ u.ownBlock
theorem own_lt {w : World} {B : Nat} {v : Value} {L : List Sr} (h : kN.Own w B v L) {b : Nat} (e : v.ownBlock = some b) : B ≤ b ∧ b < w.heap.size := by
  rcases h.2 with ⟨e2, _⟩ | ⟨g', cap, cur, e2, hB, hh, _⟩
  · rw [e2] at e; cases e
  · rw [e2] at e
    have e3 : g' = b := by simpa [Value.ownBlock] using e
    have := (Array.getElem?_eq_some_iff.1 hh).1
    omega
theorem TwoI.below {w0 w w' : World} {v u : Value} {L G : List Sr} (h : TwoI w0 w v u L G) (hb : Below w.heap.size w w') : TwoI w0 w' v u L G :=
  ⟨bt h.bl hb, own_below h.l hb, own_below h.g hb, h.ne⟩
theorem grown_low {w0 w w' : World} {v : Value} {L : List Sr} (hb : Below w0.heap.size w0 w) (h : kN.Own w w0.heap.size v L) (hg : w.grownBy w' v.ownBlock) : Below w0.heap.size w0 w' :=
  below_keepO hb hg (fun g hlt e => by have := (own_lt h e).1; omega) hb.size
theorem TwoI.left {w0 w w' : World} {v u v' : Value} {L G L' : List Sr} (h : TwoI w0 w v u L G) (ho : kN.Own w' w0.heap.size v' L') (hg : w.grownBy w' v.ownBlock) (hv : v'.ownBlock = v.ownBlock ∨ v'.ownBlock = some w.heap.size) : TwoI w0 w' v' u L' G := by
  refine ⟨grown_low h.bl h.l hg, ho, World.ownsRow.kept h.g hg ?_, ?_⟩
  · cases hu : u.ownBlock with
    | none => exact .inl rfl
    | some b =>
      right
      intro e
      rcases h.ne with h1 | h1
      · rw [h1] at e; cases e
      · exact h1 (by rw [hu]; exact e.symm)
  · rcases hv with hv | hv
    · rw [hv]; exact h.ne
    · right
      rw [hv]
      intro e
      have := (own_lt h.g e.symm).2
      omega
theorem TwoI.right {w0 w w' : World} {v u u' : Value} {L G G' : List Sr} (h : TwoI w0 w v u L G) (ho : kN.Own w' w0.heap.size u' G') (hg : w.grownBy w' u.ownBlock) (hv : u'.ownBlock = u.ownBlock ∨ u'.ownBlock = some w.heap.size) : TwoI w0 w' v u' L G' := by
  have hne : v.ownBlock = none ∨ u.ownBlock ≠ v.ownBlock := h.ne.imp id Ne.symm
  refine ⟨grown_low h.bl h.g hg, World.ownsRow.kept h.l hg ?_, ho, ?_⟩
  · cases hu : v.ownBlock with
    | none => exact .inl rfl
    | some b =>
      right
      intro e
      rcases hne with h1 | h1
      · rw [hu] at h1; cases h1
      · exact h1 (by rw [hu]; exact e.symm)
  · rcases hv with hv | hv
    · rw [hv]; exact h.ne
    · cases hb : v.ownBlock with
      | none => exact .inl rfl
      | some b =>
        right
        rw [hv]
        intro e
        have := (own_lt h.l hb).2
        injection e with e
        omega
theorem filter_step {K : List Sr} {q : Sr → Bool} {j : Nat} (hj : j < K.length) : (K.take (j + 1)).filter q = if q K[j] = true then (K.take j).filter q ++ [K[j]] else (K.take j).filter q := by
  rw [List.take_succ_eq_append_getElem hj, List.filter_append]
  by_cases h : q K[j] = true
  · rw [if_pos h]; simp [h]
  · rw [if_neg h]; simp [h]
set_option maxHeartbeats 16000000 in
theorem rtick_any {w : World} {B r : Nat} {most : Int} {K : List Sr} (h : Rb w B r most K) (now : Int) (hBw : B ≤ w.heap.size) (t0 : 0 ≤ now) (t1 : now ≤ 1125899906842624) : Calls Try.prog 16 #[.pointer (some ⟨r, 0, none⟩), .int .i64 now] w fun e w' => ∃ v, e = .returned v ∧ kN.Own w' w.heap.size v (K.filter (overB now)) ∧ Rb w' B r most (K.filter (fun n => !overB now n)) ∧ RTurn w w' B r := by
  have hll := h.ll
  have hok := h.ok
  have hrl := h.lt
  obtain ⟨ad, c, L1, L0, L2⟩ := h.lies
  obtain ⟨ad', c', hrow, _⟩ := h.ex
  have HR : Hid (Row w r 30 [.int .i64 most, .slice ad' K.length c']) := hrow
  clear h L0 hrow
  go_enter Try.func16, Try.ntmps16
  go_wp2_with fail
  go_loopw [5, 6, 7] (fun v u z wr => ∃ (j : Nat) (a1 : Option Addr) (n1 c1 : Nat) (a2 : Option Addr) (n2 c2 : Nat), j ≤ K.length ∧ z = .int .i64 j ∧ v = .slice a1 n1 c1 ∧ u = .slice a2 n2 c2 ∧ TwoI w wr (.slice a1 n1 c1) (.slice a2 n2 c2) ((K.take j).filter (fun n => !overB now n)) ((K.take j).filter (overB now))) (fun _ _ v _ => K.length - (intOf v).toNat)
  case atStart => exact ⟨0, none, 0, 0, none, 0, 0, Nat.zero_le _, rfl, rfl, rfl, ⟨Below.refl _ _, World.ownsRow_nil _ _ _ _, World.ownsRow_nil _ _ _ _, .inl rfl⟩⟩
  case round =>
    obtain ⟨j, a1, n1, c1, a2, n2, c2, hj, rfl, rfl, rfl, hI⟩ := hrel
    have cL := L1 _ hI.bl
    by_cases hlt : j < K.length
    · obtain ⟨g, rfl, hc⟩ := L2 (by intro e; rw [e] at hlt; simp at hlt)
      have hq : LS wr g (j * 45) K[j] := hc _ hI.bl j _ (List.getElem?_eq_getElem hlt)
      have hji : (j : Int) < (K.length : Int) := by omega
      have hw64 : wrap64 ((j : Int) + 1) = (j : Int) + 1 := by unfold wrap64; omega
      have HJ : Hid (j + 1 ≤ K.length) := hlt
      have HM : Hid (K.length - ((j : Int) + 1).toNat < K.length - ((j : Int)).toNat) := meas hlt
      have ok := hok K[j] (List.getElem_mem hlt)
      have F1 := filter_step (q := overB now) hlt
      have F2 := filter_step (q := fun n => !overB now n) hlt
      have hl1 : Hid (((K.take j).filter (overB now)).length ≤ 10000000 ∧ ((K.take j).filter (fun n => !overB now n)).length ≤ 10000000) := by
        have := List.length_filter_le (overB now) (K.take j)
        have := List.length_filter_le (fun n => !overB now n) (K.take j)
        rw [List.length_take] at *
        exact ⟨by omega, by omega⟩
      have HO : Hid (overB now K[j] = decide (K[j].t + 180000 ≤ now)) := rfl
      clear hc L1 L2 hok hj
      generalize K[j] = n at *
      have hat := hq.at_
      have hw2 : wrap64 (now - n.t) = now - n.t := by have := ok.t0; have := ok.t1; unfold wrap64; omega
      have hsz : w.heap.size ≤ wr.heap.size := hI.bl.size
      by_cases hov : 180000 ≤ now - n.t
      · have hob : overB now n = true := by rw [HO.out]; exact decide_eq_true (by omega)
        rw [if_pos hob] at F1
        rw [if_neg (by simp [hob])] at F2
        have HF1 : Hid ((K.take (j + 1)).filter (overB now) = (K.take j).filter (overB now) ++ [n]) := F1
        have HF2 : Hid ((K.take (j + 1)).filter (fun n => !overB now n) = (K.take j).filter (fun n => !overB now n)) := F2
        clear F1 F2 hob HO ok
        go_wp2_with (first
          | (have kk := r6; at_builtin; refine app_at (.tmp 28) (.tmp 36) rfl rfl w.heap.size (.slice a2 n2 c2) _ rfl hI6.g _ 1 n rfl r6 hl1.out.1 hz6 ?_; intro v7 W7 o7 g7 e7; obtain ⟨a7, c7, rfl, _⟩ := Kd.own_at o7; have hI7 := hI6.right o7 g7 e7)
          | ((with_reducible refine bsG (T := 28) (U := 53) (n := 1) [(0, .tmp 35)] (scs n) ?_ ?_ ?_ ?_); (focus rfl); (focus rfl); (focus exact (fun w => bsN1 n w)); intro W6 r6 b6; have hI6 := hI.below b6; have hz6 : w.heap.size ≤ W6.heap.size := (Nat.le_trans hsz b6.size))
          | (refine ldS (.tmp 34) rfl rfl _ _ n rfl hq ?_))
        go_roundw
        case rel => exact ⟨j + 1, a1, n1, c1, a7, _, c7, HJ.out, by first | rfl | go_num, rfl, rfl, by rw [HF1.out, HF2.out]; rw [List.length_append] at hI7; exact hI7⟩
        case measure => first | (rw [hw64]; simp only [intOf]; exact HM.out) | (simp only [intOf]; exact HM.out)
      · have hob : overB now n = false := by rw [HO.out]; exact decide_eq_false (by omega)
        rw [if_neg (by simp [hob])] at F1
        rw [if_pos (by simp [hob])] at F2
        have HF1 : Hid ((K.take (j + 1)).filter (overB now) = (K.take j).filter (overB now)) := F1
        have HF2 : Hid ((K.take (j + 1)).filter (fun n => !overB now n) = (K.take j).filter (fun n => !overB now n) ++ [n]) := F2
        clear F1 F2 hob HO ok
        go_wp2_with (first
          | (have kk := r6; at_builtin; refine app_at (.tmp 38) (.tmp 46) rfl rfl w.heap.size (.slice a1 n1 c1) _ rfl hI6.l _ 1 n rfl r6 hl1.out.2 hz6 ?_; intro v7 W7 o7 g7 e7; obtain ⟨a7, c7, rfl, _⟩ := Kd.own_at o7; have hI7 := hI6.left o7 g7 e7)
          | ((with_reducible refine bsG (T := 28) (U := 53) (n := 1) [(0, .tmp 45)] (scs n) ?_ ?_ ?_ ?_); (focus rfl); (focus rfl); (focus exact (fun w => bsN1 n w)); intro W6 r6 b6; have hI6 := hI.below b6; have hz6 : w.heap.size ≤ W6.heap.size := (Nat.le_trans hsz b6.size))
          | (refine ldS (.tmp 44) rfl rfl _ _ n rfl hq ?_))
        go_roundw
        case rel => exact ⟨j + 1, a7, _, c7, a2, n2, c2, HJ.out, by first | rfl | go_num, rfl, rfl, by rw [HF1.out, HF2.out]; rw [List.length_append] at hI7; exact hI7⟩
        case measure => first | (rw [hw64]; simp only [intOf]; exact HM.out) | (simp only [intOf]; exact HM.out)
    · have hjl : j = K.length := by omega
      subst hjl
      rw [List.take_length] at hI
      have hrow := HR.out.below hI.bl hrl
      have c0 := hrow.cell 1
      have f0 := hrow.frozen 1
      have HFin : Hid (kN.Own (wr.setCell ⟨r, 1, none⟩ (.slice a1 n1 c1)) w.heap.size (.slice a2 n2 c2) (K.filter (overB now)) ∧ Rb (wr.setCell ⟨r, 1, none⟩ (.slice a1 n1 c1)) B r most (K.filter (fun n => !overB now n)) ∧ RTurn w (wr.setCell ⟨r, 1, none⟩ (.slice a1 n1 c1)) B r) := by
        have hg := grownBy_setCell wr r 1 (.slice a1 n1 c1)
        refine ⟨World.ownsRow.kept hI.g hg (.inr (own_ne_lt hI.g hrl)), ⟨?_, ?_, ?_⟩, RTurn.pre hI.bl (RTurn.self hg)⟩
        · obtain ⟨aa, cc, e, _⟩ := Kd.own_at hI.l
          obtain ⟨rfl, rfl, rfl⟩ : a1 = aa ∧ n1 = (K.filter (fun n => !overB now n)).length ∧ c1 = cc := by cases e; exact ⟨rfl, rfl, rfl⟩
          exact ⟨a1, c1, hrow.set 1 _, Kd.own_up (World.ownsRow.kept hI.l hg (.inr (own_ne_lt hI.l hrl))) hBw⟩
        · intro n hn
          exact hok n (List.mem_filter.1 hn).1
        · have := List.length_filter_le (fun n => !overB now n) K
          omega
      clear hI hrow HR L1 L2 hok
      go_wp2_with fail
      go_ret
      exact ⟨_, rfl, HFin.out⟩
end Go.Proofs.Ytdcbnibgckdkbaa
