/-
  The document's table: Next, Feasible, Touch, Same.
-/
import Derived.Test.YtdcbnibgckdkbaaP2
namespace Go.Proofs.Ytdcbnibgckdkbaa
open Go.RowKit Go.Maps Go.Shelf
set_option linter.unusedSimpArgs false
set_option linter.unusedVariables false
set_option maxRecDepth 20000
theorem NextIs.step {K : List Sr} {j : Nat} {f : Int} (hj : j < K.length) : (NextIs (K.take j) f false → NextIs (K.take (j + 1)) (K[j].t + 180000) true) ∧ (NextIs (K.take j) f true → K[j].t + 180000 < f → NextIs (K.take (j + 1)) (K[j].t + 180000) true) ∧ (NextIs (K.take j) f true → f ≤ K[j].t + 180000 → NextIs (K.take (j + 1)) f true) := by
  rw [List.take_succ_eq_append_getElem hj]
  refine ⟨fun h => ?_, fun h h2 => h.less h2, fun h h2 => h.more h2⟩
  rcases h with ⟨h, _⟩ | ⟨h, _⟩
  · exact NextIs.first h
  · cases h
set_option maxHeartbeats 8000000 in
theorem rnext_any {w : World} {B r : Nat} {most : Int} {K : List Sr} (h : Rb w B r most K) : Calls Try.prog 22 #[.pointer (some ⟨r, 0, none⟩)] w fun e w' => ∃ f b, e = .returned (.tuple #[.int .i64 f, .bool b]) ∧ NextIs K f b ∧ w = w' := by
  have hll := h.ll
  have hok := h.ok
  obtain ⟨ad, c, L1, L0, L2⟩ := h.lies
  have cL := L1 w (Below.refl _ _)
  clear h L1 L0
  go_enter Try.func22, Try.ntmps22
  go_wp2_with fail
  go_loopw [4, 5, 6] (fun v u z wr => ∃ (j : Nat) (f : Int) (b : Bool), j ≤ K.length ∧ z = .int .i64 j ∧ v = .int .i64 f ∧ u = .bool b ∧ NextIs (K.take j) f b ∧ w = wr) (fun _ _ v _ => K.length - (intOf v).toNat)
  case atStart => exact ⟨0, 0, false, Nat.zero_le _, rfl, rfl, rfl, .inl ⟨by simp, rfl, rfl⟩, rfl⟩
  case round =>
    obtain ⟨j, f, b, hj, rfl, rfl, rfl, hN, rfl⟩ := hrel
    by_cases hlt : j < K.length
    · obtain ⟨g, rfl, hc⟩ := L2 (by intro e; rw [e] at hlt; simp at hlt)
      have hq := (hc _ (Below.refl _ _) j _ (List.getElem?_eq_getElem hlt)).at_
      have hji : (j : Int) < (K.length : Int) := by omega
      have hw64 : wrap64 ((j : Int) + 1) = (j : Int) + 1 := by unfold wrap64; omega
      have HJ : Hid (j + 1 ≤ K.length) := hlt
      have HM : Hid (K.length - ((j : Int) + 1).toNat < K.length - ((j : Int)).toNat) := meas hlt
      have HS : Hid ((NextIs (K.take j) f false → NextIs (K.take (j + 1)) (K[j].t + 180000) true) ∧ (NextIs (K.take j) f true → K[j].t + 180000 < f → NextIs (K.take (j + 1)) (K[j].t + 180000) true) ∧ (NextIs (K.take j) f true → f ≤ K[j].t + 180000 → NextIs (K.take (j + 1)) f true)) := NextIs.step hlt
      have ok := hok K[j] (List.getElem_mem hlt)
      obtain ⟨e, he⟩ : ∃ e, K[j].t + 180000 = e := ⟨_, rfl⟩
      have hw2 : wrap64 (K[j].t + 180000) = e := by rw [← he]; have := ok.t0; have := ok.t1; unfold wrap64; omega
      rw [he] at HS
      clear hc L2 ok hok he
      generalize K[j].t = tt at *
      have HN : Hid (NextIs (K.take j) f b) := hN
      clear hN
      cases b with
      | false =>
        go_wp2_with fail
        go_roundw
        case rel => exact ⟨j + 1, e, true, HJ.out, by first | rfl | go_num, by first | rfl | exact congrArg (Value.int .i64) hw2, rfl, HS.out.1 HN.out, by first | rfl | trivial⟩
        case measure => first | (rw [hw64]; simp only [intOf]; exact HM.out) | (simp only [intOf]; exact HM.out)
      | true =>
        by_cases hl : e < f
        · go_wp2_with fail
          go_roundw
          case rel => exact ⟨j + 1, e, true, HJ.out, by first | rfl | go_num, by first | rfl | exact congrArg (Value.int .i64) hw2, rfl, HS.out.2.1 HN.out hl, by first | rfl | trivial⟩
          case measure => first | (rw [hw64]; simp only [intOf]; exact HM.out) | (simp only [intOf]; exact HM.out)
        · have HL : Hid (f ≤ e) := by show f ≤ e; omega
          go_wp2_with fail
          go_roundw
          case rel => exact ⟨j + 1, f, true, HJ.out, by first | rfl | go_num, rfl, rfl, HS.out.2.2 HN.out HL.out, by first | rfl | trivial⟩
          case measure => first | (rw [hw64]; simp only [intOf]; exact HM.out) | (simp only [intOf]; exact HM.out)
    · have hjl : j = K.length := by omega
      subst hjl
      rw [List.take_length] at hN
      clear L2 hok
      go_wp2_with fail
      go_ret2
      exact ⟨f, b, rfl, hN, rfl⟩
/-- What a place tells. -/
theorem fnd_some {K : List Sr} {p : Pr} {i : Id8} : (fndI K p i = -1 ∧ getN K p i = none) ∨ ∃ (k : Nat) (n : Sr), fndI K p i = k ∧ K[k]? = some n ∧ getN K p i = some n := by
  unfold fndI getN
  cases hf : K.findIdx? (keyB p i) with
  | none =>
    left
    refine ⟨rfl, ?_⟩
    rw [List.findIdx?_eq_none_iff] at hf
    rw [List.find?_eq_none]
    intro x hx
    simp [hf x hx]
  | some k =>
    right
    obtain ⟨hk, h1, h2⟩ := List.findIdx?_eq_some_iff_getElem.1 hf
    refine ⟨k, K[k], rfl, List.getElem?_eq_getElem hk, ?_⟩
    have e : K = K.take k ++ K[k] :: K.drop (k + 1) := by rw [← List.drop_eq_getElem_cons hk, List.take_append_drop]
    conv => lhs; rw [e]
    rw [List.find?_append, List.find?_eq_none.2]
    · rw [List.find?_cons_of_pos h1]; rfl
    · intro x hx
      obtain ⟨a, ha, rfl⟩ := List.mem_take_iff_getElem.1 hx
      exact h2 a (by omega)
theorem rfeas_any {w : World} {B r : Nat} {most : Int} {K : List Sr} (h : Rb w B r most K) (p : Pr) (i : Id8) (s m : Int) (s0 : 0 ≤ s) (s1 : s < 65536) : Calls Try.prog 25 #[.pointer (some ⟨r, 0, none⟩), (Value.agg (qcells p).toArray), idV i, dV s m] w (Gives w (.bool (feaO (getN K p i) s m))) := by
  have hFi := fun W (hW : Below w.heap.size w W) => rfind_any (h.below hW) p i
  have hok := h.ok
  obtain ⟨ad, c, L1, L0, L2⟩ := h.lies
  clear h L0
  have HR : Hid (feaO (getN K p i) s m = feaO (getN K p i) s m) := rfl
  obtain ⟨R, hR⟩ : ∃ R, feaO (getN K p i) s m = R := ⟨_, rfl⟩
  rw [hR]
  replace HR : Hid (feaO (getN K p i) s m = R) := hR
  clear hR
  obtain ⟨hB, r0, r1, r2⟩ := low_rows3 w (qcells p) (icells i) (dcs s m) 36 38 41
  go_enter Try.func25, Try.ntmps25
  go_upto_region 1 with fail
  refine name_world (R := fun W => Code.wp _ _ _ _ W) (P := fun W => Below w.heap.size w W ∧ LQ W w.heap.size 0 p ∧ LI W (w.heap.size + 1) 0 i ∧ Sn.LD W (w.heap.size + 2) 0 s m ∧ w.heap.size + 2 < W.heap.size) _ ⟨hB, r0.range, r1.range, r2.range, r2.lt⟩ ?_
  clear hB r0 r1 r2
  rintro X ⟨hB, hP, hI, hD, hs⟩
  replace hFi := hFi X hB
  rcases fnd_some (K := K) (p := p) (i := i) with ⟨e1, e2⟩ | ⟨k, n, e1, e2, e3⟩
  · rw [e1] at hFi
    obtain rfl : R = true := by rw [← HR.out, e2]; rfl
    have hSf := Sn.rfeas_none s m
    clear e1 e2 L1 L2 hok
    go_wp2_with (first
      | (have kk := b1; go_at_call 38; refine (hSf _).mono ?_; rintro e w2 ⟨rfl, b2⟩)
      | (have kk := b1; refine Sn.ldD (.tmp 7) rfl rfl s m rfl (hD.below b1 hs) ?_)
      | (go_at_call 20; refine hFi.mono ?_; rintro e w1 ⟨rfl, b1⟩)
      | (refine ldI (.tmp 6) rfl rfl _ _ i rfl hI ?_)
      | (refine ldQ (.tmp 5) rfl rfl _ _ p rfl hP ?_))
    go_ret
    exact ⟨rfl, bt hB (bt b1 b2)⟩
  · rw [e1] at hFi
    have hRR : feaO (some n) s m = R := by rw [← e3]; exact HR.out
    have hkl : k < K.length := (List.getElem?_eq_some_iff.1 e2).1
    obtain ⟨g, rfl, hc⟩ := L2 (by intro e; rw [e] at hkl; simp at hkl)
    have ok := hok n (List.mem_of_getElem? e2)
    have hSf : ∀ W, LS W g (k * 45) n → Calls Try.prog 38 #[dV s m, .pointer (some ⟨g, k * 45 + 42, none⟩)] W (Gives W (.bool (feaO (some n) s m))) := fun W hL => Sn.rfeas_some s m n.s n.m g (k * 45 + 42) W hL.d s0 s1 ok.s0 ok.s1
    have HC : Hid (∀ W, Below w.heap.size w W → W.cell? ⟨r, 1, none⟩ = some (.slice (some ⟨g, 0, none⟩) K.length c) ∧ LS W g (k * 45) n) := fun W hW => ⟨L1 W hW, hc W hW k n e2⟩
    have hki : (k : Int) < (K.length : Int) := by omega
    have hk0 : ¬ (k : Int) < 0 := by omega
    clear e1 e2 e3 L1 L2 hok ok hc hkl
    rw [hRR] at hSf
    clear hRR
    go_upto_region 4 with (first
      | (go_at_call 20; refine hFi.mono ?_; rintro e w1 ⟨rfl, b1⟩)
      | (refine ldI (.tmp 6) rfl rfl _ _ i rfl hI ?_)
      | (refine ldQ (.tmp 5) rfl rfl _ _ p rfl hP ?_))
    have hs1 : w.heap.size + 2 < w1.heap.size := Nat.lt_of_lt_of_le hs b1.size
    have hD1 := hD.below b1 hs
    refine wp_region_noPanic ?_
    refine wp_region_held_drew (S := fun W => Below w1.heap.size w1 W) (by kernel_rfl) ((Below.refl _ _).drew) (fun hHeld => ?_)
    refine take_lit (i := 0) rfl (by kernel_rfl) (by kernel_rfl) (by kernel_rfl) (fun _ _ _ h => h) (Sn.yD s m (fun w h => hD1.below h hs1) (by rfl) rfl rfl) (by assumption) ?_
    try simp only [Act.put, List.setIfInBounds_toArray, List.set_cons_zero, List.set_cons_succ]
    refine take_lit (i := 1) (v := ?_) rfl (by kernel_rfl) (by kernel_rfl) (by kernel_rfl) (fun _ _ _ h => h) (Or.inl ⟨by rfl, ?_⟩) (by assumption) ?_
    rotate_left
    · (intro w hSw; (try dsimp only at hSw); go_simp <;> with_reducible rfl)
    try simp only [Act.put, List.setIfInBounds_toArray, List.set_cons_zero, List.set_cons_succ]
    refine take_lit (i := 2) (v := ?_) rfl (by kernel_rfl) (by kernel_rfl) (by kernel_rfl) (fun _ _ _ h => h) (Or.inl ⟨by rfl, ?_⟩) (by assumption) ?_
    rotate_left
    · (intro w hSw; (try dsimp only at hSw); go_simp <;> with_reducible rfl)
    try simp only [Act.put, List.setIfInBounds_toArray, List.set_cons_zero, List.set_cons_succ]
    refine take_lit (i := 3) (v := ?_) rfl (by kernel_rfl) (by kernel_rfl) (by kernel_rfl) (fun _ _ _ h => h) (Or.inl ⟨by rfl, ?_⟩) (by assumption) ?_
    rotate_left
    · (intro w hSw; (try dsimp only at hSw); go_simp <;> with_reducible rfl)
    try simp only [Act.put, List.setIfInBounds_toArray, List.set_cons_zero, List.set_cons_succ]
    refine take_lit (i := 4) (v := ?_) rfl (by kernel_rfl) (by kernel_rfl) (by kernel_rfl) (fun _ _ _ h => h) (Or.inl ⟨by rfl, ?_⟩) (by assumption) ?_
    rotate_left
    · (intro w hSw; (try dsimp only at hSw); have z := (HC.out _ (bt hB (bt b1 hSw))).1; go_simp <;> with_reducible rfl)
    try simp only [Act.put, List.setIfInBounds_toArray, List.set_cons_zero, List.set_cons_succ]
    refine take_lit (i := 5) (v := ?_) rfl (by kernel_rfl) (by kernel_rfl) (by kernel_rfl) (fun _ _ _ h => h) (Or.inl ⟨by rfl, ?_⟩) (by assumption) ?_
    rotate_left
    · (intro w hSw; (try dsimp only at hSw); go_simp <;> with_reducible rfl)
    try simp only [Act.put, List.setIfInBounds_toArray, List.set_cons_zero, List.set_cons_succ]
    refine take_lit (i := 6) (v := ?_) rfl (by kernel_rfl) (by kernel_rfl) (by kernel_rfl) (fun _ _ _ h => h) (Or.inl ⟨by rfl, ?_⟩) (by assumption) ?_
    rotate_left
    · (intro w hSw; (try dsimp only at hSw); go_simp <;> with_reducible rfl)
    try simp only [Act.put, List.setIfInBounds_toArray, List.set_cons_zero, List.set_cons_succ]
    refine take_lit (i := 7) (v := ?_) rfl (by kernel_rfl) (by kernel_rfl) (by kernel_rfl) (fun _ _ _ h => h) (Or.inl ⟨by rfl, ?_⟩) (by assumption) ?_
    rotate_left
    · (intro w hSw; (try dsimp only at hSw); go_simp <;> with_reducible rfl)
    try simp only [Act.put, List.setIfInBounds_toArray, List.set_cons_zero, List.set_cons_succ]
    refine wpAnyH_ready (rs := [8]) (by kernel_rfl) (by simp) ?_
    refine cons_lit rfl (fun K hK => ?_) ?_
    · go_simp
      refine (hSf _ (HC.out _ (bt hB (bt b1 hHeld))).2).mono ?_
      rintro e w2 ⟨rfl, b2⟩
      refine hK.out _ _ ?_ (fun hHeld => ?_)
      · exact bt hHeld b2
      clear hK K
      try simp only [Act.put, List.setIfInBounds_toArray, List.set_cons_zero, List.set_cons_succ]
      refine take_lit (i := 9) (v := ?_) rfl (by kernel_rfl) (by kernel_rfl) (by kernel_rfl) (fun _ _ _ h => h) (Or.inl ⟨by rfl, ?_⟩) (by assumption) ?_
      rotate_left
      · (intro w hSw; (try dsimp only at hSw); go_simp <;> with_reducible rfl)
      try simp only [Act.put, List.setIfInBounds_toArray, List.set_cons_zero, List.set_cons_succ]
      refine wpAnyH_done (by kernel_rfl) ?_ _
      refine NoPanic.normal ?_
      go_wp2_with fail
      go_ret
      exact ⟨rfl, bt hB (bt b1 hHeld)⟩
    exact AllReadyH.nil
/-- The time of one is another. -/
def touK (K : List Sr) (now : Int) (p : Pr) (i : Id8) : Int × List Sr := match getN K p i with | none => (0, K) | some n => (1, K.set (fndI K p i).toNat (atS n now))
theorem Rb.set {w w' : World} {B r : Nat} {most : Int} {K : List Sr} {n n' : Sr} {k : Nat} (h : Rb w B r most K) (hk : K[k]? = some n) (hn : n'.ok) : ∃ g A Z c, w.cell? ⟨r, 1, none⟩ = some (.slice (some ⟨g, 0, none⟩) K.length c) ∧ Row w g 53 (A ++ (scs n ++ Z)) ∧ A.length = k * 45 ∧ B ≤ g ∧ g ≠ r ∧ ∀ w', w.grownBy w' (some g) → Row w' g 53 (A ++ (scs n' ++ Z)) → Rb w' B r most (K.set k n') := by
  obtain ⟨ad, c, h1, h2⟩ := h.ex
  obtain ⟨g, A, Z, rfl, hB, hr, hA, hset⟩ := own_mid h2 hk
  have hne : g ≠ r := fun e => by
    unfold Row at h1 hr
    rw [e, h1] at hr
    injection hr with hr
    injection hr with _ h4 _
    exact absurd h4 (by decide)
  refine ⟨g, A, Z, c, h1.cell 1, hr, hA, hB, hne, fun w' hg hr' => ⟨⟨some ⟨g, 0, none⟩, c, ?_, ?_⟩, ?_, ?_⟩⟩
  · rw [List.length_set]
    exact h1.keep hg (Ne.symm hne)
  · rw [List.length_set]
    exact hset w' n' hr'
  · intro x hx
    rcases List.mem_or_eq_of_mem_set hx with h3 | rfl
    · exact h.ok x h3
    · exact hn
  · rw [List.length_set]; exact h.ll
theorem rtouch_any {w : World} {B r : Nat} {most : Int} {K : List Sr} (h : Rb w B r most K) (now : Int) (p : Pr) (i : Id8) (t0 : 0 ≤ now) (t1 : now ≤ 1125899906842624) : Calls Try.prog 18 #[.pointer (some ⟨r, 0, none⟩), .int .i64 now, (Value.agg (qcells p).toArray), idV i] w fun e w' => e = .returned (.int .i64 (touK K now p i).1) ∧ Rb w' B r most (touK K now p i).2 ∧ RTurn w w' B r := by
  have hFi := fun W (hW : Below w.heap.size w W) => rfind_any (h.below hW) p i
  obtain ⟨T, hTT⟩ : ∃ T, touK K now p i = T := ⟨_, rfl⟩
  rw [hTT]
  have HTT : Hid (touK K now p i = T) := hTT
  clear hTT
  obtain ⟨hB, r0, r1⟩ := low_rows w (qcells p) (icells i) 36 38
  go_enter Try.func18, Try.ntmps18
  go_upto_region 1 with fail
  refine name_world (R := fun W => Code.wp _ _ _ _ W) (P := fun W => Below w.heap.size w W ∧ LQ W w.heap.size 0 p ∧ LI W (w.heap.size + 1) 0 i) _ ⟨hB, r0.range, r1.range⟩ ?_
  clear hB r0 r1
  rintro X ⟨hB, hP, hI⟩
  replace hFi := hFi X hB
  have HH : Hid (Rb w B r most K) := h
  clear h
  rcases fnd_some (K := K) (p := p) (i := i) with ⟨e1, e2⟩ | ⟨k, n, e1, e2, e3⟩
  · obtain rfl : T = (0, K) := by rw [← HTT.out]; unfold touK; rw [e2]
    rw [e1] at hFi
    clear e1 e2
    go_wp2_with (first
      | (go_at_call 20; refine hFi.mono ?_; rintro e w1 ⟨rfl, b1⟩)
      | (refine ldI (.tmp 7) rfl rfl _ _ i rfl hI ?_)
      | (refine ldQ (.tmp 6) rfl rfl _ _ p rfl hP ?_))
    go_ret
    exact ⟨rfl, HH.out.below (bt hB b1), RTurn.of (bt hB b1)⟩
  · obtain rfl : T = (1, K.set k (atS n now)) := by rw [← HTT.out]; unfold touK; rw [e3, e1]; rfl
    rw [e1] at hFi
    have hkl : k < K.length := (List.getElem?_eq_some_iff.1 e2).1
    have hki : (k : Int) < (K.length : Int) := by omega
    have hk0 : ¬ (k : Int) < 0 := by omega
    have ok := HH.out.ok n (List.mem_of_getElem? e2)
    have HS : Hid (∀ W, Below w.heap.size w W → ∃ g A Z c, W.cell? ⟨r, 1, none⟩ = some (.slice (some ⟨g, 0, none⟩) K.length c) ∧ Row W g 53 (A ++ (scs n ++ Z)) ∧ A.length = k * 45 ∧ B ≤ g ∧ g ≠ r ∧ ∀ w', W.grownBy w' (some g) → Row w' g 53 (A ++ (scs (atS n now) ++ Z)) → Rb w' B r most (K.set k (atS n now))) := fun W hW => Rb.set (w' := W) (HH.out.below hW) e2 ⟨ok.s0, ok.s1, ok.m0, ok.m1, t0, t1⟩
    clear e1 e2 e3 hkl ok
    go_upto_region 4 with (first
      | (go_at_call 20; refine hFi.mono ?_; rintro e w1 ⟨rfl, b1⟩)
      | (refine ldI (.tmp 7) rfl rfl _ _ i rfl hI ?_)
      | (refine ldQ (.tmp 6) rfl rfl _ _ p rfl hP ?_))
    obtain ⟨g, A, Z, c, c1, hr, hA, hBg, hne, hfin⟩ := HS.out _ (bt hB b1)
    have c44 := (hr.midS hA).at_
    have f44 := hr.frozen (k * 45 + 44)
    have HF : Hid (Rb (w1.setCell ⟨g, k * 45 + 44, none⟩ (.int .i64 now)) B r most (K.set k (atS n now)) ∧ RTurn w (w1.setCell ⟨g, k * 45 + 44, none⟩ (.int .i64 now)) B r) :=
      ⟨hfin _ (grownBy_setCell _ _ _ _) (hr.setT hA now), RTurn.pre (bt hB b1) (RTurn.src (grownBy_setCell _ _ _ _) hr hBg)⟩
    clear hfin hr HS HH
    go_wp2_with fail
    go_ret
    exact ⟨rfl, HF.out⟩
end Go.Proofs.Ytdcbnibgckdkbaa
