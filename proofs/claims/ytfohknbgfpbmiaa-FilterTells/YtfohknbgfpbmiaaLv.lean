/-
  live of the statements: what is asked of a rule that matches some prefixes.
-/
import Derived.Test.YtfohknbgfpbmiaaBs
namespace Go.Proofs.Ytfohknbgfpbmiaa
open Go.RowKit
set_option linter.unusedSimpArgs false
set_option maxRecDepth 20000
def lvV : Ad := fA 10 1 0 0
def lvW : Ad := fA 10 0 0 0
def lvD : Pf := ⟨lvW, 104⟩
def lvR : Ru := { zeroR with dst := lvD, hd := true, ge := 8, le := 24, add := 10 }
def lvP1 : Pr := ⟨⟨lvV, 112⟩, anyP 4⟩
def lvQ1 : Pr := ⟨⟨lvV, 128⟩, anyP 4⟩
def lvN : ByteArray := ⟨#[101, 48]⟩
theorem noB : (⟨#[]⟩ : ByteArray).toList = [] := by
  unfold ByteArray.toList
  unfold ByteArray.toList.loop
  rfl
theorem lv_mine : mineB lvR 0 lvN = true := by
  unfold mineB
  rw [show lvR.nm = (⟨#[]⟩ : ByteArray) from rfl, noB]
  rfl
theorem lv_1 : matB lvR 0 lvN lvP1 zeroI = true := by
  unfold matB
  rw [lv_mine]
  kernel_rfl
theorem lv_2 : matB lvR 0 lvN lvQ1 zeroI = false := by
  unfold matB
  rw [lv_mine]
  kernel_rfl
theorem lv_3 : metN 65530 (fun r => matB r 0 lvN lvP1 zeroI) [lvR] = 65535 := by
  unfold metN
  simp only [List.find?, lv_1]
  kernel_rfl
theorem lv_4 : metN 5 (fun r => matB r 1 lvN lvP1 zeroI) [lvR] = 5 := by
  have h : matB lvR 1 lvN lvP1 zeroI = false := by
    unfold matB mineB
    rw [show (lvR.ch == 1) = false from rfl]
    rfl
  unfold metN
  simp only [List.find?, h]
set_option maxHeartbeats 8000000 in
theorem live_any (w : World) : Calls Try.prog 8 #[] w (Gives w (.bool true)) := by
  have f1 : ∀ w, Calls Try.prog 17 #[.int .u8 10, .int .u8 1, .int .u8 0, .int .u8 0] w (Gives w (Value.agg (acells lvV).toArray)) := fun w => func4_any 10 1 0 0 w
  have f2 : ∀ w, Calls Try.prog 17 #[.int .u8 10, .int .u8 0, .int .u8 0, .int .u8 0] w (Gives w (Value.agg (acells lvW).toArray)) := fun w => func4_any 10 0 0 0 w
  have kR : ∀ w, (Instr.build 41 #[(0, .int .i64 0), (2, (Value.agg (pcells lvD).toArray)), (3, .bool true), (4, .int .i64 8), (5, .int .i64 24), (10, .int .i64 10)]).run Try.prog w = .ok (ruV lvR) w := fun w => bdRl lvD w
  have kD : ∀ w, (Instr.build 26 #[(0, (Value.agg (acells lvW).toArray)), (1, .int .i64 104)]).run Try.prog w = .ok (Value.agg (pcells lvD).toArray) w := fun w => bdPf lvW 104 w
  generalize hRR : lvR = RR at *
  generalize hDD : lvD = DD at *
  generalize hVV : lvV = VV at *
  generalize hWW : lvW = WW at *
  have HM1 : Hid (∀ W, Calls Try.prog 13 #[ruV RR, .int .i64 0, (.string ⟨#[101, 48]⟩), (Value.agg (qcells (⟨⟨VV, 112⟩, anyP 4⟩)).toArray), (.agg #[.int .u8 0, .int .u8 0, .int .u8 0, .int .u8 0, .int .u8 0, .int .u8 0, .int .u8 0, .int .u8 0])] W (Gives W (.bool true))) := fun W => by
    have h := matches_any lvR 0 lvN lvP1 zeroI W
    rw [lv_1] at h
    subst hRR hVV
    exact h
  have HM2 : Hid (∀ W, Calls Try.prog 13 #[ruV RR, .int .i64 0, (.string ⟨#[101, 48]⟩), (Value.agg (qcells (⟨⟨VV, 128⟩, anyP 4⟩)).toArray), (.agg #[.int .u8 0, .int .u8 0, .int .u8 0, .int .u8 0, .int .u8 0, .int .u8 0, .int .u8 0, .int .u8 0])] W (Gives W (.bool false))) := fun W => by
    have h := matches_any lvR 0 lvN lvQ1 zeroI W
    rw [lv_2] at h
    subst hRR hVV
    exact h
  have HM3 : Hid (∀ W g, Row W g 41 (rcells RR) → Calls Try.prog 11 #[.int .i64 0, (.string ⟨#[101, 48]⟩), (Value.agg (qcells (⟨⟨VV, 112⟩, anyP 4⟩)).toArray), (.agg #[.int .u8 0, .int .u8 0, .int .u8 0, .int .u8 0, .int .u8 0, .int .u8 0, .int .u8 0, .int .u8 0]), .int .u16 65530, .slice (some ⟨g, 0, none⟩) 1 1] W (Gives W (.int .u16 65535))) := fun W g hr => by
    subst hRR hVV
    have h := metric_any 0 lvN lvP1 zeroI 65530 (by omega) _ 1 1 [lvR] W (RlW.one hr) (by omega)
    rw [lv_3] at h
    exact h
  have HM4 : Hid (∀ W g, Row W g 41 (rcells RR) → Calls Try.prog 11 #[.int .i64 1, (.string ⟨#[101, 48]⟩), (Value.agg (qcells (⟨⟨VV, 112⟩, anyP 4⟩)).toArray), (.agg #[.int .u8 0, .int .u8 0, .int .u8 0, .int .u8 0, .int .u8 0, .int .u8 0, .int .u8 0, .int .u8 0]), .int .u16 5, .slice (some ⟨g, 0, none⟩) 1 1] W (Gives W (.int .u16 5))) := fun W g hr => by
    subst hRR hVV
    have h := metric_any 1 lvN lvP1 zeroI 5 (by omega) _ 1 1 [lvR] W (RlW.one hr) (by omega)
    rw [lv_4] at h
    exact h
  go_enter Try.func8, Try.ntmps8
  go_upto_region 3 with (first
    | (have kk := r4; refine stG (rcells RR) (.tmp 2) (.tmp 8) rfl rfl g4 _ (by rw [rcells_len, rcells_len]) (by rw [infoRs, rcells_len]) (rcells_one _) rfl rfl r4 b4 b3 ?_; intro w5 r5 b5; clear r4 b4)
    | (have kk := mR; refine alG infoRz rfl rfl ?_; intro g4 w4 b3 _ b4 r4; clear mR)
    | (have kk := mD; (with_reducible refine bdG (T := 41) (v := ruV RR) [(0, .const (.int .i64 0)), (2, .tmp 7), (3, .const (.bool true)), (4, .const (.int .i64 8)), (5, .const (.int .i64 24)), (10, .const (.int .i64 10))] ?_ ?_ ?_ ?_); (focus rfl); (focus rfl); (focus exact kR _); have mR := True.intro; clear mD)
    | (have kk := h3; (with_reducible refine bdG (T := 26) (v := (Value.agg (pcells DD).toArray)) [(0, .tmp 6), (1, .const (.int .i64 104))] ?_ ?_ ?_ ?_); (focus rfl); (focus rfl); (focus exact kD _); have mD := True.intro; have H3 : Hid (Below _ _ _) := h3; clear h3)
    | (have kk := r2; go_at_call 17; refine (f2 _).mono ?_; rintro e w3 ⟨rfl, h3⟩; have R2 : Hid (Row _ _ _ _) := r2; clear r2)
    | (have kk := r1; refine stG (acells VV) (.tmp 1) (.tmp 5) rfl rfl g1 _ (by rw [acells_len, acells_len]) (by rw [infoA, acells_len]) (acells_one _) rfl rfl r1 b2 b1 ?_; intro w2 r2 h2; have H0 : Hid (Below _ _ _) := h0; clear r1 b2 h0)
    | (have kk := h0; refine alG infoAz rfl rfl ?_; intro g1 w1 b1 _ b2 r1)
    | (go_at_call 17; refine (f1 _).mono ?_; rintro e w0 ⟨rfl, h0⟩))
  replace h2 := bt H0.out h2
  have R3 := R2.out.below H3.out R2.out.lt
  replace h2 := bt h2 H3.out
  replace R3 := R3.below b5 R3.lt
  replace h2 := bt h2 b5
  clear H0 H3 R2 b5 b3 b1 kR kD f1 f2
  have LV := R3.range
  have hsV := R3.lt
  have hsR := r5.lt
  refine name_world (R := fun W => Code.wp _ _ _ _ W) (P := fun W => Below w.heap.size w W ∧ Row W g1 24 (acells VV) ∧ Row W g4 41 (rcells RR)) _ ⟨h2, R3, r5⟩ ?_
  clear h2 R3 r5 hsV hsR LV
  rintro X ⟨hX, rV, rR⟩
  apply region_ex (PP := fun gP W => Row W gP 28 (qcells ⟨⟨VV, 112⟩, anyP 4⟩) ∧ Below X.heap.size X W ∧ X.heap.size ≤ gP)
  case h1 =>
    refine wp_region_held_drew (S := fun W => Below X.heap.size X W) (by kernel_rfl) ((Below.refl _ _).drew) (fun hHeld => ?_)
    refine take_lit (i := 0) rfl (by kernel_rfl) (by kernel_rfl) (by kernel_rfl) (fun _ _ _ h => h) (yA VV (fun W h => (rV.below h rV.lt).range) (by rfl) rfl rfl) (by assumption) ?_
    try simp only [Act.put, List.setIfInBounds_toArray, List.set_cons_zero, List.set_cons_succ]
    refine take_lit (i := 1) rfl (by kernel_rfl) (by kernel_rfl) (by kernel_rfl) (fun _ _ _ h => h) (yB (v := (Value.agg (pcells (⟨VV, 112⟩)).toArray)) [(0, .tmp 9), (1, .const (.int .i64 112))] (by rfl) rfl (bdPf VV 112)) (by assumption) ?_
    try simp only [Act.put, List.setIfInBounds_toArray, List.set_cons_zero, List.set_cons_succ]
    refine wpAnyH_ready (rs := [2, 4]) (by kernel_rfl) (by simp) ?_
    refine cons_lit rfl (fun K hK => ?_) ?_
    · go_simp
      refine (rany_any 4 _).mono ?_
      rintro e wA ⟨rfl, hBA⟩
      try replace rP := rP.below hBA rP.lt
      refine hK.out _ _ ?_ (fun hHeld => ?_)
      · exact hHeld.trans (hBA.mono hHeld.size)
      clear hK K
      try simp only [Act.put, List.setIfInBounds_toArray, List.set_cons_zero, List.set_cons_succ]
      refine take_lit (i := 3) rfl (by kernel_rfl) (by kernel_rfl) (by kernel_rfl) (fun _ _ _ h => h) (yB (v := (Value.agg (qcells (⟨⟨VV, 112⟩, anyP 4⟩)).toArray)) [(0, .tmp 10), (1, .tmp 11)] (by rfl) rfl (bdPr ⟨VV, 112⟩ (anyP 4))) (by assumption) ?_
      try simp only [Act.put, List.setIfInBounds_toArray, List.set_cons_zero, List.set_cons_succ]
      refine wpAnyH_ready (rs := [4]) (by kernel_rfl) (by simp) ?_
      refine cons_lit rfl (fun K hK => ?_) ?_
      · skip
        refine sAlG infoQz (by rfl) rfl ?_
        intro gP wB b1 b2 b3 rP
        have hgP : X.heap.size ≤ gP := Nat.le_trans hHeld.size b1
        refine hK.out _ _ ?_ (fun hHeld => ?_)
        · exact hHeld.trans (b3.mono hHeld.size)
        clear hK K
        try simp only [Act.put, List.setIfInBounds_toArray, List.set_cons_zero, List.set_cons_succ]
        refine wpAnyH_ready (rs := [5]) (by kernel_rfl) (by simp) ?_
        refine cons_lit rfl (fun K hK => ?_) ?_
        · skip
          refine sStG (qcells ⟨⟨VV, 112⟩, anyP 4⟩) (.tmp 3) (.tmp 12) (by rfl) rfl gP _ (by rw [qcells_len, qcells_len]) (by rw [infoQ, qcells_len]) (qcells_one _) rfl rfl rP hHeld hgP ?_
          intro wC rC hC
          refine hK.out _ _ ?_ (fun hHeld => ?_)
          · exact hC
          clear hK K
          try simp only [Act.put, List.setIfInBounds_toArray, List.set_cons_zero, List.set_cons_succ]
          refine wpAnyH_done (by kernel_rfl) ?_ _
          exact ⟨gP, rfl, rC, hC, hgP⟩
        exact AllReadyH.nil
      exact AllReadyH.nil
    refine cons_lit rfl (fun K hK => ?_) ?_
    · skip
      refine sAlG infoQz (by rfl) rfl ?_
      intro gP wB b1 b2 b3 rP
      have hgP : X.heap.size ≤ gP := Nat.le_trans hHeld.size b1
      refine hK.out _ _ ?_ (fun hHeld => ?_)
      · exact hHeld.trans (b3.mono hHeld.size)
      clear hK K
      try simp only [Act.put, List.setIfInBounds_toArray, List.set_cons_zero, List.set_cons_succ]
      refine wpAnyH_ready (rs := [2]) (by kernel_rfl) (by simp) ?_
      refine cons_lit rfl (fun K hK => ?_) ?_
      · go_simp
        refine (rany_any 4 _).mono ?_
        rintro e wA ⟨rfl, hBA⟩
        try replace rP := rP.below hBA rP.lt
        refine hK.out _ _ ?_ (fun hHeld => ?_)
        · exact hHeld.trans (hBA.mono hHeld.size)
        clear hK K
        try simp only [Act.put, List.setIfInBounds_toArray, List.set_cons_zero, List.set_cons_succ]
        refine take_lit (i := 3) rfl (by kernel_rfl) (by kernel_rfl) (by kernel_rfl) (fun _ _ _ h => h) (yB (v := (Value.agg (qcells (⟨⟨VV, 112⟩, anyP 4⟩)).toArray)) [(0, .tmp 10), (1, .tmp 11)] (by rfl) rfl (bdPr ⟨VV, 112⟩ (anyP 4))) (by assumption) ?_
        try simp only [Act.put, List.setIfInBounds_toArray, List.set_cons_zero, List.set_cons_succ]
        refine wpAnyH_ready (rs := [5]) (by kernel_rfl) (by simp) ?_
        refine cons_lit rfl (fun K hK => ?_) ?_
        · skip
          refine sStG (qcells ⟨⟨VV, 112⟩, anyP 4⟩) (.tmp 3) (.tmp 12) (by rfl) rfl gP _ (by rw [qcells_len, qcells_len]) (by rw [infoQ, qcells_len]) (qcells_one _) rfl rfl rP hHeld hgP ?_
          intro wC rC hC
          refine hK.out _ _ ?_ (fun hHeld => ?_)
          · exact hC
          clear hK K
          try simp only [Act.put, List.setIfInBounds_toArray, List.set_cons_zero, List.set_cons_succ]
          refine wpAnyH_done (by kernel_rfl) ?_ _
          exact ⟨gP, rfl, rC, hC, hgP⟩
        exact AllReadyH.nil
      exact AllReadyH.nil
    exact AllReadyH.nil
  case h2 =>
  rintro gP W ⟨rP, hW, hgP⟩
  replace rV := rV.below hW rV.lt
  replace rR := rR.below hW rR.lt
  replace hX := bt hX hW
  clear hW hgP
  go_upto_region 4 with fail
  refine name_world (R := fun W => Code.wp _ _ _ _ W) (P := fun W => Below w.heap.size w W ∧ Row W g1 24 (acells VV) ∧ Row W g4 41 (rcells RR) ∧ Row W gP 28 (qcells ⟨⟨VV, 112⟩, anyP 4⟩)) _ ⟨hX, rV, rR, rP⟩ ?_
  clear hX rV rR rP
  rintro Y ⟨hX, rV, rR, rO⟩
  apply region_ex (PP := fun gP W => Row W gP 28 (qcells ⟨⟨VV, 128⟩, anyP 4⟩) ∧ Below Y.heap.size Y W ∧ Y.heap.size ≤ gP)
  case h1 =>
    refine wp_region_held_drew (S := fun W => Below Y.heap.size Y W) (by kernel_rfl) ((Below.refl _ _).drew) (fun hHeld => ?_)
    refine take_lit (i := 0) rfl (by kernel_rfl) (by kernel_rfl) (by kernel_rfl) (fun _ _ _ h => h) (yA VV (fun W h => (rV.below h rV.lt).range) (by rfl) rfl rfl) (by assumption) ?_
    try simp only [Act.put, List.setIfInBounds_toArray, List.set_cons_zero, List.set_cons_succ]
    refine take_lit (i := 1) rfl (by kernel_rfl) (by kernel_rfl) (by kernel_rfl) (fun _ _ _ h => h) (yB (v := (Value.agg (pcells (⟨VV, 128⟩)).toArray)) [(0, .tmp 13), (1, .const (.int .i64 128))] (by rfl) rfl (bdPf VV 128)) (by assumption) ?_
    try simp only [Act.put, List.setIfInBounds_toArray, List.set_cons_zero, List.set_cons_succ]
    refine wpAnyH_ready (rs := [2, 4]) (by kernel_rfl) (by simp) ?_
    refine cons_lit rfl (fun K hK => ?_) ?_
    · go_simp
      refine (rany_any 4 _).mono ?_
      rintro e wA ⟨rfl, hBA⟩
      try replace rP := rP.below hBA rP.lt
      refine hK.out _ _ ?_ (fun hHeld => ?_)
      · exact hHeld.trans (hBA.mono hHeld.size)
      clear hK K
      try simp only [Act.put, List.setIfInBounds_toArray, List.set_cons_zero, List.set_cons_succ]
      refine take_lit (i := 3) rfl (by kernel_rfl) (by kernel_rfl) (by kernel_rfl) (fun _ _ _ h => h) (yB (v := (Value.agg (qcells (⟨⟨VV, 128⟩, anyP 4⟩)).toArray)) [(0, .tmp 14), (1, .tmp 15)] (by rfl) rfl (bdPr ⟨VV, 128⟩ (anyP 4))) (by assumption) ?_
      try simp only [Act.put, List.setIfInBounds_toArray, List.set_cons_zero, List.set_cons_succ]
      refine wpAnyH_ready (rs := [4]) (by kernel_rfl) (by simp) ?_
      refine cons_lit rfl (fun K hK => ?_) ?_
      · skip
        refine sAlG infoQz (by rfl) rfl ?_
        intro gP wB b1 b2 b3 rP
        have hgP : Y.heap.size ≤ gP := Nat.le_trans hHeld.size b1
        refine hK.out _ _ ?_ (fun hHeld => ?_)
        · exact hHeld.trans (b3.mono hHeld.size)
        clear hK K
        try simp only [Act.put, List.setIfInBounds_toArray, List.set_cons_zero, List.set_cons_succ]
        refine wpAnyH_ready (rs := [5]) (by kernel_rfl) (by simp) ?_
        refine cons_lit rfl (fun K hK => ?_) ?_
        · skip
          refine sStG (qcells ⟨⟨VV, 128⟩, anyP 4⟩) (.tmp 4) (.tmp 16) (by rfl) rfl gP _ (by rw [qcells_len, qcells_len]) (by rw [infoQ, qcells_len]) (qcells_one _) rfl rfl rP hHeld hgP ?_
          intro wC rC hC
          refine hK.out _ _ ?_ (fun hHeld => ?_)
          · exact hC
          clear hK K
          try simp only [Act.put, List.setIfInBounds_toArray, List.set_cons_zero, List.set_cons_succ]
          refine wpAnyH_done (by kernel_rfl) ?_ _
          exact ⟨gP, rfl, rC, hC, hgP⟩
        exact AllReadyH.nil
      exact AllReadyH.nil
    refine cons_lit rfl (fun K hK => ?_) ?_
    · skip
      refine sAlG infoQz (by rfl) rfl ?_
      intro gP wB b1 b2 b3 rP
      have hgP : Y.heap.size ≤ gP := Nat.le_trans hHeld.size b1
      refine hK.out _ _ ?_ (fun hHeld => ?_)
      · exact hHeld.trans (b3.mono hHeld.size)
      clear hK K
      try simp only [Act.put, List.setIfInBounds_toArray, List.set_cons_zero, List.set_cons_succ]
      refine wpAnyH_ready (rs := [2]) (by kernel_rfl) (by simp) ?_
      refine cons_lit rfl (fun K hK => ?_) ?_
      · go_simp
        refine (rany_any 4 _).mono ?_
        rintro e wA ⟨rfl, hBA⟩
        try replace rP := rP.below hBA rP.lt
        refine hK.out _ _ ?_ (fun hHeld => ?_)
        · exact hHeld.trans (hBA.mono hHeld.size)
        clear hK K
        try simp only [Act.put, List.setIfInBounds_toArray, List.set_cons_zero, List.set_cons_succ]
        refine take_lit (i := 3) rfl (by kernel_rfl) (by kernel_rfl) (by kernel_rfl) (fun _ _ _ h => h) (yB (v := (Value.agg (qcells (⟨⟨VV, 128⟩, anyP 4⟩)).toArray)) [(0, .tmp 14), (1, .tmp 15)] (by rfl) rfl (bdPr ⟨VV, 128⟩ (anyP 4))) (by assumption) ?_
        try simp only [Act.put, List.setIfInBounds_toArray, List.set_cons_zero, List.set_cons_succ]
        refine wpAnyH_ready (rs := [5]) (by kernel_rfl) (by simp) ?_
        refine cons_lit rfl (fun K hK => ?_) ?_
        · skip
          refine sStG (qcells ⟨⟨VV, 128⟩, anyP 4⟩) (.tmp 4) (.tmp 16) (by rfl) rfl gP _ (by rw [qcells_len, qcells_len]) (by rw [infoQ, qcells_len]) (qcells_one _) rfl rfl rP hHeld hgP ?_
          intro wC rC hC
          refine hK.out _ _ ?_ (fun hHeld => ?_)
          · exact hC
          clear hK K
          try simp only [Act.put, List.setIfInBounds_toArray, List.set_cons_zero, List.set_cons_succ]
          refine wpAnyH_done (by kernel_rfl) ?_ _
          exact ⟨gP, rfl, rC, hC, hgP⟩
        exact AllReadyH.nil
      exact AllReadyH.nil
    exact AllReadyH.nil
  case h2 =>
  rintro gQ W ⟨rQ, hW, hgQ⟩
  replace rO := rO.below hW rO.lt
  replace rR := rR.below hW rR.lt
  replace hX := bt hX hW
  clear hW hgQ rV
  generalize anyP 4 = AN at *
  go_wp2_with (first
    | (refine ldR (.tmp 2) (by rfl) rfl _ _ RR rfl rR.range ?_)
    | (refine ldQ (.tmp 3) (by rfl) rfl _ _ ⟨⟨VV, 112⟩, AN⟩ rfl rO.range ?_)
    | (refine ldQ (.tmp 4) (by rfl) rfl _ _ ⟨⟨VV, 128⟩, AN⟩ rfl rQ.range ?_)
    | (have kk := r5; go_at_call 11; refine (HM4.out _ _ r5).mono ?_; rintro e w6 ⟨rfl, h6⟩; replace hX := bt hX h6)
    | (have kk := m4; (with_reducible refine bsG (T := 22) (U := 41) (n := 1) [(0, .tmp 39)] (rcells RR) ?_ ?_ ?_ ?_); (focus rfl); (focus rfl); (focus exact bsR1 RR); intro w5 r5 h5; replace rR := rR.below h5 rR.lt; replace rO := rO.below h5 rO.lt; replace rQ := rQ.below h5 rQ.lt; replace hX := bt hX h5)
    | (have kk := r3; go_at_call 11; refine (HM3.out _ _ r3).mono ?_; rintro e w4 ⟨rfl, h4⟩; replace rR := rR.below h4 rR.lt; replace rO := rO.below h4 rO.lt; replace rQ := rQ.below h4 rQ.lt; replace hX := bt hX h4; have m4 := True.intro; clear r3)
    | (have kk := m2; (with_reducible refine bsG (T := 22) (U := 41) (n := 1) [(0, .tmp 31)] (rcells RR) ?_ ?_ ?_ ?_); (focus rfl); (focus rfl); (focus exact bsR1 RR); intro w3 r3 h3; replace rR := rR.below h3 rR.lt; replace rO := rO.below h3 rO.lt; replace rQ := rQ.below h3 rQ.lt; replace hX := bt hX h3; clear m2)
    | (have kk := m1; go_at_call 13; refine (HM2.out _).mono ?_; rintro e w2 ⟨rfl, h2⟩; replace rR := rR.below h2 rR.lt; replace rO := rO.below h2 rO.lt; replace rQ := rQ.below h2 rQ.lt; replace hX := bt hX h2; have m2 := True.intro; clear m1)
    | (go_at_call 13; refine (HM1.out _).mono ?_; rintro e w1 ⟨rfl, h1⟩; replace rR := rR.below h1 rR.lt; replace rO := rO.below h1 rO.lt; replace rQ := rQ.below h1 rQ.lt; replace hX := bt hX h1; have m1 := True.intro))
  go_ret
  exact ⟨rfl, hX⟩
end Go.Proofs.Ytfohknbgfpbmiaa
