/-
  lay: an operation of a pair is laid down, or the time at which it may be.
-/
import Derived.Test.YtiihlgcafppehaaFC
namespace Go.Proofs.Ytiihlgcafppehaa
open Go.RowKit Go.Maps Go.Shelf
set_option linter.unusedSimpArgs false
set_option linter.unusedVariables false
set_option maxRecDepth 20000
/-- A plan being made: the Fib, its plan in memory of the call's own, the boxes that lay has captured. -/
structure Ly (w : World) (f B bf bn : Nat) (now : Int) (x : Fv) (W H : List En) (A : List (Pr × Int)) (P : List Oq) : Prop where
  fb : Fb w f x W H A
  pl : kO.Own w B x.pl P
  bf : Row w bf 46 [.pointer (some ⟨f, 0, none⟩)]
  bn : Row w bn 3 [.int .i64 now]
  le : B ≤ w.heap.size
section
variable {w w' : World} {f B bf bn : Nat} {now : Int} {x : Fv} {W H : List En} {A : List (Pr × Int)} {P : List Oq}
theorem Ly.below (h : Ly w f B bf bn now x W H A P) (hb : Below w.heap.size w w') : Ly w' f B bf bn now x W H A P :=
  ⟨h.fb.below hb, own_below h.pl hb, h.bf.below hb h.bf.lt, h.bn.below hb h.bn.lt, Nat.le_trans h.le hb.size⟩
theorem Ly.ne1 (h : Ly w f B bf bn now x W H A P) : bf ≠ f := row_ne h.bf h.fb.row (by decide)
theorem Ly.ne2 (h : Ly w f B bf bn now x W H A P) : bn ≠ f := row_ne h.bn h.fb.row (by decide)
/-- Till when is written. -/
theorem Ly.till (h : Ly w f B bf bn now x W H A P) (hg : w.grownBy w' (some f)) (ti : Int) (hr : Row w' f 79 (fcs ⟨x.mW, x.mH, x.mA, x.d, x.pl, ti⟩)) : Ly w' f B bf bn now ⟨x.mW, x.mH, x.mA, x.d, x.pl, ti⟩ W H A P :=
  ⟨h.fb.own_ hg _ _ _ hr, World.ownsRow.kept h.pl hg (.inr (own_ne_row h.pl h.fb.row (by decide))), h.bf.keep hg h.ne1, h.bn.keep hg h.ne2, Nat.le_trans h.le hg.size⟩
/-- The plan has grown, and is written. -/
theorem Ly.more {w1 : World} {v : Value} {P' : List Oq} (h : Ly w f B bf bn now x W H A P) (hg : w.grownBy w1 x.pl.ownBlock) (ho : kO.Own w1 B v P') (hg2 : w1.grownBy w' (some f)) (hr : Row w' f 79 (fcs ⟨x.mW, x.mH, x.mA, x.d, v, x.ti⟩)) : Ly w' f B bf bn now ⟨x.mW, x.mH, x.mA, x.d, v, x.ti⟩ W H A P' ∧ LTurn w w' f B := by
  have k1 : ∀ {g : Nat} {T : TypeId} {cs : List Value}, Row w g T cs → T ≠ 52 → Row w1 g T cs := fun hr hT => hr.keepO hg (own_ne_row h.pl hr (Ne.symm hT))
  have k2 : ∀ {α : Type} {k : Mk α} {mb : Nat} {L : List α}, Mp k w mb L → Mp k w1 mb L := fun {α k mb L} hm => hm.same (hg.block mb hm.lt (fun e => by
    obtain ⟨_, cs, h3⟩ := ownO_row h.pl e.symm
    exact hm.ne_row h3 rfl))
  have r1 := k1 h.fb.row (by decide)
  have rf := k1 h.bf (by decide)
  have rn := k1 h.bn (by decide)
  have F1 : Fb w1 f x W H A := ⟨r1, k2 h.fb.mw, k2 h.fb.mh, k2 h.fb.ma, h.fb.wh, h.fb.wa, h.fb.ha, h.fb.lw, h.fb.lh, h.fb.la⟩
  exact ⟨⟨F1.own_ hg2 _ _ _ hr, World.ownsRow.kept ho hg2 (.inr (own_ne_row ho r1 (by decide))), rf.keep hg2 h.ne1, rn.keep hg2 h.ne2, Nat.le_trans h.le (Nat.le_trans hg.size hg2.size)⟩, (LTurn.ops hg fun g e => ownO_row h.pl e).trans (LTurn.self hg2)⟩
end
set_option maxHeartbeats 16000000 in
theorem lay_any {w : World} {f B bf bn : Nat} {now : Int} {x : Fv} {W H : List En} {A : List (Pr × Int)} {P : List Oq} (h : Ly w f B bf bn now x W H A P) (p : Pr) (hi : wfQ p) (hP : P.length ≤ 10000000) :
    Calls Try.prog 57 #[(Value.agg (qcells p).toArray), .pointer (some ⟨bf, 0, none⟩), .pointer (some ⟨bn, 0, none⟩)] w fun e w' => e = .returned (.tuple #[]) ∧ ∃ pl, Ly w' f B bf bn now ⟨x.mW, x.mH, x.mA, x.d, pl, layT W H A now x.ti p⟩ W H A (P ++ layP W H A now p) ∧ LTurn w w' f B := by
  have r0 := Row.new w 34 (qcells p)
  have bA := ba w (.cells (qcells p).toArray 34)
  have hTo := fun V (hV : Below w.heap.size w V) => todo_any (h.fb.below hV) p hi
  have hlk : ∀ V, Below w.heap.size w V → (Instr.lookup 76 (.map (some x.mA)) (Value.agg (qcells p).toArray) true).run Try.prog V = .ok (.tuple #[.int .i64 ((getN mT A p).getD (zeroQ, 0)).2, .bool (getN mT A p).isSome]) V := fun V hV => (h.fb.ma.below hV h.fb.ma.lt).look hi
  have HP : Hid (layP W H A now p = layO (todR W H p) (match getN mT A p with | some a => decide (now < a.2) | none => false)) := rfl
  have HT : Hid (layT W H A now x.ti p = layU (todR W H p) (getN mT A p) now x.ti) := rfl
  have HL : Hid (Ly w f B bf bn now x W H A P) := h
  have cf := h.bf.cell 0
  have hbl := h.bf.lt
  generalize layP W H A now p = lp at *
  generalize layT W H A now x.ti p = lt at *
  generalize todR W H p = o at *
  generalize getN mT A p = a at *
  clear h hi
  go_enter Try.func57, Try.ntmps57
  go_upto_region 1 with fail
  refine name_world (R := fun V => Code.wp _ _ _ _ V) (P := fun V => Below w.heap.size w V ∧ Row V w.heap.size 34 (qcells p)) _ ⟨bA, r0⟩ ?_
  clear r0 bA
  rintro X ⟨bX, rp⟩
  have cf1 := (bX.cell (p := ⟨bf, 0, none⟩) hbl).trans cf
  go_upto_region 2 with (first
    | (have kk := q4; (with_reducible refine stO (.tmp 4) (.tmp 12) ?_ ?_ g4 (o.getD zeroO) zeroO ?_ ?_ ?_ ?_); (focus rfl); (focus rfl); (focus rfl); (focus rfl); (focus exact q4); intro W4 gr4 r4; have k4 := grown_below gr4 b4 h4 b4.size; clear q4)
    | (have kk := k2; (with_reducible refine alG infoOz ?_ ?_ ?_); (focus rfl); (focus rfl); intro g4 W3 h4 l4 b4 q4)
    | (go_at_call 41; refine (hTo _ bX).mono ?_; rintro e W2 ⟨rfl, k2⟩)
    | ((with_reducible refine ldQ (.tmp 3) ?_ ?_ w.heap.size 0 p ?_ ?_ ?_); (focus rfl); (focus rfl); (focus rfl); (focus exact rp.range)))
  have HG : Hid (x.pl.ownBlock ≠ some g4) := fun e => by
    obtain ⟨_, cs, h3⟩ := ownO_row HL.out.pl e
    have := h3.lt
    have := bX.size
    have := k2.size
    omega
  have kw : Below w.heap.size w W4 := bt bX (bt k2 k4)
  have L4 := HL.out.below kw
  have rp4 : Row W4 w.heap.size 34 (qcells p) := (rp.below k2 rp.lt).below k4 (Nat.lt_of_lt_of_le rp.lt k2.size)
  have hlk4 : ∀ V, Below W4.heap.size W4 V → _ := fun V hV => hlk V (bt kw hV)
  have r4l := r4.lt
  have rp4l := rp4.lt
  have HK : Hid (∀ V, Below W4.heap.size W4 V → V.cell? ⟨bf, 0, none⟩ = some (.pointer (some ⟨f, 0, none⟩)) ∧ V.cell? ⟨f, 2, none⟩ = some (.map (some x.mA)) ∧ LQ V w.heap.size 0 p) := fun V hV => by
    have q := L4.below hV
    exact ⟨q.bf.cell 0, q.fb.row.f2, (rp4.below hV rp4l).range⟩
  clear hTo hlk cf cf1 bX rp k2 h4 l4 b4 gr4 k4 rp4
  go_upto_region 3 with fail
  refine wp_region_noPanic ?_
  refine wp_region_held_drew (S := fun V => Below W4.heap.size W4 V) (by kernel_rfl) ((Below.refl _ _).drew) (fun hHeld => ?_)
  refine take_lit (i := 0) (v := ?_) rfl (by kernel_rfl) (by kernel_rfl) (by kernel_rfl) (fun _ _ _ h => h) (Or.inl ⟨by rfl, ?_⟩) (by assumption) ?_
  rotate_left
  · (intro w hSw; (try dsimp only at hSw); have z := (HK.out _ hSw).1; go_simp <;> with_reducible rfl)
  try simp only [Act.put, List.setIfInBounds_toArray, List.set_cons_zero, List.set_cons_succ]
  refine take_lit (i := 1) (v := ?_) rfl (by kernel_rfl) (by kernel_rfl) (by kernel_rfl) (fun _ _ _ h => h) (Or.inl ⟨by rfl, ?_⟩) (by assumption) ?_
  rotate_left
  · (intro w hSw; (try dsimp only at hSw); go_simp <;> with_reducible rfl)
  try simp only [Act.put, List.setIfInBounds_toArray, List.set_cons_zero, List.set_cons_succ]
  refine take_lit (i := 2) (v := ?_) rfl (by kernel_rfl) (by kernel_rfl) (by kernel_rfl) (fun _ _ _ h => h) (Or.inl ⟨by rfl, ?_⟩) (by assumption) ?_
  rotate_left
  · (intro w hSw; (try dsimp only at hSw); go_simp <;> with_reducible rfl)
  try simp only [Act.put, List.setIfInBounds_toArray, List.set_cons_zero, List.set_cons_succ]
  refine take_lit (i := 3) (v := ?_) rfl (by kernel_rfl) (by kernel_rfl) (by kernel_rfl) (fun _ _ _ h => h) (Or.inl ⟨by rfl, ?_⟩) (by assumption) ?_
  rotate_left
  · (intro w hSw; (try dsimp only at hSw); have z := (HK.out _ hSw).2.1; go_simp <;> with_reducible rfl)
  try simp only [Act.put, List.setIfInBounds_toArray, List.set_cons_zero, List.set_cons_succ]
  refine take_lit (i := 4) rfl (by kernel_rfl) (by kernel_rfl) (by kernel_rfl) (fun _ _ _ h => h) (yQ p (fun w h => (HK.out _ h).2.2) (by rfl) rfl rfl) (by assumption) ?_
  try simp only [Act.put, List.setIfInBounds_toArray, List.set_cons_zero, List.set_cons_succ]
  refine take_lit (i := 5) (v := ?_) rfl (by kernel_rfl) (by kernel_rfl) (by kernel_rfl) (fun _ _ _ h => h) (Or.inl ⟨by rfl, ?_⟩) (by assumption) ?_
  rotate_left
  · (intro w hSw; (try dsimp only at hSw); have z := hlk4 _ hSw; go_simp <;> with_reducible rfl)
  try simp only [Act.put, List.setIfInBounds_toArray, List.set_cons_zero, List.set_cons_succ]
  refine take_lit (i := 6) (v := ?_) rfl (by kernel_rfl) (by kernel_rfl) (by kernel_rfl) (fun _ _ _ h => h) (Or.inl ⟨by rfl, ?_⟩) (by assumption) ?_
  rotate_left
  · (intro w hSw; (try dsimp only at hSw); go_simp <;> with_reducible rfl)
  try simp only [Act.put, List.setIfInBounds_toArray, List.set_cons_zero, List.set_cons_succ]
  refine take_lit (i := 7) (v := ?_) rfl (by kernel_rfl) (by kernel_rfl) (by kernel_rfl) (fun _ _ _ h => h) (Or.inl ⟨by rfl, ?_⟩) (by assumption) ?_
  rotate_left
  · (intro w hSw; (try dsimp only at hSw); go_simp <;> with_reducible rfl)
  try simp only [Act.put, List.setIfInBounds_toArray, List.set_cons_zero, List.set_cons_succ]
  refine take_lit (i := 8) (v := ?_) rfl (by kernel_rfl) (by kernel_rfl) (by kernel_rfl) (fun _ _ _ h => h) (Or.inl ⟨by rfl, ?_⟩) (by assumption) ?_
  rotate_left
  · (intro w hSw; (try dsimp only at hSw); go_simp <;> with_reducible rfl)
  try simp only [Act.put, List.setIfInBounds_toArray, List.set_cons_zero, List.set_cons_succ]
  refine take_lit (i := 9) (v := ?_) rfl (by kernel_rfl) (by kernel_rfl) (by kernel_rfl) (fun _ _ _ h => h) (Or.inl ⟨by rfl, ?_⟩) (by assumption) ?_
  rotate_left
  · (intro w hSw; (try dsimp only at hSw); go_simp <;> with_reducible rfl)
  try simp only [Act.put, List.setIfInBounds_toArray, List.set_cons_zero, List.set_cons_succ]
  refine take_lit (i := 10) (v := ?_) rfl (by kernel_rfl) (by kernel_rfl) (by kernel_rfl) (fun _ _ _ h => h) (Or.inl ⟨by rfl, ?_⟩) (by assumption) ?_
  rotate_left
  · (intro w hSw; (try dsimp only at hSw); go_simp <;> with_reducible rfl)
  try simp only [Act.put, List.setIfInBounds_toArray, List.set_cons_zero, List.set_cons_succ]
  refine wpAnyH_done (by kernel_rfl) ?_ _
  refine NoPanic.normal ?_
  have L5 := L4.below hHeld
  have r45 := r4.below hHeld r4l
  have k5 : LTurn w _ f B := LTurn.of (bt kw hHeld)
  have s5 : w.heap.size ≤ _ := (bt kw hHeld).size
  clear hHeld HK hlk4 L4 r4 kw
  cases o with
  | none =>
    have e1 : lp = [] := HP.out
    have e2 : lt = x.ti := HT.out
    go_wp2_with fail
    go_end0
    refine ⟨rfl, x.pl, ?_, k5⟩
    rw [e1, e2, List.append_nil]
    exact L5
  | some op =>
    cases a with
    | none =>
      have e1 : lp = [op] := HP.out
      have e2 : lt = x.ti := HT.out
      clear HP HT
      go_upto_region 3 with fail
      refine name_world (R := fun V => Code.wp _ _ _ _ V) (P := fun V => Ly V f B bf bn now x W H A P ∧ Row V g4 52 (pcs op) ∧ LTurn w V f B) _ ⟨L5, r45, k5⟩ ?_
      clear L5 r45 k5 s5
      rintro V ⟨L6, r46, k6⟩
      have r46l := r46.lt
      have HK6 : Hid (∀ U, Below V.heap.size V U → U.cell? ⟨bf, 0, none⟩ = some (.pointer (some ⟨f, 0, none⟩)) ∧ U.cell? ⟨f, 56, none⟩ = some (.int .i64 x.ti) ∧ U.cell? ⟨f, 55, none⟩ = some x.pl ∧ LO U g4 0 op) := fun U hU => by
        have q := L6.below hU
        exact ⟨q.bf.cell 0, q.fb.row.f56, q.fb.row.f55, (r46.below hU r46l).op⟩
      obtain ⟨ad, cc, epl, _⟩ := Kd.own_at L6.pl
      have L60 := L6.below (Below.refl V.heap.size V).drew
      have HS6 : Hid (∀ U, Below V.heap.size V U → U.cell? ⟨bf, 0, none⟩ = some (.pointer (some ⟨f, 0, none⟩)) ∧ U.cell? ⟨f, 55, none⟩ = some x.pl ∧ LO U g4 0 op) := fun U hU => ⟨(HK6.out U hU).1, (HK6.out U hU).2.2.1, (HK6.out U hU).2.2.2⟩
      refine wp_region_noPanic ?_
      refine wp_region_N (S := fun U => U.cell? ⟨bf, 0, none⟩ = some (.pointer (some ⟨f, 0, none⟩)) ∧ U.cell? ⟨f, 55, none⟩ = some x.pl ∧ LO U g4 0 op) 10 (by kernel_rfl) (HS6.out _ (Below.refl _ _).drew) (fun hHeld => ?_)
      refine takeN_lit (i := 0) (v := ?_) (F := #[false, true, true, true, true, true, true, true, false, false, false]) rfl (by kernel_rfl) (by kernel_rfl) (by kernel_rfl) (by kernel_rfl) (fun _ _ _ h => h) (Or.inl ⟨by rfl, ?_⟩) (by assumption) ?_
      rotate_left
      · (intro w hSw; (try dsimp only at hSw); have z := hSw.1; go_simp <;> with_reducible rfl)
      try simp only [Act.put, List.setIfInBounds_toArray, List.set_cons_zero, List.set_cons_succ]
      refine takeN_lit (i := 1) (v := ?_) (F := #[true, false, false, false, false, true, true, false, false, false, false]) rfl (by kernel_rfl) (by kernel_rfl) (by kernel_rfl) (by kernel_rfl) (fun _ _ _ h => h) (Or.inl ⟨by rfl, ?_⟩) (by assumption) ?_
      rotate_left
      · (intro w hSw; (try dsimp only at hSw); have z := hSw.1; go_simp <;> with_reducible rfl)
      try simp only [Act.put, List.setIfInBounds_toArray, List.set_cons_zero, List.set_cons_succ]
      refine takeN_lit (i := 2) (v := ?_) (F := #[true, true, false, false, false, true, true, false, false, false, false]) rfl (by kernel_rfl) (by kernel_rfl) (by kernel_rfl) (by kernel_rfl) (fun _ _ _ h => h) (Or.inl ⟨by rfl, ?_⟩) (by assumption) ?_
      rotate_left
      · (intro w hSw; (try dsimp only at hSw); go_simp <;> with_reducible rfl)
      try simp only [Act.put, List.setIfInBounds_toArray, List.set_cons_zero, List.set_cons_succ]
      refine takeN_lit (i := 3) (v := ?_) (F := #[true, true, true, false, false, true, true, false, false, false, false]) rfl (by kernel_rfl) (by kernel_rfl) (by kernel_rfl) (by kernel_rfl) (fun _ _ _ h => h) (Or.inl ⟨by rfl, ?_⟩) (by assumption) ?_
      rotate_left
      · (intro w hSw; (try dsimp only at hSw); go_simp <;> with_reducible rfl)
      try simp only [Act.put, List.setIfInBounds_toArray, List.set_cons_zero, List.set_cons_succ]
      refine takeN_lit (i := 4) (v := ?_) (F := #[true, true, true, true, false, true, true, false, false, false, false]) rfl (by kernel_rfl) (by kernel_rfl) (by kernel_rfl) (by kernel_rfl) (fun _ _ _ h => h) (Or.inl ⟨by rfl, ?_⟩) (by assumption) ?_
      rotate_left
      · (intro w hSw; (try dsimp only at hSw); have z := hSw.2.1; rw [epl] at z; go_simp <;> with_reducible rfl)
      try simp only [Act.put, List.setIfInBounds_toArray, List.set_cons_zero, List.set_cons_succ]
      refine takeN_lit (i := 5) (F := #[true, true, true, true, true, false, false, false, false, false, false]) rfl (by kernel_rfl) (by kernel_rfl) (by kernel_rfl) (by kernel_rfl) (fun _ _ _ h => h) (yO op (fun w h => h.2.2) (by rfl) rfl rfl) (by assumption) ?_
      try simp only [Act.put, List.setIfInBounds_toArray, List.set_cons_zero, List.set_cons_succ]
      refine wpAnyN_ready (rs := [6]) (by kernel_rfl) (by simp) ?_
      refine consN_lit rfl (fun K hK => ?_) ?_
      · skip
        refine sBsG (T := 77) (U := 52) (n := 1) [(0, .tmp 28)] (pcs op) (by rfl) rfl (fun w => bsO1 op w) ?_
        intro W6 r6 b6
        have L7 := L60.below b6
        have r47 := (r46.below (Below.refl V.heap.size V).drew r46l).below b6 r46l
        refine hK.out _ _ (Or.inr ?_) (fun hHeld => ?_)
        · exact HS6.out _ (bt (Below.refl _ _).drew b6)
        replace hHeld := hHeld.resolve_left (by decide)
        clear hK K
        try simp only [Act.put, List.setIfInBounds_toArray, List.set_cons_zero, List.set_cons_succ]
        refine wpAnyN_ready (rs := [7]) (by kernel_rfl) (by simp) ?_
        refine consN_lit rfl (fun K hK => ?_) ?_
        · skip
          refine sApO (.tmp 27) (.tmp 29) (by rfl) rfl B (.slice ad P.length cc) P rfl (by rw [← epl]; exact L7.pl) _ 1 op rfl r6 hP L7.le ?_
          intro v7 W7 o7 g7
          rw [← epl] at g7
          refine hK.out _ _ (Or.inr ?_) (fun hHeld => ?_)
          · exact ⟨(L7.bf.keepO g7 (own_ne_row L7.pl L7.bf (by decide))).cell 0, (L7.fb.row.keepO g7 (own_ne_row L7.pl L7.fb.row (by decide))).f55, (r47.keepO g7 HG.out).op⟩
          replace hHeld := hHeld.resolve_left (by decide)
          clear hK K
          try simp only [Act.put, List.setIfInBounds_toArray, List.set_cons_zero, List.set_cons_succ]
          refine takeN_lit (i := 8) (v := ?_) (F := #[true, true, true, true, true, true, true, true, false, false, false]) rfl (by kernel_rfl) (by kernel_rfl) (by kernel_rfl) (by kernel_rfl) (fun _ _ _ h => h) (Or.inl ⟨by rfl, ?_⟩) (by assumption) ?_
          rotate_left
          · (intro w hSw; (try dsimp only at hSw); go_simp <;> with_reducible rfl)
          try simp only [Act.put, List.setIfInBounds_toArray, List.set_cons_zero, List.set_cons_succ]
          refine takeN_lit (i := 9) (v := ?_) (F := #[true, true, true, true, true, true, true, true, true, false, false]) rfl (by kernel_rfl) (by kernel_rfl) (by kernel_rfl) (by kernel_rfl) (fun _ _ _ h => h) (Or.inl ⟨by rfl, ?_⟩) (by assumption) ?_
          rotate_left
          · (intro w hSw; (try dsimp only at hSw); go_simp <;> with_reducible rfl)
          try simp only [Act.put, List.setIfInBounds_toArray, List.set_cons_zero, List.set_cons_succ]
          refine wpAnyN_ready (rs := [10]) (by kernel_rfl) (by simp) ?_
          refine consN_lit rfl (fun K hK => ?_) ?_
          · skip
            obtain ⟨a7, c7, rfl, _⟩ := Kd.own_at o7
            refine sStPl (U := 79) (.tmp 32) (.tmp 30) (by rfl) rfl f a7 _ c7 x rfl rfl (L7.fb.row.keepO g7 (own_ne_row L7.pl L7.fb.row (by decide))) ?_
            intro W8 g8 r8
            obtain ⟨L8, t8⟩ := L7.more g7 o7 g8 r8
            refine hK.out _ _ (Or.inl rfl) (fun _ => ?_)
            clear hK K
            try simp only [Act.put, List.setIfInBounds_toArray, List.set_cons_zero, List.set_cons_succ]
            refine wpAnyN_done (by kernel_rfl) ?_ _
            refine NoPanic.normal ?_
            go_wp2_with fail
            go_end0
            have t9 := k6.trans ((LTurn.of (f := f) (B := B) (bt (Below.refl V.heap.size V).drew b6)).trans t8)
            first | refine ⟨rfl, .slice a7 (P ++ [op]).length c7, ?_, t9⟩ | refine ⟨rfl, ⟨.slice a7 (P ++ [op]).length c7, ?_⟩, t9⟩
            first | exact L8 | (rw [e1, e2]; exact L8)
          exact AllReadyN.nil
        exact AllReadyN.nil
      exact AllReadyN.nil
    | some a =>
      by_cases hlt : now < a.2
      · have e1 : lp = [] := by rw [HP.out]; show (if decide (now < a.2) = true then [] else [op]) = _; rw [if_pos (decide_eq_true hlt)]
        have e2 : lt = min x.ti a.2 := by rw [HT.out]; exact if_pos hlt
        have hgt : a.2 > now := hlt
        clear HP HT
        have cn := L5.bn.cell 0
        go_upto_region 6 with fail
        refine name_world (R := fun V => Code.wp _ _ _ _ V) (P := fun V => Ly V f B bf bn now x W H A P ∧ Row V g4 52 (pcs op) ∧ LTurn w V f B) _ ⟨L5, r45, k5⟩ ?_
        clear L5 r45 k5 s5 cn hlt hgt
        rintro V ⟨L6, r46, k6⟩
        have r46l := r46.lt
        have HK6 : Hid (∀ U, Below V.heap.size V U → U.cell? ⟨bf, 0, none⟩ = some (.pointer (some ⟨f, 0, none⟩)) ∧ U.cell? ⟨f, 56, none⟩ = some (.int .i64 x.ti) ∧ U.cell? ⟨f, 55, none⟩ = some x.pl ∧ LO U g4 0 op) := fun U hU => by
          have q := L6.below hU
          exact ⟨q.bf.cell 0, q.fb.row.f56, q.fb.row.f55, (r46.below hU r46l).op⟩
        refine wp_region_noPanic ?_
        refine wp_region_N (S := fun U => Below V.heap.size V U) 9 (by kernel_rfl) ((Below.refl _ _).drew) (fun hHeld => ?_)
        refine takeN_lit (i := 0) (v := ?_) (F := #[false, true, true, true, true, true, true, false, false, false]) rfl (by kernel_rfl) (by kernel_rfl) (by kernel_rfl) (by kernel_rfl) (fun _ _ _ h => h) (Or.inl ⟨by rfl, ?_⟩) (by assumption) ?_
        rotate_left
        · (intro w hSw; (try dsimp only at hSw); have z := (HK6.out _ hSw).1; go_simp <;> with_reducible rfl)
        try simp only [Act.put, List.setIfInBounds_toArray, List.set_cons_zero, List.set_cons_succ]
        refine takeN_lit (i := 1) (v := ?_) (F := #[true, false, false, false, false, true, false, false, false, false]) rfl (by kernel_rfl) (by kernel_rfl) (by kernel_rfl) (by kernel_rfl) (fun _ _ _ h => h) (Or.inl ⟨by rfl, ?_⟩) (by assumption) ?_
        rotate_left
        · (intro w hSw; (try dsimp only at hSw); have z := (HK6.out _ hSw).1; go_simp <;> with_reducible rfl)
        try simp only [Act.put, List.setIfInBounds_toArray, List.set_cons_zero, List.set_cons_succ]
        refine takeN_lit (i := 2) (v := ?_) (F := #[true, true, false, false, false, true, false, false, false, false]) rfl (by kernel_rfl) (by kernel_rfl) (by kernel_rfl) (by kernel_rfl) (fun _ _ _ h => h) (Or.inl ⟨by rfl, ?_⟩) (by assumption) ?_
        rotate_left
        · (intro w hSw; (try dsimp only at hSw); go_simp <;> with_reducible rfl)
        try simp only [Act.put, List.setIfInBounds_toArray, List.set_cons_zero, List.set_cons_succ]
        refine takeN_lit (i := 3) (v := ?_) (F := #[true, true, true, false, false, true, false, false, false, false]) rfl (by kernel_rfl) (by kernel_rfl) (by kernel_rfl) (by kernel_rfl) (fun _ _ _ h => h) (Or.inl ⟨by rfl, ?_⟩) (by assumption) ?_
        rotate_left
        · (intro w hSw; (try dsimp only at hSw); go_simp <;> with_reducible rfl)
        try simp only [Act.put, List.setIfInBounds_toArray, List.set_cons_zero, List.set_cons_succ]
        refine takeN_lit (i := 4) (v := ?_) (F := #[true, true, true, true, false, true, false, false, false, false]) rfl (by kernel_rfl) (by kernel_rfl) (by kernel_rfl) (by kernel_rfl) (fun _ _ _ h => h) (Or.inl ⟨by rfl, ?_⟩) (by assumption) ?_
        rotate_left
        · (intro w hSw; (try dsimp only at hSw); have z := (HK6.out _ hSw).2.1; go_simp <;> with_reducible rfl)
        try simp only [Act.put, List.setIfInBounds_toArray, List.set_cons_zero, List.set_cons_succ]
        refine takeN_lit (i := 5) (v := ?_) (F := #[true, true, true, true, true, false, false, false, false, false]) rfl (by kernel_rfl) (by kernel_rfl) (by kernel_rfl) (by kernel_rfl) (fun _ _ _ h => h) (Or.inl ⟨by rfl, ?_⟩) (by assumption) ?_
        rotate_left
        · (intro w hSw; (try dsimp only at hSw); go_simp <;> with_reducible rfl)
        try simp only [Act.put, List.setIfInBounds_toArray, List.set_cons_zero, List.set_cons_succ]
        refine takeN_lit (i := 6) (v := ?_) (F := #[true, true, true, true, true, true, false, false, false, false]) rfl (by kernel_rfl) (by kernel_rfl) (by kernel_rfl) (by kernel_rfl) (fun _ _ _ h => h) (Or.inl ⟨by rfl, ?_⟩) (by assumption) ?_
        rotate_left
        · (intro w hSw; (try dsimp only at hSw); go_simp <;> with_reducible rfl)
        try simp only [Act.put, List.setIfInBounds_toArray, List.set_cons_zero, List.set_cons_succ]
        refine takeN_lit (i := 7) (v := ?_) (F := #[true, true, true, true, true, true, true, false, false, false]) rfl (by kernel_rfl) (by kernel_rfl) (by kernel_rfl) (by kernel_rfl) (fun _ _ _ h => h) (Or.inl ⟨by rfl, ?_⟩) (by assumption) ?_
        rotate_left
        · (intro w hSw; (try dsimp only at hSw); go_simp <;> with_reducible rfl)
        try simp only [Act.put, List.setIfInBounds_toArray, List.set_cons_zero, List.set_cons_succ]
        refine takeN_lit (i := 8) (v := ?_) (F := #[true, true, true, true, true, true, true, true, false, false]) rfl (by kernel_rfl) (by kernel_rfl) (by kernel_rfl) (by kernel_rfl) (fun _ _ _ h => h) (Or.inl ⟨by rfl, ?_⟩) (by assumption) ?_
        rotate_left
        · (intro w hSw; (try dsimp only at hSw); go_simp <;> with_reducible rfl)
        try simp only [Act.put, List.setIfInBounds_toArray, List.set_cons_zero, List.set_cons_succ]
        refine wpAnyN_ready (rs := [9]) (by kernel_rfl) (by simp) ?_
        refine consN_lit rfl (fun K hK => ?_) ?_
        · skip
          refine sStTi (U := 79) (.tmp 51) (.tmp 49) (by rfl) rfl f (min x.ti a.2) x rfl rfl (L6.below hHeld).fb.row ?_
          intro W8 g8 r8
          have L8 := (L6.below hHeld).till g8 _ r8
          have t8 : LTurn w W8 f B := k6.trans ((LTurn.of hHeld).trans (LTurn.self g8))
          refine hK.out _ _ (Or.inl rfl) (fun _ => ?_)
          clear hK K
          try simp only [Act.put, List.setIfInBounds_toArray, List.set_cons_zero, List.set_cons_succ]
          refine wpAnyN_done (by kernel_rfl) ?_ _
          refine NoPanic.normal ?_
          go_wp2_with fail
          go_end0
          first | refine ⟨rfl, x.pl, ?_, t8⟩ | refine ⟨rfl, ⟨x.pl, ?_⟩, t8⟩
          first | exact L8 | (rw [e1, e2, List.append_nil]; exact L8)
        exact AllReadyN.nil
      · have e1 : lp = [op] := by rw [HP.out]; show (if decide (now < a.2) = true then [] else [op]) = _; rw [if_neg (by simpa using hlt)]
        have e2 : lt = x.ti := by rw [HT.out]; exact if_neg hlt
        have hgt : ¬ a.2 > now := hlt
        clear HP HT
        have cn := L5.bn.cell 0
        go_upto_region 3 with fail
        refine name_world (R := fun V => Code.wp _ _ _ _ V) (P := fun V => Ly V f B bf bn now x W H A P ∧ Row V g4 52 (pcs op) ∧ LTurn w V f B) _ ⟨L5, r45, k5⟩ ?_
        clear L5 r45 k5 s5 cn hlt hgt
        rintro V ⟨L6, r46, k6⟩
        have r46l := r46.lt
        have HK6 : Hid (∀ U, Below V.heap.size V U → U.cell? ⟨bf, 0, none⟩ = some (.pointer (some ⟨f, 0, none⟩)) ∧ U.cell? ⟨f, 56, none⟩ = some (.int .i64 x.ti) ∧ U.cell? ⟨f, 55, none⟩ = some x.pl ∧ LO U g4 0 op) := fun U hU => by
          have q := L6.below hU
          exact ⟨q.bf.cell 0, q.fb.row.f56, q.fb.row.f55, (r46.below hU r46l).op⟩
        obtain ⟨ad, cc, epl, _⟩ := Kd.own_at L6.pl
        have L60 := L6.below (Below.refl V.heap.size V).drew
        have HS6 : Hid (∀ U, Below V.heap.size V U → U.cell? ⟨bf, 0, none⟩ = some (.pointer (some ⟨f, 0, none⟩)) ∧ U.cell? ⟨f, 55, none⟩ = some x.pl ∧ LO U g4 0 op) := fun U hU => ⟨(HK6.out U hU).1, (HK6.out U hU).2.2.1, (HK6.out U hU).2.2.2⟩
        refine wp_region_noPanic ?_
        refine wp_region_N (S := fun U => U.cell? ⟨bf, 0, none⟩ = some (.pointer (some ⟨f, 0, none⟩)) ∧ U.cell? ⟨f, 55, none⟩ = some x.pl ∧ LO U g4 0 op) 10 (by kernel_rfl) (HS6.out _ (Below.refl _ _).drew) (fun hHeld => ?_)
        refine takeN_lit (i := 0) (v := ?_) (F := #[false, true, true, true, true, true, true, true, false, false, false]) rfl (by kernel_rfl) (by kernel_rfl) (by kernel_rfl) (by kernel_rfl) (fun _ _ _ h => h) (Or.inl ⟨by rfl, ?_⟩) (by assumption) ?_
        rotate_left
        · (intro w hSw; (try dsimp only at hSw); have z := hSw.1; go_simp <;> with_reducible rfl)
        try simp only [Act.put, List.setIfInBounds_toArray, List.set_cons_zero, List.set_cons_succ]
        refine takeN_lit (i := 1) (v := ?_) (F := #[true, false, false, false, false, true, true, false, false, false, false]) rfl (by kernel_rfl) (by kernel_rfl) (by kernel_rfl) (by kernel_rfl) (fun _ _ _ h => h) (Or.inl ⟨by rfl, ?_⟩) (by assumption) ?_
        rotate_left
        · (intro w hSw; (try dsimp only at hSw); have z := hSw.1; go_simp <;> with_reducible rfl)
        try simp only [Act.put, List.setIfInBounds_toArray, List.set_cons_zero, List.set_cons_succ]
        refine takeN_lit (i := 2) (v := ?_) (F := #[true, true, false, false, false, true, true, false, false, false, false]) rfl (by kernel_rfl) (by kernel_rfl) (by kernel_rfl) (by kernel_rfl) (fun _ _ _ h => h) (Or.inl ⟨by rfl, ?_⟩) (by assumption) ?_
        rotate_left
        · (intro w hSw; (try dsimp only at hSw); go_simp <;> with_reducible rfl)
        try simp only [Act.put, List.setIfInBounds_toArray, List.set_cons_zero, List.set_cons_succ]
        refine takeN_lit (i := 3) (v := ?_) (F := #[true, true, true, false, false, true, true, false, false, false, false]) rfl (by kernel_rfl) (by kernel_rfl) (by kernel_rfl) (by kernel_rfl) (fun _ _ _ h => h) (Or.inl ⟨by rfl, ?_⟩) (by assumption) ?_
        rotate_left
        · (intro w hSw; (try dsimp only at hSw); go_simp <;> with_reducible rfl)
        try simp only [Act.put, List.setIfInBounds_toArray, List.set_cons_zero, List.set_cons_succ]
        refine takeN_lit (i := 4) (v := ?_) (F := #[true, true, true, true, false, true, true, false, false, false, false]) rfl (by kernel_rfl) (by kernel_rfl) (by kernel_rfl) (by kernel_rfl) (fun _ _ _ h => h) (Or.inl ⟨by rfl, ?_⟩) (by assumption) ?_
        rotate_left
        · (intro w hSw; (try dsimp only at hSw); have z := hSw.2.1; rw [epl] at z; go_simp <;> with_reducible rfl)
        try simp only [Act.put, List.setIfInBounds_toArray, List.set_cons_zero, List.set_cons_succ]
        refine takeN_lit (i := 5) (F := #[true, true, true, true, true, false, false, false, false, false, false]) rfl (by kernel_rfl) (by kernel_rfl) (by kernel_rfl) (by kernel_rfl) (fun _ _ _ h => h) (yO op (fun w h => h.2.2) (by rfl) rfl rfl) (by assumption) ?_
        try simp only [Act.put, List.setIfInBounds_toArray, List.set_cons_zero, List.set_cons_succ]
        refine wpAnyN_ready (rs := [6]) (by kernel_rfl) (by simp) ?_
        refine consN_lit rfl (fun K hK => ?_) ?_
        · skip
          refine sBsG (T := 77) (U := 52) (n := 1) [(0, .tmp 28)] (pcs op) (by rfl) rfl (fun w => bsO1 op w) ?_
          intro W6 r6 b6
          have L7 := L60.below b6
          have r47 := (r46.below (Below.refl V.heap.size V).drew r46l).below b6 r46l
          refine hK.out _ _ (Or.inr ?_) (fun hHeld => ?_)
          · exact HS6.out _ (bt (Below.refl _ _).drew b6)
          replace hHeld := hHeld.resolve_left (by decide)
          clear hK K
          try simp only [Act.put, List.setIfInBounds_toArray, List.set_cons_zero, List.set_cons_succ]
          refine wpAnyN_ready (rs := [7]) (by kernel_rfl) (by simp) ?_
          refine consN_lit rfl (fun K hK => ?_) ?_
          · skip
            refine sApO (.tmp 27) (.tmp 29) (by rfl) rfl B (.slice ad P.length cc) P rfl (by rw [← epl]; exact L7.pl) _ 1 op rfl r6 hP L7.le ?_
            intro v7 W7 o7 g7
            rw [← epl] at g7
            refine hK.out _ _ (Or.inr ?_) (fun hHeld => ?_)
            · exact ⟨(L7.bf.keepO g7 (own_ne_row L7.pl L7.bf (by decide))).cell 0, (L7.fb.row.keepO g7 (own_ne_row L7.pl L7.fb.row (by decide))).f55, (r47.keepO g7 HG.out).op⟩
            replace hHeld := hHeld.resolve_left (by decide)
            clear hK K
            try simp only [Act.put, List.setIfInBounds_toArray, List.set_cons_zero, List.set_cons_succ]
            refine takeN_lit (i := 8) (v := ?_) (F := #[true, true, true, true, true, true, true, true, false, false, false]) rfl (by kernel_rfl) (by kernel_rfl) (by kernel_rfl) (by kernel_rfl) (fun _ _ _ h => h) (Or.inl ⟨by rfl, ?_⟩) (by assumption) ?_
            rotate_left
            · (intro w hSw; (try dsimp only at hSw); go_simp <;> with_reducible rfl)
            try simp only [Act.put, List.setIfInBounds_toArray, List.set_cons_zero, List.set_cons_succ]
            refine takeN_lit (i := 9) (v := ?_) (F := #[true, true, true, true, true, true, true, true, true, false, false]) rfl (by kernel_rfl) (by kernel_rfl) (by kernel_rfl) (by kernel_rfl) (fun _ _ _ h => h) (Or.inl ⟨by rfl, ?_⟩) (by assumption) ?_
            rotate_left
            · (intro w hSw; (try dsimp only at hSw); go_simp <;> with_reducible rfl)
            try simp only [Act.put, List.setIfInBounds_toArray, List.set_cons_zero, List.set_cons_succ]
            refine wpAnyN_ready (rs := [10]) (by kernel_rfl) (by simp) ?_
            refine consN_lit rfl (fun K hK => ?_) ?_
            · skip
              obtain ⟨a7, c7, rfl, _⟩ := Kd.own_at o7
              refine sStPl (U := 79) (.tmp 32) (.tmp 30) (by rfl) rfl f a7 _ c7 x rfl rfl (L7.fb.row.keepO g7 (own_ne_row L7.pl L7.fb.row (by decide))) ?_
              intro W8 g8 r8
              obtain ⟨L8, t8⟩ := L7.more g7 o7 g8 r8
              refine hK.out _ _ (Or.inl rfl) (fun _ => ?_)
              clear hK K
              try simp only [Act.put, List.setIfInBounds_toArray, List.set_cons_zero, List.set_cons_succ]
              refine wpAnyN_done (by kernel_rfl) ?_ _
              refine NoPanic.normal ?_
              go_wp2_with fail
              go_end0
              have t9 := k6.trans ((LTurn.of (f := f) (B := B) (bt (Below.refl V.heap.size V).drew b6)).trans t8)
              first | refine ⟨rfl, .slice a7 (P ++ [op]).length c7, ?_, t9⟩ | refine ⟨rfl, ⟨.slice a7 (P ++ [op]).length c7, ?_⟩, t9⟩
              first | exact L8 | (rw [e1, e2]; exact L8)
            exact AllReadyN.nil
          exact AllReadyN.nil
        exact AllReadyN.nil
end Go.Proofs.Ytiihlgcafppehaa
