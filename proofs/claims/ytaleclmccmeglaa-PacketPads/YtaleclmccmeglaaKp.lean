/-
  The contracts of keep, noSource and source of package packet.
-/
import Derived.Test.YtaleclmccmeglaaTel
import Derived.Test.YtaleclmccmeglaaPfx
namespace Go.Proofs.Ytaleclmccmeglaa
open Go.RowKit
set_option linter.unusedSimpArgs false
set_option maxRecDepth 20000
variable {bv : Option Addr}

/-- What an update makes of its address. -/
def kpI (ae : Nat) (a : Ad) : Id8 := if ae = 1 then spI zeroI 4 (a.l.drop 12) else spI zeroI 0 (a.l.drop 8)
def kpD (s : St) (ae : Nat) (a : Ad) : St := if ae = 1 then { s with d1 := some a } else { s with d2 := some a }
def kpS (s : St) (ae fl : Nat) (a : Ad) : St :=
  let s1 := if (bits BinOp.and IntKind.u8 (fl : Int) 128 != 0) then kpD s ae a else s
  if (bits BinOp.and IntKind.u8 (fl : Int) 64 != 0) then { s1 with r := some (kpI ae a) } else s1
theorem keep_any {w : World} {P : Nat} {R : Option Nat} {s : St} (ae fl : Nat) (a : Ad) (hae : ae = 1 ∨ ae = 2) (hpar : Par w P R s) :
    Calls Try.prog 81 #[.pointer (some ⟨P, 0, none⟩), .int .u8 (ae : Int), .int .u8 (fl : Int), (Value.agg (acells a).toArray)] w fun e w' => e = .returned (.tuple #[]) ∧ Par w' P R (kpS s ae fl a) ∧ w.grownBy w' (some P) := by
  unfold kpS
  generalize hb1 : (bits BinOp.and IntKind.u8 (fl : Int) 128 != 0) = b1
  generalize hb2 : (bits BinOp.and IntKind.u8 (fl : Int) 64 != 0) = b2
  have P1 := hpar.below (ba w (.cells (acells a).toArray 23))
  have R1 := Row.new w 23 (acells a)
  have hPl := hpar.lt
  have G1 := grownBy_below (some P) (ba w (.cells (acells a).toArray 23))
  have f9 := P1.frozen 9
  have f10 := P1.frozen 10
  obtain ⟨_, _, _, ⟨v9, c9, _⟩, ⟨v10, c10, _⟩⟩ := P1.at
  have S9 : Hid (Par ((w.alloc (.cells (acells a).toArray 23)).setCell ⟨P, 9, none⟩ (.pointer (some ⟨w.heap.size, 0, none⟩))) P R { s with d1 := some a } ∧ w.grownBy ((w.alloc (.cells (acells a).toArray 23)).setCell ⟨P, 9, none⟩ (.pointer (some ⟨w.heap.size, 0, none⟩))) (some P) ∧ Row ((w.alloc (.cells (acells a).toArray 23)).setCell ⟨P, 9, none⟩ (.pointer (some ⟨w.heap.size, 0, none⟩))) w.heap.size 23 (acells a)) := ⟨P1.setD1 R1, grownBy_trans G1 (grownBy_setCell _ _ _ _), R1.setOther _ _ _ (by omega)⟩
  have S10 : Hid (Par ((w.alloc (.cells (acells a).toArray 23)).setCell ⟨P, 10, none⟩ (.pointer (some ⟨w.heap.size, 0, none⟩))) P R { s with d2 := some a } ∧ w.grownBy ((w.alloc (.cells (acells a).toArray 23)).setCell ⟨P, 10, none⟩ (.pointer (some ⟨w.heap.size, 0, none⟩))) (some P) ∧ Row ((w.alloc (.cells (acells a).toArray 23)).setCell ⟨P, 10, none⟩ (.pointer (some ⟨w.heap.size, 0, none⟩))) w.heap.size 23 (acells a)) := ⟨P1.setD2 R1, grownBy_trans G1 (grownBy_setCell _ _ _ _), R1.setOther _ _ _ (by omega)⟩
  have S0 : Hid (Par (w.alloc (.cells (acells a).toArray 23)) P R s ∧ w.grownBy (w.alloc (.cells (acells a).toArray 23)) (some P) ∧ Row (w.alloc (.cells (acells a).toArray 23)) w.heap.size 23 (acells a)) := ⟨P1, G1, R1⟩
  rw [World.setCell_alloc_past _ _ _ _ hPl] at S9 S10
  clear P1 R1 G1
  rcases hae with rfl | rfl
  · cases b2
    · cases b1
      all_goals
        go_enter Try.func81, Try.ntmps81
        go_wp2
        go_end0
        first
          | exact ⟨rfl, S0.out.1, S0.out.2.1⟩
          | exact ⟨rfl, S9.out.1, S9.out.2.1⟩
          | exact ⟨rfl, S10.out.1, S10.out.2.1⟩
    · cases b1
      · obtain ⟨X1, X2, X3⟩ := S0.out
        clear S0 S9 S10
        go_enter Try.func81, Try.ntmps81
        go_wp2_with (refine alG infoIz (by rfl) rfl ?_; intro gI wI i1 i2 i3 rI)
        have i4 : w.heap.size < gI := by simp at i1; omega
        have bX := i3.trans (bd wI |>.mono i3.size)
        have RI1 := X3.below bX X3.lt
        have rI1 := rI.below (bd wI) rI.lt
        clear rI i3 X3 c9 c10 f9 f10
        refine wp_region_noPanic ?_
        refine wp_region_held_drew (S := fun _ => True) (by kernel_rfl) (trivial) (fun hHeld => ?_)
        refine take_lit (i := 0) (v := ?_) rfl (by kernel_rfl) (by kernel_rfl) (by kernel_rfl) (fun _ _ _ h => h) (Or.inl ⟨by rfl, ?_⟩) (by assumption) ?_
        rotate_left
        · (intro w hSw; (try dsimp only at hSw); go_simp <;> with_reducible rfl)
        try simp only [Act.put, List.setIfInBounds_toArray, List.set_cons_zero, List.set_cons_succ]
        refine take_lit (i := 1) (v := ?_) rfl (by kernel_rfl) (by kernel_rfl) (by kernel_rfl) (fun _ _ _ h => h) (Or.inl ⟨by rfl, ?_⟩) (by assumption) ?_
        rotate_left
        · (intro w hSw; (try dsimp only at hSw); go_simp <;> with_reducible rfl)
        try simp only [Act.put, List.setIfInBounds_toArray, List.set_cons_zero, List.set_cons_succ]
        refine wpAnyH_ready (rs := [2]) (by kernel_rfl) (by simp) ?_
        refine cons_lit rfl (fun K hK => ?_) ?_
        · skip
          refine step_copy_splice rfl (.tmp 23) (.tmp 24) 24 24 rfl 5 Try.underlying24 (by kernel_rfl) _ _ _ _ _ _ rfl rfl gI 4 (icells zeroI) 37 rI1 (bcells (a.l.drop 12)) (by rw [bcells_length, List.length_drop, a.len]; rfl) (fun _ => ⟨rfl, _, rfl, fun j v hv => ?_⟩) (by rw [bcells_length, icells_len, List.length_drop, a.len]; omega) (bcells_one _) gI _ (Below.refl _ _) (Nat.le_refl _) ?_
          · (rw [Addr.add_mid, RI1.cell]; have e : bcells (a.l.drop 12) = (bcells a.l).drop 12 := (by simp [bcells]); rw [e, List.getElem?_drop] at hv; exact hv)
          intro w2 HG2 hB2
          refine hK.out _ _ ?_ (fun hHeld => ?_)
          · trivial
          clear hK K
          try simp only [Act.put, List.setIfInBounds_toArray, List.set_cons_zero, List.set_cons_succ]
          refine wpAnyH_done (by kernel_rfl) ?_ _
          refine NoPanic.normal ?_
          have r2 : Row w2 gI 37 (icells (kpI 1 a)) := by show Row w2 gI _ (icells (spI zeroI 4 (a.l.drop 12))); rw [icells_spI _ _ _ (by rw [List.length_drop, a.len]; omega)]; exact HG2.out
          have bX2 := bX.trans (hB2.mono i1)
          have P2 := X1.below bX2
          have f0 := P2.frozen 0
          obtain ⟨⟨v0, c0, _⟩, _⟩ := P2.at
          have G2 := grownBy_trans (grownBy_trans X2 (grownBy_below (some P) bX2)) (grownBy_setCell w2 P 0 (.pointer (some ⟨gI, 0, none⟩)))
          have Q2 := P2.setRt r2
          have HQ : Hid (Par _ P R _ ∧ w.grownBy _ (some P)) := ⟨Q2, G2⟩
          clear HG2 hB2 bX bX2 X1 X2 P2 r2 RI1 rI1 Q2 G2 hHeld
          go_wp2
          go_end0
          exact ⟨rfl, HQ.out.1, HQ.out.2⟩
        exact AllReadyH.nil
      · obtain ⟨X1, X2, X3⟩ := S9.out
        clear S0 S9 S10
        go_enter Try.func81, Try.ntmps81
        go_wp2_with (refine alG infoIz (by rfl) rfl ?_; intro gI wI i1 i2 i3 rI)
        have i4 : w.heap.size < gI := by simp at i1; omega
        have bX := i3.trans (bd wI |>.mono i3.size)
        have RI1 := X3.below bX X3.lt
        have rI1 := rI.below (bd wI) rI.lt
        clear rI i3 X3 c9 c10 f9 f10
        refine wp_region_noPanic ?_
        refine wp_region_held_drew (S := fun _ => True) (by kernel_rfl) (trivial) (fun hHeld => ?_)
        refine take_lit (i := 0) (v := ?_) rfl (by kernel_rfl) (by kernel_rfl) (by kernel_rfl) (fun _ _ _ h => h) (Or.inl ⟨by rfl, ?_⟩) (by assumption) ?_
        rotate_left
        · (intro w hSw; (try dsimp only at hSw); go_simp <;> with_reducible rfl)
        try simp only [Act.put, List.setIfInBounds_toArray, List.set_cons_zero, List.set_cons_succ]
        refine take_lit (i := 1) (v := ?_) rfl (by kernel_rfl) (by kernel_rfl) (by kernel_rfl) (fun _ _ _ h => h) (Or.inl ⟨by rfl, ?_⟩) (by assumption) ?_
        rotate_left
        · (intro w hSw; (try dsimp only at hSw); go_simp <;> with_reducible rfl)
        try simp only [Act.put, List.setIfInBounds_toArray, List.set_cons_zero, List.set_cons_succ]
        refine wpAnyH_ready (rs := [2]) (by kernel_rfl) (by simp) ?_
        refine cons_lit rfl (fun K hK => ?_) ?_
        · skip
          refine step_copy_splice rfl (.tmp 23) (.tmp 24) 24 24 rfl 5 Try.underlying24 (by kernel_rfl) _ _ _ _ _ _ rfl rfl gI 4 (icells zeroI) 37 rI1 (bcells (a.l.drop 12)) (by rw [bcells_length, List.length_drop, a.len]; rfl) (fun _ => ⟨rfl, _, rfl, fun j v hv => ?_⟩) (by rw [bcells_length, icells_len, List.length_drop, a.len]; omega) (bcells_one _) gI _ (Below.refl _ _) (Nat.le_refl _) ?_
          · (rw [Addr.add_mid, RI1.cell]; have e : bcells (a.l.drop 12) = (bcells a.l).drop 12 := (by simp [bcells]); rw [e, List.getElem?_drop] at hv; exact hv)
          intro w2 HG2 hB2
          refine hK.out _ _ ?_ (fun hHeld => ?_)
          · trivial
          clear hK K
          try simp only [Act.put, List.setIfInBounds_toArray, List.set_cons_zero, List.set_cons_succ]
          refine wpAnyH_done (by kernel_rfl) ?_ _
          refine NoPanic.normal ?_
          have r2 : Row w2 gI 37 (icells (kpI 1 a)) := by show Row w2 gI _ (icells (spI zeroI 4 (a.l.drop 12))); rw [icells_spI _ _ _ (by rw [List.length_drop, a.len]; omega)]; exact HG2.out
          have bX2 := bX.trans (hB2.mono i1)
          have P2 := X1.below bX2
          have f0 := P2.frozen 0
          obtain ⟨⟨v0, c0, _⟩, _⟩ := P2.at
          have G2 := grownBy_trans (grownBy_trans X2 (grownBy_below (some P) bX2)) (grownBy_setCell w2 P 0 (.pointer (some ⟨gI, 0, none⟩)))
          have Q2 := P2.setRt r2
          have HQ : Hid (Par _ P R _ ∧ w.grownBy _ (some P)) := ⟨Q2, G2⟩
          clear HG2 hB2 bX bX2 X1 X2 P2 r2 RI1 rI1 Q2 G2 hHeld
          go_wp2
          go_end0
          exact ⟨rfl, HQ.out.1, HQ.out.2⟩
        exact AllReadyH.nil
  · cases b2
    · cases b1
      all_goals
        go_enter Try.func81, Try.ntmps81
        go_wp2
        go_end0
        first
          | exact ⟨rfl, S0.out.1, S0.out.2.1⟩
          | exact ⟨rfl, S9.out.1, S9.out.2.1⟩
          | exact ⟨rfl, S10.out.1, S10.out.2.1⟩
    · cases b1
      · obtain ⟨X1, X2, X3⟩ := S0.out
        clear S0 S9 S10
        go_enter Try.func81, Try.ntmps81
        go_wp2_with (refine alG infoIz (by rfl) rfl ?_; intro gI wI i1 i2 i3 rI)
        have i4 : w.heap.size < gI := by simp at i1; omega
        have bX := i3.trans (bd wI |>.mono i3.size)
        have RI1 := X3.below bX X3.lt
        have rI1 := rI.below (bd wI) rI.lt
        clear rI i3 X3 c9 c10 f9 f10
        refine wp_region_noPanic ?_
        refine wp_region_held_drew (S := fun _ => True) (by kernel_rfl) (trivial) (fun hHeld => ?_)
        refine take_lit (i := 0) (v := ?_) rfl (by kernel_rfl) (by kernel_rfl) (by kernel_rfl) (fun _ _ _ h => h) (Or.inl ⟨by rfl, ?_⟩) (by assumption) ?_
        rotate_left
        · (intro w hSw; (try dsimp only at hSw); go_simp <;> with_reducible rfl)
        try simp only [Act.put, List.setIfInBounds_toArray, List.set_cons_zero, List.set_cons_succ]
        refine take_lit (i := 1) (v := ?_) rfl (by kernel_rfl) (by kernel_rfl) (by kernel_rfl) (fun _ _ _ h => h) (Or.inl ⟨by rfl, ?_⟩) (by assumption) ?_
        rotate_left
        · (intro w hSw; (try dsimp only at hSw); go_simp <;> with_reducible rfl)
        try simp only [Act.put, List.setIfInBounds_toArray, List.set_cons_zero, List.set_cons_succ]
        refine wpAnyH_ready (rs := [2]) (by kernel_rfl) (by simp) ?_
        refine cons_lit rfl (fun K hK => ?_) ?_
        · skip
          refine step_copy_splice rfl (.tmp 26) (.tmp 27) 24 24 rfl 5 Try.underlying24 (by kernel_rfl) _ _ _ _ _ _ rfl rfl gI 0 (icells zeroI) 37 rI1 (bcells (a.l.drop 8)) (by rw [bcells_length, List.length_drop, a.len]; rfl) (fun _ => ⟨rfl, _, rfl, fun j v hv => ?_⟩) (by rw [bcells_length, icells_len, List.length_drop, a.len]; omega) (bcells_one _) gI _ (Below.refl _ _) (Nat.le_refl _) ?_
          · (rw [Addr.add_mid, RI1.cell]; have e : bcells (a.l.drop 8) = (bcells a.l).drop 8 := (by simp [bcells]); rw [e, List.getElem?_drop] at hv; exact hv)
          intro w2 HG2 hB2
          refine hK.out _ _ ?_ (fun hHeld => ?_)
          · trivial
          clear hK K
          try simp only [Act.put, List.setIfInBounds_toArray, List.set_cons_zero, List.set_cons_succ]
          refine wpAnyH_done (by kernel_rfl) ?_ _
          refine NoPanic.normal ?_
          have r2 : Row w2 gI 37 (icells (kpI 2 a)) := by show Row w2 gI _ (icells (spI zeroI 0 (a.l.drop 8))); rw [icells_spI _ _ _ (by rw [List.length_drop, a.len]; omega)]; exact HG2.out
          have bX2 := bX.trans (hB2.mono i1)
          have P2 := X1.below bX2
          have f0 := P2.frozen 0
          obtain ⟨⟨v0, c0, _⟩, _⟩ := P2.at
          have G2 := grownBy_trans (grownBy_trans X2 (grownBy_below (some P) bX2)) (grownBy_setCell w2 P 0 (.pointer (some ⟨gI, 0, none⟩)))
          have Q2 := P2.setRt r2
          have HQ : Hid (Par _ P R _ ∧ w.grownBy _ (some P)) := ⟨Q2, G2⟩
          clear HG2 hB2 bX bX2 X1 X2 P2 r2 RI1 rI1 Q2 G2 hHeld
          go_wp2
          go_end0
          exact ⟨rfl, HQ.out.1, HQ.out.2⟩
        exact AllReadyH.nil
      · obtain ⟨X1, X2, X3⟩ := S10.out
        clear S0 S9 S10
        go_enter Try.func81, Try.ntmps81
        go_wp2_with (refine alG infoIz (by rfl) rfl ?_; intro gI wI i1 i2 i3 rI)
        have i4 : w.heap.size < gI := by simp at i1; omega
        have bX := i3.trans (bd wI |>.mono i3.size)
        have RI1 := X3.below bX X3.lt
        have rI1 := rI.below (bd wI) rI.lt
        clear rI i3 X3 c9 c10 f9 f10
        refine wp_region_noPanic ?_
        refine wp_region_held_drew (S := fun _ => True) (by kernel_rfl) (trivial) (fun hHeld => ?_)
        refine take_lit (i := 0) (v := ?_) rfl (by kernel_rfl) (by kernel_rfl) (by kernel_rfl) (fun _ _ _ h => h) (Or.inl ⟨by rfl, ?_⟩) (by assumption) ?_
        rotate_left
        · (intro w hSw; (try dsimp only at hSw); go_simp <;> with_reducible rfl)
        try simp only [Act.put, List.setIfInBounds_toArray, List.set_cons_zero, List.set_cons_succ]
        refine take_lit (i := 1) (v := ?_) rfl (by kernel_rfl) (by kernel_rfl) (by kernel_rfl) (fun _ _ _ h => h) (Or.inl ⟨by rfl, ?_⟩) (by assumption) ?_
        rotate_left
        · (intro w hSw; (try dsimp only at hSw); go_simp <;> with_reducible rfl)
        try simp only [Act.put, List.setIfInBounds_toArray, List.set_cons_zero, List.set_cons_succ]
        refine wpAnyH_ready (rs := [2]) (by kernel_rfl) (by simp) ?_
        refine cons_lit rfl (fun K hK => ?_) ?_
        · skip
          refine step_copy_splice rfl (.tmp 26) (.tmp 27) 24 24 rfl 5 Try.underlying24 (by kernel_rfl) _ _ _ _ _ _ rfl rfl gI 0 (icells zeroI) 37 rI1 (bcells (a.l.drop 8)) (by rw [bcells_length, List.length_drop, a.len]; rfl) (fun _ => ⟨rfl, _, rfl, fun j v hv => ?_⟩) (by rw [bcells_length, icells_len, List.length_drop, a.len]; omega) (bcells_one _) gI _ (Below.refl _ _) (Nat.le_refl _) ?_
          · (rw [Addr.add_mid, RI1.cell]; have e : bcells (a.l.drop 8) = (bcells a.l).drop 8 := (by simp [bcells]); rw [e, List.getElem?_drop] at hv; exact hv)
          intro w2 HG2 hB2
          refine hK.out _ _ ?_ (fun hHeld => ?_)
          · trivial
          clear hK K
          try simp only [Act.put, List.setIfInBounds_toArray, List.set_cons_zero, List.set_cons_succ]
          refine wpAnyH_done (by kernel_rfl) ?_ _
          refine NoPanic.normal ?_
          have r2 : Row w2 gI 37 (icells (kpI 2 a)) := by show Row w2 gI _ (icells (spI zeroI 0 (a.l.drop 8))); rw [icells_spI _ _ _ (by rw [List.length_drop, a.len]; omega)]; exact HG2.out
          have bX2 := bX.trans (hB2.mono i1)
          have P2 := X1.below bX2
          have f0 := P2.frozen 0
          obtain ⟨⟨v0, c0, _⟩, _⟩ := P2.at
          have G2 := grownBy_trans (grownBy_trans X2 (grownBy_below (some P) bX2)) (grownBy_setCell w2 P 0 (.pointer (some ⟨gI, 0, none⟩)))
          have Q2 := P2.setRt r2
          have HQ : Hid (Par _ P R _ ∧ w.grownBy _ (some P)) := ⟨Q2, G2⟩
          clear HG2 hB2 bX bX2 X1 X2 P2 r2 RI1 rI1 Q2 G2 hHeld
          go_wp2
          go_end0
          exact ⟨rfl, HQ.out.1, HQ.out.2⟩
        exact AllReadyH.nil
end Go.Proofs.Ytaleclmccmeglaa
