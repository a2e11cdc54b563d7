/-
  The document's table: Selected, Next.
-/
import Derived.Test.YthofoocknmkdjaaM12
namespace Go.Proofs.Ythofoocknmkdjaa
open Go.RowKit Go.Maps Go.Shelf
set_option linter.unusedSimpArgs false
set_option linter.unusedVariables false
set_option maxRecDepth 20000
/-- The place of the first that is so; -1. -/
def plI (so : Ro → Bool) (K : List Ro) : Int := match K.findIdx? so with | none => -1 | some j => j
theorem pl_at {so : Ro → Bool} {K : List Ro} {j : Nat} (h : ∀ x ∈ K.take j, so x = false) (hj : j < K.length) (hk : so K[j] = true) : plI so K = j := by
  have : K.findIdx? so = some j := by
    rw [List.findIdx?_eq_some_iff_getElem]
    refine ⟨hj, hk, fun i hi => ?_⟩
    have : K[i] ∈ K.take j := List.mem_take_iff_getElem.2 ⟨i, by omega, rfl⟩
    simp [h _ this]
  unfold plI
  rw [this]
theorem pl_no {so : Ro → Bool} {K : List Ro} (h : ∀ x ∈ K, so x = false) : plI so K = -1 := by
  have : K.findIdx? so = none := by
    rw [List.findIdx?_eq_none_iff]
    exact h
  unfold plI
  rw [this]
set_option maxHeartbeats 8000000 in
theorem rselected_any {w : World} {B r : Nat} {most : Int} {K : List Ro} (h : Rb w B r most K) (p : Pr) : Calls Try.prog 18 #[.pointer (some ⟨r, 0, none⟩), (Value.agg (qcells p).toArray)] w (Gives w (.int .i64 (plI (selB p) K))) := by
  have hll := h.ll
  obtain ⟨ad, c, L1, L0, L2⟩ := h.lies
  clear h
  have r0 := Row.new w 36 (qcells p)
  go_enter Try.func18, Try.ntmps18
  go_upto_region 1 with fail
  refine name_world (R := fun W => Code.wp _ _ _ _ W) (P := fun W => Below w.heap.size w W ∧ LQ W w.heap.size 0 p ∧ w.heap.size < W.heap.size) _ ⟨ba _ _, r0.range, r0.lt⟩ ?_
  clear r0
  rintro X ⟨hB, hP, hs⟩
  go_wp2_with fail
  go_loopw [5] (fun v wr => ∃ j : Nat, j ≤ K.length ∧ v = .int .i64 j ∧ (∀ x ∈ K.take j, selB p x = false) ∧ Below X.heap.size X wr) (fun v _ => K.length - (intOf v).toNat)
  case atStart => exact ⟨0, Nat.zero_le _, rfl, by simp, Below.refl _ _⟩
  case round =>
    obtain ⟨j, hj, rfl, hno, hb⟩ := hrel
    have cL := L1 _ (bt hB hb)
    by_cases hlt : j < K.length
    · obtain ⟨g, rfl, hc⟩ := L2 (by intro e; rw [e] at hlt; simp at hlt)
      have hji : (j : Int) < (K.length : Int) := by omega
      have hw64 : wrap64 ((j : Int) + 1) = (j : Int) + 1 := by unfold wrap64; omega
      have HS : Hid (∀ W, Below wr.heap.size wr W → W.cell? ⟨r, 1, none⟩ = some (.slice (some ⟨g, 0, none⟩) K.length c) ∧ LS W g (j * 81) K[j] ∧ LQ W w.heap.size 0 p) := fun W hW => ⟨L1 _ (bt hB (bt hb hW)), hc _ (bt hB (bt hb hW)) j _ (List.getElem?_eq_getElem hlt), rangeAt_below hP (bt hb hW) hs⟩
      have HY : Hid (selB p K[j] = true → plI (selB p) K = j) := fun hk => pl_at hno hlt hk
      have HN : Hid (selB p K[j] = false → ∀ x ∈ K.take (j + 1), selB p x = false) := fun hk => all_step hno hlt hk
      have HK : Hid (selB p K[j] = (K[j].s && qB K[j].p p)) := rfl
      have hEQ : ∀ W, (binOp .eql 36 (Value.agg (qcells (K[j].p)).toArray) (Value.agg (qcells p).toArray)).run Try.prog W = .ok (.bool (qB K[j].p p)) W := fun W => run_eqlQ K[j].p p W
      have gEQ := fun op x y W => guardQ op x y K[j].p p W
      have HJ : Hid (j + 1 ≤ K.length) := hlt
      have HM : Hid (K.length - ((j : Int) + 1).toNat < K.length - ((j : Int)).toNat) := meas hlt
      clear hc hno
      generalize (K[j]'hlt) = n at *
      generalize qB n.p p = b1 at *
      go_upto_region 4 with fail
      cases b1 with
      | false =>
        have hN := HN.out (by rw [HK.out]; simp)
        clear HN HY L1 L0 L2
        refine wp_region_noPanic ?_
        refine wp_region_held_drew (S := fun W => Below wr.heap.size wr W) (by kernel_rfl) ((Below.refl _ _).drew) (fun hHeld => ?_)
        refine take_lit (i := 0) (v := ?_) rfl (by kernel_rfl) (by kernel_rfl) (by kernel_rfl) (fun _ _ _ h => h) (Or.inl ⟨by rfl, ?_⟩) (by assumption) ?_
        rotate_left
        · (intro w hSw; (try dsimp only at hSw); go_simp <;> with_reducible rfl)
        try simp only [Act.put, List.setIfInBounds_toArray, List.set_cons_zero, List.set_cons_succ]
        refine take_lit (i := 1) (v := ?_) rfl (by kernel_rfl) (by kernel_rfl) (by kernel_rfl) (fun _ _ _ h => h) (Or.inl ⟨by rfl, ?_⟩) (by assumption) ?_
        rotate_left
        · (intro w hSw; (try dsimp only at hSw); go_simp <;> with_reducible rfl)
        try simp only [Act.put, List.setIfInBounds_toArray, List.set_cons_zero, List.set_cons_succ]
        refine take_lit (i := 2) (v := ?_) rfl (by kernel_rfl) (by kernel_rfl) (by kernel_rfl) (fun _ _ _ h => h) (Or.inl ⟨by rfl, ?_⟩) (by assumption) ?_
        rotate_left
        · (intro w hSw; (try dsimp only at hSw); go_simp <;> with_reducible rfl)
        try simp only [Act.put, List.setIfInBounds_toArray, List.set_cons_zero, List.set_cons_succ]
        refine take_lit (i := 3) (v := ?_) rfl (by kernel_rfl) (by kernel_rfl) (by kernel_rfl) (fun _ _ _ h => h) (Or.inl ⟨by rfl, ?_⟩) (by assumption) ?_
        rotate_left
        · (intro w hSw; (try dsimp only at hSw); have z := (HS.out _ hSw).1; go_simp <;> with_reducible rfl)
        try simp only [Act.put, List.setIfInBounds_toArray, List.set_cons_zero, List.set_cons_succ]
        refine take_lit (i := 4) (v := ?_) rfl (by kernel_rfl) (by kernel_rfl) (by kernel_rfl) (fun _ _ _ h => h) (Or.inl ⟨by rfl, ?_⟩) (by assumption) ?_
        rotate_left
        · (intro w hSw; (try dsimp only at hSw); go_simp <;> with_reducible rfl)
        try simp only [Act.put, List.setIfInBounds_toArray, List.set_cons_zero, List.set_cons_succ]
        refine take_lit (i := 5) (v := ?_) rfl (by kernel_rfl) (by kernel_rfl) (by kernel_rfl) (fun _ _ _ h => h) (Or.inl ⟨by rfl, ?_⟩) (by assumption) ?_
        rotate_left
        · (intro w hSw; (try dsimp only at hSw); go_simp <;> with_reducible rfl)
        try simp only [Act.put, List.setIfInBounds_toArray, List.set_cons_zero, List.set_cons_succ]
        refine take_lit (i := 6) (v := ?_) rfl (by kernel_rfl) (by kernel_rfl) (by kernel_rfl) (fun _ _ _ h => h) (Or.inl ⟨by rfl, ?_⟩) (by assumption) ?_
        rotate_left
        · (intro w hSw; (try dsimp only at hSw); go_simp <;> with_reducible rfl)
        try simp only [Act.put, List.setIfInBounds_toArray, List.set_cons_zero, List.set_cons_succ]
        refine take_lit (i := 7) rfl (by kernel_rfl) (by kernel_rfl) (by kernel_rfl) (fun _ _ _ h => h) (yQ n.p (fun w h => (HS.out _ h).2.1.q) (by rfl) rfl rfl) (by assumption) ?_
        try simp only [Act.put, List.setIfInBounds_toArray, List.set_cons_zero, List.set_cons_succ]
        refine take_lit (i := 8) rfl (by kernel_rfl) (by kernel_rfl) (by kernel_rfl) (fun _ _ _ h => h) (yQ p (fun w h => (HS.out _ h).2.2) (by rfl) rfl rfl) (by assumption) ?_
        try simp only [Act.put, List.setIfInBounds_toArray, List.set_cons_zero, List.set_cons_succ]
        refine take_lit (i := 9) (v := ?_) rfl (by kernel_rfl) (by kernel_rfl) (by kernel_rfl) (fun _ _ _ h => h) (Or.inl ⟨by rfl, ?_⟩) (by assumption) ?_
        rotate_left
        · (intro w hSw; (try dsimp only at hSw); have z := hEQ w; have z2 := fun op x y => gEQ op x y w; go_simp <;> with_reducible rfl)
        try simp only [Act.put, List.setIfInBounds_toArray, List.set_cons_zero, List.set_cons_succ]
        refine take_lit (i := 10) (v := ?_) rfl (by kernel_rfl) (by kernel_rfl) (by kernel_rfl) (fun _ _ _ h => h) (Or.inl ⟨by rfl, ?_⟩) (by assumption) ?_
        rotate_left
        · (intro w hSw; (try dsimp only at hSw); go_simp <;> with_reducible rfl)
        try simp only [Act.put, List.setIfInBounds_toArray, List.set_cons_zero, List.set_cons_succ]
        refine take_lit (i := 11) rfl (by kernel_rfl) (by kernel_rfl) (by kernel_rfl) (fun _ _ _ h => h) (Or.inr ⟨by rfl, rfl⟩) (by assumption) ?_
        try simp only [Act.put, List.setIfInBounds_toArray, List.set_cons_zero, List.set_cons_succ]
        refine take_lit (i := 12) rfl (by kernel_rfl) (by kernel_rfl) (by kernel_rfl) (fun _ _ _ h => h) (Or.inr ⟨by rfl, rfl⟩) (by assumption) ?_
        try simp only [Act.put, List.setIfInBounds_toArray, List.set_cons_zero, List.set_cons_succ]
        refine take_lit (i := 13) rfl (by kernel_rfl) (by kernel_rfl) (by kernel_rfl) (fun _ _ _ h => h) (Or.inr ⟨by rfl, rfl⟩) (by assumption) ?_
        try simp only [Act.put, List.setIfInBounds_toArray, List.set_cons_zero, List.set_cons_succ]
        refine take_lit (i := 14) rfl (by kernel_rfl) (by kernel_rfl) (by kernel_rfl) (fun _ _ _ h => h) (Or.inr ⟨by rfl, rfl⟩) (by assumption) ?_
        try simp only [Act.put, List.setIfInBounds_toArray, List.set_cons_zero, List.set_cons_succ]
        refine take_lit (i := 15) rfl (by kernel_rfl) (by kernel_rfl) (by kernel_rfl) (fun _ _ _ h => h) (Or.inr ⟨by rfl, rfl⟩) (by assumption) ?_
        try simp only [Act.put, List.setIfInBounds_toArray, List.set_cons_zero, List.set_cons_succ]
        refine take_lit (i := 16) rfl (by kernel_rfl) (by kernel_rfl) (by kernel_rfl) (fun _ _ _ h => h) (Or.inr ⟨by rfl, rfl⟩) (by assumption) ?_
        try simp only [Act.put, List.setIfInBounds_toArray, List.set_cons_zero, List.set_cons_succ]
        refine take_lit (i := 17) rfl (by kernel_rfl) (by kernel_rfl) (by kernel_rfl) (fun _ _ _ h => h) (Or.inr ⟨by rfl, rfl⟩) (by assumption) ?_
        try simp only [Act.put, List.setIfInBounds_toArray, List.set_cons_zero, List.set_cons_succ]
        refine take_lit (i := 18) rfl (by kernel_rfl) (by kernel_rfl) (by kernel_rfl) (fun _ _ _ h => h) (Or.inr ⟨by rfl, rfl⟩) (by assumption) ?_
        try simp only [Act.put, List.setIfInBounds_toArray, List.set_cons_zero, List.set_cons_succ]
        refine take_lit (i := 19) (v := ?_) rfl (by kernel_rfl) (by kernel_rfl) (by kernel_rfl) (fun _ _ _ h => h) (Or.inl ⟨by rfl, ?_⟩) (by assumption) ?_
        rotate_left
        · (intro w hSw; (try dsimp only at hSw); go_simp <;> with_reducible rfl)
        try simp only [Act.put, List.setIfInBounds_toArray, List.set_cons_zero, List.set_cons_succ]
        refine wpAnyH_done (by kernel_rfl) ?_ _
        refine NoPanic.normal ?_
        have hb2 := bt hb hHeld
        clear hHeld hEQ gEQ HS
        go_wp2_with fail
        go_roundw
        case rel => exact ⟨j + 1, HJ.out, by first | rfl | go_num, hN, hb2⟩
        case measure => first | (rw [hw64]; simp only [intOf]; exact HM.out) | (simp only [intOf]; exact HM.out)
      | true =>
        cases hsn : n.s with
        | false =>
          have hN := HN.out (by rw [HK.out, hsn]; rfl)
          replace HS : Hid (∀ W, Below wr.heap.size wr W → W.cell? ⟨r, 1, none⟩ = some (.slice (some ⟨g, 0, none⟩) K.length c) ∧ LQ W g (j * 81) n.p ∧ LQ W w.heap.size 0 p ∧ W.cell? ⟨g, j * 81 + 80, none⟩ = some (.bool false)) := fun W hW => by
            have q := HS.out W hW
            have := q.2.1.s
            rw [hsn] at this
            exact ⟨q.1, q.2.1.q, q.2.2, this⟩
          clear HN HY L1 L0 L2
          refine wp_region_noPanic ?_
          refine wp_region_held_drew (S := fun W => Below wr.heap.size wr W) (by kernel_rfl) ((Below.refl _ _).drew) (fun hHeld => ?_)
          refine take_lit (i := 0) (v := ?_) rfl (by kernel_rfl) (by kernel_rfl) (by kernel_rfl) (fun _ _ _ h => h) (Or.inl ⟨by rfl, ?_⟩) (by assumption) ?_
          rotate_left
          · (intro w hSw; (try dsimp only at hSw); go_simp <;> with_reducible rfl)
          try simp only [Act.put, List.setIfInBounds_toArray, List.set_cons_zero, List.set_cons_succ]
          refine take_lit (i := 1) (v := ?_) rfl (by kernel_rfl) (by kernel_rfl) (by kernel_rfl) (fun _ _ _ h => h) (Or.inl ⟨by rfl, ?_⟩) (by assumption) ?_
          rotate_left
          · (intro w hSw; (try dsimp only at hSw); go_simp <;> with_reducible rfl)
          try simp only [Act.put, List.setIfInBounds_toArray, List.set_cons_zero, List.set_cons_succ]
          refine take_lit (i := 2) (v := ?_) rfl (by kernel_rfl) (by kernel_rfl) (by kernel_rfl) (fun _ _ _ h => h) (Or.inl ⟨by rfl, ?_⟩) (by assumption) ?_
          rotate_left
          · (intro w hSw; (try dsimp only at hSw); go_simp <;> with_reducible rfl)
          try simp only [Act.put, List.setIfInBounds_toArray, List.set_cons_zero, List.set_cons_succ]
          refine take_lit (i := 3) (v := ?_) rfl (by kernel_rfl) (by kernel_rfl) (by kernel_rfl) (fun _ _ _ h => h) (Or.inl ⟨by rfl, ?_⟩) (by assumption) ?_
          rotate_left
          · (intro w hSw; (try dsimp only at hSw); have z := (HS.out _ hSw).1; go_simp <;> with_reducible rfl)
          try simp only [Act.put, List.setIfInBounds_toArray, List.set_cons_zero, List.set_cons_succ]
          refine take_lit (i := 4) (v := ?_) rfl (by kernel_rfl) (by kernel_rfl) (by kernel_rfl) (fun _ _ _ h => h) (Or.inl ⟨by rfl, ?_⟩) (by assumption) ?_
          rotate_left
          · (intro w hSw; (try dsimp only at hSw); go_simp <;> with_reducible rfl)
          try simp only [Act.put, List.setIfInBounds_toArray, List.set_cons_zero, List.set_cons_succ]
          refine take_lit (i := 5) (v := ?_) rfl (by kernel_rfl) (by kernel_rfl) (by kernel_rfl) (fun _ _ _ h => h) (Or.inl ⟨by rfl, ?_⟩) (by assumption) ?_
          rotate_left
          · (intro w hSw; (try dsimp only at hSw); go_simp <;> with_reducible rfl)
          try simp only [Act.put, List.setIfInBounds_toArray, List.set_cons_zero, List.set_cons_succ]
          refine take_lit (i := 6) (v := ?_) rfl (by kernel_rfl) (by kernel_rfl) (by kernel_rfl) (fun _ _ _ h => h) (Or.inl ⟨by rfl, ?_⟩) (by assumption) ?_
          rotate_left
          · (intro w hSw; (try dsimp only at hSw); go_simp <;> with_reducible rfl)
          try simp only [Act.put, List.setIfInBounds_toArray, List.set_cons_zero, List.set_cons_succ]
          refine take_lit (i := 7) rfl (by kernel_rfl) (by kernel_rfl) (by kernel_rfl) (fun _ _ _ h => h) (yQ n.p (fun w h => (HS.out _ h).2.1) (by rfl) rfl rfl) (by assumption) ?_
          try simp only [Act.put, List.setIfInBounds_toArray, List.set_cons_zero, List.set_cons_succ]
          refine take_lit (i := 8) rfl (by kernel_rfl) (by kernel_rfl) (by kernel_rfl) (fun _ _ _ h => h) (yQ p (fun w h => (HS.out _ h).2.2.1) (by rfl) rfl rfl) (by assumption) ?_
          try simp only [Act.put, List.setIfInBounds_toArray, List.set_cons_zero, List.set_cons_succ]
          refine take_lit (i := 9) (v := ?_) rfl (by kernel_rfl) (by kernel_rfl) (by kernel_rfl) (fun _ _ _ h => h) (Or.inl ⟨by rfl, ?_⟩) (by assumption) ?_
          rotate_left
          · (intro w hSw; (try dsimp only at hSw); have z := hEQ w; have z2 := fun op x y => gEQ op x y w; go_simp <;> with_reducible rfl)
          try simp only [Act.put, List.setIfInBounds_toArray, List.set_cons_zero, List.set_cons_succ]
          refine take_lit (i := 10) (v := ?_) rfl (by kernel_rfl) (by kernel_rfl) (by kernel_rfl) (fun _ _ _ h => h) (Or.inl ⟨by rfl, ?_⟩) (by assumption) ?_
          rotate_left
          · (intro w hSw; (try dsimp only at hSw); go_simp <;> with_reducible rfl)
          try simp only [Act.put, List.setIfInBounds_toArray, List.set_cons_zero, List.set_cons_succ]
          refine take_lit (i := 11) (v := ?_) rfl (by kernel_rfl) (by kernel_rfl) (by kernel_rfl) (fun _ _ _ h => h) (Or.inl ⟨by rfl, ?_⟩) (by assumption) ?_
          rotate_left
          · (intro w hSw; (try dsimp only at hSw); go_simp <;> with_reducible rfl)
          try simp only [Act.put, List.setIfInBounds_toArray, List.set_cons_zero, List.set_cons_succ]
          refine take_lit (i := 12) (v := ?_) rfl (by kernel_rfl) (by kernel_rfl) (by kernel_rfl) (fun _ _ _ h => h) (Or.inl ⟨by rfl, ?_⟩) (by assumption) ?_
          rotate_left
          · (intro w hSw; (try dsimp only at hSw); go_simp <;> with_reducible rfl)
          try simp only [Act.put, List.setIfInBounds_toArray, List.set_cons_zero, List.set_cons_succ]
          refine take_lit (i := 13) (v := ?_) rfl (by kernel_rfl) (by kernel_rfl) (by kernel_rfl) (fun _ _ _ h => h) (Or.inl ⟨by rfl, ?_⟩) (by assumption) ?_
          rotate_left
          · (intro w hSw; (try dsimp only at hSw); go_simp <;> with_reducible rfl)
          try simp only [Act.put, List.setIfInBounds_toArray, List.set_cons_zero, List.set_cons_succ]
          refine take_lit (i := 14) (v := ?_) rfl (by kernel_rfl) (by kernel_rfl) (by kernel_rfl) (fun _ _ _ h => h) (Or.inl ⟨by rfl, ?_⟩) (by assumption) ?_
          rotate_left
          · (intro w hSw; (try dsimp only at hSw); have z := (HS.out _ hSw).1; go_simp <;> with_reducible rfl)
          try simp only [Act.put, List.setIfInBounds_toArray, List.set_cons_zero, List.set_cons_succ]
          refine take_lit (i := 15) (v := ?_) rfl (by kernel_rfl) (by kernel_rfl) (by kernel_rfl) (fun _ _ _ h => h) (Or.inl ⟨by rfl, ?_⟩) (by assumption) ?_
          rotate_left
          · (intro w hSw; (try dsimp only at hSw); go_simp <;> with_reducible rfl)
          try simp only [Act.put, List.setIfInBounds_toArray, List.set_cons_zero, List.set_cons_succ]
          refine take_lit (i := 16) (v := ?_) rfl (by kernel_rfl) (by kernel_rfl) (by kernel_rfl) (fun _ _ _ h => h) (Or.inl ⟨by rfl, ?_⟩) (by assumption) ?_
          rotate_left
          · (intro w hSw; (try dsimp only at hSw); go_simp <;> with_reducible rfl)
          try simp only [Act.put, List.setIfInBounds_toArray, List.set_cons_zero, List.set_cons_succ]
          refine take_lit (i := 17) (v := ?_) rfl (by kernel_rfl) (by kernel_rfl) (by kernel_rfl) (fun _ _ _ h => h) (Or.inl ⟨by rfl, ?_⟩) (by assumption) ?_
          rotate_left
          · (intro w hSw; (try dsimp only at hSw); go_simp <;> with_reducible rfl)
          try simp only [Act.put, List.setIfInBounds_toArray, List.set_cons_zero, List.set_cons_succ]
          refine take_lit (i := 18) (v := ?_) rfl (by kernel_rfl) (by kernel_rfl) (by kernel_rfl) (fun _ _ _ h => h) (Or.inl ⟨by rfl, ?_⟩) (by assumption) ?_
          rotate_left
          · (intro w hSw; (try dsimp only at hSw); have z := (HS.out _ hSw).2.2.2; go_simp <;> with_reducible rfl)
          try simp only [Act.put, List.setIfInBounds_toArray, List.set_cons_zero, List.set_cons_succ]
          refine take_lit (i := 19) (v := ?_) rfl (by kernel_rfl) (by kernel_rfl) (by kernel_rfl) (fun _ _ _ h => h) (Or.inl ⟨by rfl, ?_⟩) (by assumption) ?_
          rotate_left
          · (intro w hSw; (try dsimp only at hSw); go_simp <;> with_reducible rfl)
          try simp only [Act.put, List.setIfInBounds_toArray, List.set_cons_zero, List.set_cons_succ]
          refine wpAnyH_done (by kernel_rfl) ?_ _
          refine NoPanic.normal ?_
          have hb2 := bt hb hHeld
          clear hHeld hEQ gEQ HS
          go_wp2_with fail
          go_roundw
          case rel => exact ⟨j + 1, HJ.out, by first | rfl | go_num, hN, hb2⟩
          case measure => first | (rw [hw64]; simp only [intOf]; exact HM.out) | (simp only [intOf]; exact HM.out)
        | true =>
          have hY := HY.out (by rw [HK.out, hsn]; rfl)
          replace HS : Hid (∀ W, Below wr.heap.size wr W → W.cell? ⟨r, 1, none⟩ = some (.slice (some ⟨g, 0, none⟩) K.length c) ∧ LQ W g (j * 81) n.p ∧ LQ W w.heap.size 0 p ∧ W.cell? ⟨g, j * 81 + 80, none⟩ = some (.bool true)) := fun W hW => by
            have q := HS.out W hW
            have := q.2.1.s
            rw [hsn] at this
            exact ⟨q.1, q.2.1.q, q.2.2, this⟩
          clear HN HY L1 L0 L2
          refine wp_region_noPanic ?_
          refine wp_region_held_drew (S := fun W => Below wr.heap.size wr W) (by kernel_rfl) ((Below.refl _ _).drew) (fun hHeld => ?_)
          refine take_lit (i := 0) (v := ?_) rfl (by kernel_rfl) (by kernel_rfl) (by kernel_rfl) (fun _ _ _ h => h) (Or.inl ⟨by rfl, ?_⟩) (by assumption) ?_
          rotate_left
          · (intro w hSw; (try dsimp only at hSw); go_simp <;> with_reducible rfl)
          try simp only [Act.put, List.setIfInBounds_toArray, List.set_cons_zero, List.set_cons_succ]
          refine take_lit (i := 1) (v := ?_) rfl (by kernel_rfl) (by kernel_rfl) (by kernel_rfl) (fun _ _ _ h => h) (Or.inl ⟨by rfl, ?_⟩) (by assumption) ?_
          rotate_left
          · (intro w hSw; (try dsimp only at hSw); go_simp <;> with_reducible rfl)
          try simp only [Act.put, List.setIfInBounds_toArray, List.set_cons_zero, List.set_cons_succ]
          refine take_lit (i := 2) (v := ?_) rfl (by kernel_rfl) (by kernel_rfl) (by kernel_rfl) (fun _ _ _ h => h) (Or.inl ⟨by rfl, ?_⟩) (by assumption) ?_
          rotate_left
          · (intro w hSw; (try dsimp only at hSw); go_simp <;> with_reducible rfl)
          try simp only [Act.put, List.setIfInBounds_toArray, List.set_cons_zero, List.set_cons_succ]
          refine take_lit (i := 3) (v := ?_) rfl (by kernel_rfl) (by kernel_rfl) (by kernel_rfl) (fun _ _ _ h => h) (Or.inl ⟨by rfl, ?_⟩) (by assumption) ?_
          rotate_left
          · (intro w hSw; (try dsimp only at hSw); have z := (HS.out _ hSw).1; go_simp <;> with_reducible rfl)
          try simp only [Act.put, List.setIfInBounds_toArray, List.set_cons_zero, List.set_cons_succ]
          refine take_lit (i := 4) (v := ?_) rfl (by kernel_rfl) (by kernel_rfl) (by kernel_rfl) (fun _ _ _ h => h) (Or.inl ⟨by rfl, ?_⟩) (by assumption) ?_
          rotate_left
          · (intro w hSw; (try dsimp only at hSw); go_simp <;> with_reducible rfl)
          try simp only [Act.put, List.setIfInBounds_toArray, List.set_cons_zero, List.set_cons_succ]
          refine take_lit (i := 5) (v := ?_) rfl (by kernel_rfl) (by kernel_rfl) (by kernel_rfl) (fun _ _ _ h => h) (Or.inl ⟨by rfl, ?_⟩) (by assumption) ?_
          rotate_left
          · (intro w hSw; (try dsimp only at hSw); go_simp <;> with_reducible rfl)
          try simp only [Act.put, List.setIfInBounds_toArray, List.set_cons_zero, List.set_cons_succ]
          refine take_lit (i := 6) (v := ?_) rfl (by kernel_rfl) (by kernel_rfl) (by kernel_rfl) (fun _ _ _ h => h) (Or.inl ⟨by rfl, ?_⟩) (by assumption) ?_
          rotate_left
          · (intro w hSw; (try dsimp only at hSw); go_simp <;> with_reducible rfl)
          try simp only [Act.put, List.setIfInBounds_toArray, List.set_cons_zero, List.set_cons_succ]
          refine take_lit (i := 7) rfl (by kernel_rfl) (by kernel_rfl) (by kernel_rfl) (fun _ _ _ h => h) (yQ n.p (fun w h => (HS.out _ h).2.1) (by rfl) rfl rfl) (by assumption) ?_
          try simp only [Act.put, List.setIfInBounds_toArray, List.set_cons_zero, List.set_cons_succ]
          refine take_lit (i := 8) rfl (by kernel_rfl) (by kernel_rfl) (by kernel_rfl) (fun _ _ _ h => h) (yQ p (fun w h => (HS.out _ h).2.2.1) (by rfl) rfl rfl) (by assumption) ?_
          try simp only [Act.put, List.setIfInBounds_toArray, List.set_cons_zero, List.set_cons_succ]
          refine take_lit (i := 9) (v := ?_) rfl (by kernel_rfl) (by kernel_rfl) (by kernel_rfl) (fun _ _ _ h => h) (Or.inl ⟨by rfl, ?_⟩) (by assumption) ?_
          rotate_left
          · (intro w hSw; (try dsimp only at hSw); have z := hEQ w; have z2 := fun op x y => gEQ op x y w; go_simp <;> with_reducible rfl)
          try simp only [Act.put, List.setIfInBounds_toArray, List.set_cons_zero, List.set_cons_succ]
          refine take_lit (i := 10) (v := ?_) rfl (by kernel_rfl) (by kernel_rfl) (by kernel_rfl) (fun _ _ _ h => h) (Or.inl ⟨by rfl, ?_⟩) (by assumption) ?_
          rotate_left
          · (intro w hSw; (try dsimp only at hSw); go_simp <;> with_reducible rfl)
          try simp only [Act.put, List.setIfInBounds_toArray, List.set_cons_zero, List.set_cons_succ]
          refine take_lit (i := 11) (v := ?_) rfl (by kernel_rfl) (by kernel_rfl) (by kernel_rfl) (fun _ _ _ h => h) (Or.inl ⟨by rfl, ?_⟩) (by assumption) ?_
          rotate_left
          · (intro w hSw; (try dsimp only at hSw); go_simp <;> with_reducible rfl)
          try simp only [Act.put, List.setIfInBounds_toArray, List.set_cons_zero, List.set_cons_succ]
          refine take_lit (i := 12) (v := ?_) rfl (by kernel_rfl) (by kernel_rfl) (by kernel_rfl) (fun _ _ _ h => h) (Or.inl ⟨by rfl, ?_⟩) (by assumption) ?_
          rotate_left
          · (intro w hSw; (try dsimp only at hSw); go_simp <;> with_reducible rfl)
          try simp only [Act.put, List.setIfInBounds_toArray, List.set_cons_zero, List.set_cons_succ]
          refine take_lit (i := 13) (v := ?_) rfl (by kernel_rfl) (by kernel_rfl) (by kernel_rfl) (fun _ _ _ h => h) (Or.inl ⟨by rfl, ?_⟩) (by assumption) ?_
          rotate_left
          · (intro w hSw; (try dsimp only at hSw); go_simp <;> with_reducible rfl)
          try simp only [Act.put, List.setIfInBounds_toArray, List.set_cons_zero, List.set_cons_succ]
          refine take_lit (i := 14) (v := ?_) rfl (by kernel_rfl) (by kernel_rfl) (by kernel_rfl) (fun _ _ _ h => h) (Or.inl ⟨by rfl, ?_⟩) (by assumption) ?_
          rotate_left
          · (intro w hSw; (try dsimp only at hSw); have z := (HS.out _ hSw).1; go_simp <;> with_reducible rfl)
          try simp only [Act.put, List.setIfInBounds_toArray, List.set_cons_zero, List.set_cons_succ]
          refine take_lit (i := 15) (v := ?_) rfl (by kernel_rfl) (by kernel_rfl) (by kernel_rfl) (fun _ _ _ h => h) (Or.inl ⟨by rfl, ?_⟩) (by assumption) ?_
          rotate_left
          · (intro w hSw; (try dsimp only at hSw); go_simp <;> with_reducible rfl)
          try simp only [Act.put, List.setIfInBounds_toArray, List.set_cons_zero, List.set_cons_succ]
          refine take_lit (i := 16) (v := ?_) rfl (by kernel_rfl) (by kernel_rfl) (by kernel_rfl) (fun _ _ _ h => h) (Or.inl ⟨by rfl, ?_⟩) (by assumption) ?_
          rotate_left
          · (intro w hSw; (try dsimp only at hSw); go_simp <;> with_reducible rfl)
          try simp only [Act.put, List.setIfInBounds_toArray, List.set_cons_zero, List.set_cons_succ]
          refine take_lit (i := 17) (v := ?_) rfl (by kernel_rfl) (by kernel_rfl) (by kernel_rfl) (fun _ _ _ h => h) (Or.inl ⟨by rfl, ?_⟩) (by assumption) ?_
          rotate_left
          · (intro w hSw; (try dsimp only at hSw); go_simp <;> with_reducible rfl)
          try simp only [Act.put, List.setIfInBounds_toArray, List.set_cons_zero, List.set_cons_succ]
          refine take_lit (i := 18) (v := ?_) rfl (by kernel_rfl) (by kernel_rfl) (by kernel_rfl) (fun _ _ _ h => h) (Or.inl ⟨by rfl, ?_⟩) (by assumption) ?_
          rotate_left
          · (intro w hSw; (try dsimp only at hSw); have z := (HS.out _ hSw).2.2.2; go_simp <;> with_reducible rfl)
          try simp only [Act.put, List.setIfInBounds_toArray, List.set_cons_zero, List.set_cons_succ]
          refine take_lit (i := 19) (v := ?_) rfl (by kernel_rfl) (by kernel_rfl) (by kernel_rfl) (fun _ _ _ h => h) (Or.inl ⟨by rfl, ?_⟩) (by assumption) ?_
          rotate_left
          · (intro w hSw; (try dsimp only at hSw); go_simp <;> with_reducible rfl)
          try simp only [Act.put, List.setIfInBounds_toArray, List.set_cons_zero, List.set_cons_succ]
          refine wpAnyH_done (by kernel_rfl) ?_ _
          refine NoPanic.normal ?_
          have hb2 := bt hb hHeld
          clear hHeld hEQ gEQ HS
          go_wp2_with fail
          go_ret
          exact ⟨by rw [hY]; rfl, bt hB hb2⟩
    · have hjl : j = K.length := by omega
      subst hjl
      rw [List.take_length] at hno
      have hF := pl_no hno
      clear hno L0 L2
      go_wp2_with fail
      go_ret
      exact ⟨by rw [hF]; rfl, bt hB hb⟩
theorem next_take {K : List Ro} {j : Nat} (hj : j < K.length) : K.take (j + 1) = K.take j ++ [K[j]] := List.take_succ_eq_append_getElem hj
set_option maxHeartbeats 8000000 in
theorem rnext_any {w : World} {B r : Nat} {most : Int} {K : List Ro} (h : Rb w B r most K) : Calls Try.prog 20 #[.pointer (some ⟨r, 0, none⟩)] w fun e w' => ∃ f b, e = .returned (.tuple #[.int .i64 f, .bool b]) ∧ NextIs K f b ∧ Below w.heap.size w w' := by
  have hll := h.ll
  obtain ⟨ad, c, L1, L0, L2⟩ := h.lies
  clear h
  go_enter Try.func20, Try.ntmps20
  go_wp2_with fail
  go_loopw [4, 5, 6] (fun f b v wr => ∃ (j : Nat) (f0 : Int) (b0 : Bool), j ≤ K.length ∧ v = .int .i64 j ∧ f = .int .i64 f0 ∧ b = .bool b0 ∧ NextIs (K.take j) f0 b0 ∧ Below w.heap.size w wr) (fun _ _ v _ => K.length - (intOf v).toNat)
  case atStart => exact ⟨0, 0, false, Nat.zero_le _, rfl, rfl, rfl, .inl ⟨by simp, rfl, rfl⟩, Below.refl _ _⟩
  case round =>
    obtain ⟨j, f0, b0, hj, rfl, rfl, rfl, hN, hb⟩ := hrel
    have cL := L1 _ hb
    by_cases hlt : j < K.length
    · obtain ⟨g, rfl, hc⟩ := L2 (by intro e; rw [e] at hlt; simp at hlt)
      have hji : (j : Int) < (K.length : Int) := by omega
      have hw64 : wrap64 ((j : Int) + 1) = (j : Int) + 1 := by unfold wrap64; omega
      have cu := (hc _ hb j _ (List.getElem?_eq_getElem hlt)).u
      have HN : Hid (NextIs (K.take j) f0 b0) := hN
      have HT : Hid (K.take (j + 1) = K.take j ++ [K[j]]) := next_take hlt
      have HJ : Hid (j + 1 ≤ K.length) := hlt
      have HM : Hid (K.length - ((j : Int) + 1).toNat < K.length - ((j : Int)).toNat) := meas hlt
      clear hc hN L1 L0 L2
      generalize (K[j]'hlt) = n at *
      cases b0 with
      | false =>
        have HS : Hid (NextIs (K.take (j + 1)) n.u true) := by
          show NextIs _ _ _
          rw [HT.out]
          rcases HN.out with ⟨h, _⟩ | ⟨h, _⟩
          · exact NextIs.first h
          · cases h
        clear HN HT
        go_wp2_with fail
        go_roundw
        case rel => exact ⟨j + 1, n.u, true, HJ.out, by first | rfl | go_num, rfl, rfl, HS.out, hb⟩
        case measure => first | (rw [hw64]; simp only [intOf]; exact HM.out) | (simp only [intOf]; exact HM.out)
      | true =>
        by_cases hl : n.u < f0
        · have HS : Hid (NextIs (K.take (j + 1)) n.u true) := by show NextIs _ _ _; rw [HT.out]; exact NextIs.less HN.out hl
          clear HN HT
          go_wp2_with fail
          go_roundw
          case rel => exact ⟨j + 1, n.u, true, HJ.out, by first | rfl | go_num, rfl, rfl, HS.out, hb⟩
          case measure => first | (rw [hw64]; simp only [intOf]; exact HM.out) | (simp only [intOf]; exact HM.out)
        · have HS : Hid (NextIs (K.take (j + 1)) f0 true) := by show NextIs _ _ _; rw [HT.out]; exact NextIs.more HN.out (by omega)
          clear HN HT
          go_wp2_with fail
          go_roundw
          case rel => exact ⟨j + 1, f0, true, HJ.out, by first | rfl | go_num, rfl, rfl, HS.out, hb⟩
          case measure => first | (rw [hw64]; simp only [intOf]; exact HM.out) | (simp only [intOf]; exact HM.out)
    · have hjl : j = K.length := by omega
      subst hjl
      rw [List.take_length] at hN
      clear L0 L2
      go_wp2_with fail
      go_ret2
      exact ⟨f0, b0, rfl, hN, hb⟩
end Go.Proofs.Ythofoocknmkdjaa

namespace Go.Proofs.Ythofoocknmkdjaa
open Go.RowKit Go.Maps Go.Shelf
set_option linter.unusedSimpArgs false
set_option linter.unusedVariables false
set_option maxRecDepth 20000
theorem mid_set {A cs Z : List Value} {o f : Nat} {v : Value} (hA : A.length = o) (hf : f < cs.length) : (A ++ (cs ++ Z)).set (o + f) v = A ++ (cs.set f v ++ Z) := by
  subst hA
  rw [List.set_append_right _ _ (by omega), Nat.add_sub_cancel_left, List.set_append_left _ _ hf]
/-- A route of the table: its block, its cells; one of its cells is written. -/
theorem Rb.at {w : World} {B r : Nat} {most : Int} {K : List Ro} {i : Nat} {n : Ro} (h : Rb w B r most K) (hi : K[i]? = some n) : ∃ g c cs, Row w r 30 [.int .i64 most, .slice (some ⟨g, 0, none⟩) K.length c] ∧ g ≠ r ∧ g < w.heap.size ∧ Row w g 41 cs ∧ LS w g (i * 81) n ∧ i * 81 + 81 ≤ cs.length ∧
    ∀ f v n', f < 81 → (ocs n).set f v = ocs n' → n'.ok → ∀ W, w.grownBy W (some g) → Row W g 41 (cs.set (i * 81 + f) v) → Rb W B r most (K.set i n') ∧ RTurn w W B r := by
  obtain ⟨ad, c, h1, h2⟩ := h.ex
  obtain ⟨g, A, Z, rfl, hB, hr, hA, hw⟩ := own_mid h2 hi
  have hne : g ≠ r := by
    rintro rfl
    unfold Row at h1 hr
    have e := Option.some.inj (h1.symm.trans hr)
    injection e with _ e2 _
    exact absurd e2 (by decide)
  refine ⟨g, c, _, h1, hne, hr.lt, hr, hr.midS hA, ?_, fun f v n' hf e hok W hg hR => ?_⟩
  · simp only [List.length_append, ocs_len]; omega
  · rw [mid_set hA (by rw [ocs_len]; exact hf), e] at hR
    have hlt : i < K.length := (List.getElem?_eq_some_iff.1 hi).1
    refine ⟨⟨⟨some ⟨g, 0, none⟩, c, ?_, ?_⟩, ?_, ?_⟩, RTurn.roc hg hr hB⟩
    · rw [List.length_set]; exact h1.keep hg (Ne.symm hne)
    · rw [List.length_set]; exact hw W n' hR
    · intro m hm
      rcases List.mem_or_eq_of_mem_set hm with h3 | h3
      · exact h.ok m h3
      · rw [h3]; exact hok
    · rw [List.length_set]; exact h.ll
section
variable {ops : Array Oper} {rest : List Oper} {op : Oper} {a : Act} {w : World} {Q : Exit → Act → World → Prop}
theorem st16w (x y : Operand) (hw : Region.wanted op (yielded ops a.tmps) = true) (ho : op.op = .store 39 x y) (b c : Nat) {U : TypeId} (cs : List Value) (n : Int) (hx : a.eval x = .pointer (some ⟨b, c, none⟩)) (hy : a.eval y = .int .u16 n) (hr : Row w b U cs) (hc : c < cs.length)
    (h : ∀ W, w.grownBy W (some b) → Row W b U (cs.set c (.int .u16 n)) → wpList Try.prog ops Q rest (a.put op.dst undef) W) : wpList Try.prog ops Q (op :: rest) a w :=
  wpList_step fun K hK => by rw [if_pos hw]; exact wp_st16 x y ho b c cs n hx hy hr hc fun W h1 h2 => hK _ _ (h W h1 h2)
theorem st64w (x y : Operand) (hw : Region.wanted op (yielded ops a.tmps) = true) (ho : op.op = .store 3 x y) (b c : Nat) {U : TypeId} (cs : List Value) (n : Int) (hx : a.eval x = .pointer (some ⟨b, c, none⟩)) (hy : a.eval y = .int .i64 n) (hr : Row w b U cs) (hc : c < cs.length)
    (h : ∀ W, w.grownBy W (some b) → Row W b U (cs.set c (.int .i64 n)) → wpList Try.prog ops Q rest (a.put op.dst undef) W) : wpList Try.prog ops Q (op :: rest) a w :=
  wpList_step fun K hK => by rw [if_pos hw]; exact wp_st64 x y ho b c cs n hx hy hr hc fun W h1 h2 => hK _ _ (h W h1 h2)
theorem stBw (x y : Operand) (hw : Region.wanted op (yielded ops a.tmps) = true) (ho : op.op = .store 4 x y) (b c : Nat) {U : TypeId} (cs : List Value) (n : Bool) (hx : a.eval x = .pointer (some ⟨b, c, none⟩)) (hy : a.eval y = .bool n) (hr : Row w b U cs) (hc : c < cs.length)
    (h : ∀ W, w.grownBy W (some b) → Row W b U (cs.set c (.bool n)) → wpList Try.prog ops Q rest (a.put op.dst undef) W) : wpList Try.prog ops Q (op :: rest) a w :=
  wpList_step fun K hK => by rw [if_pos hw]; exact wp_stB x y ho b c cs n hx hy hr hc fun W h1 h2 => hK _ _ (h W h1 h2)
end
theorem rsetmetric_any {w : World} {B r : Nat} {most : Int} {K : List Ro} {i : Nat} {n : Ro} (h : Rb w B r most K) (hi : K[i]? = some n) (m : Int) (hok : (n.sM m).ok) : Calls Try.prog 37 #[.pointer (some ⟨r, 0, none⟩), .int .i64 i, .int .u16 m] w (fun e w' => e = .returned (.bool (!decide (n.m = m))) ∧ Rb w' B r most (K.set i (n.sM m)) ∧ RTurn w w' B r) := by
  obtain ⟨g, c, cs, h1, hne, hg, hr, hl, hlen, hw⟩ := h.at hi
  have hlt : i < K.length := (List.getElem?_eq_some_iff.1 hi).1
  have hii : (i : Int) < (K.length : Int) := Int.ofNat_lt.2 hlt
  have c1 := h1.cell 1
  have c61 := hl.met
  have HW : Hid (∀ W, w.grownBy W (some g) → Row W g 41 (cs.set (i * 81 + 61) (.int .u16 m)) → Rb W B r most (K.set i (n.sM m)) ∧ RTurn w W B r) := fun W => hw 61 _ _ (by omega) (os61 n m) hok W
  have hl61 : i * 81 + 61 < cs.length := by omega
  clear hw h hok hl h1 hi hlen
  go_enter Try.func37, Try.ntmps37
  go_wp2_with (first
    | (refine st16w (.tmp 23) (.tmp 21) rfl rfl g (i * 81 + 61) cs m rfl rfl hr hl61 ?_; intro W9 hg9 hr9))
  obtain ⟨k1, k2⟩ := HW.out _ hg9 hr9
  go_ret
  exact ⟨rfl, k1, k2⟩
end Go.Proofs.Ythofoocknmkdjaa
