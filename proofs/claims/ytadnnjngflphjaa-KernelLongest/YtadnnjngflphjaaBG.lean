/-
  The document's Same of one list twice, and Find.
-/
import Derived.Test.YtadnnjngflphjaaF7
import Derived.Test.YtadnnjngflphjaaFE
namespace Go.Proofs.Ytadnnjngflphjaa
open Go.RowKit Go.Maps Go.Shelf
set_option linter.unusedSimpArgs false
set_option linter.unusedVariables false
set_option maxRecDepth 20000
theorem meas {n j : Nat} (h : j < n) : n - ((j : Int) + 1).toNat < n - ((j : Int)).toNat := by omega
theorem Asc.head {x : En} {K : List En} (h : Asc (x :: K)) : ∀ y ∈ K, cmpN x y < 0 := (List.pairwise_cons.1 h).1
theorem Asc.unique : ∀ {K K' : List En}, Asc K → Asc K' → K.Perm K' → K = K'
  | [], K', _, _, hp => (hp.nil_eq)
  | x :: K, [], _, _, hp => by have := hp.length_eq; simp at this
  | x :: K, y :: K', h, h', hp => by
    have hxy : x = y := by
      have h1 : x ∈ y :: K' := hp.mem_iff.1 (by simp)
      have h2 : y ∈ x :: K := hp.mem_iff.2 (by simp)
      rcases List.mem_cons.1 h1 with e | e
      · exact e
      · rcases List.mem_cons.1 h2 with e2 | e2
        · exact e2.symm
        · have a := h.head y e2
          have b := h'.head x e
          have c := cmpN_neg x y
          omega
    subst hxy
    rw [Asc.unique (List.pairwise_cons.1 h).2 (List.pairwise_cons.1 h').2 (List.Perm.cons_inv hp)]
set_option maxHeartbeats 8000000 in
theorem rsame_any {w : World} {K : List En} (a1 a2 : Option Addr) (c1 c2 : Nat) (h1 : EsW w a1 K) (h2 : EsW w a2 K) (hl : K.length ≤ 1000000) : Calls Try.prog 16 #[.slice a1 K.length c1, .slice a2 K.length c2] w (Gives w (.bool true)) := by
  go_enter Try.func16, Try.ntmps16
  go_wp2_with fail
  go_loopw [5] (fun v wr => ∃ j : Nat, j ≤ K.length ∧ v = .int .i64 j ∧ Below w.heap.size w wr) (fun v _ => K.length - (intOf v).toNat)
  case atStart => exact ⟨0, Nat.zero_le _, rfl, Below.refl _ _⟩
  case round =>
    obtain ⟨j, hj, rfl, hb⟩ := hrel
    by_cases hlt : j < K.length
    · rcases (h1.below hb).lies with e0 | ⟨g1, o1, rfl, k1, hc1⟩
      · rw [e0] at hlt; simp at hlt
      rcases (h2.below hb).lies with e0 | ⟨g2, o2, rfl, k2, hc2⟩
      · rw [e0] at hlt; simp at hlt
      have q1 := hc1 j _ (List.getElem?_eq_getElem hlt)
      have q2 := hc2 j _ (List.getElem?_eq_getElem hlt)
      have hji : (j : Int) < (K.length : Int) := by omega
      have hw64 : wrap64 ((j : Int) + 1) = (j : Int) + 1 := by unfold wrap64; omega
      have HJ : Hid (j + 1 ≤ K.length) := hlt
      have HM : Hid (K.length - ((j : Int) + 1).toNat < K.length - ((j : Int)).toNat) := meas hlt
      clear hc1 hc2 h1 h2
      generalize K[j] = n at *
      have hEq : ∀ W, (binOp .neq 37 (eV n) (eV n)).run Try.prog W = .ok (.bool false) W := fun W => by rw [run_neqE, eqEn_self]; rfl
      have gEq := fun op a b W => guardE op a b n n W
      go_upto_region 6 with fail
      refine wp_region_noPanic ?_
      refine wp_region_held_drew (S := fun W => Below wr.heap.size wr W) (by kernel_rfl) ((Below.refl _ _).drew) (fun hHeld => ?_)
      refine take_lit (i := 0) (v := ?_) rfl (by kernel_rfl) (by kernel_rfl) (by kernel_rfl) (fun _ _ _ h => h) (Or.inl ⟨by rfl, ?_⟩) (by assumption) ?_
      rotate_left
      · (intro w hSw; (try dsimp only at hSw); go_simp <;> with_reducible rfl)
      try simp only [Act.put, List.setIfInBounds_toArray, List.set_cons_zero, List.set_cons_succ]
      refine take_lit (i := 1) (v := ?_) rfl (by kernel_rfl) (by kernel_rfl) (by kernel_rfl) (fun _ _ _ h => h) (Or.inl ⟨by rfl, ?_⟩) (by assumption) ?_
      rotate_left
      · (intro w hSw; (try dsimp only at hSw); go_simp <;> with_reducible rfl)
      try simp only [Act.put, List.setIfInBounds_toArray, List.set_cons_zero, List.set_cons_succ]
      refine take_lit (i := 2) (v := ?_) rfl (by kernel_rfl) (by kernel_rfl) (by kernel_rfl) (fun _ _ _ h => h) (Or.inl ⟨by rfl, ?_⟩) (by assumption) ?_
      rotate_left
      · (intro w hSw; (try dsimp only at hSw); go_simp <;> with_reducible rfl)
      try simp only [Act.put, List.setIfInBounds_toArray, List.set_cons_zero, List.set_cons_succ]
      refine take_lit (i := 3) rfl (by kernel_rfl) (by kernel_rfl) (by kernel_rfl) (fun _ _ _ h => h) (yE n (fun w h => q1.below h k1) (by rfl) rfl rfl) (by assumption) ?_
      try simp only [Act.put, List.setIfInBounds_toArray, List.set_cons_zero, List.set_cons_succ]
      refine take_lit (i := 4) (v := ?_) rfl (by kernel_rfl) (by kernel_rfl) (by kernel_rfl) (fun _ _ _ h => h) (Or.inl ⟨by rfl, ?_⟩) (by assumption) ?_
      rotate_left
      · (intro w hSw; (try dsimp only at hSw); go_simp <;> with_reducible rfl)
      try simp only [Act.put, List.setIfInBounds_toArray, List.set_cons_zero, List.set_cons_succ]
      refine take_lit (i := 5) (v := ?_) rfl (by kernel_rfl) (by kernel_rfl) (by kernel_rfl) (fun _ _ _ h => h) (Or.inl ⟨by rfl, ?_⟩) (by assumption) ?_
      rotate_left
      · (intro w hSw; (try dsimp only at hSw); go_simp <;> with_reducible rfl)
      try simp only [Act.put, List.setIfInBounds_toArray, List.set_cons_zero, List.set_cons_succ]
      refine take_lit (i := 6) (v := ?_) rfl (by kernel_rfl) (by kernel_rfl) (by kernel_rfl) (fun _ _ _ h => h) (Or.inl ⟨by rfl, ?_⟩) (by assumption) ?_
      rotate_left
      · (intro w hSw; (try dsimp only at hSw); go_simp <;> with_reducible rfl)
      try simp only [Act.put, List.setIfInBounds_toArray, List.set_cons_zero, List.set_cons_succ]
      refine take_lit (i := 7) rfl (by kernel_rfl) (by kernel_rfl) (by kernel_rfl) (fun _ _ _ h => h) (yE n (fun w h => q2.below h k2) (by rfl) rfl rfl) (by assumption) ?_
      try simp only [Act.put, List.setIfInBounds_toArray, List.set_cons_zero, List.set_cons_succ]
      refine take_lit (i := 8) (v := ?_) rfl (by kernel_rfl) (by kernel_rfl) (by kernel_rfl) (fun _ _ _ h => h) (Or.inl ⟨by rfl, ?_⟩) (by assumption) ?_
      rotate_left
      · (intro w hSw; (try dsimp only at hSw); have z := hEq w; have z2 := fun op x y => gEq op x y w; go_simp <;> with_reducible rfl)
      try simp only [Act.put, List.setIfInBounds_toArray, List.set_cons_zero, List.set_cons_succ]
      refine wpAnyH_done (by kernel_rfl) ?_ _
      refine NoPanic.normal ?_
      have hb2 := bt hb hHeld
      clear hHeld hEq gEq q1 q2
      go_wp2_with fail
      go_roundw
      case rel => exact ⟨j + 1, HJ.out, by first | rfl | go_num, hb2⟩
      case measure => first | (rw [hw64]; simp only [intOf]; exact HM.out) | (simp only [intOf]; exact HM.out)
    · have hjl : j = K.length := by omega
      subst hjl
      clear h1 h2
      go_wp2_with fail
      go_ret
      exact ⟨rfl, hb⟩
/-- The place of a pair; -1. -/
def fndI (K : List En) (p : Pr) : Int := match K.findIdx? (fun e => qB e.p p) with | none => -1 | some k => k
theorem fnd_at {K : List En} {p : Pr} {j : Nat} (h : ∀ x ∈ K.take j, qB x.p p = false) (hj : j < K.length) (hk : qB K[j].p p = true) : fndI K p = j := by
  have : K.findIdx? (fun e => qB e.p p) = some j := by
    rw [List.findIdx?_eq_some_iff_getElem]
    refine ⟨hj, hk, fun k hkj => ?_⟩
    have : K[k] ∈ K.take j := List.mem_take_iff_getElem.2 ⟨k, by omega, rfl⟩
    simp [h _ this]
  unfold fndI
  rw [this]
theorem fnd_no {K : List En} {p : Pr} (h : ∀ x ∈ K, qB x.p p = false) : fndI K p = -1 := by
  have : K.findIdx? (fun e => qB e.p p) = none := by
    rw [List.findIdx?_eq_none_iff]
    exact h
  unfold fndI
  rw [this]
theorem fndI_neg {K : List En} {p : Pr} : fndI K p < 0 ↔ ∀ x ∈ K, x.p ≠ p := by
  unfold fndI
  cases h : K.findIdx? (fun e => qB e.p p) with
  | none =>
    rw [List.findIdx?_eq_none_iff] at h
    refine ⟨fun _ x hx e => ?_, fun _ => by show (-1 : Int) < 0; omega⟩
    have := h x hx
    rw [e, qB_self] at this
    cases this
  | some k =>
    obtain ⟨hk, h1, _⟩ := List.findIdx?_eq_some_iff_getElem.1 h
    refine ⟨fun h2 => ?_, fun h2 => absurd (qB_iff.1 h1) (h2 _ (List.getElem_mem hk))⟩
    have h3 : ((k : Nat) : Int) < 0 := h2
    omega
theorem all_step {K : List En} {p : Pr} {j : Nat} (h : ∀ x ∈ K.take j, qB x.p p = false) (hj : j < K.length) (hk : qB K[j].p p = false) : ∀ x ∈ K.take (j + 1), qB x.p p = false := by
  intro x hx
  rw [List.take_succ_eq_append_getElem hj] at hx
  rcases List.mem_append.1 hx with e | e
  · exact h x e
  · simp at e; subst e; exact hk
set_option maxHeartbeats 8000000 in
theorem rfind_any {w : World} {K : List En} (a : Option Addr) (c : Nat) (h : EsW w a K) (hl : K.length ≤ 1000000) (p : Pr) : Calls Try.prog 25 #[.slice a K.length c, (Value.agg (qcells p).toArray)] w (Gives w (.int .i64 (fndI K p))) := by
  have r0 := Row.new w 35 (qcells p)
  have b0 := ba w (.cells (qcells p).toArray 35)
  go_enter Try.func25, Try.ntmps25
  go_upto_region 1 with fail
  refine name_world (R := fun W => Code.wp _ _ _ _ W) (P := fun W => Below w.heap.size w W ∧ LQ W w.heap.size 0 p ∧ w.heap.size < W.heap.size) _ ⟨b0, r0.range, r0.lt⟩ ?_
  clear b0 r0
  rintro X ⟨hB, hP, hs⟩
  go_wp2_with fail
  go_loopw [5] (fun v wr => ∃ j : Nat, j ≤ K.length ∧ v = .int .i64 j ∧ (∀ x ∈ K.take j, qB x.p p = false) ∧ Below X.heap.size X wr) (fun v _ => K.length - (intOf v).toNat)
  case atStart => exact ⟨0, Nat.zero_le _, rfl, by simp, Below.refl _ _⟩
  case round =>
    obtain ⟨j, hj, rfl, hno, hb⟩ := hrel
    by_cases hlt : j < K.length
    · rcases (h.below (bt hB hb)).lies with e0 | ⟨g, o, rfl, k1, hc⟩
      · rw [e0] at hlt; simp at hlt
      have q1 := hc j _ (List.getElem?_eq_getElem hlt)
      have hji : (j : Int) < (K.length : Int) := by omega
      have hw64 : wrap64 ((j : Int) + 1) = (j : Int) + 1 := by unfold wrap64; omega
      have HJ : Hid (j + 1 ≤ K.length) := hlt
      have HM : Hid (K.length - ((j : Int) + 1).toNat < K.length - ((j : Int)).toNat) := meas hlt
      have HS : Hid (∀ W, Below wr.heap.size wr W → LE W g (o + j * 51) K[j] ∧ LQ W w.heap.size 0 p) := fun W hW => ⟨q1.below hW k1, hP.below (bt hb hW) hs⟩
      have HY : Hid (qB K[j].p p = true → fndI K p = j) := fun hk => fnd_at hno hlt hk
      have HN : Hid (qB K[j].p p = false → ∀ x ∈ K.take (j + 1), qB x.p p = false) := fun hk => all_step hno hlt hk
      have hEQ := fun W => run_eqlQ K[j].p p W
      have gEQ := fun op x y W => guardQ op x y K[j].p p W
      clear hc hno q1
      generalize K[j] = n at *
      obtain ⟨b1, hb1⟩ : ∃ b1, qB n.p p = b1 := ⟨_, rfl⟩
      have hEQ' : ∀ W, (binOp .eql 35 (Value.agg (qcells n.p).toArray) (Value.agg (qcells p).toArray)).run Try.prog W = .ok (.bool b1) W := fun W => by rw [← hb1]; exact hEQ W
      clear hEQ
      go_upto_region 4 with fail
      cases b1 with
      | false =>
        have hN := HN.out hb1
        clear HN HY hb1
        refine wp_region_noPanic ?_
        refine wp_region_held_drew (S := fun W => Below wr.heap.size wr W) (by kernel_rfl) ((Below.refl _ _).drew) (fun hHeld => ?_)
        refine take_lit (i := 0) (v := ?_) rfl (by kernel_rfl) (by kernel_rfl) (by kernel_rfl) (fun _ _ _ h => h) (Or.inl ⟨by rfl, ?_⟩) (by assumption) ?_
        rotate_left
        · (intro w hSw; (try dsimp only at hSw); go_simp <;> with_reducible rfl)
        try simp only [Act.put, List.setIfInBounds_toArray, List.set_cons_zero, List.set_cons_succ]
        refine take_lit (i := 1) (v := ?_) rfl (by kernel_rfl) (by kernel_rfl) (by kernel_rfl) (fun _ _ _ h => h) (Or.inl ⟨by rfl, ?_⟩) (by assumption) ?_
        rotate_left
        · (intro w hSw; (try dsimp only at hSw); go_simp <;> with_reducible rfl)
        try simp only [Act.put, List.setIfInBounds_toArray, List.set_cons_zero, List.set_cons_succ]
        refine take_lit (i := 2) (v := ?_) rfl (by kernel_rfl) (by kernel_rfl) (by kernel_rfl) (fun _ _ _ h => h) (Or.inl ⟨by rfl, ?_⟩) (by assumption) ?_
        rotate_left
        · (intro w hSw; (try dsimp only at hSw); go_simp <;> with_reducible rfl)
        try simp only [Act.put, List.setIfInBounds_toArray, List.set_cons_zero, List.set_cons_succ]
        refine take_lit (i := 3) (v := ?_) rfl (by kernel_rfl) (by kernel_rfl) (by kernel_rfl) (fun _ _ _ h => h) (Or.inl ⟨by rfl, ?_⟩) (by assumption) ?_
        rotate_left
        · (intro w hSw; (try dsimp only at hSw); go_simp <;> with_reducible rfl)
        try simp only [Act.put, List.setIfInBounds_toArray, List.set_cons_zero, List.set_cons_succ]
        refine take_lit (i := 4) rfl (by kernel_rfl) (by kernel_rfl) (by kernel_rfl) (fun _ _ _ h => h) (yQ n.p (fun w h => (HS.out _ h).1.q) (by rfl) rfl rfl) (by assumption) ?_
        try simp only [Act.put, List.setIfInBounds_toArray, List.set_cons_zero, List.set_cons_succ]
        refine take_lit (i := 5) rfl (by kernel_rfl) (by kernel_rfl) (by kernel_rfl) (fun _ _ _ h => h) (yQ p (fun w h => (HS.out _ h).2) (by rfl) rfl rfl) (by assumption) ?_
        try simp only [Act.put, List.setIfInBounds_toArray, List.set_cons_zero, List.set_cons_succ]
        refine take_lit (i := 6) (v := ?_) rfl (by kernel_rfl) (by kernel_rfl) (by kernel_rfl) (fun _ _ _ h => h) (Or.inl ⟨by rfl, ?_⟩) (by assumption) ?_
        rotate_left
        · (intro w hSw; (try dsimp only at hSw); have z := hEQ' w; have z2 := fun op x y => gEQ op x y w; go_simp <;> with_reducible rfl)
        try simp only [Act.put, List.setIfInBounds_toArray, List.set_cons_zero, List.set_cons_succ]
        refine wpAnyH_done (by kernel_rfl) ?_ _
        refine NoPanic.normal ?_
        have hb2 := bt hb hHeld
        clear hHeld hEQ' gEQ HS
        go_wp2_with fail
        go_roundw
        case rel => exact ⟨j + 1, HJ.out, by first | rfl | go_num, hN, hb2⟩
        case measure => first | (rw [hw64]; simp only [intOf]; exact HM.out) | (simp only [intOf]; exact HM.out)
      | true =>
        have HYY : Hid (fndI K p = j) := HY.out hb1
        clear HN HY hb1
        refine wp_region_noPanic ?_
        refine wp_region_held_drew (S := fun W => Below wr.heap.size wr W) (by kernel_rfl) ((Below.refl _ _).drew) (fun hHeld => ?_)
        refine take_lit (i := 0) (v := ?_) rfl (by kernel_rfl) (by kernel_rfl) (by kernel_rfl) (fun _ _ _ h => h) (Or.inl ⟨by rfl, ?_⟩) (by assumption) ?_
        rotate_left
        · (intro w hSw; (try dsimp only at hSw); go_simp <;> with_reducible rfl)
        try simp only [Act.put, List.setIfInBounds_toArray, List.set_cons_zero, List.set_cons_succ]
        refine take_lit (i := 1) (v := ?_) rfl (by kernel_rfl) (by kernel_rfl) (by kernel_rfl) (fun _ _ _ h => h) (Or.inl ⟨by rfl, ?_⟩) (by assumption) ?_
        rotate_left
        · (intro w hSw; (try dsimp only at hSw); go_simp <;> with_reducible rfl)
        try simp only [Act.put, List.setIfInBounds_toArray, List.set_cons_zero, List.set_cons_succ]
        refine take_lit (i := 2) (v := ?_) rfl (by kernel_rfl) (by kernel_rfl) (by kernel_rfl) (fun _ _ _ h => h) (Or.inl ⟨by rfl, ?_⟩) (by assumption) ?_
        rotate_left
        · (intro w hSw; (try dsimp only at hSw); go_simp <;> with_reducible rfl)
        try simp only [Act.put, List.setIfInBounds_toArray, List.set_cons_zero, List.set_cons_succ]
        refine take_lit (i := 3) (v := ?_) rfl (by kernel_rfl) (by kernel_rfl) (by kernel_rfl) (fun _ _ _ h => h) (Or.inl ⟨by rfl, ?_⟩) (by assumption) ?_
        rotate_left
        · (intro w hSw; (try dsimp only at hSw); go_simp <;> with_reducible rfl)
        try simp only [Act.put, List.setIfInBounds_toArray, List.set_cons_zero, List.set_cons_succ]
        refine take_lit (i := 4) rfl (by kernel_rfl) (by kernel_rfl) (by kernel_rfl) (fun _ _ _ h => h) (yQ n.p (fun w h => (HS.out _ h).1.q) (by rfl) rfl rfl) (by assumption) ?_
        try simp only [Act.put, List.setIfInBounds_toArray, List.set_cons_zero, List.set_cons_succ]
        refine take_lit (i := 5) rfl (by kernel_rfl) (by kernel_rfl) (by kernel_rfl) (fun _ _ _ h => h) (yQ p (fun w h => (HS.out _ h).2) (by rfl) rfl rfl) (by assumption) ?_
        try simp only [Act.put, List.setIfInBounds_toArray, List.set_cons_zero, List.set_cons_succ]
        refine take_lit (i := 6) (v := ?_) rfl (by kernel_rfl) (by kernel_rfl) (by kernel_rfl) (fun _ _ _ h => h) (Or.inl ⟨by rfl, ?_⟩) (by assumption) ?_
        rotate_left
        · (intro w hSw; (try dsimp only at hSw); have z := hEQ' w; have z2 := fun op x y => gEQ op x y w; go_simp <;> with_reducible rfl)
        try simp only [Act.put, List.setIfInBounds_toArray, List.set_cons_zero, List.set_cons_succ]
        refine wpAnyH_done (by kernel_rfl) ?_ _
        refine NoPanic.normal ?_
        have hb2 := bt hB (bt hb hHeld)
        clear hHeld hEQ' gEQ HS
        go_wp2_with fail
        go_ret
        exact ⟨by rw [HYY.out]; rfl, hb2⟩
    · have hjl : j = K.length := by omega
      subst hjl
      rw [List.take_length] at hno
      have HF : Hid (fndI K p = -1) := fnd_no hno
      have hB2 := bt hB hb
      clear h hP
      go_wp2_with fail
      go_ret
      exact ⟨by rw [HF.out]; rfl, hB2⟩
end Go.Proofs.Ytadnnjngflphjaa
