/-
  The law SeqnoTakes returns true for every two distances.
-/
import Derived.Test.YtodemeilmaoodaaSLive
import Derived.Test.YtodemeilmaoodaaSEq
namespace Go.Proofs.Ytodemeilmaoodaa
open Go.RowKit
set_option linter.unusedSimpArgs false
theorem bet_self (a1 a2 : Int) : betB a1 a2 a1 a2 = false := by
  unfold betB lessB
  simp
theorem bet_ne {a1 a2 b1 b2 : Int} (h : betB a1 a2 b1 b2 = true) : ¬ (a1 = b1 ∧ a2 = b2) := by
  rintro ⟨rfl, rfl⟩
  rw [bet_self] at h
  cases h
theorem bet_asymm {a1 a2 b1 b2 : Int} (h : betB a1 a2 b1 b2 = true) : betB b1 b2 a1 a2 = false := by
  unfold betB lessB at *
  simp only [Bool.or_eq_true, Bool.and_eq_true, decide_eq_true_eq, beq_iff_eq] at h
  simp only [Bool.or_eq_false_iff, Bool.and_eq_false_iff, decide_eq_false_iff_not, beq_eq_false_iff_ne]
  constructor <;> omega
theorem fea_fin {a1 a2 b1 b2 : Int} (h : (a2 == 65535) = false) : feaB a1 a2 b1 b2 = betB a1 a2 b1 b2 := by
  unfold feaB
  rw [h, Bool.false_or]
theorem fea_self (a1 a2 : Int) : feaB a1 a2 a1 a2 = (a2 == 65535) := by
  unfold feaB
  rw [bet_self, Bool.or_false]
section
variable (a1 a2 b1 b2 : Int) (w : World)
theorem takes_inf (h : (a2 == 65535) = true) : Calls Try.prog 8 #[.agg #[.int .u16 a1, .int .u16 a2], .agg #[.int .u16 b1, .int .u16 b2]] w (Gives w (.bool true)) := by
  have hf : feaB a1 a2 b1 b2 = true := by unfold feaB; rw [h, Bool.true_or]
  have hb : Below w.heap.size w ((w.alloc (.cells #[.int .u16 a1, .int .u16 a2] 33)).alloc (.cells #[.int .u16 b1, .int .u16 b2] 33)) := ((Below.refl _ _).alloc (Nat.le_refl _) _).alloc (by simp) _
  have qa : LD ((w.alloc (.cells #[.int .u16 a1, .int .u16 a2] 33)).alloc (.cells #[.int .u16 b1, .int .u16 b2] 33)) w.heap.size a1 a2 := LD.range ((Row.new w 33 [.int .u16 a1, .int .u16 a2]).alloc _)
  have qb := Row.new (w.alloc (.cells #[.int .u16 a1, .int .u16 a2] 33)) 33 [.int .u16 b1, .int .u16 b2]
  simp only [World.size_alloc] at qb
  go_enter Try.func8, Try.ntmps8
  go_wp2_with (first
    | (refine ldD (.tmp 2) (by rfl) rfl _ a1 a2 rfl qa ?_)
    | (go_at_call 19; refine (feas_some _ _ _ _ _ _ (LD.range qb)).mono ?_; rintro e w3 ⟨rfl, hw⟩; rw [hf]; clear qa qb; replace hb := hb.trans (hw.mono (by rw [World.size_alloc, World.size_alloc]; omega)); clear hw)
    | (go_at_call 9; refine (live_any _).mono ?_; rintro e w4 ⟨rfl, hw⟩; replace hb := hb.trans (hw.mono hb.size); clear hw))
  go_ret
  exact ⟨rfl, hb⟩
theorem takes_better (h : (a2 == 65535) = false) (hc : betB a1 a2 b1 b2 = true) : Calls Try.prog 8 #[.agg #[.int .u16 a1, .int .u16 a2], .agg #[.int .u16 b1, .int .u16 b2]] w (Gives w (.bool true)) := by
    have hf : feaB a1 a2 b1 b2 = true := (fea_fin h).trans hc
    have hkk : feaB a1 a2 a1 a2 = false := (fea_self a1 a2).trans h
    have hc2 := bet_asymm hc
    have hne := bet_ne hc
    have he1 : ∀ w, (Op.equalIn 10000 33 (.agg #[.int .u16 a1, .int .u16 a2]) (.agg #[.int .u16 a1, .int .u16 a2])).run Try.prog w = .ok true w := fun w => by rw [eqD 9998]; simp
    have he2 : ∀ w, (Op.equalIn 10000 33 (.agg #[.int .u16 a1, .int .u16 a2]) (.agg #[.int .u16 b1, .int .u16 b2])).run Try.prog w = .ok false w := fun w => by rw [eqD 9998, show (a1 == b1 && a2 == b2) = false by rw [Bool.and_eq_false_iff]; simp only [beq_eq_false_iff_ne]; omega]
    have hk : (if betB a1 a2 b1 b2 = true then Value.agg #[.int .u16 a1, .int .u16 a2] else .agg #[.int .u16 b1, .int .u16 b2]) = .agg #[.int .u16 a1, .int .u16 a2] := by rw [hc, if_pos rfl]
    have hn : (a2 != 65535) = true := by unfold bne; rw [h]; rfl
    clear hne
    have hb : Below w.heap.size w ((w.alloc (.cells #[.int .u16 a1, .int .u16 a2] 33)).alloc (.cells #[.int .u16 b1, .int .u16 b2] 33)) := ((Below.refl _ _).alloc (Nat.le_refl _) _).alloc (by simp) _
    have qa : LD ((w.alloc (.cells #[.int .u16 a1, .int .u16 a2] 33)).alloc (.cells #[.int .u16 b1, .int .u16 b2] 33)) w.heap.size a1 a2 := LD.range ((Row.new w 33 [.int .u16 a1, .int .u16 a2]).alloc _)
    have qb : LD ((w.alloc (.cells #[.int .u16 a1, .int .u16 a2] 33)).alloc (.cells #[.int .u16 b1, .int .u16 b2] 33)) (w.heap.size + 1) b1 b2 := by
      have := Row.new (w.alloc (.cells #[.int .u16 a1, .int .u16 a2] 33)) 33 [.int .u16 b1, .int .u16 b2]
      simp only [World.size_alloc] at this
      exact LD.range this
    go_enter Try.func8, Try.ntmps8
    go_wp2_with (first
      | (refine ldD (.tmp 2) (by rfl) rfl _ a1 a2 rfl qa ?_)
      | (go_at_call 21; refine (keep_some _ _ _ _ _ _ qb).mono ?_; rintro e w3 ⟨rfl, hw⟩; rw [hk]; replace qa := qa.below hw (by rw [World.size_alloc, World.size_alloc]; omega); replace qb := qb.below hw (by rw [World.size_alloc, World.size_alloc]; omega); replace hb := hb.trans (hw.mono (by rw [World.size_alloc, World.size_alloc]; omega)); have hs : w.heap.size + 2 ≤ w3.heap.size := by have := hw.size; simp at this; omega
         clear hw)
      | (refine stD (.tmp 5) (.tmp 15) (by rfl) rfl _ a1 a2 0 0 rfl rfl (Row.new w3 33 [.int .u16 0, .int .u16 0]) ?_; intro w4 hw4 r1; have hw := ((Below.refl _ _).alloc (Nat.le_refl w3.heap.size) (.cells #[.int .u16 0, .int .u16 0] 33)).trans hw4; clear hw4; replace qa := qa.below hw (by omega); replace qb := qb.below hw (by omega); replace hb := hb.trans (hw.mono (by omega)); clear hw))
    have hg : w3.heap.size < w4.heap.size := r1.lt
    have qk : LD w4 w3.heap.size a1 a2 := LD.range r1
    clear r1
    generalize w3.heap.size = g at *
    have HB : Hid (∀ W, W = w4.drew → Below w.heap.size w W ∧ LD W w.heap.size a1 a2 ∧ LD W (w.heap.size + 1) b1 b2 ∧ LD W g a1 a2 ∧ W.cell? ⟨g, 1, none⟩ = some (.int .u16 a2) ∧ w.heap.size + 2 ≤ W.heap.size ∧ g < W.heap.size) := by
      rintro W rfl
      have h := (Below.refl w4.heap.size w4).drew
      exact ⟨hb.drew, qa.below h (by omega), qb.below h (by omega), qk.below h hg, (qk.below h hg).two, by show _ ≤ w4.heap.size; omega, hg⟩
    have HK : Hid (∀ W W', (Below w.heap.size w W ∧ LD W w.heap.size a1 a2 ∧ LD W (w.heap.size + 1) b1 b2 ∧ LD W g a1 a2 ∧ W.cell? ⟨g, 1, none⟩ = some (.int .u16 a2) ∧ w.heap.size + 2 ≤ W.heap.size ∧ g < W.heap.size) → Below W.heap.size W W' → Below w.heap.size w W' ∧ LD W' w.heap.size a1 a2 ∧ LD W' (w.heap.size + 1) b1 b2 ∧ LD W' g a1 a2 ∧ W'.cell? ⟨g, 1, none⟩ = some (.int .u16 a2) ∧ w.heap.size + 2 ≤ W'.heap.size ∧ g < W'.heap.size) :=
      fun W W' h k => ⟨h.1.trans (k.mono (by omega)), h.2.1.below k (by omega), h.2.2.1.below k (by omega), h.2.2.2.1.below k (by omega), (h.2.2.2.1.below k (by omega)).two, Nat.le_trans h.2.2.2.2.2.1 k.size, Nat.lt_of_lt_of_le h.2.2.2.2.2.2 k.size⟩
    clear qa qb qk hb
    refine wp_region_noPanic ?_
    refine wp_region_held_drew (S := fun W => Below w.heap.size w W ∧ LD W w.heap.size a1 a2 ∧ LD W (w.heap.size + 1) b1 b2 ∧ LD W g a1 a2 ∧ W.cell? ⟨g, 1, none⟩ = some (.int .u16 a2) ∧ w.heap.size + 2 ≤ W.heap.size ∧ g < W.heap.size) (by kernel_rfl) (HB.out _ rfl) (fun hHeld => ?_)
    refine take_lit (i := 0) rfl (by kernel_rfl) (by kernel_rfl) (by kernel_rfl) (fun _ _ _ h => h) (yD a1 a2 (fun w h => h.2.2.2.1) (by rfl) rfl rfl) (by assumption) ?_
    try simp only [Act.put, List.setIfInBounds_toArray, List.set_cons_zero, List.set_cons_succ]
    refine take_lit (i := 1) rfl (by kernel_rfl) (by kernel_rfl) (by kernel_rfl) (fun _ _ _ h => h) (yD a1 a2 (fun w h => h.2.1) (by rfl) rfl rfl) (by assumption) ?_
    try simp only [Act.put, List.setIfInBounds_toArray, List.set_cons_zero, List.set_cons_succ]
    refine take_lit (i := 2) (v := ?_) rfl (by kernel_rfl) (by kernel_rfl) (by kernel_rfl) (fun _ _ _ h => h) (Or.inl ⟨by rfl, ?_⟩) (by assumption) ?_
    rotate_left
    · (intro w hSw; (try dsimp only at hSw); go_simp <;> with_reducible rfl)
    try simp only [Act.put, List.setIfInBounds_toArray, List.set_cons_zero, List.set_cons_succ]
    refine take_lit (i := 3) (v := ?_) rfl (by kernel_rfl) (by kernel_rfl) (by kernel_rfl) (fun _ _ _ h => h) (Or.inl ⟨by rfl, ?_⟩) (by assumption) ?_
    rotate_left
    · (intro w hSw; (try dsimp only at hSw); go_simp <;> with_reducible rfl)
    try simp only [Act.put, List.setIfInBounds_toArray, List.set_cons_zero, List.set_cons_succ]
    refine take_lit (i := 4) rfl (by kernel_rfl) (by kernel_rfl) (by kernel_rfl) (fun _ _ _ h => h) (Or.inr ⟨by rfl, rfl⟩) (by assumption) ?_
    try simp only [Act.put, List.setIfInBounds_toArray, List.set_cons_zero, List.set_cons_succ]
    refine take_lit (i := 5) rfl (by kernel_rfl) (by kernel_rfl) (by kernel_rfl) (fun _ _ _ h => h) (Or.inr ⟨by rfl, rfl⟩) (by assumption) ?_
    try simp only [Act.put, List.setIfInBounds_toArray, List.set_cons_zero, List.set_cons_succ]
    refine take_lit (i := 6) rfl (by kernel_rfl) (by kernel_rfl) (by kernel_rfl) (fun _ _ _ h => h) (Or.inr ⟨by rfl, rfl⟩) (by assumption) ?_
    try simp only [Act.put, List.setIfInBounds_toArray, List.set_cons_zero, List.set_cons_succ]
    refine take_lit (i := 7) (v := ?_) rfl (by kernel_rfl) (by kernel_rfl) (by kernel_rfl) (fun _ _ _ h => h) (Or.inl ⟨by rfl, ?_⟩) (by assumption) ?_
    rotate_left
    · (intro w hSw; (try dsimp only at hSw); go_simp <;> with_reducible rfl)
    try simp only [Act.put, List.setIfInBounds_toArray, List.set_cons_zero, List.set_cons_succ]
    refine take_lit (i := 8) (v := ?_) rfl (by kernel_rfl) (by kernel_rfl) (by kernel_rfl) (fun _ _ _ h => h) (Or.inl ⟨by rfl, ?_⟩) (by assumption) ?_
    rotate_left
    · (intro w hSw; (try dsimp only at hSw); go_simp <;> with_reducible rfl)
    try simp only [Act.put, List.setIfInBounds_toArray, List.set_cons_zero, List.set_cons_succ]
    refine take_lit (i := 9) rfl (by kernel_rfl) (by kernel_rfl) (by kernel_rfl) (fun _ _ _ h => h) (yD a1 a2 (fun w h => h.2.1) (by rfl) rfl rfl) (by assumption) ?_
    try simp only [Act.put, List.setIfInBounds_toArray, List.set_cons_zero, List.set_cons_succ]
    refine take_lit (i := 11) rfl (by kernel_rfl) (by kernel_rfl) (by kernel_rfl) (fun _ _ _ h => h) (yD a1 a2 (fun w h => h.2.2.2.1) (by rfl) rfl rfl) (by assumption) ?_
    try simp only [Act.put, List.setIfInBounds_toArray, List.set_cons_zero, List.set_cons_succ]
    refine take_lit (i := 12) rfl (by kernel_rfl) (by kernel_rfl) (by kernel_rfl) (fun _ _ _ h => h) (yD a1 a2 (fun w h => h.2.1) (by rfl) rfl rfl) (by assumption) ?_
    try simp only [Act.put, List.setIfInBounds_toArray, List.set_cons_zero, List.set_cons_succ]
    refine take_lit (i := 13) (v := ?_) rfl (by kernel_rfl) (by kernel_rfl) (by kernel_rfl) (fun _ _ _ h => h) (Or.inl ⟨by rfl, ?_⟩) (by assumption) ?_
    rotate_left
    · (intro w hSw; (try dsimp only at hSw); go_simp <;> with_reducible rfl)
    try simp only [Act.put, List.setIfInBounds_toArray, List.set_cons_zero, List.set_cons_succ]
    refine wpAnyH_ready (rs := [10]) (by kernel_rfl) (by simp) ?_
    refine cons_lit rfl (fun K hK => ?_) ?_
    · go_simp
      refine (feas_some _ _ _ _ _ _ hHeld.2.2.1).mono ?_
      rintro e w1 ⟨rfl, hB1⟩
      rw [hf]
      refine hK.out _ _ ?_ (fun hHeld => ?_)
      · exact HK.out _ _ hHeld hB1
      clear hK K
      try simp only [Act.put, List.setIfInBounds_toArray, List.set_cons_zero, List.set_cons_succ]
      refine take_lit (i := 14) (v := ?_) rfl (by kernel_rfl) (by kernel_rfl) (by kernel_rfl) (fun _ _ _ h => h) (Or.inl ⟨by rfl, ?_⟩) (by assumption) ?_
      rotate_left
      · (intro w hSw; (try dsimp only at hSw); go_simp <;> with_reducible rfl)
      try simp only [Act.put, List.setIfInBounds_toArray, List.set_cons_zero, List.set_cons_succ]
      refine take_lit (i := 15) rfl (by kernel_rfl) (by kernel_rfl) (by kernel_rfl) (fun _ _ _ h => h) (yD a1 a2 (fun w h => h.2.1) (by rfl) rfl rfl) (by assumption) ?_
      try simp only [Act.put, List.setIfInBounds_toArray, List.set_cons_zero, List.set_cons_succ]
      refine take_lit (i := 16) rfl (by kernel_rfl) (by kernel_rfl) (by kernel_rfl) (fun _ _ _ h => h) (yD b1 b2 (fun w h => h.2.2.1) (by rfl) rfl rfl) (by assumption) ?_
      try simp only [Act.put, List.setIfInBounds_toArray, List.set_cons_zero, List.set_cons_succ]
      refine take_lit (i := 17) (v := ?_) rfl (by kernel_rfl) (by kernel_rfl) (by kernel_rfl) (fun _ _ _ h => h) (Or.inl ⟨by rfl, ?_⟩) (by assumption) ?_
      rotate_left
      · (intro w hSw; (try dsimp only at hSw); go_simp <;> with_reducible rfl)
      try simp only [Act.put, List.setIfInBounds_toArray, List.set_cons_zero, List.set_cons_succ]
      refine take_lit (i := 18) (v := ?_) rfl (by kernel_rfl) (by kernel_rfl) (by kernel_rfl) (fun _ _ _ h => h) (Or.inl ⟨by rfl, ?_⟩) (by assumption) ?_
      rotate_left
      · (intro w hSw; (try dsimp only at hSw); go_simp <;> with_reducible rfl)
      try simp only [Act.put, List.setIfInBounds_toArray, List.set_cons_zero, List.set_cons_succ]
      refine take_lit (i := 19) (v := ?_) rfl (by kernel_rfl) (by kernel_rfl) (by kernel_rfl) (fun _ _ _ h => h) (Or.inl ⟨by rfl, ?_⟩) (by assumption) ?_
      rotate_left
      · (intro w hSw; (try dsimp only at hSw); go_simp <;> with_reducible rfl)
      try simp only [Act.put, List.setIfInBounds_toArray, List.set_cons_zero, List.set_cons_succ]
      refine take_lit (i := 20) (v := ?_) rfl (by kernel_rfl) (by kernel_rfl) (by kernel_rfl) (fun _ _ _ h => h) (Or.inl ⟨by rfl, ?_⟩) (by assumption) ?_
      rotate_left
      · (intro w hSw; (try dsimp only at hSw); go_simp <;> with_reducible rfl)
      try simp only [Act.put, List.setIfInBounds_toArray, List.set_cons_zero, List.set_cons_succ]
      refine take_lit (i := 21) (v := ?_) rfl (by kernel_rfl) (by kernel_rfl) (by kernel_rfl) (fun _ _ _ h => h) (Or.inl ⟨by rfl, ?_⟩) (by assumption) ?_
      rotate_left
      · (intro w hSw; (try dsimp only at hSw); go_simp <;> with_reducible rfl)
      try simp only [Act.put, List.setIfInBounds_toArray, List.set_cons_zero, List.set_cons_succ]
      refine take_lit (i := 22) rfl (by kernel_rfl) (by kernel_rfl) (by kernel_rfl) (fun _ _ _ h => h) (yD a1 a2 (fun w h => h.2.2.2.1) (by rfl) rfl rfl) (by assumption) ?_
      try simp only [Act.put, List.setIfInBounds_toArray, List.set_cons_zero, List.set_cons_succ]
      refine take_lit (i := 25) (v := ?_) rfl (by kernel_rfl) (by kernel_rfl) (by kernel_rfl) (fun _ _ _ h => h) (Or.inl ⟨by rfl, ?_⟩) (by assumption) ?_
      rotate_left
      · (intro w hSw; (try dsimp only at hSw); go_simp <;> with_reducible rfl)
      try simp only [Act.put, List.setIfInBounds_toArray, List.set_cons_zero, List.set_cons_succ]
      refine take_lit (i := 26) (v := ?_) rfl (by kernel_rfl) (by kernel_rfl) (by kernel_rfl) (fun _ _ _ h => h) (Or.inl ⟨by rfl, ?_⟩) (by assumption) ?_
      rotate_left
      · (intro w hSw; (try dsimp only at hSw); go_simp <;> with_reducible rfl)
      try simp only [Act.put, List.setIfInBounds_toArray, List.set_cons_zero, List.set_cons_succ]
      refine take_lit (i := 27) (v := ?_) rfl (by kernel_rfl) (by kernel_rfl) (by kernel_rfl) (fun _ _ _ h => h) (Or.inl ⟨by rfl, ?_⟩) (by assumption) ?_
      rotate_left
      · (intro w hSw; (try dsimp only at hSw); go_simp <;> with_reducible rfl)
      try simp only [Act.put, List.setIfInBounds_toArray, List.set_cons_zero, List.set_cons_succ]
      refine wpAnyH_ready (rs := [23]) (by kernel_rfl) (by simp) ?_
      refine cons_lit rfl (fun K hK => ?_) ?_
      · go_simp
        refine (feas_some _ _ _ _ _ _ hHeld.2.2.2.1).mono ?_
        rintro e w1 ⟨rfl, hB1⟩
        rw [hkk]
        refine hK.out _ _ ?_ (fun hHeld => ?_)
        · exact HK.out _ _ hHeld hB1
        clear hK K
        try simp only [Act.put, List.setIfInBounds_toArray, List.set_cons_zero, List.set_cons_succ]
        refine take_lit (i := 24) (v := ?_) rfl (by kernel_rfl) (by kernel_rfl) (by kernel_rfl) (fun _ _ _ h => h) (Or.inl ⟨by rfl, ?_⟩) (by assumption) ?_
        rotate_left
        · (intro w hSw; (try dsimp only at hSw); go_simp <;> with_reducible rfl)
        try simp only [Act.put, List.setIfInBounds_toArray, List.set_cons_zero, List.set_cons_succ]
        refine take_lit (i := 28) (v := ?_) rfl (by kernel_rfl) (by kernel_rfl) (by kernel_rfl) (fun _ _ _ h => h) (Or.inl ⟨by rfl, ?_⟩) (by assumption) ?_
        rotate_left
        · (intro w hSw; (try dsimp only at hSw); go_simp <;> with_reducible rfl)
        try simp only [Act.put, List.setIfInBounds_toArray, List.set_cons_zero, List.set_cons_succ]
        refine take_lit (i := 29) (v := ?_) rfl (by kernel_rfl) (by kernel_rfl) (by kernel_rfl) (fun _ _ _ h => h) (Or.inl ⟨by rfl, ?_⟩) (by assumption) ?_
        rotate_left
        · (intro w hSw; (try dsimp only at hSw); go_simp <;> with_reducible rfl)
        try simp only [Act.put, List.setIfInBounds_toArray, List.set_cons_zero, List.set_cons_succ]
        refine take_lit (i := 30) (v := ?_) rfl (by kernel_rfl) (by kernel_rfl) (by kernel_rfl) (fun _ _ _ h => h) (Or.inl ⟨by rfl, ?_⟩) (by assumption) ?_
        rotate_left
        · (intro w hSw; (try dsimp only at hSw); go_simp <;> with_reducible rfl)
        try simp only [Act.put, List.setIfInBounds_toArray, List.set_cons_zero, List.set_cons_succ]
        refine take_lit (i := 31) rfl (by kernel_rfl) (by kernel_rfl) (by kernel_rfl) (fun _ _ _ h => h) (yD a1 a2 (fun w h => h.2.1) (by rfl) rfl rfl) (by assumption) ?_
        try simp only [Act.put, List.setIfInBounds_toArray, List.set_cons_zero, List.set_cons_succ]
        refine take_lit (i := 32) rfl (by kernel_rfl) (by kernel_rfl) (by kernel_rfl) (fun _ _ _ h => h) (yD b1 b2 (fun w h => h.2.2.1) (by rfl) rfl rfl) (by assumption) ?_
        try simp only [Act.put, List.setIfInBounds_toArray, List.set_cons_zero, List.set_cons_succ]
        refine wpAnyH_ready (rs := [33]) (by kernel_rfl) (by simp) ?_
        refine cons_lit rfl (fun K hK => ?_) ?_
        · go_simp
          refine (better_any _ _ _ _ _).mono ?_
          rintro e w1 ⟨rfl, hB1⟩
          rw [hc]
          refine hK.out _ _ ?_ (fun hHeld => ?_)
          · exact HK.out _ _ hHeld hB1
          clear hK K
          try simp only [Act.put, List.setIfInBounds_toArray, List.set_cons_zero, List.set_cons_succ]
          refine take_lit (i := 34) (v := ?_) rfl (by kernel_rfl) (by kernel_rfl) (by kernel_rfl) (fun _ _ _ h => h) (Or.inl ⟨by rfl, ?_⟩) (by assumption) ?_
          rotate_left
          · (intro w hSw; (try dsimp only at hSw); go_simp <;> with_reducible rfl)
          try simp only [Act.put, List.setIfInBounds_toArray, List.set_cons_zero, List.set_cons_succ]
          refine take_lit (i := 35) rfl (by kernel_rfl) (by kernel_rfl) (by kernel_rfl) (fun _ _ _ h => h) (yD b1 b2 (fun w h => h.2.2.1) (by rfl) rfl rfl) (by assumption) ?_
          try simp only [Act.put, List.setIfInBounds_toArray, List.set_cons_zero, List.set_cons_succ]
          refine take_lit (i := 36) rfl (by kernel_rfl) (by kernel_rfl) (by kernel_rfl) (fun _ _ _ h => h) (yD a1 a2 (fun w h => h.2.1) (by rfl) rfl rfl) (by assumption) ?_
          try simp only [Act.put, List.setIfInBounds_toArray, List.set_cons_zero, List.set_cons_succ]
          refine wpAnyH_ready (rs := [37]) (by kernel_rfl) (by simp) ?_
          refine cons_lit rfl (fun K hK => ?_) ?_
          · go_simp
            refine (better_any _ _ _ _ _).mono ?_
            rintro e w1 ⟨rfl, hB1⟩
            rw [hc2]
            refine hK.out _ _ ?_ (fun hHeld => ?_)
            · exact HK.out _ _ hHeld hB1
            clear hK K
            try simp only [Act.put, List.setIfInBounds_toArray, List.set_cons_zero, List.set_cons_succ]
            refine take_lit (i := 38) (v := ?_) rfl (by kernel_rfl) (by kernel_rfl) (by kernel_rfl) (fun _ _ _ h => h) (Or.inl ⟨by rfl, ?_⟩) (by assumption) ?_
            rotate_left
            · (intro w hSw; (try dsimp only at hSw); go_simp <;> with_reducible rfl)
            try simp only [Act.put, List.setIfInBounds_toArray, List.set_cons_zero, List.set_cons_succ]
            refine take_lit (i := 39) (v := ?_) rfl (by kernel_rfl) (by kernel_rfl) (by kernel_rfl) (fun _ _ _ h => h) (Or.inl ⟨by rfl, ?_⟩) (by assumption) ?_
            rotate_left
            · (intro w hSw; (try dsimp only at hSw); go_simp <;> with_reducible rfl)
            try simp only [Act.put, List.setIfInBounds_toArray, List.set_cons_zero, List.set_cons_succ]
            refine take_lit (i := 40) (v := ?_) rfl (by kernel_rfl) (by kernel_rfl) (by kernel_rfl) (fun _ _ _ h => h) (Or.inl ⟨by rfl, ?_⟩) (by assumption) ?_
            rotate_left
            · (intro w hSw; (try dsimp only at hSw); go_simp <;> with_reducible rfl)
            try simp only [Act.put, List.setIfInBounds_toArray, List.set_cons_zero, List.set_cons_succ]
            refine take_lit (i := 41) (v := ?_) rfl (by kernel_rfl) (by kernel_rfl) (by kernel_rfl) (fun _ _ _ h => h) (Or.inl ⟨by rfl, ?_⟩) (by assumption) ?_
            rotate_left
            · (intro w hSw; (try dsimp only at hSw); go_simp <;> with_reducible rfl)
            try simp only [Act.put, List.setIfInBounds_toArray, List.set_cons_zero, List.set_cons_succ]
            refine wpAnyH_ready (rs := [42]) (by kernel_rfl) (by simp) ?_
            refine cons_lit rfl (fun K hK => ?_) ?_
            · go_simp
              refine (live_any _).mono ?_
              rintro e w1 ⟨rfl, hB1⟩
              refine hK.out _ _ ?_ (fun hHeld => ?_)
              · exact HK.out _ _ hHeld hB1
              clear hK K
              try simp only [Act.put, List.setIfInBounds_toArray, List.set_cons_zero, List.set_cons_succ]
              refine take_lit (i := 43) (v := ?_) rfl (by kernel_rfl) (by kernel_rfl) (by kernel_rfl) (fun _ _ _ h => h) (Or.inl ⟨by rfl, ?_⟩) (by assumption) ?_
              rotate_left
              · (intro w hSw; (try dsimp only at hSw); go_simp <;> with_reducible rfl)
              try simp only [Act.put, List.setIfInBounds_toArray, List.set_cons_zero, List.set_cons_succ]
              refine take_lit (i := 44) (v := ?_) rfl (by kernel_rfl) (by kernel_rfl) (by kernel_rfl) (fun _ _ _ h => h) (Or.inl ⟨by rfl, ?_⟩) (by assumption) ?_
              rotate_left
              · (intro w hSw; (try dsimp only at hSw); go_simp <;> with_reducible rfl)
              try simp only [Act.put, List.setIfInBounds_toArray, List.set_cons_zero, List.set_cons_succ]
              refine wpAnyH_done (by kernel_rfl) ?_ _
              refine NoPanic.normal ?_
              go_wp2
              go_ret
              exact ⟨rfl, hHeld.1⟩
            exact AllReadyH.nil
          exact AllReadyH.nil
        exact AllReadyH.nil
      exact AllReadyH.nil
    exact AllReadyH.nil
theorem takes_same (h : (a2 == 65535) = false) : Calls Try.prog 8 #[.agg #[.int .u16 a1, .int .u16 a2], .agg #[.int .u16 a1, .int .u16 a2]] w (Gives w (.bool true)) := by
    have hc : betB a1 a2 a1 a2 = false := bet_self a1 a2
    have hf : feaB a1 a2 a1 a2 = false := (fea_fin h).trans hc
    have hkk : feaB a1 a2 a1 a2 = false := hf
    have hc2 := hc
    have he1 : ∀ w, (Op.equalIn 10000 33 (.agg #[.int .u16 a1, .int .u16 a2]) (.agg #[.int .u16 a1, .int .u16 a2])).run Try.prog w = .ok true w := fun w => by rw [eqD 9998]; simp
    have hk : (if betB a1 a2 a1 a2 = true then Value.agg #[.int .u16 a1, .int .u16 a2] else .agg #[.int .u16 a1, .int .u16 a2]) = .agg #[.int .u16 a1, .int .u16 a2] := by rw [hc, if_neg (by simp)]
    have hn : (a2 != 65535) = true := by unfold bne; rw [h]; rfl
    have hb : Below w.heap.size w ((w.alloc (.cells #[.int .u16 a1, .int .u16 a2] 33)).alloc (.cells #[.int .u16 a1, .int .u16 a2] 33)) := ((Below.refl _ _).alloc (Nat.le_refl _) _).alloc (by simp) _
    have qa : LD ((w.alloc (.cells #[.int .u16 a1, .int .u16 a2] 33)).alloc (.cells #[.int .u16 a1, .int .u16 a2] 33)) w.heap.size a1 a2 := LD.range ((Row.new w 33 [.int .u16 a1, .int .u16 a2]).alloc _)
    have qb : LD ((w.alloc (.cells #[.int .u16 a1, .int .u16 a2] 33)).alloc (.cells #[.int .u16 a1, .int .u16 a2] 33)) (w.heap.size + 1) a1 a2 := by
      have := Row.new (w.alloc (.cells #[.int .u16 a1, .int .u16 a2] 33)) 33 [.int .u16 a1, .int .u16 a2]
      simp only [World.size_alloc] at this
      exact LD.range this
    go_enter Try.func8, Try.ntmps8
    go_wp2_with (first
      | (refine ldD (.tmp 2) (by rfl) rfl _ a1 a2 rfl qa ?_)
      | (go_at_call 21; refine (keep_some _ _ _ _ _ _ qb).mono ?_; rintro e w3 ⟨rfl, hw⟩; rw [hk]; replace qa := qa.below hw (by rw [World.size_alloc, World.size_alloc]; omega); replace qb := qb.below hw (by rw [World.size_alloc, World.size_alloc]; omega); replace hb := hb.trans (hw.mono (by rw [World.size_alloc, World.size_alloc]; omega)); have hs : w.heap.size + 2 ≤ w3.heap.size := by have := hw.size; simp at this; omega
         clear hw)
      | (refine stD (.tmp 5) (.tmp 15) (by rfl) rfl _ a1 a2 0 0 rfl rfl (Row.new w3 33 [.int .u16 0, .int .u16 0]) ?_; intro w4 hw4 r1; have hw := ((Below.refl _ _).alloc (Nat.le_refl w3.heap.size) (.cells #[.int .u16 0, .int .u16 0] 33)).trans hw4; clear hw4; replace qa := qa.below hw (by omega); replace qb := qb.below hw (by omega); replace hb := hb.trans (hw.mono (by omega)); clear hw))
    have hg : w3.heap.size < w4.heap.size := r1.lt
    have qk : LD w4 w3.heap.size a1 a2 := LD.range r1
    clear r1
    generalize w3.heap.size = g at *
    have HB : Hid (∀ W, W = w4.drew → Below w.heap.size w W ∧ LD W w.heap.size a1 a2 ∧ LD W (w.heap.size + 1) a1 a2 ∧ LD W g a1 a2 ∧ W.cell? ⟨g, 1, none⟩ = some (.int .u16 a2) ∧ w.heap.size + 2 ≤ W.heap.size ∧ g < W.heap.size) := by
      rintro W rfl
      have h := (Below.refl w4.heap.size w4).drew
      exact ⟨hb.drew, qa.below h (by omega), qb.below h (by omega), qk.below h hg, (qk.below h hg).two, by show _ ≤ w4.heap.size; omega, hg⟩
    have HK : Hid (∀ W W', (Below w.heap.size w W ∧ LD W w.heap.size a1 a2 ∧ LD W (w.heap.size + 1) a1 a2 ∧ LD W g a1 a2 ∧ W.cell? ⟨g, 1, none⟩ = some (.int .u16 a2) ∧ w.heap.size + 2 ≤ W.heap.size ∧ g < W.heap.size) → Below W.heap.size W W' → Below w.heap.size w W' ∧ LD W' w.heap.size a1 a2 ∧ LD W' (w.heap.size + 1) a1 a2 ∧ LD W' g a1 a2 ∧ W'.cell? ⟨g, 1, none⟩ = some (.int .u16 a2) ∧ w.heap.size + 2 ≤ W'.heap.size ∧ g < W'.heap.size) :=
      fun W W' h k => ⟨h.1.trans (k.mono (by omega)), h.2.1.below k (by omega), h.2.2.1.below k (by omega), h.2.2.2.1.below k (by omega), (h.2.2.2.1.below k (by omega)).two, Nat.le_trans h.2.2.2.2.2.1 k.size, Nat.lt_of_lt_of_le h.2.2.2.2.2.2 k.size⟩
    clear qa qb qk hb
    refine wp_region_noPanic ?_
    refine wp_region_held_drew (S := fun W => Below w.heap.size w W ∧ LD W w.heap.size a1 a2 ∧ LD W (w.heap.size + 1) a1 a2 ∧ LD W g a1 a2 ∧ W.cell? ⟨g, 1, none⟩ = some (.int .u16 a2) ∧ w.heap.size + 2 ≤ W.heap.size ∧ g < W.heap.size) (by kernel_rfl) (HB.out _ rfl) (fun hHeld => ?_)
    refine take_lit (i := 0) rfl (by kernel_rfl) (by kernel_rfl) (by kernel_rfl) (fun _ _ _ h => h) (yD a1 a2 (fun w h => h.2.2.2.1) (by rfl) rfl rfl) (by assumption) ?_
    try simp only [Act.put, List.setIfInBounds_toArray, List.set_cons_zero, List.set_cons_succ]
    refine take_lit (i := 1) rfl (by kernel_rfl) (by kernel_rfl) (by kernel_rfl) (fun _ _ _ h => h) (yD a1 a2 (fun w h => h.2.1) (by rfl) rfl rfl) (by assumption) ?_
    try simp only [Act.put, List.setIfInBounds_toArray, List.set_cons_zero, List.set_cons_succ]
    refine take_lit (i := 2) (v := ?_) rfl (by kernel_rfl) (by kernel_rfl) (by kernel_rfl) (fun _ _ _ h => h) (Or.inl ⟨by rfl, ?_⟩) (by assumption) ?_
    rotate_left
    · (intro w hSw; (try dsimp only at hSw); go_simp <;> with_reducible rfl)
    try simp only [Act.put, List.setIfInBounds_toArray, List.set_cons_zero, List.set_cons_succ]
    refine take_lit (i := 3) (v := ?_) rfl (by kernel_rfl) (by kernel_rfl) (by kernel_rfl) (fun _ _ _ h => h) (Or.inl ⟨by rfl, ?_⟩) (by assumption) ?_
    rotate_left
    · (intro w hSw; (try dsimp only at hSw); go_simp <;> with_reducible rfl)
    try simp only [Act.put, List.setIfInBounds_toArray, List.set_cons_zero, List.set_cons_succ]
    refine take_lit (i := 4) rfl (by kernel_rfl) (by kernel_rfl) (by kernel_rfl) (fun _ _ _ h => h) (Or.inr ⟨by rfl, rfl⟩) (by assumption) ?_
    try simp only [Act.put, List.setIfInBounds_toArray, List.set_cons_zero, List.set_cons_succ]
    refine take_lit (i := 5) rfl (by kernel_rfl) (by kernel_rfl) (by kernel_rfl) (fun _ _ _ h => h) (Or.inr ⟨by rfl, rfl⟩) (by assumption) ?_
    try simp only [Act.put, List.setIfInBounds_toArray, List.set_cons_zero, List.set_cons_succ]
    refine take_lit (i := 6) rfl (by kernel_rfl) (by kernel_rfl) (by kernel_rfl) (fun _ _ _ h => h) (Or.inr ⟨by rfl, rfl⟩) (by assumption) ?_
    try simp only [Act.put, List.setIfInBounds_toArray, List.set_cons_zero, List.set_cons_succ]
    refine take_lit (i := 7) (v := ?_) rfl (by kernel_rfl) (by kernel_rfl) (by kernel_rfl) (fun _ _ _ h => h) (Or.inl ⟨by rfl, ?_⟩) (by assumption) ?_
    rotate_left
    · (intro w hSw; (try dsimp only at hSw); go_simp <;> with_reducible rfl)
    try simp only [Act.put, List.setIfInBounds_toArray, List.set_cons_zero, List.set_cons_succ]
    refine take_lit (i := 8) (v := ?_) rfl (by kernel_rfl) (by kernel_rfl) (by kernel_rfl) (fun _ _ _ h => h) (Or.inl ⟨by rfl, ?_⟩) (by assumption) ?_
    rotate_left
    · (intro w hSw; (try dsimp only at hSw); go_simp <;> with_reducible rfl)
    try simp only [Act.put, List.setIfInBounds_toArray, List.set_cons_zero, List.set_cons_succ]
    refine take_lit (i := 9) rfl (by kernel_rfl) (by kernel_rfl) (by kernel_rfl) (fun _ _ _ h => h) (yD a1 a2 (fun w h => h.2.1) (by rfl) rfl rfl) (by assumption) ?_
    try simp only [Act.put, List.setIfInBounds_toArray, List.set_cons_zero, List.set_cons_succ]
    refine take_lit (i := 11) rfl (by kernel_rfl) (by kernel_rfl) (by kernel_rfl) (fun _ _ _ h => h) (yD a1 a2 (fun w h => h.2.2.2.1) (by rfl) rfl rfl) (by assumption) ?_
    try simp only [Act.put, List.setIfInBounds_toArray, List.set_cons_zero, List.set_cons_succ]
    refine take_lit (i := 12) rfl (by kernel_rfl) (by kernel_rfl) (by kernel_rfl) (fun _ _ _ h => h) (yD a1 a2 (fun w h => h.2.1) (by rfl) rfl rfl) (by assumption) ?_
    try simp only [Act.put, List.setIfInBounds_toArray, List.set_cons_zero, List.set_cons_succ]
    refine take_lit (i := 13) (v := ?_) rfl (by kernel_rfl) (by kernel_rfl) (by kernel_rfl) (fun _ _ _ h => h) (Or.inl ⟨by rfl, ?_⟩) (by assumption) ?_
    rotate_left
    · (intro w hSw; (try dsimp only at hSw); go_simp <;> with_reducible rfl)
    try simp only [Act.put, List.setIfInBounds_toArray, List.set_cons_zero, List.set_cons_succ]
    refine wpAnyH_ready (rs := [10]) (by kernel_rfl) (by simp) ?_
    refine cons_lit rfl (fun K hK => ?_) ?_
    · go_simp
      refine (feas_some _ _ _ _ _ _ hHeld.2.2.1).mono ?_
      rintro e w1 ⟨rfl, hB1⟩
      rw [hf]
      refine hK.out _ _ ?_ (fun hHeld => ?_)
      · exact HK.out _ _ hHeld hB1
      clear hK K
      try simp only [Act.put, List.setIfInBounds_toArray, List.set_cons_zero, List.set_cons_succ]
      refine take_lit (i := 14) (v := ?_) rfl (by kernel_rfl) (by kernel_rfl) (by kernel_rfl) (fun _ _ _ h => h) (Or.inl ⟨by rfl, ?_⟩) (by assumption) ?_
      rotate_left
      · (intro w hSw; (try dsimp only at hSw); go_simp <;> with_reducible rfl)
      try simp only [Act.put, List.setIfInBounds_toArray, List.set_cons_zero, List.set_cons_succ]
      refine take_lit (i := 15) rfl (by kernel_rfl) (by kernel_rfl) (by kernel_rfl) (fun _ _ _ h => h) (yD a1 a2 (fun w h => h.2.1) (by rfl) rfl rfl) (by assumption) ?_
      try simp only [Act.put, List.setIfInBounds_toArray, List.set_cons_zero, List.set_cons_succ]
      refine take_lit (i := 16) rfl (by kernel_rfl) (by kernel_rfl) (by kernel_rfl) (fun _ _ _ h => h) (yD a1 a2 (fun w h => h.2.2.1) (by rfl) rfl rfl) (by assumption) ?_
      try simp only [Act.put, List.setIfInBounds_toArray, List.set_cons_zero, List.set_cons_succ]
      refine take_lit (i := 17) (v := ?_) rfl (by kernel_rfl) (by kernel_rfl) (by kernel_rfl) (fun _ _ _ h => h) (Or.inl ⟨by rfl, ?_⟩) (by assumption) ?_
      rotate_left
      · (intro w hSw; (try dsimp only at hSw); go_simp <;> with_reducible rfl)
      try simp only [Act.put, List.setIfInBounds_toArray, List.set_cons_zero, List.set_cons_succ]
      refine take_lit (i := 18) (v := ?_) rfl (by kernel_rfl) (by kernel_rfl) (by kernel_rfl) (fun _ _ _ h => h) (Or.inl ⟨by rfl, ?_⟩) (by assumption) ?_
      rotate_left
      · (intro w hSw; (try dsimp only at hSw); go_simp <;> with_reducible rfl)
      try simp only [Act.put, List.setIfInBounds_toArray, List.set_cons_zero, List.set_cons_succ]
      refine take_lit (i := 19) (v := ?_) rfl (by kernel_rfl) (by kernel_rfl) (by kernel_rfl) (fun _ _ _ h => h) (Or.inl ⟨by rfl, ?_⟩) (by assumption) ?_
      rotate_left
      · (intro w hSw; (try dsimp only at hSw); go_simp <;> with_reducible rfl)
      try simp only [Act.put, List.setIfInBounds_toArray, List.set_cons_zero, List.set_cons_succ]
      refine take_lit (i := 20) (v := ?_) rfl (by kernel_rfl) (by kernel_rfl) (by kernel_rfl) (fun _ _ _ h => h) (Or.inl ⟨by rfl, ?_⟩) (by assumption) ?_
      rotate_left
      · (intro w hSw; (try dsimp only at hSw); go_simp <;> with_reducible rfl)
      try simp only [Act.put, List.setIfInBounds_toArray, List.set_cons_zero, List.set_cons_succ]
      refine take_lit (i := 21) (v := ?_) rfl (by kernel_rfl) (by kernel_rfl) (by kernel_rfl) (fun _ _ _ h => h) (Or.inl ⟨by rfl, ?_⟩) (by assumption) ?_
      rotate_left
      · (intro w hSw; (try dsimp only at hSw); go_simp <;> with_reducible rfl)
      try simp only [Act.put, List.setIfInBounds_toArray, List.set_cons_zero, List.set_cons_succ]
      refine take_lit (i := 22) rfl (by kernel_rfl) (by kernel_rfl) (by kernel_rfl) (fun _ _ _ h => h) (yD a1 a2 (fun w h => h.2.2.2.1) (by rfl) rfl rfl) (by assumption) ?_
      try simp only [Act.put, List.setIfInBounds_toArray, List.set_cons_zero, List.set_cons_succ]
      refine take_lit (i := 25) (v := ?_) rfl (by kernel_rfl) (by kernel_rfl) (by kernel_rfl) (fun _ _ _ h => h) (Or.inl ⟨by rfl, ?_⟩) (by assumption) ?_
      rotate_left
      · (intro w hSw; (try dsimp only at hSw); go_simp <;> with_reducible rfl)
      try simp only [Act.put, List.setIfInBounds_toArray, List.set_cons_zero, List.set_cons_succ]
      refine take_lit (i := 26) (v := ?_) rfl (by kernel_rfl) (by kernel_rfl) (by kernel_rfl) (fun _ _ _ h => h) (Or.inl ⟨by rfl, ?_⟩) (by assumption) ?_
      rotate_left
      · (intro w hSw; (try dsimp only at hSw); go_simp <;> with_reducible rfl)
      try simp only [Act.put, List.setIfInBounds_toArray, List.set_cons_zero, List.set_cons_succ]
      refine take_lit (i := 27) (v := ?_) rfl (by kernel_rfl) (by kernel_rfl) (by kernel_rfl) (fun _ _ _ h => h) (Or.inl ⟨by rfl, ?_⟩) (by assumption) ?_
      rotate_left
      · (intro w hSw; (try dsimp only at hSw); go_simp <;> with_reducible rfl)
      try simp only [Act.put, List.setIfInBounds_toArray, List.set_cons_zero, List.set_cons_succ]
      refine wpAnyH_ready (rs := [23]) (by kernel_rfl) (by simp) ?_
      refine cons_lit rfl (fun K hK => ?_) ?_
      · go_simp
        refine (feas_some _ _ _ _ _ _ hHeld.2.2.2.1).mono ?_
        rintro e w1 ⟨rfl, hB1⟩
        rw [hkk]
        refine hK.out _ _ ?_ (fun hHeld => ?_)
        · exact HK.out _ _ hHeld hB1
        clear hK K
        try simp only [Act.put, List.setIfInBounds_toArray, List.set_cons_zero, List.set_cons_succ]
        refine take_lit (i := 24) (v := ?_) rfl (by kernel_rfl) (by kernel_rfl) (by kernel_rfl) (fun _ _ _ h => h) (Or.inl ⟨by rfl, ?_⟩) (by assumption) ?_
        rotate_left
        · (intro w hSw; (try dsimp only at hSw); go_simp <;> with_reducible rfl)
        try simp only [Act.put, List.setIfInBounds_toArray, List.set_cons_zero, List.set_cons_succ]
        refine take_lit (i := 28) (v := ?_) rfl (by kernel_rfl) (by kernel_rfl) (by kernel_rfl) (fun _ _ _ h => h) (Or.inl ⟨by rfl, ?_⟩) (by assumption) ?_
        rotate_left
        · (intro w hSw; (try dsimp only at hSw); go_simp <;> with_reducible rfl)
        try simp only [Act.put, List.setIfInBounds_toArray, List.set_cons_zero, List.set_cons_succ]
        refine take_lit (i := 29) (v := ?_) rfl (by kernel_rfl) (by kernel_rfl) (by kernel_rfl) (fun _ _ _ h => h) (Or.inl ⟨by rfl, ?_⟩) (by assumption) ?_
        rotate_left
        · (intro w hSw; (try dsimp only at hSw); go_simp <;> with_reducible rfl)
        try simp only [Act.put, List.setIfInBounds_toArray, List.set_cons_zero, List.set_cons_succ]
        refine take_lit (i := 30) (v := ?_) rfl (by kernel_rfl) (by kernel_rfl) (by kernel_rfl) (fun _ _ _ h => h) (Or.inl ⟨by rfl, ?_⟩) (by assumption) ?_
        rotate_left
        · (intro w hSw; (try dsimp only at hSw); go_simp <;> with_reducible rfl)
        try simp only [Act.put, List.setIfInBounds_toArray, List.set_cons_zero, List.set_cons_succ]
        refine take_lit (i := 31) rfl (by kernel_rfl) (by kernel_rfl) (by kernel_rfl) (fun _ _ _ h => h) (yD a1 a2 (fun w h => h.2.1) (by rfl) rfl rfl) (by assumption) ?_
        try simp only [Act.put, List.setIfInBounds_toArray, List.set_cons_zero, List.set_cons_succ]
        refine take_lit (i := 32) rfl (by kernel_rfl) (by kernel_rfl) (by kernel_rfl) (fun _ _ _ h => h) (yD a1 a2 (fun w h => h.2.2.1) (by rfl) rfl rfl) (by assumption) ?_
        try simp only [Act.put, List.setIfInBounds_toArray, List.set_cons_zero, List.set_cons_succ]
        refine wpAnyH_ready (rs := [33]) (by kernel_rfl) (by simp) ?_
        refine cons_lit rfl (fun K hK => ?_) ?_
        · go_simp
          refine (better_any _ _ _ _ _).mono ?_
          rintro e w1 ⟨rfl, hB1⟩
          rw [hc]
          refine hK.out _ _ ?_ (fun hHeld => ?_)
          · exact HK.out _ _ hHeld hB1
          clear hK K
          try simp only [Act.put, List.setIfInBounds_toArray, List.set_cons_zero, List.set_cons_succ]
          refine take_lit (i := 34) (v := ?_) rfl (by kernel_rfl) (by kernel_rfl) (by kernel_rfl) (fun _ _ _ h => h) (Or.inl ⟨by rfl, ?_⟩) (by assumption) ?_
          rotate_left
          · (intro w hSw; (try dsimp only at hSw); go_simp <;> with_reducible rfl)
          try simp only [Act.put, List.setIfInBounds_toArray, List.set_cons_zero, List.set_cons_succ]
          refine take_lit (i := 35) rfl (by kernel_rfl) (by kernel_rfl) (by kernel_rfl) (fun _ _ _ h => h) (Or.inr ⟨by rfl, rfl⟩) (by assumption) ?_
          try simp only [Act.put, List.setIfInBounds_toArray, List.set_cons_zero, List.set_cons_succ]
          refine take_lit (i := 36) rfl (by kernel_rfl) (by kernel_rfl) (by kernel_rfl) (fun _ _ _ h => h) (Or.inr ⟨by rfl, rfl⟩) (by assumption) ?_
          try simp only [Act.put, List.setIfInBounds_toArray, List.set_cons_zero, List.set_cons_succ]
          refine take_lit (i := 37) rfl (by kernel_rfl) (by kernel_rfl) (by kernel_rfl) (fun _ _ _ h => h) (Or.inr ⟨by rfl, rfl⟩) (by assumption) ?_
          try simp only [Act.put, List.setIfInBounds_toArray, List.set_cons_zero, List.set_cons_succ]
          refine take_lit (i := 38) (v := ?_) rfl (by kernel_rfl) (by kernel_rfl) (by kernel_rfl) (fun _ _ _ h => h) (Or.inl ⟨by rfl, ?_⟩) (by assumption) ?_
          rotate_left
          · (intro w hSw; (try dsimp only at hSw); go_simp <;> with_reducible rfl)
          try simp only [Act.put, List.setIfInBounds_toArray, List.set_cons_zero, List.set_cons_succ]
          refine take_lit (i := 39) (v := ?_) rfl (by kernel_rfl) (by kernel_rfl) (by kernel_rfl) (fun _ _ _ h => h) (Or.inl ⟨by rfl, ?_⟩) (by assumption) ?_
          rotate_left
          · (intro w hSw; (try dsimp only at hSw); go_simp <;> with_reducible rfl)
          try simp only [Act.put, List.setIfInBounds_toArray, List.set_cons_zero, List.set_cons_succ]
          refine take_lit (i := 40) (v := ?_) rfl (by kernel_rfl) (by kernel_rfl) (by kernel_rfl) (fun _ _ _ h => h) (Or.inl ⟨by rfl, ?_⟩) (by assumption) ?_
          rotate_left
          · (intro w hSw; (try dsimp only at hSw); go_simp <;> with_reducible rfl)
          try simp only [Act.put, List.setIfInBounds_toArray, List.set_cons_zero, List.set_cons_succ]
          refine take_lit (i := 41) (v := ?_) rfl (by kernel_rfl) (by kernel_rfl) (by kernel_rfl) (fun _ _ _ h => h) (Or.inl ⟨by rfl, ?_⟩) (by assumption) ?_
          rotate_left
          · (intro w hSw; (try dsimp only at hSw); go_simp <;> with_reducible rfl)
          try simp only [Act.put, List.setIfInBounds_toArray, List.set_cons_zero, List.set_cons_succ]
          refine wpAnyH_ready (rs := [42]) (by kernel_rfl) (by simp) ?_
          refine cons_lit rfl (fun K hK => ?_) ?_
          · go_simp
            refine (live_any _).mono ?_
            rintro e w1 ⟨rfl, hB1⟩
            refine hK.out _ _ ?_ (fun hHeld => ?_)
            · exact HK.out _ _ hHeld hB1
            clear hK K
            try simp only [Act.put, List.setIfInBounds_toArray, List.set_cons_zero, List.set_cons_succ]
            refine take_lit (i := 43) (v := ?_) rfl (by kernel_rfl) (by kernel_rfl) (by kernel_rfl) (fun _ _ _ h => h) (Or.inl ⟨by rfl, ?_⟩) (by assumption) ?_
            rotate_left
            · (intro w hSw; (try dsimp only at hSw); go_simp <;> with_reducible rfl)
            try simp only [Act.put, List.setIfInBounds_toArray, List.set_cons_zero, List.set_cons_succ]
            refine take_lit (i := 44) (v := ?_) rfl (by kernel_rfl) (by kernel_rfl) (by kernel_rfl) (fun _ _ _ h => h) (Or.inl ⟨by rfl, ?_⟩) (by assumption) ?_
            rotate_left
            · (intro w hSw; (try dsimp only at hSw); go_simp <;> with_reducible rfl)
            try simp only [Act.put, List.setIfInBounds_toArray, List.set_cons_zero, List.set_cons_succ]
            refine wpAnyH_done (by kernel_rfl) ?_ _
            refine NoPanic.normal ?_
            go_wp2
            go_ret
            exact ⟨rfl, hHeld.1⟩
          exact AllReadyH.nil
        exact AllReadyH.nil
      exact AllReadyH.nil
    exact AllReadyH.nil
theorem takes_otherT (h : (a2 == 65535) = false) (hc : betB a1 a2 b1 b2 = false) (hne : ¬ (a1 = b1 ∧ a2 = b2)) (ht : (b2 == 65535) = true) : Calls Try.prog 8 #[.agg #[.int .u16 a1, .int .u16 a2], .agg #[.int .u16 b1, .int .u16 b2]] w (Gives w (.bool true)) := by
    have hf : feaB a1 a2 b1 b2 = false := (fea_fin h).trans hc
    have hkk : feaB b1 b2 b1 b2 = true := (fea_self b1 b2).trans ht
    have hc2 : betB b1 b2 a1 a2 = betB b1 b2 a1 a2 := rfl
    have he1 : ∀ w, (Op.equalIn 10000 33 (.agg #[.int .u16 b1, .int .u16 b2]) (.agg #[.int .u16 b1, .int .u16 b2])).run Try.prog w = .ok true w := fun w => by rw [eqD 9998]; simp
    have he2 : ∀ w, (Op.equalIn 10000 33 (.agg #[.int .u16 b1, .int .u16 b2]) (.agg #[.int .u16 a1, .int .u16 a2])).run Try.prog w = .ok false w := fun w => by rw [eqD 9998, show (b1 == a1 && b2 == a2) = false by rw [Bool.and_eq_false_iff]; simp only [beq_eq_false_iff_ne]; omega]
    have hk : (if betB a1 a2 b1 b2 = true then Value.agg #[.int .u16 a1, .int .u16 a2] else .agg #[.int .u16 b1, .int .u16 b2]) = .agg #[.int .u16 b1, .int .u16 b2] := by rw [hc, if_neg (by simp)]
    have hn : (b2 != 65535) = false := by unfold bne; rw [ht]; rfl
    clear hne
    have hb : Below w.heap.size w ((w.alloc (.cells #[.int .u16 a1, .int .u16 a2] 33)).alloc (.cells #[.int .u16 b1, .int .u16 b2] 33)) := ((Below.refl _ _).alloc (Nat.le_refl _) _).alloc (by simp) _
    have qa : LD ((w.alloc (.cells #[.int .u16 a1, .int .u16 a2] 33)).alloc (.cells #[.int .u16 b1, .int .u16 b2] 33)) w.heap.size a1 a2 := LD.range ((Row.new w 33 [.int .u16 a1, .int .u16 a2]).alloc _)
    have qb : LD ((w.alloc (.cells #[.int .u16 a1, .int .u16 a2] 33)).alloc (.cells #[.int .u16 b1, .int .u16 b2] 33)) (w.heap.size + 1) b1 b2 := by
      have := Row.new (w.alloc (.cells #[.int .u16 a1, .int .u16 a2] 33)) 33 [.int .u16 b1, .int .u16 b2]
      simp only [World.size_alloc] at this
      exact LD.range this
    go_enter Try.func8, Try.ntmps8
    go_wp2_with (first
      | (refine ldD (.tmp 2) (by rfl) rfl _ a1 a2 rfl qa ?_)
      | (go_at_call 21; refine (keep_some _ _ _ _ _ _ qb).mono ?_; rintro e w3 ⟨rfl, hw⟩; rw [hk]; replace qa := qa.below hw (by rw [World.size_alloc, World.size_alloc]; omega); replace qb := qb.below hw (by rw [World.size_alloc, World.size_alloc]; omega); replace hb := hb.trans (hw.mono (by rw [World.size_alloc, World.size_alloc]; omega)); have hs : w.heap.size + 2 ≤ w3.heap.size := by have := hw.size; simp at this; omega
         clear hw)
      | (refine stD (.tmp 5) (.tmp 15) (by rfl) rfl _ b1 b2 0 0 rfl rfl (Row.new w3 33 [.int .u16 0, .int .u16 0]) ?_; intro w4 hw4 r1; have hw := ((Below.refl _ _).alloc (Nat.le_refl w3.heap.size) (.cells #[.int .u16 0, .int .u16 0] 33)).trans hw4; clear hw4; replace qa := qa.below hw (by omega); replace qb := qb.below hw (by omega); replace hb := hb.trans (hw.mono (by omega)); clear hw))
    have hg : w3.heap.size < w4.heap.size := r1.lt
    have qk : LD w4 w3.heap.size b1 b2 := LD.range r1
    clear r1
    generalize w3.heap.size = g at *
    have HB : Hid (∀ W, W = w4.drew → Below w.heap.size w W ∧ LD W w.heap.size a1 a2 ∧ LD W (w.heap.size + 1) b1 b2 ∧ LD W g b1 b2 ∧ W.cell? ⟨g, 1, none⟩ = some (.int .u16 b2) ∧ w.heap.size + 2 ≤ W.heap.size ∧ g < W.heap.size) := by
      rintro W rfl
      have h := (Below.refl w4.heap.size w4).drew
      exact ⟨hb.drew, qa.below h (by omega), qb.below h (by omega), qk.below h hg, (qk.below h hg).two, by show _ ≤ w4.heap.size; omega, hg⟩
    have HK : Hid (∀ W W', (Below w.heap.size w W ∧ LD W w.heap.size a1 a2 ∧ LD W (w.heap.size + 1) b1 b2 ∧ LD W g b1 b2 ∧ W.cell? ⟨g, 1, none⟩ = some (.int .u16 b2) ∧ w.heap.size + 2 ≤ W.heap.size ∧ g < W.heap.size) → Below W.heap.size W W' → Below w.heap.size w W' ∧ LD W' w.heap.size a1 a2 ∧ LD W' (w.heap.size + 1) b1 b2 ∧ LD W' g b1 b2 ∧ W'.cell? ⟨g, 1, none⟩ = some (.int .u16 b2) ∧ w.heap.size + 2 ≤ W'.heap.size ∧ g < W'.heap.size) :=
      fun W W' h k => ⟨h.1.trans (k.mono (by omega)), h.2.1.below k (by omega), h.2.2.1.below k (by omega), h.2.2.2.1.below k (by omega), (h.2.2.2.1.below k (by omega)).two, Nat.le_trans h.2.2.2.2.2.1 k.size, Nat.lt_of_lt_of_le h.2.2.2.2.2.2 k.size⟩
    clear qa qb qk hb
    refine wp_region_noPanic ?_
    refine wp_region_held_drew (S := fun W => Below w.heap.size w W ∧ LD W w.heap.size a1 a2 ∧ LD W (w.heap.size + 1) b1 b2 ∧ LD W g b1 b2 ∧ W.cell? ⟨g, 1, none⟩ = some (.int .u16 b2) ∧ w.heap.size + 2 ≤ W.heap.size ∧ g < W.heap.size) (by kernel_rfl) (HB.out _ rfl) (fun hHeld => ?_)
    refine take_lit (i := 0) rfl (by kernel_rfl) (by kernel_rfl) (by kernel_rfl) (fun _ _ _ h => h) (yD b1 b2 (fun w h => h.2.2.2.1) (by rfl) rfl rfl) (by assumption) ?_
    try simp only [Act.put, List.setIfInBounds_toArray, List.set_cons_zero, List.set_cons_succ]
    refine take_lit (i := 1) rfl (by kernel_rfl) (by kernel_rfl) (by kernel_rfl) (fun _ _ _ h => h) (yD a1 a2 (fun w h => h.2.1) (by rfl) rfl rfl) (by assumption) ?_
    try simp only [Act.put, List.setIfInBounds_toArray, List.set_cons_zero, List.set_cons_succ]
    refine take_lit (i := 2) (v := ?_) rfl (by kernel_rfl) (by kernel_rfl) (by kernel_rfl) (fun _ _ _ h => h) (Or.inl ⟨by rfl, ?_⟩) (by assumption) ?_
    rotate_left
    · (intro w hSw; (try dsimp only at hSw); go_simp <;> with_reducible rfl)
    try simp only [Act.put, List.setIfInBounds_toArray, List.set_cons_zero, List.set_cons_succ]
    refine take_lit (i := 3) (v := ?_) rfl (by kernel_rfl) (by kernel_rfl) (by kernel_rfl) (fun _ _ _ h => h) (Or.inl ⟨by rfl, ?_⟩) (by assumption) ?_
    rotate_left
    · (intro w hSw; (try dsimp only at hSw); go_simp <;> with_reducible rfl)
    try simp only [Act.put, List.setIfInBounds_toArray, List.set_cons_zero, List.set_cons_succ]
    refine take_lit (i := 4) rfl (by kernel_rfl) (by kernel_rfl) (by kernel_rfl) (fun _ _ _ h => h) (yD b1 b2 (fun w h => h.2.2.2.1) (by rfl) rfl rfl) (by assumption) ?_
    try simp only [Act.put, List.setIfInBounds_toArray, List.set_cons_zero, List.set_cons_succ]
    refine take_lit (i := 5) rfl (by kernel_rfl) (by kernel_rfl) (by kernel_rfl) (fun _ _ _ h => h) (yD b1 b2 (fun w h => h.2.2.1) (by rfl) rfl rfl) (by assumption) ?_
    try simp only [Act.put, List.setIfInBounds_toArray, List.set_cons_zero, List.set_cons_succ]
    refine take_lit (i := 6) (v := ?_) rfl (by kernel_rfl) (by kernel_rfl) (by kernel_rfl) (fun _ _ _ h => h) (Or.inl ⟨by rfl, ?_⟩) (by assumption) ?_
    rotate_left
    · (intro w hSw; (try dsimp only at hSw); go_simp <;> with_reducible rfl)
    try simp only [Act.put, List.setIfInBounds_toArray, List.set_cons_zero, List.set_cons_succ]
    refine take_lit (i := 7) (v := ?_) rfl (by kernel_rfl) (by kernel_rfl) (by kernel_rfl) (fun _ _ _ h => h) (Or.inl ⟨by rfl, ?_⟩) (by assumption) ?_
    rotate_left
    · (intro w hSw; (try dsimp only at hSw); go_simp <;> with_reducible rfl)
    try simp only [Act.put, List.setIfInBounds_toArray, List.set_cons_zero, List.set_cons_succ]
    refine take_lit (i := 8) (v := ?_) rfl (by kernel_rfl) (by kernel_rfl) (by kernel_rfl) (fun _ _ _ h => h) (Or.inl ⟨by rfl, ?_⟩) (by assumption) ?_
    rotate_left
    · (intro w hSw; (try dsimp only at hSw); go_simp <;> with_reducible rfl)
    try simp only [Act.put, List.setIfInBounds_toArray, List.set_cons_zero, List.set_cons_succ]
    refine take_lit (i := 9) rfl (by kernel_rfl) (by kernel_rfl) (by kernel_rfl) (fun _ _ _ h => h) (yD a1 a2 (fun w h => h.2.1) (by rfl) rfl rfl) (by assumption) ?_
    try simp only [Act.put, List.setIfInBounds_toArray, List.set_cons_zero, List.set_cons_succ]
    refine take_lit (i := 11) rfl (by kernel_rfl) (by kernel_rfl) (by kernel_rfl) (fun _ _ _ h => h) (yD b1 b2 (fun w h => h.2.2.2.1) (by rfl) rfl rfl) (by assumption) ?_
    try simp only [Act.put, List.setIfInBounds_toArray, List.set_cons_zero, List.set_cons_succ]
    refine take_lit (i := 12) rfl (by kernel_rfl) (by kernel_rfl) (by kernel_rfl) (fun _ _ _ h => h) (yD a1 a2 (fun w h => h.2.1) (by rfl) rfl rfl) (by assumption) ?_
    try simp only [Act.put, List.setIfInBounds_toArray, List.set_cons_zero, List.set_cons_succ]
    refine take_lit (i := 13) (v := ?_) rfl (by kernel_rfl) (by kernel_rfl) (by kernel_rfl) (fun _ _ _ h => h) (Or.inl ⟨by rfl, ?_⟩) (by assumption) ?_
    rotate_left
    · (intro w hSw; (try dsimp only at hSw); go_simp <;> with_reducible rfl)
    try simp only [Act.put, List.setIfInBounds_toArray, List.set_cons_zero, List.set_cons_succ]
    refine wpAnyH_ready (rs := [10]) (by kernel_rfl) (by simp) ?_
    refine cons_lit rfl (fun K hK => ?_) ?_
    · go_simp
      refine (feas_some _ _ _ _ _ _ hHeld.2.2.1).mono ?_
      rintro e w1 ⟨rfl, hB1⟩
      rw [hf]
      refine hK.out _ _ ?_ (fun hHeld => ?_)
      · exact HK.out _ _ hHeld hB1
      clear hK K
      try simp only [Act.put, List.setIfInBounds_toArray, List.set_cons_zero, List.set_cons_succ]
      refine take_lit (i := 14) (v := ?_) rfl (by kernel_rfl) (by kernel_rfl) (by kernel_rfl) (fun _ _ _ h => h) (Or.inl ⟨by rfl, ?_⟩) (by assumption) ?_
      rotate_left
      · (intro w hSw; (try dsimp only at hSw); go_simp <;> with_reducible rfl)
      try simp only [Act.put, List.setIfInBounds_toArray, List.set_cons_zero, List.set_cons_succ]
      refine take_lit (i := 15) rfl (by kernel_rfl) (by kernel_rfl) (by kernel_rfl) (fun _ _ _ h => h) (Or.inr ⟨by rfl, rfl⟩) (by assumption) ?_
      try simp only [Act.put, List.setIfInBounds_toArray, List.set_cons_zero, List.set_cons_succ]
      refine take_lit (i := 16) rfl (by kernel_rfl) (by kernel_rfl) (by kernel_rfl) (fun _ _ _ h => h) (Or.inr ⟨by rfl, rfl⟩) (by assumption) ?_
      try simp only [Act.put, List.setIfInBounds_toArray, List.set_cons_zero, List.set_cons_succ]
      refine take_lit (i := 17) rfl (by kernel_rfl) (by kernel_rfl) (by kernel_rfl) (fun _ _ _ h => h) (Or.inr ⟨by rfl, rfl⟩) (by assumption) ?_
      try simp only [Act.put, List.setIfInBounds_toArray, List.set_cons_zero, List.set_cons_succ]
      refine take_lit (i := 18) (v := ?_) rfl (by kernel_rfl) (by kernel_rfl) (by kernel_rfl) (fun _ _ _ h => h) (Or.inl ⟨by rfl, ?_⟩) (by assumption) ?_
      rotate_left
      · (intro w hSw; (try dsimp only at hSw); go_simp <;> with_reducible rfl)
      try simp only [Act.put, List.setIfInBounds_toArray, List.set_cons_zero, List.set_cons_succ]
      refine take_lit (i := 19) (v := ?_) rfl (by kernel_rfl) (by kernel_rfl) (by kernel_rfl) (fun _ _ _ h => h) (Or.inl ⟨by rfl, ?_⟩) (by assumption) ?_
      rotate_left
      · (intro w hSw; (try dsimp only at hSw); go_simp <;> with_reducible rfl)
      try simp only [Act.put, List.setIfInBounds_toArray, List.set_cons_zero, List.set_cons_succ]
      refine take_lit (i := 20) (v := ?_) rfl (by kernel_rfl) (by kernel_rfl) (by kernel_rfl) (fun _ _ _ h => h) (Or.inl ⟨by rfl, ?_⟩) (by assumption) ?_
      rotate_left
      · (intro w hSw; (try dsimp only at hSw); go_simp <;> with_reducible rfl)
      try simp only [Act.put, List.setIfInBounds_toArray, List.set_cons_zero, List.set_cons_succ]
      refine take_lit (i := 21) (v := ?_) rfl (by kernel_rfl) (by kernel_rfl) (by kernel_rfl) (fun _ _ _ h => h) (Or.inl ⟨by rfl, ?_⟩) (by assumption) ?_
      rotate_left
      · (intro w hSw; (try dsimp only at hSw); go_simp <;> with_reducible rfl)
      try simp only [Act.put, List.setIfInBounds_toArray, List.set_cons_zero, List.set_cons_succ]
      refine take_lit (i := 22) rfl (by kernel_rfl) (by kernel_rfl) (by kernel_rfl) (fun _ _ _ h => h) (yD b1 b2 (fun w h => h.2.2.2.1) (by rfl) rfl rfl) (by assumption) ?_
      try simp only [Act.put, List.setIfInBounds_toArray, List.set_cons_zero, List.set_cons_succ]
      refine take_lit (i := 25) (v := ?_) rfl (by kernel_rfl) (by kernel_rfl) (by kernel_rfl) (fun _ _ _ h => h) (Or.inl ⟨by rfl, ?_⟩) (by assumption) ?_
      rotate_left
      · (intro w hSw; (try dsimp only at hSw); go_simp <;> with_reducible rfl)
      try simp only [Act.put, List.setIfInBounds_toArray, List.set_cons_zero, List.set_cons_succ]
      refine take_lit (i := 26) (v := ?_) rfl (by kernel_rfl) (by kernel_rfl) (by kernel_rfl) (fun _ _ _ h => h) (Or.inl ⟨by rfl, ?_⟩) (by assumption) ?_
      rotate_left
      · (intro w hSw; (try dsimp only at hSw); go_simp <;> with_reducible rfl)
      try simp only [Act.put, List.setIfInBounds_toArray, List.set_cons_zero, List.set_cons_succ]
      refine take_lit (i := 27) (v := ?_) rfl (by kernel_rfl) (by kernel_rfl) (by kernel_rfl) (fun _ _ _ h => h) (Or.inl ⟨by rfl, ?_⟩) (by assumption) ?_
      rotate_left
      · (intro w hSw; (try dsimp only at hSw); go_simp <;> with_reducible rfl)
      try simp only [Act.put, List.setIfInBounds_toArray, List.set_cons_zero, List.set_cons_succ]
      refine wpAnyH_ready (rs := [23]) (by kernel_rfl) (by simp) ?_
      refine cons_lit rfl (fun K hK => ?_) ?_
      · go_simp
        refine (feas_some _ _ _ _ _ _ hHeld.2.2.2.1).mono ?_
        rintro e w1 ⟨rfl, hB1⟩
        rw [hkk]
        refine hK.out _ _ ?_ (fun hHeld => ?_)
        · exact HK.out _ _ hHeld hB1
        clear hK K
        try simp only [Act.put, List.setIfInBounds_toArray, List.set_cons_zero, List.set_cons_succ]
        refine take_lit (i := 24) (v := ?_) rfl (by kernel_rfl) (by kernel_rfl) (by kernel_rfl) (fun _ _ _ h => h) (Or.inl ⟨by rfl, ?_⟩) (by assumption) ?_
        rotate_left
        · (intro w hSw; (try dsimp only at hSw); go_simp <;> with_reducible rfl)
        try simp only [Act.put, List.setIfInBounds_toArray, List.set_cons_zero, List.set_cons_succ]
        refine take_lit (i := 28) (v := ?_) rfl (by kernel_rfl) (by kernel_rfl) (by kernel_rfl) (fun _ _ _ h => h) (Or.inl ⟨by rfl, ?_⟩) (by assumption) ?_
        rotate_left
        · (intro w hSw; (try dsimp only at hSw); go_simp <;> with_reducible rfl)
        try simp only [Act.put, List.setIfInBounds_toArray, List.set_cons_zero, List.set_cons_succ]
        refine take_lit (i := 29) (v := ?_) rfl (by kernel_rfl) (by kernel_rfl) (by kernel_rfl) (fun _ _ _ h => h) (Or.inl ⟨by rfl, ?_⟩) (by assumption) ?_
        rotate_left
        · (intro w hSw; (try dsimp only at hSw); go_simp <;> with_reducible rfl)
        try simp only [Act.put, List.setIfInBounds_toArray, List.set_cons_zero, List.set_cons_succ]
        refine take_lit (i := 30) (v := ?_) rfl (by kernel_rfl) (by kernel_rfl) (by kernel_rfl) (fun _ _ _ h => h) (Or.inl ⟨by rfl, ?_⟩) (by assumption) ?_
        rotate_left
        · (intro w hSw; (try dsimp only at hSw); go_simp <;> with_reducible rfl)
        try simp only [Act.put, List.setIfInBounds_toArray, List.set_cons_zero, List.set_cons_succ]
        refine take_lit (i := 31) rfl (by kernel_rfl) (by kernel_rfl) (by kernel_rfl) (fun _ _ _ h => h) (yD a1 a2 (fun w h => h.2.1) (by rfl) rfl rfl) (by assumption) ?_
        try simp only [Act.put, List.setIfInBounds_toArray, List.set_cons_zero, List.set_cons_succ]
        refine take_lit (i := 32) rfl (by kernel_rfl) (by kernel_rfl) (by kernel_rfl) (fun _ _ _ h => h) (yD b1 b2 (fun w h => h.2.2.1) (by rfl) rfl rfl) (by assumption) ?_
        try simp only [Act.put, List.setIfInBounds_toArray, List.set_cons_zero, List.set_cons_succ]
        refine wpAnyH_ready (rs := [33]) (by kernel_rfl) (by simp) ?_
        refine cons_lit rfl (fun K hK => ?_) ?_
        · go_simp
          refine (better_any _ _ _ _ _).mono ?_
          rintro e w1 ⟨rfl, hB1⟩
          rw [hc]
          refine hK.out _ _ ?_ (fun hHeld => ?_)
          · exact HK.out _ _ hHeld hB1
          clear hK K
          try simp only [Act.put, List.setIfInBounds_toArray, List.set_cons_zero, List.set_cons_succ]
          refine take_lit (i := 34) (v := ?_) rfl (by kernel_rfl) (by kernel_rfl) (by kernel_rfl) (fun _ _ _ h => h) (Or.inl ⟨by rfl, ?_⟩) (by assumption) ?_
          rotate_left
          · (intro w hSw; (try dsimp only at hSw); go_simp <;> with_reducible rfl)
          try simp only [Act.put, List.setIfInBounds_toArray, List.set_cons_zero, List.set_cons_succ]
          refine take_lit (i := 35) rfl (by kernel_rfl) (by kernel_rfl) (by kernel_rfl) (fun _ _ _ h => h) (Or.inr ⟨by rfl, rfl⟩) (by assumption) ?_
          try simp only [Act.put, List.setIfInBounds_toArray, List.set_cons_zero, List.set_cons_succ]
          refine take_lit (i := 36) rfl (by kernel_rfl) (by kernel_rfl) (by kernel_rfl) (fun _ _ _ h => h) (Or.inr ⟨by rfl, rfl⟩) (by assumption) ?_
          try simp only [Act.put, List.setIfInBounds_toArray, List.set_cons_zero, List.set_cons_succ]
          refine take_lit (i := 37) rfl (by kernel_rfl) (by kernel_rfl) (by kernel_rfl) (fun _ _ _ h => h) (Or.inr ⟨by rfl, rfl⟩) (by assumption) ?_
          try simp only [Act.put, List.setIfInBounds_toArray, List.set_cons_zero, List.set_cons_succ]
          refine take_lit (i := 38) (v := ?_) rfl (by kernel_rfl) (by kernel_rfl) (by kernel_rfl) (fun _ _ _ h => h) (Or.inl ⟨by rfl, ?_⟩) (by assumption) ?_
          rotate_left
          · (intro w hSw; (try dsimp only at hSw); go_simp <;> with_reducible rfl)
          try simp only [Act.put, List.setIfInBounds_toArray, List.set_cons_zero, List.set_cons_succ]
          refine take_lit (i := 39) (v := ?_) rfl (by kernel_rfl) (by kernel_rfl) (by kernel_rfl) (fun _ _ _ h => h) (Or.inl ⟨by rfl, ?_⟩) (by assumption) ?_
          rotate_left
          · (intro w hSw; (try dsimp only at hSw); go_simp <;> with_reducible rfl)
          try simp only [Act.put, List.setIfInBounds_toArray, List.set_cons_zero, List.set_cons_succ]
          refine take_lit (i := 40) (v := ?_) rfl (by kernel_rfl) (by kernel_rfl) (by kernel_rfl) (fun _ _ _ h => h) (Or.inl ⟨by rfl, ?_⟩) (by assumption) ?_
          rotate_left
          · (intro w hSw; (try dsimp only at hSw); go_simp <;> with_reducible rfl)
          try simp only [Act.put, List.setIfInBounds_toArray, List.set_cons_zero, List.set_cons_succ]
          refine take_lit (i := 41) (v := ?_) rfl (by kernel_rfl) (by kernel_rfl) (by kernel_rfl) (fun _ _ _ h => h) (Or.inl ⟨by rfl, ?_⟩) (by assumption) ?_
          rotate_left
          · (intro w hSw; (try dsimp only at hSw); go_simp <;> with_reducible rfl)
          try simp only [Act.put, List.setIfInBounds_toArray, List.set_cons_zero, List.set_cons_succ]
          refine wpAnyH_ready (rs := [42]) (by kernel_rfl) (by simp) ?_
          refine cons_lit rfl (fun K hK => ?_) ?_
          · go_simp
            refine (live_any _).mono ?_
            rintro e w1 ⟨rfl, hB1⟩
            refine hK.out _ _ ?_ (fun hHeld => ?_)
            · exact HK.out _ _ hHeld hB1
            clear hK K
            try simp only [Act.put, List.setIfInBounds_toArray, List.set_cons_zero, List.set_cons_succ]
            refine take_lit (i := 43) (v := ?_) rfl (by kernel_rfl) (by kernel_rfl) (by kernel_rfl) (fun _ _ _ h => h) (Or.inl ⟨by rfl, ?_⟩) (by assumption) ?_
            rotate_left
            · (intro w hSw; (try dsimp only at hSw); go_simp <;> with_reducible rfl)
            try simp only [Act.put, List.setIfInBounds_toArray, List.set_cons_zero, List.set_cons_succ]
            refine take_lit (i := 44) (v := ?_) rfl (by kernel_rfl) (by kernel_rfl) (by kernel_rfl) (fun _ _ _ h => h) (Or.inl ⟨by rfl, ?_⟩) (by assumption) ?_
            rotate_left
            · (intro w hSw; (try dsimp only at hSw); go_simp <;> with_reducible rfl)
            try simp only [Act.put, List.setIfInBounds_toArray, List.set_cons_zero, List.set_cons_succ]
            refine wpAnyH_done (by kernel_rfl) ?_ _
            refine NoPanic.normal ?_
            go_wp2
            go_ret
            exact ⟨rfl, hHeld.1⟩
          exact AllReadyH.nil
        exact AllReadyH.nil
      exact AllReadyH.nil
    exact AllReadyH.nil
theorem takes_otherF (h : (a2 == 65535) = false) (hc : betB a1 a2 b1 b2 = false) (hne : ¬ (a1 = b1 ∧ a2 = b2)) (ht : (b2 == 65535) = false) : Calls Try.prog 8 #[.agg #[.int .u16 a1, .int .u16 a2], .agg #[.int .u16 b1, .int .u16 b2]] w (Gives w (.bool true)) := by
    have hf : feaB a1 a2 b1 b2 = false := (fea_fin h).trans hc
    have hkk : feaB b1 b2 b1 b2 = false := (fea_self b1 b2).trans ht
    have hc2 : betB b1 b2 a1 a2 = betB b1 b2 a1 a2 := rfl
    have he1 : ∀ w, (Op.equalIn 10000 33 (.agg #[.int .u16 b1, .int .u16 b2]) (.agg #[.int .u16 b1, .int .u16 b2])).run Try.prog w = .ok true w := fun w => by rw [eqD 9998]; simp
    have he2 : ∀ w, (Op.equalIn 10000 33 (.agg #[.int .u16 b1, .int .u16 b2]) (.agg #[.int .u16 a1, .int .u16 a2])).run Try.prog w = .ok false w := fun w => by rw [eqD 9998, show (b1 == a1 && b2 == a2) = false by rw [Bool.and_eq_false_iff]; simp only [beq_eq_false_iff_ne]; omega]
    have hk : (if betB a1 a2 b1 b2 = true then Value.agg #[.int .u16 a1, .int .u16 a2] else .agg #[.int .u16 b1, .int .u16 b2]) = .agg #[.int .u16 b1, .int .u16 b2] := by rw [hc, if_neg (by simp)]
    have hn : (b2 != 65535) = true := by unfold bne; rw [ht]; rfl
    clear hne
    have hb : Below w.heap.size w ((w.alloc (.cells #[.int .u16 a1, .int .u16 a2] 33)).alloc (.cells #[.int .u16 b1, .int .u16 b2] 33)) := ((Below.refl _ _).alloc (Nat.le_refl _) _).alloc (by simp) _
    have qa : LD ((w.alloc (.cells #[.int .u16 a1, .int .u16 a2] 33)).alloc (.cells #[.int .u16 b1, .int .u16 b2] 33)) w.heap.size a1 a2 := LD.range ((Row.new w 33 [.int .u16 a1, .int .u16 a2]).alloc _)
    have qb : LD ((w.alloc (.cells #[.int .u16 a1, .int .u16 a2] 33)).alloc (.cells #[.int .u16 b1, .int .u16 b2] 33)) (w.heap.size + 1) b1 b2 := by
      have := Row.new (w.alloc (.cells #[.int .u16 a1, .int .u16 a2] 33)) 33 [.int .u16 b1, .int .u16 b2]
      simp only [World.size_alloc] at this
      exact LD.range this
    go_enter Try.func8, Try.ntmps8
    go_wp2_with (first
      | (refine ldD (.tmp 2) (by rfl) rfl _ a1 a2 rfl qa ?_)
      | (go_at_call 21; refine (keep_some _ _ _ _ _ _ qb).mono ?_; rintro e w3 ⟨rfl, hw⟩; rw [hk]; replace qa := qa.below hw (by rw [World.size_alloc, World.size_alloc]; omega); replace qb := qb.below hw (by rw [World.size_alloc, World.size_alloc]; omega); replace hb := hb.trans (hw.mono (by rw [World.size_alloc, World.size_alloc]; omega)); have hs : w.heap.size + 2 ≤ w3.heap.size := by have := hw.size; simp at this; omega
         clear hw)
      | (refine stD (.tmp 5) (.tmp 15) (by rfl) rfl _ b1 b2 0 0 rfl rfl (Row.new w3 33 [.int .u16 0, .int .u16 0]) ?_; intro w4 hw4 r1; have hw := ((Below.refl _ _).alloc (Nat.le_refl w3.heap.size) (.cells #[.int .u16 0, .int .u16 0] 33)).trans hw4; clear hw4; replace qa := qa.below hw (by omega); replace qb := qb.below hw (by omega); replace hb := hb.trans (hw.mono (by omega)); clear hw))
    have hg : w3.heap.size < w4.heap.size := r1.lt
    have qk : LD w4 w3.heap.size b1 b2 := LD.range r1
    clear r1
    generalize w3.heap.size = g at *
    have HB : Hid (∀ W, W = w4.drew → Below w.heap.size w W ∧ LD W w.heap.size a1 a2 ∧ LD W (w.heap.size + 1) b1 b2 ∧ LD W g b1 b2 ∧ W.cell? ⟨g, 1, none⟩ = some (.int .u16 b2) ∧ w.heap.size + 2 ≤ W.heap.size ∧ g < W.heap.size) := by
      rintro W rfl
      have h := (Below.refl w4.heap.size w4).drew
      exact ⟨hb.drew, qa.below h (by omega), qb.below h (by omega), qk.below h hg, (qk.below h hg).two, by show _ ≤ w4.heap.size; omega, hg⟩
    have HK : Hid (∀ W W', (Below w.heap.size w W ∧ LD W w.heap.size a1 a2 ∧ LD W (w.heap.size + 1) b1 b2 ∧ LD W g b1 b2 ∧ W.cell? ⟨g, 1, none⟩ = some (.int .u16 b2) ∧ w.heap.size + 2 ≤ W.heap.size ∧ g < W.heap.size) → Below W.heap.size W W' → Below w.heap.size w W' ∧ LD W' w.heap.size a1 a2 ∧ LD W' (w.heap.size + 1) b1 b2 ∧ LD W' g b1 b2 ∧ W'.cell? ⟨g, 1, none⟩ = some (.int .u16 b2) ∧ w.heap.size + 2 ≤ W'.heap.size ∧ g < W'.heap.size) :=
      fun W W' h k => ⟨h.1.trans (k.mono (by omega)), h.2.1.below k (by omega), h.2.2.1.below k (by omega), h.2.2.2.1.below k (by omega), (h.2.2.2.1.below k (by omega)).two, Nat.le_trans h.2.2.2.2.2.1 k.size, Nat.lt_of_lt_of_le h.2.2.2.2.2.2 k.size⟩
    clear qa qb qk hb
    refine wp_region_noPanic ?_
    refine wp_region_held_drew (S := fun W => Below w.heap.size w W ∧ LD W w.heap.size a1 a2 ∧ LD W (w.heap.size + 1) b1 b2 ∧ LD W g b1 b2 ∧ W.cell? ⟨g, 1, none⟩ = some (.int .u16 b2) ∧ w.heap.size + 2 ≤ W.heap.size ∧ g < W.heap.size) (by kernel_rfl) (HB.out _ rfl) (fun hHeld => ?_)
    refine take_lit (i := 0) rfl (by kernel_rfl) (by kernel_rfl) (by kernel_rfl) (fun _ _ _ h => h) (yD b1 b2 (fun w h => h.2.2.2.1) (by rfl) rfl rfl) (by assumption) ?_
    try simp only [Act.put, List.setIfInBounds_toArray, List.set_cons_zero, List.set_cons_succ]
    refine take_lit (i := 1) rfl (by kernel_rfl) (by kernel_rfl) (by kernel_rfl) (fun _ _ _ h => h) (yD a1 a2 (fun w h => h.2.1) (by rfl) rfl rfl) (by assumption) ?_
    try simp only [Act.put, List.setIfInBounds_toArray, List.set_cons_zero, List.set_cons_succ]
    refine take_lit (i := 2) (v := ?_) rfl (by kernel_rfl) (by kernel_rfl) (by kernel_rfl) (fun _ _ _ h => h) (Or.inl ⟨by rfl, ?_⟩) (by assumption) ?_
    rotate_left
    · (intro w hSw; (try dsimp only at hSw); go_simp <;> with_reducible rfl)
    try simp only [Act.put, List.setIfInBounds_toArray, List.set_cons_zero, List.set_cons_succ]
    refine take_lit (i := 3) (v := ?_) rfl (by kernel_rfl) (by kernel_rfl) (by kernel_rfl) (fun _ _ _ h => h) (Or.inl ⟨by rfl, ?_⟩) (by assumption) ?_
    rotate_left
    · (intro w hSw; (try dsimp only at hSw); go_simp <;> with_reducible rfl)
    try simp only [Act.put, List.setIfInBounds_toArray, List.set_cons_zero, List.set_cons_succ]
    refine take_lit (i := 4) rfl (by kernel_rfl) (by kernel_rfl) (by kernel_rfl) (fun _ _ _ h => h) (yD b1 b2 (fun w h => h.2.2.2.1) (by rfl) rfl rfl) (by assumption) ?_
    try simp only [Act.put, List.setIfInBounds_toArray, List.set_cons_zero, List.set_cons_succ]
    refine take_lit (i := 5) rfl (by kernel_rfl) (by kernel_rfl) (by kernel_rfl) (fun _ _ _ h => h) (yD b1 b2 (fun w h => h.2.2.1) (by rfl) rfl rfl) (by assumption) ?_
    try simp only [Act.put, List.setIfInBounds_toArray, List.set_cons_zero, List.set_cons_succ]
    refine take_lit (i := 6) (v := ?_) rfl (by kernel_rfl) (by kernel_rfl) (by kernel_rfl) (fun _ _ _ h => h) (Or.inl ⟨by rfl, ?_⟩) (by assumption) ?_
    rotate_left
    · (intro w hSw; (try dsimp only at hSw); go_simp <;> with_reducible rfl)
    try simp only [Act.put, List.setIfInBounds_toArray, List.set_cons_zero, List.set_cons_succ]
    refine take_lit (i := 7) (v := ?_) rfl (by kernel_rfl) (by kernel_rfl) (by kernel_rfl) (fun _ _ _ h => h) (Or.inl ⟨by rfl, ?_⟩) (by assumption) ?_
    rotate_left
    · (intro w hSw; (try dsimp only at hSw); go_simp <;> with_reducible rfl)
    try simp only [Act.put, List.setIfInBounds_toArray, List.set_cons_zero, List.set_cons_succ]
    refine take_lit (i := 8) (v := ?_) rfl (by kernel_rfl) (by kernel_rfl) (by kernel_rfl) (fun _ _ _ h => h) (Or.inl ⟨by rfl, ?_⟩) (by assumption) ?_
    rotate_left
    · (intro w hSw; (try dsimp only at hSw); go_simp <;> with_reducible rfl)
    try simp only [Act.put, List.setIfInBounds_toArray, List.set_cons_zero, List.set_cons_succ]
    refine take_lit (i := 9) rfl (by kernel_rfl) (by kernel_rfl) (by kernel_rfl) (fun _ _ _ h => h) (yD a1 a2 (fun w h => h.2.1) (by rfl) rfl rfl) (by assumption) ?_
    try simp only [Act.put, List.setIfInBounds_toArray, List.set_cons_zero, List.set_cons_succ]
    refine take_lit (i := 11) rfl (by kernel_rfl) (by kernel_rfl) (by kernel_rfl) (fun _ _ _ h => h) (yD b1 b2 (fun w h => h.2.2.2.1) (by rfl) rfl rfl) (by assumption) ?_
    try simp only [Act.put, List.setIfInBounds_toArray, List.set_cons_zero, List.set_cons_succ]
    refine take_lit (i := 12) rfl (by kernel_rfl) (by kernel_rfl) (by kernel_rfl) (fun _ _ _ h => h) (yD a1 a2 (fun w h => h.2.1) (by rfl) rfl rfl) (by assumption) ?_
    try simp only [Act.put, List.setIfInBounds_toArray, List.set_cons_zero, List.set_cons_succ]
    refine take_lit (i := 13) (v := ?_) rfl (by kernel_rfl) (by kernel_rfl) (by kernel_rfl) (fun _ _ _ h => h) (Or.inl ⟨by rfl, ?_⟩) (by assumption) ?_
    rotate_left
    · (intro w hSw; (try dsimp only at hSw); go_simp <;> with_reducible rfl)
    try simp only [Act.put, List.setIfInBounds_toArray, List.set_cons_zero, List.set_cons_succ]
    refine wpAnyH_ready (rs := [10]) (by kernel_rfl) (by simp) ?_
    refine cons_lit rfl (fun K hK => ?_) ?_
    · go_simp
      refine (feas_some _ _ _ _ _ _ hHeld.2.2.1).mono ?_
      rintro e w1 ⟨rfl, hB1⟩
      rw [hf]
      refine hK.out _ _ ?_ (fun hHeld => ?_)
      · exact HK.out _ _ hHeld hB1
      clear hK K
      try simp only [Act.put, List.setIfInBounds_toArray, List.set_cons_zero, List.set_cons_succ]
      refine take_lit (i := 14) (v := ?_) rfl (by kernel_rfl) (by kernel_rfl) (by kernel_rfl) (fun _ _ _ h => h) (Or.inl ⟨by rfl, ?_⟩) (by assumption) ?_
      rotate_left
      · (intro w hSw; (try dsimp only at hSw); go_simp <;> with_reducible rfl)
      try simp only [Act.put, List.setIfInBounds_toArray, List.set_cons_zero, List.set_cons_succ]
      refine take_lit (i := 15) rfl (by kernel_rfl) (by kernel_rfl) (by kernel_rfl) (fun _ _ _ h => h) (Or.inr ⟨by rfl, rfl⟩) (by assumption) ?_
      try simp only [Act.put, List.setIfInBounds_toArray, List.set_cons_zero, List.set_cons_succ]
      refine take_lit (i := 16) rfl (by kernel_rfl) (by kernel_rfl) (by kernel_rfl) (fun _ _ _ h => h) (Or.inr ⟨by rfl, rfl⟩) (by assumption) ?_
      try simp only [Act.put, List.setIfInBounds_toArray, List.set_cons_zero, List.set_cons_succ]
      refine take_lit (i := 17) rfl (by kernel_rfl) (by kernel_rfl) (by kernel_rfl) (fun _ _ _ h => h) (Or.inr ⟨by rfl, rfl⟩) (by assumption) ?_
      try simp only [Act.put, List.setIfInBounds_toArray, List.set_cons_zero, List.set_cons_succ]
      refine take_lit (i := 18) (v := ?_) rfl (by kernel_rfl) (by kernel_rfl) (by kernel_rfl) (fun _ _ _ h => h) (Or.inl ⟨by rfl, ?_⟩) (by assumption) ?_
      rotate_left
      · (intro w hSw; (try dsimp only at hSw); go_simp <;> with_reducible rfl)
      try simp only [Act.put, List.setIfInBounds_toArray, List.set_cons_zero, List.set_cons_succ]
      refine take_lit (i := 19) (v := ?_) rfl (by kernel_rfl) (by kernel_rfl) (by kernel_rfl) (fun _ _ _ h => h) (Or.inl ⟨by rfl, ?_⟩) (by assumption) ?_
      rotate_left
      · (intro w hSw; (try dsimp only at hSw); go_simp <;> with_reducible rfl)
      try simp only [Act.put, List.setIfInBounds_toArray, List.set_cons_zero, List.set_cons_succ]
      refine take_lit (i := 20) (v := ?_) rfl (by kernel_rfl) (by kernel_rfl) (by kernel_rfl) (fun _ _ _ h => h) (Or.inl ⟨by rfl, ?_⟩) (by assumption) ?_
      rotate_left
      · (intro w hSw; (try dsimp only at hSw); go_simp <;> with_reducible rfl)
      try simp only [Act.put, List.setIfInBounds_toArray, List.set_cons_zero, List.set_cons_succ]
      refine take_lit (i := 21) (v := ?_) rfl (by kernel_rfl) (by kernel_rfl) (by kernel_rfl) (fun _ _ _ h => h) (Or.inl ⟨by rfl, ?_⟩) (by assumption) ?_
      rotate_left
      · (intro w hSw; (try dsimp only at hSw); go_simp <;> with_reducible rfl)
      try simp only [Act.put, List.setIfInBounds_toArray, List.set_cons_zero, List.set_cons_succ]
      refine take_lit (i := 22) rfl (by kernel_rfl) (by kernel_rfl) (by kernel_rfl) (fun _ _ _ h => h) (yD b1 b2 (fun w h => h.2.2.2.1) (by rfl) rfl rfl) (by assumption) ?_
      try simp only [Act.put, List.setIfInBounds_toArray, List.set_cons_zero, List.set_cons_succ]
      refine take_lit (i := 25) (v := ?_) rfl (by kernel_rfl) (by kernel_rfl) (by kernel_rfl) (fun _ _ _ h => h) (Or.inl ⟨by rfl, ?_⟩) (by assumption) ?_
      rotate_left
      · (intro w hSw; (try dsimp only at hSw); go_simp <;> with_reducible rfl)
      try simp only [Act.put, List.setIfInBounds_toArray, List.set_cons_zero, List.set_cons_succ]
      refine take_lit (i := 26) (v := ?_) rfl (by kernel_rfl) (by kernel_rfl) (by kernel_rfl) (fun _ _ _ h => h) (Or.inl ⟨by rfl, ?_⟩) (by assumption) ?_
      rotate_left
      · (intro w hSw; (try dsimp only at hSw); go_simp <;> with_reducible rfl)
      try simp only [Act.put, List.setIfInBounds_toArray, List.set_cons_zero, List.set_cons_succ]
      refine take_lit (i := 27) (v := ?_) rfl (by kernel_rfl) (by kernel_rfl) (by kernel_rfl) (fun _ _ _ h => h) (Or.inl ⟨by rfl, ?_⟩) (by assumption) ?_
      rotate_left
      · (intro w hSw; (try dsimp only at hSw); go_simp <;> with_reducible rfl)
      try simp only [Act.put, List.setIfInBounds_toArray, List.set_cons_zero, List.set_cons_succ]
      refine wpAnyH_ready (rs := [23]) (by kernel_rfl) (by simp) ?_
      refine cons_lit rfl (fun K hK => ?_) ?_
      · go_simp
        refine (feas_some _ _ _ _ _ _ hHeld.2.2.2.1).mono ?_
        rintro e w1 ⟨rfl, hB1⟩
        rw [hkk]
        refine hK.out _ _ ?_ (fun hHeld => ?_)
        · exact HK.out _ _ hHeld hB1
        clear hK K
        try simp only [Act.put, List.setIfInBounds_toArray, List.set_cons_zero, List.set_cons_succ]
        refine take_lit (i := 24) (v := ?_) rfl (by kernel_rfl) (by kernel_rfl) (by kernel_rfl) (fun _ _ _ h => h) (Or.inl ⟨by rfl, ?_⟩) (by assumption) ?_
        rotate_left
        · (intro w hSw; (try dsimp only at hSw); go_simp <;> with_reducible rfl)
        try simp only [Act.put, List.setIfInBounds_toArray, List.set_cons_zero, List.set_cons_succ]
        refine take_lit (i := 28) (v := ?_) rfl (by kernel_rfl) (by kernel_rfl) (by kernel_rfl) (fun _ _ _ h => h) (Or.inl ⟨by rfl, ?_⟩) (by assumption) ?_
        rotate_left
        · (intro w hSw; (try dsimp only at hSw); go_simp <;> with_reducible rfl)
        try simp only [Act.put, List.setIfInBounds_toArray, List.set_cons_zero, List.set_cons_succ]
        refine take_lit (i := 29) (v := ?_) rfl (by kernel_rfl) (by kernel_rfl) (by kernel_rfl) (fun _ _ _ h => h) (Or.inl ⟨by rfl, ?_⟩) (by assumption) ?_
        rotate_left
        · (intro w hSw; (try dsimp only at hSw); go_simp <;> with_reducible rfl)
        try simp only [Act.put, List.setIfInBounds_toArray, List.set_cons_zero, List.set_cons_succ]
        refine take_lit (i := 30) (v := ?_) rfl (by kernel_rfl) (by kernel_rfl) (by kernel_rfl) (fun _ _ _ h => h) (Or.inl ⟨by rfl, ?_⟩) (by assumption) ?_
        rotate_left
        · (intro w hSw; (try dsimp only at hSw); go_simp <;> with_reducible rfl)
        try simp only [Act.put, List.setIfInBounds_toArray, List.set_cons_zero, List.set_cons_succ]
        refine take_lit (i := 31) rfl (by kernel_rfl) (by kernel_rfl) (by kernel_rfl) (fun _ _ _ h => h) (yD a1 a2 (fun w h => h.2.1) (by rfl) rfl rfl) (by assumption) ?_
        try simp only [Act.put, List.setIfInBounds_toArray, List.set_cons_zero, List.set_cons_succ]
        refine take_lit (i := 32) rfl (by kernel_rfl) (by kernel_rfl) (by kernel_rfl) (fun _ _ _ h => h) (yD b1 b2 (fun w h => h.2.2.1) (by rfl) rfl rfl) (by assumption) ?_
        try simp only [Act.put, List.setIfInBounds_toArray, List.set_cons_zero, List.set_cons_succ]
        refine wpAnyH_ready (rs := [33]) (by kernel_rfl) (by simp) ?_
        refine cons_lit rfl (fun K hK => ?_) ?_
        · go_simp
          refine (better_any _ _ _ _ _).mono ?_
          rintro e w1 ⟨rfl, hB1⟩
          rw [hc]
          refine hK.out _ _ ?_ (fun hHeld => ?_)
          · exact HK.out _ _ hHeld hB1
          clear hK K
          try simp only [Act.put, List.setIfInBounds_toArray, List.set_cons_zero, List.set_cons_succ]
          refine take_lit (i := 34) (v := ?_) rfl (by kernel_rfl) (by kernel_rfl) (by kernel_rfl) (fun _ _ _ h => h) (Or.inl ⟨by rfl, ?_⟩) (by assumption) ?_
          rotate_left
          · (intro w hSw; (try dsimp only at hSw); go_simp <;> with_reducible rfl)
          try simp only [Act.put, List.setIfInBounds_toArray, List.set_cons_zero, List.set_cons_succ]
          refine take_lit (i := 35) rfl (by kernel_rfl) (by kernel_rfl) (by kernel_rfl) (fun _ _ _ h => h) (Or.inr ⟨by rfl, rfl⟩) (by assumption) ?_
          try simp only [Act.put, List.setIfInBounds_toArray, List.set_cons_zero, List.set_cons_succ]
          refine take_lit (i := 36) rfl (by kernel_rfl) (by kernel_rfl) (by kernel_rfl) (fun _ _ _ h => h) (Or.inr ⟨by rfl, rfl⟩) (by assumption) ?_
          try simp only [Act.put, List.setIfInBounds_toArray, List.set_cons_zero, List.set_cons_succ]
          refine take_lit (i := 37) rfl (by kernel_rfl) (by kernel_rfl) (by kernel_rfl) (fun _ _ _ h => h) (Or.inr ⟨by rfl, rfl⟩) (by assumption) ?_
          try simp only [Act.put, List.setIfInBounds_toArray, List.set_cons_zero, List.set_cons_succ]
          refine take_lit (i := 38) (v := ?_) rfl (by kernel_rfl) (by kernel_rfl) (by kernel_rfl) (fun _ _ _ h => h) (Or.inl ⟨by rfl, ?_⟩) (by assumption) ?_
          rotate_left
          · (intro w hSw; (try dsimp only at hSw); go_simp <;> with_reducible rfl)
          try simp only [Act.put, List.setIfInBounds_toArray, List.set_cons_zero, List.set_cons_succ]
          refine take_lit (i := 39) (v := ?_) rfl (by kernel_rfl) (by kernel_rfl) (by kernel_rfl) (fun _ _ _ h => h) (Or.inl ⟨by rfl, ?_⟩) (by assumption) ?_
          rotate_left
          · (intro w hSw; (try dsimp only at hSw); go_simp <;> with_reducible rfl)
          try simp only [Act.put, List.setIfInBounds_toArray, List.set_cons_zero, List.set_cons_succ]
          refine take_lit (i := 40) (v := ?_) rfl (by kernel_rfl) (by kernel_rfl) (by kernel_rfl) (fun _ _ _ h => h) (Or.inl ⟨by rfl, ?_⟩) (by assumption) ?_
          rotate_left
          · (intro w hSw; (try dsimp only at hSw); go_simp <;> with_reducible rfl)
          try simp only [Act.put, List.setIfInBounds_toArray, List.set_cons_zero, List.set_cons_succ]
          refine take_lit (i := 41) (v := ?_) rfl (by kernel_rfl) (by kernel_rfl) (by kernel_rfl) (fun _ _ _ h => h) (Or.inl ⟨by rfl, ?_⟩) (by assumption) ?_
          rotate_left
          · (intro w hSw; (try dsimp only at hSw); go_simp <;> with_reducible rfl)
          try simp only [Act.put, List.setIfInBounds_toArray, List.set_cons_zero, List.set_cons_succ]
          refine wpAnyH_ready (rs := [42]) (by kernel_rfl) (by simp) ?_
          refine cons_lit rfl (fun K hK => ?_) ?_
          · go_simp
            refine (live_any _).mono ?_
            rintro e w1 ⟨rfl, hB1⟩
            refine hK.out _ _ ?_ (fun hHeld => ?_)
            · exact HK.out _ _ hHeld hB1
            clear hK K
            try simp only [Act.put, List.setIfInBounds_toArray, List.set_cons_zero, List.set_cons_succ]
            refine take_lit (i := 43) (v := ?_) rfl (by kernel_rfl) (by kernel_rfl) (by kernel_rfl) (fun _ _ _ h => h) (Or.inl ⟨by rfl, ?_⟩) (by assumption) ?_
            rotate_left
            · (intro w hSw; (try dsimp only at hSw); go_simp <;> with_reducible rfl)
            try simp only [Act.put, List.setIfInBounds_toArray, List.set_cons_zero, List.set_cons_succ]
            refine take_lit (i := 44) (v := ?_) rfl (by kernel_rfl) (by kernel_rfl) (by kernel_rfl) (fun _ _ _ h => h) (Or.inl ⟨by rfl, ?_⟩) (by assumption) ?_
            rotate_left
            · (intro w hSw; (try dsimp only at hSw); go_simp <;> with_reducible rfl)
            try simp only [Act.put, List.setIfInBounds_toArray, List.set_cons_zero, List.set_cons_succ]
            refine wpAnyH_done (by kernel_rfl) ?_ _
            refine NoPanic.normal ?_
            go_wp2
            go_ret
            exact ⟨rfl, hHeld.1⟩
          exact AllReadyH.nil
        exact AllReadyH.nil
      exact AllReadyH.nil
    exact AllReadyH.nil
theorem takes_walk : Calls Try.prog 8 #[.agg #[.int .u16 a1, .int .u16 a2], .agg #[.int .u16 b1, .int .u16 b2]] w (Gives w (.bool true)) := by
  cases h : (a2 == 65535) with
  | true => exact takes_inf a1 a2 b1 b2 w h
  | false =>
    cases hc : betB a1 a2 b1 b2 with
    | true => exact takes_better a1 a2 b1 b2 w h hc
    | false =>
      by_cases hne : a1 = b1 ∧ a2 = b2
      · obtain ⟨rfl, rfl⟩ := hne
        exact takes_same a1 a2 w h
      · cases ht : (b2 == 65535) with
        | true => exact takes_otherT a1 a2 b1 b2 w h hc hne ht
        | false => exact takes_otherF a1 a2 b1 b2 w h hc hne ht
end
end Go.Proofs.Ytodemeilmaoodaa
