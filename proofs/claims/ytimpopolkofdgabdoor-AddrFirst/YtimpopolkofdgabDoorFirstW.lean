/-
  AddrFirst: the walk, for every address and every two numbers.
-/
import Derived.Test.YtimpopolkofdgabDoorOfW
import Derived.Test.YtimpopolkofdgabDoorLiveF
namespace Go.Proofs.YtimpopolkofdgabDoor
open Go.RowKit Go.Shelf
set_option linter.unusedSimpArgs false
set_option maxRecDepth 20000
theorem famA_4 (a : Ad) : famA a = 4 ↔ cutA a 96 = mapA := by
  unfold famA
  constructor
  · intro h
    split at h
    · rename_i hh; exact Ad.ext hh
    · cases h
  · intro h
    rw [if_pos (by rw [h])]
theorem famA_or (a : Ad) : famA a = 4 ∨ famA a = 6 := by
  unfold famA
  split <;> simp
/-- What holds of the prefixes of an address's first bits. -/
theorem first_pure (a : Ad) (n m : Int) (h1 : 0 ≤ n ∧ n ≤ 128 - ahead a) (h2 : 0 ≤ m ∧ m ≤ 128 - ahead a) (p q : Pf) (hp : p = ⟨cutA a (ahead a + n).toNat, ahead a + n⟩) (hq : q = ⟨cutA a (ahead a + m).toNat, ahead a + m⟩) :
    chk p = 0 ∧ con p a = true ∧ famP p = famA a ∧ cov p q = decide (n ≤ m) ∧ cov (anyP (famA a)) p = true := by
  have ha : ahead a = 96 ∧ famA a = 4 ∨ ahead a = 0 ∧ famA a = 6 := by
    unfold ahead
    rcases famA_or a with h | h
    · exact .inl ⟨by rw [if_pos h], h⟩
    · exact .inr ⟨by rw [if_neg (by rw [h]; decide)], h⟩
  obtain ⟨h, hh⟩ : ∃ h, h = ahead a := ⟨_, rfl⟩
  rw [← hh] at h1 h2 hp hq ha
  have cp : chk p = 0 := (chk_iff p).2 (by
    subst hp
    dsimp only
    exact ⟨by omega, by omega, by rw [cutA_cutA, Nat.min_self]⟩)
  have cq : chk q = 0 := (chk_iff q).2 (by
    subst hq
    dsimp only
    exact ⟨by omega, by omega, by rw [cutA_cutA, Nat.min_self]⟩)
  have kp : con p a = true := (con_iff p a).2 ⟨cp, by subst hp; rfl⟩
  refine ⟨cp, kp, ?_, ?_, ?_⟩
  · rcases ha with ⟨e, f⟩ | ⟨e, f⟩
    · rw [f, famP, if_pos]
      subst hp
      refine ⟨by show 96 ≤ h + n; omega, (famA_4 _).2 ?_⟩
      rw [cutA_cutA, Nat.min_eq_right (by omega)]
      exact (famA_4 a).1 f
    · rw [f, famP, if_neg]
      rintro ⟨k1, k2⟩
      have k3 := (famA_4 _).1 k2
      subst hp
      dsimp only at k1 k3
      rw [cutA_cutA, Nat.min_eq_right (by omega)] at k3
      rw [(famA_4 a).2 k3] at f
      cases f
  · rw [Bool.eq_iff_iff, cov_iff, decide_eq_true_eq]
    constructor
    · rintro ⟨_, k, _⟩
      subst hp hq
      dsimp only at k
      omega
    · intro k
      refine ⟨cq, by subst hp hq; show h + n ≤ h + m; omega, (con_iff p q.a).2 ⟨cp, ?_⟩⟩
      subst hp hq
      dsimp only
      rw [cutA_cutA, Nat.min_eq_right (by omega)]
  · rw [cov_iff]
    refine ⟨cp, ?_, (con_iff _ _).2 ⟨?_, ?_⟩⟩
    · rcases ha with ⟨e, f⟩ | ⟨e, f⟩ <;> rw [f] <;> subst hp <;> show _ ≤ h + n <;> simp [anyP] <;> omega
    · rcases ha with ⟨e, f⟩ | ⟨e, f⟩ <;> rw [f] <;> kernel_rfl
    · rcases ha with ⟨e, f⟩ | ⟨e, f⟩
      · rw [f]
        subst hp
        show cutA (cutA a (h + n).toNat) 96 = mapA
        rw [cutA_cutA, Nat.min_eq_right (by omega)]
        exact (famA_4 a).1 f
      · rw [f]
        show cutA p.a 0 = zeroA
        exact cutA_zero _
set_option maxHeartbeats 32000000 in
theorem first_main (a : Ad) (n m : Int) (p q : Pf) (e f : Int) (F : Int) (u : Pf) (w : World) (hL : ∀ W, Below w.heap.size w W → Calls Tryd.prog 7 #[] W (Gives W (.bool true)))
    (hO1 : ∀ W, Calls Tryd.prog 5 #[(Value.agg (acells a).toArray), .int .i64 n] W (Gives W (.tuple #[(Value.agg (pcells p).toArray), .int .i64 e]))) (hO2 : ∀ W, Calls Tryd.prog 5 #[(Value.agg (acells a).toArray), .int .i64 m] W (Gives W (.tuple #[(Value.agg (pcells q).toArray), .int .i64 f])))
    (hways : e = 2 ∧ p = zeroP ∧ f = 0 ∨ e = 2 ∧ p = zeroP ∧ f = 2 ∧ q = zeroP ∨ e = 0 ∧ f = 2 ∧ q = zeroP ∨ e = 0 ∧ f = 0 ∧ (∀ W, Calls Tryd.prog 8 #[(Value.agg (pcells p).toArray)] W (Gives W (.int .i64 0))) ∧ (∀ W, Calls Tryd.prog 9 #[(Value.agg (pcells p).toArray), (Value.agg (acells a).toArray)] W (Gives W (.bool true))) ∧ (∀ W, Calls Tryd.prog 10 #[(Value.agg (pcells p).toArray)] W (Gives W (.int .i64 F))) ∧ (∀ W, Calls Tryd.prog 12 #[(Value.agg (pcells p).toArray), (Value.agg (pcells q).toArray)] W (Gives W (.bool (decide (n ≤ m))))) ∧ (∀ W, Calls Tryd.prog 12 #[(Value.agg (pcells u).toArray), (Value.agg (pcells p).toArray)] W (Gives W (.bool true))))
    (hF : ∀ W, Calls Tryd.prog 11 #[(Value.agg (acells a).toArray)] W (Gives W (.int .i64 F))) (hY : ∀ W, Calls Tryd.prog 13 #[.int .i64 F] W (Gives W (Value.agg (pcells u).toArray))) :
    Calls Tryd.prog 3 #[(Value.agg (acells a).toArray), .int .i64 n, .int .i64 m] w (Gives w (.bool true)) := by
  have hA := LA.new w a 23
  have hb0 := Below.refl (w.alloc (.cells (acells a).toArray 23)).heap.size (w.alloc (.cells (acells a).toArray 23))
  have HB : Hid (∀ W, Below (w.alloc (.cells (acells a).toArray 23)).heap.size (w.alloc (.cells (acells a).toArray 23)) W → Below w.heap.size w W ∧ LA W w.heap.size 0 a) := fun W h => ⟨bt (ba _ _) h, hA.below h (by simp)⟩
  clear hA
  have ez : ∀ w, (Op.equalIn (9997 + 3) 25 (Value.agg (pcells zeroP).toArray) (.agg #[.int .u8 0, .int .u8 0, .int .u8 0, .int .u8 0, .int .u8 0, .int .u8 0, .int .u8 0, .int .u8 0, .int .u8 0, .int .u8 0, .int .u8 0, .int .u8 0, .int .u8 0, .int .u8 0, .int .u8 0, .int .u8 0, .int .i64 0])).run Tryd.prog w = .ok true w := fun w => (eqP 9997 zeroP zeroP w).trans (by simp)
  have hn0 := num_any 0 (by decide) (by decide)
  have hn2 := num_any 2 (by decide) (by decide)
  rcases hways with ⟨rfl, rfl, rfl⟩ | ⟨rfl, rfl, rfl, rfl⟩ | ⟨rfl, rfl, rfl⟩ | ⟨rfl, rfl, hK1, hK2, hK3, hK4, hK5⟩
  all_goals go_enter Tryd.func3, Tryd.ntmps3
  all_goals go_wp2_with (first
      | (refine ldA (.tmp 3) (by rfl) rfl _ _ a rfl (HB.out _ hb0).2 ?_)
      | (refine ldP (.tmp 7) (by rfl) rfl _ _ _ rfl r7.range ?_)
      | (refine ldP (.tmp 9) (by rfl) rfl _ _ _ rfl r9.range ?_)
      | (have k1 := hW2; refine stPq (.tmp 9) (.tmp 21) (by rfl) rfl _ _ _ rfl rfl (Row.there (Row.new _ _ _) (by simp)) ?_; intro w4 hw4; have hst := hw4.out ▸ storedRowP w3 _ _ _ (by simp); clear hw4; obtain ⟨hB, r9, -⟩ := hst; replace hb0 := bt hb0 hB; replace r7 := r7.below hB r7.lt; clear hB k1)
      | (have k1 := hW1; refine stPq (.tmp 7) (.tmp 15) (by rfl) rfl _ _ _ rfl rfl (Row.there (Row.new _ _ _) (by simp)) ?_; intro w2 hw2; have hst := hw2.out ▸ storedRowP w1 _ _ _ (by simp); clear hw2; obtain ⟨hB, r7, -⟩ := hst; replace hb0 := bt hb0 hB; clear hB k1)
      | (go_at_call 7; refine (hL _ (HB.out _ hb0).1).mono ?_; rintro e w12 ⟨rfl, hB⟩; replace hb0 := bt hb0 hB; clear hB)
      | (go_at_call 5; have k7 := r7; refine (hO2 _).mono ?_; rintro e w3 ⟨rfl, hW2⟩; replace hb0 := bt hb0 hW2; replace r7 := r7.below hW2 r7.lt; clear k7)
      | (go_at_call 5; refine (hO1 _).mono ?_; rintro e w1 ⟨rfl, hW1⟩; replace hb0 := bt hb0 hW1)
      | (go_at_call 6; (first | (with_reducible refine (hn0 _).mono ?_) | (with_reducible refine (hn2 _).mono ?_)); rintro e w13 ⟨rfl, rfl⟩))
  · go_ret; exact ⟨rfl, (HB.out _ hb0).1⟩
  · go_ret; exact ⟨rfl, (HB.out _ hb0).1⟩
  · go_ret; exact ⟨rfl, (HB.out _ hb0).1⟩
  · clear hW1 hW2
    have HK : Hid (∀ W, Below (World.heap _).size _ W → Below w.heap.size w W ∧ LA W w.heap.size 0 a ∧ LP W _ 0 p ∧ LP W _ 0 q) := fun W h => ⟨(HB.out _ (bt hb0 h)).1, (HB.out _ (bt hb0 h)).2, (r7.below h r7.lt).range, (r9.below h r9.lt).range⟩
    clear HB r7 r9 hO1 hO2
    refine wp_region_noPanic ?_
    refine wp_region_held_drew (S := fun W => Below w13.heap.size w13 W) (by kernel_rfl) ((Below.refl _ _).drew) (fun hHeld => ?_)
    refine take_lit (i := 0) rfl (by kernel_rfl) (by kernel_rfl) (by kernel_rfl) (fun _ _ _ h => h) (yP p (fun w h => (HK.out w h).2.2.1) (by rfl) rfl rfl) (by assumption) ?_
    try simp only [Act.put, List.setIfInBounds_toArray, List.set_cons_zero, List.set_cons_succ]
    refine wpAnyH_ready (rs := [1]) (by kernel_rfl) (by simp) ?_
    refine cons_lit rfl (fun K hK => ?_) ?_
    · go_simp
      refine (hK1 _).mono ?_
      rintro e x1 ⟨rfl, hB1⟩
      refine hK.out _ _ ?_ (fun hHeld => ?_)
      · exact bt hHeld hB1
      clear hK K
      try simp only [Act.put, List.setIfInBounds_toArray, List.set_cons_zero, List.set_cons_succ]
      refine wpAnyH_ready (rs := [2]) (by kernel_rfl) (by simp) ?_
      refine cons_lit rfl (fun K hK => ?_) ?_
      · go_simp
        refine (hn0 _).mono ?_
        rintro e x2 ⟨rfl, rfl⟩
        refine hK.out _ _ ?_ (fun hHeld => ?_)
        · exact hHeld
        clear hK K
        try simp only [Act.put, List.setIfInBounds_toArray, List.set_cons_zero, List.set_cons_succ]
        refine take_lit (i := 3) (v := ?_) rfl (by kernel_rfl) (by kernel_rfl) (by kernel_rfl) (fun _ _ _ h => h) (Or.inl ⟨by rfl, ?_⟩) (by assumption) ?_
        rotate_left
        · (intro w hSw; (try dsimp only at hSw); go_simp <;> with_reducible rfl)
        try simp only [Act.put, List.setIfInBounds_toArray, List.set_cons_zero, List.set_cons_succ]
        refine take_lit (i := 4) (v := ?_) rfl (by kernel_rfl) (by kernel_rfl) (by kernel_rfl) (fun _ _ _ h => h) (Or.inl ⟨by rfl, ?_⟩) (by assumption) ?_
        rotate_left
        · (intro w hSw; (try dsimp only at hSw); go_simp <;> with_reducible rfl)
        try simp only [Act.put, List.setIfInBounds_toArray, List.set_cons_zero, List.set_cons_succ]
        refine take_lit (i := 5) rfl (by kernel_rfl) (by kernel_rfl) (by kernel_rfl) (fun _ _ _ h => h) (yP p (fun w h => (HK.out w h).2.2.1) (by rfl) rfl rfl) (by assumption) ?_
        try simp only [Act.put, List.setIfInBounds_toArray, List.set_cons_zero, List.set_cons_succ]
        refine take_lit (i := 6) rfl (by kernel_rfl) (by kernel_rfl) (by kernel_rfl) (fun _ _ _ h => h) (yA a (fun w h => (HK.out w h).2.1) (by rfl) rfl rfl) (by assumption) ?_
        try simp only [Act.put, List.setIfInBounds_toArray, List.set_cons_zero, List.set_cons_succ]
        refine wpAnyH_ready (rs := [7]) (by kernel_rfl) (by simp) ?_
        refine cons_lit rfl (fun K hK => ?_) ?_
        · go_simp
          refine (hK2 _).mono ?_
          rintro e x7 ⟨rfl, hB7⟩
          refine hK.out _ _ ?_ (fun hHeld => ?_)
          · exact bt hHeld hB7
          clear hK K
          try simp only [Act.put, List.setIfInBounds_toArray, List.set_cons_zero, List.set_cons_succ]
          refine take_lit (i := 8) (v := ?_) rfl (by kernel_rfl) (by kernel_rfl) (by kernel_rfl) (fun _ _ _ h => h) (Or.inl ⟨by rfl, ?_⟩) (by assumption) ?_
          rotate_left
          · (intro w hSw; (try dsimp only at hSw); go_simp <;> with_reducible rfl)
          try simp only [Act.put, List.setIfInBounds_toArray, List.set_cons_zero, List.set_cons_succ]
          refine take_lit (i := 9) (v := ?_) rfl (by kernel_rfl) (by kernel_rfl) (by kernel_rfl) (fun _ _ _ h => h) (Or.inl ⟨by rfl, ?_⟩) (by assumption) ?_
          rotate_left
          · (intro w hSw; (try dsimp only at hSw); go_simp <;> with_reducible rfl)
          try simp only [Act.put, List.setIfInBounds_toArray, List.set_cons_zero, List.set_cons_succ]
          refine take_lit (i := 10) rfl (by kernel_rfl) (by kernel_rfl) (by kernel_rfl) (fun _ _ _ h => h) (yP p (fun w h => (HK.out w h).2.2.1) (by rfl) rfl rfl) (by assumption) ?_
          try simp only [Act.put, List.setIfInBounds_toArray, List.set_cons_zero, List.set_cons_succ]
          refine take_lit (i := 12) rfl (by kernel_rfl) (by kernel_rfl) (by kernel_rfl) (fun _ _ _ h => h) (yA a (fun w h => (HK.out w h).2.1) (by rfl) rfl rfl) (by assumption) ?_
          try simp only [Act.put, List.setIfInBounds_toArray, List.set_cons_zero, List.set_cons_succ]
          refine wpAnyH_ready (rs := [11]) (by kernel_rfl) (by simp) ?_
          refine cons_lit rfl (fun K hK => ?_) ?_
          · go_simp
            refine (hK3 _).mono ?_
            rintro e x11 ⟨rfl, hB11⟩
            refine hK.out _ _ ?_ (fun hHeld => ?_)
            · exact bt hHeld hB11
            clear hK K
            try simp only [Act.put, List.setIfInBounds_toArray, List.set_cons_zero, List.set_cons_succ]
            refine wpAnyH_ready (rs := [13]) (by kernel_rfl) (by simp) ?_
            refine cons_lit rfl (fun K hK => ?_) ?_
            · go_simp
              refine (hF _).mono ?_
              rintro e x13 ⟨rfl, hB13⟩
              refine hK.out _ _ ?_ (fun hHeld => ?_)
              · exact bt hHeld hB13
              clear hK K
              try simp only [Act.put, List.setIfInBounds_toArray, List.set_cons_zero, List.set_cons_succ]
              refine take_lit (i := 14) (v := ?_) rfl (by kernel_rfl) (by kernel_rfl) (by kernel_rfl) (fun _ _ _ h => h) (Or.inl ⟨by rfl, ?_⟩) (by assumption) ?_
              rotate_left
              · (intro w hSw; (try dsimp only at hSw); go_simp <;> with_reducible rfl)
              try simp only [Act.put, List.setIfInBounds_toArray, List.set_cons_zero, List.set_cons_succ]
              refine take_lit (i := 15) (v := ?_) rfl (by kernel_rfl) (by kernel_rfl) (by kernel_rfl) (fun _ _ _ h => h) (Or.inl ⟨by rfl, ?_⟩) (by assumption) ?_
              rotate_left
              · (intro w hSw; (try dsimp only at hSw); go_simp <;> with_reducible rfl)
              try simp only [Act.put, List.setIfInBounds_toArray, List.set_cons_zero, List.set_cons_succ]
              refine take_lit (i := 16) (v := ?_) rfl (by kernel_rfl) (by kernel_rfl) (by kernel_rfl) (fun _ _ _ h => h) (Or.inl ⟨by rfl, ?_⟩) (by assumption) ?_
              rotate_left
              · (intro w hSw; (try dsimp only at hSw); go_simp <;> with_reducible rfl)
              try simp only [Act.put, List.setIfInBounds_toArray, List.set_cons_zero, List.set_cons_succ]
              refine take_lit (i := 17) rfl (by kernel_rfl) (by kernel_rfl) (by kernel_rfl) (fun _ _ _ h => h) (yP p (fun w h => (HK.out w h).2.2.1) (by rfl) rfl rfl) (by assumption) ?_
              try simp only [Act.put, List.setIfInBounds_toArray, List.set_cons_zero, List.set_cons_succ]
              refine take_lit (i := 18) rfl (by kernel_rfl) (by kernel_rfl) (by kernel_rfl) (fun _ _ _ h => h) (yP q (fun w h => (HK.out w h).2.2.2) (by rfl) rfl rfl) (by assumption) ?_
              try simp only [Act.put, List.setIfInBounds_toArray, List.set_cons_zero, List.set_cons_succ]
              refine take_lit (i := 20) (v := ?_) rfl (by kernel_rfl) (by kernel_rfl) (by kernel_rfl) (fun _ _ _ h => h) (Or.inl ⟨by rfl, ?_⟩) (by assumption) ?_
              rotate_left
              · (intro w hSw; (try dsimp only at hSw); go_simp <;> with_reducible rfl)
              try simp only [Act.put, List.setIfInBounds_toArray, List.set_cons_zero, List.set_cons_succ]
              refine take_lit (i := 21) (v := ?_) rfl (by kernel_rfl) (by kernel_rfl) (by kernel_rfl) (fun _ _ _ h => h) (Or.inl ⟨by rfl, ?_⟩) (by assumption) ?_
              rotate_left
              · (intro w hSw; (try dsimp only at hSw); go_simp <;> with_reducible rfl)
              try simp only [Act.put, List.setIfInBounds_toArray, List.set_cons_zero, List.set_cons_succ]
              refine take_lit (i := 22) (v := ?_) rfl (by kernel_rfl) (by kernel_rfl) (by kernel_rfl) (fun _ _ _ h => h) (Or.inl ⟨by rfl, ?_⟩) (by assumption) ?_
              rotate_left
              · (intro w hSw; (try dsimp only at hSw); go_simp <;> with_reducible rfl)
              try simp only [Act.put, List.setIfInBounds_toArray, List.set_cons_zero, List.set_cons_succ]
              refine wpAnyH_ready (rs := [19]) (by kernel_rfl) (by simp) ?_
              refine cons_lit rfl (fun K hK => ?_) ?_
              · go_simp
                refine (hK4 _).mono ?_
                rintro e x19 ⟨rfl, hB19⟩
                refine hK.out _ _ ?_ (fun hHeld => ?_)
                · exact bt hHeld hB19
                clear hK K
                try simp only [Act.put, List.setIfInBounds_toArray, List.set_cons_zero, List.set_cons_succ]
                refine take_lit (i := 23) (v := ?_) rfl (by kernel_rfl) (by kernel_rfl) (by kernel_rfl) (fun _ _ _ h => h) (Or.inl ⟨by rfl, ?_⟩) (by assumption) ?_
                rotate_left
                · (intro w hSw; (try dsimp only at hSw); go_simp <;> with_reducible rfl)
                try simp only [Act.put, List.setIfInBounds_toArray, List.set_cons_zero, List.set_cons_succ]
                refine take_lit (i := 24) (v := ?_) rfl (by kernel_rfl) (by kernel_rfl) (by kernel_rfl) (fun _ _ _ h => h) (Or.inl ⟨by rfl, ?_⟩) (by assumption) ?_
                rotate_left
                · (intro w hSw; (try dsimp only at hSw); go_simp <;> with_reducible rfl)
                try simp only [Act.put, List.setIfInBounds_toArray, List.set_cons_zero, List.set_cons_succ]
                refine take_lit (i := 25) (v := ?_) rfl (by kernel_rfl) (by kernel_rfl) (by kernel_rfl) (fun _ _ _ h => h) (Or.inl ⟨by rfl, ?_⟩) (by assumption) ?_
                rotate_left
                · (intro w hSw; (try dsimp only at hSw); go_simp <;> with_reducible rfl)
                try simp only [Act.put, List.setIfInBounds_toArray, List.set_cons_zero, List.set_cons_succ]
                refine take_lit (i := 26) rfl (by kernel_rfl) (by kernel_rfl) (by kernel_rfl) (fun _ _ _ h => h) (yA a (fun w h => (HK.out w h).2.1) (by rfl) rfl rfl) (by assumption) ?_
                try simp only [Act.put, List.setIfInBounds_toArray, List.set_cons_zero, List.set_cons_succ]
                refine take_lit (i := 29) rfl (by kernel_rfl) (by kernel_rfl) (by kernel_rfl) (fun _ _ _ h => h) (yP p (fun w h => (HK.out w h).2.2.1) (by rfl) rfl rfl) (by assumption) ?_
                try simp only [Act.put, List.setIfInBounds_toArray, List.set_cons_zero, List.set_cons_succ]
                refine wpAnyH_ready (rs := [27]) (by kernel_rfl) (by simp) ?_
                refine cons_lit rfl (fun K hK => ?_) ?_
                · go_simp
                  refine (hF _).mono ?_
                  rintro e x27 ⟨rfl, hB27⟩
                  refine hK.out _ _ ?_ (fun hHeld => ?_)
                  · exact bt hHeld hB27
                  clear hK K
                  try simp only [Act.put, List.setIfInBounds_toArray, List.set_cons_zero, List.set_cons_succ]
                  refine wpAnyH_ready (rs := [28]) (by kernel_rfl) (by simp) ?_
                  refine cons_lit rfl (fun K hK => ?_) ?_
                  · go_simp
                    refine (hY _).mono ?_
                    rintro e x28 ⟨rfl, hB28⟩
                    refine hK.out _ _ ?_ (fun hHeld => ?_)
                    · exact bt hHeld hB28
                    clear hK K
                    try simp only [Act.put, List.setIfInBounds_toArray, List.set_cons_zero, List.set_cons_succ]
                    refine wpAnyH_ready (rs := [30]) (by kernel_rfl) (by simp) ?_
                    refine cons_lit rfl (fun K hK => ?_) ?_
                    · go_simp
                      refine (hK5 _).mono ?_
                      rintro e x30 ⟨rfl, hB30⟩
                      refine hK.out _ _ ?_ (fun hHeld => ?_)
                      · exact bt hHeld hB30
                      clear hK K
                      try simp only [Act.put, List.setIfInBounds_toArray, List.set_cons_zero, List.set_cons_succ]
                      refine take_lit (i := 31) (v := ?_) rfl (by kernel_rfl) (by kernel_rfl) (by kernel_rfl) (fun _ _ _ h => h) (Or.inl ⟨by rfl, ?_⟩) (by assumption) ?_
                      rotate_left
                      · (intro w hSw; (try dsimp only at hSw); go_simp <;> with_reducible rfl)
                      try simp only [Act.put, List.setIfInBounds_toArray, List.set_cons_zero, List.set_cons_succ]
                      refine take_lit (i := 32) (v := ?_) rfl (by kernel_rfl) (by kernel_rfl) (by kernel_rfl) (fun _ _ _ h => h) (Or.inl ⟨by rfl, ?_⟩) (by assumption) ?_
                      rotate_left
                      · (intro w hSw; (try dsimp only at hSw); go_simp <;> with_reducible rfl)
                      try simp only [Act.put, List.setIfInBounds_toArray, List.set_cons_zero, List.set_cons_succ]
                      refine wpAnyH_ready (rs := [33]) (by kernel_rfl) (by simp) ?_
                      refine cons_lit rfl (fun K hK => ?_) ?_
                      · go_simp
                        refine (hL _ (HK.out _ hHeld).1).mono ?_
                        rintro e x33 ⟨rfl, hB33⟩
                        refine hK.out _ _ ?_ (fun hHeld => ?_)
                        · exact bt hHeld hB33
                        clear hK K
                        try simp only [Act.put, List.setIfInBounds_toArray, List.set_cons_zero, List.set_cons_succ]
                        refine take_lit (i := 34) (v := ?_) rfl (by kernel_rfl) (by kernel_rfl) (by kernel_rfl) (fun _ _ _ h => h) (Or.inl ⟨by rfl, ?_⟩) (by assumption) ?_
                        rotate_left
                        · (intro w hSw; (try dsimp only at hSw); go_simp <;> with_reducible rfl)
                        try simp only [Act.put, List.setIfInBounds_toArray, List.set_cons_zero, List.set_cons_succ]
                        refine take_lit (i := 35) (v := ?_) rfl (by kernel_rfl) (by kernel_rfl) (by kernel_rfl) (fun _ _ _ h => h) (Or.inl ⟨by rfl, ?_⟩) (by assumption) ?_
                        rotate_left
                        · (intro w hSw; (try dsimp only at hSw); go_simp <;> with_reducible rfl)
                        try simp only [Act.put, List.setIfInBounds_toArray, List.set_cons_zero, List.set_cons_succ]
                        refine wpAnyH_done (by kernel_rfl) ?_ _
                        refine NoPanic.normal ?_
                        go_wp2
                        go_ret
                        exact ⟨rfl, (HK.out _ hHeld).1⟩
                      exact AllReadyH.nil
                    exact AllReadyH.nil
                  exact AllReadyH.nil
                exact AllReadyH.nil
              exact AllReadyH.nil
            exact AllReadyH.nil
          exact AllReadyH.nil
        exact AllReadyH.nil
      exact AllReadyH.nil
    exact AllReadyH.nil
theorem first_walk (a : Ad) (n m : Int) (w : World) (hL : ∀ W, Below w.heap.size w W → Calls Tryd.prog 7 #[] W (Gives W (.bool true))) : Calls Tryd.prog 3 #[(Value.agg (acells a).toArray), .int .i64 n, .int .i64 m] w (Gives w (.bool true)) := by
  have hO1 := of_any a n
  have hO2 := of_any a m
  have hcase : ∀ k : Int, (ofF a k = (zeroP, 2)) ∨ (0 ≤ k ∧ k ≤ 128 - ahead a) ∧ ofF a k = (⟨cutA a (ahead a + k).toNat, ahead a + k⟩, 0) := fun k => by
    unfold ofF
    by_cases h : 0 ≤ k ∧ k ≤ 128 - ahead a
    · exact .inr ⟨h, by rw [if_pos h]⟩
    · exact .inl (by rw [if_neg h])
  rcases hcase n with h1 | ⟨r1, h1⟩ <;> rcases hcase m with h2 | ⟨r2, h2⟩
  all_goals rw [h1] at hO1
  all_goals rw [h2] at hO2
  · exact first_main a n m _ _ _ _ _ _ w hL hO1 hO2 (.inr (.inl ⟨rfl, rfl, rfl, rfl⟩)) (fam_any a) (any_any _)
  · exact first_main a n m _ _ _ _ _ _ w hL hO1 hO2 (.inl ⟨rfl, rfl, rfl⟩) (fam_any a) (any_any _)
  · exact first_main a n m _ _ _ _ _ _ w hL hO1 hO2 (.inr (.inr (.inl ⟨rfl, rfl, rfl⟩))) (fam_any a) (any_any _)
  · obtain ⟨k1, k2, k3, k4, k5⟩ := first_pure a n m r1 r2 _ _ rfl rfl
    dsimp only at hO1 hO2
    refine first_main a n m _ _ _ _ _ _ w hL hO1 hO2 (.inr (.inr (.inr ⟨rfl, rfl, fun W => ?_, fun W => ?_, fun W => ?_, fun W => ?_, fun W => ?_⟩))) (fam_any a) (any_any _)
    · rw [← k1]; exact check_any _ W
    · rw [← k2]; exact contains_any _ _ W
    · rw [← k3]; exact pfam_any _ W
    · rw [← k4]; exact covers_any _ _ W
    · rw [← k5]; exact covers_any _ _ W
end Go.Proofs.YtimpopolkofdgabDoor
