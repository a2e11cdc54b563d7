/-
  AddrMost: the walk where there is no best pair, for lists that are long, empty, or without a match.
-/
import Derived.Test.YtimpopolkofdgabDoorMostP
import Derived.Test.YtimpopolkofdgabDoorBestN
import Derived.Test.YtimpopolkofdgabDoorLiveF
import Derived.Test.YtimpopolkofdgabDoorArgL
namespace Go.Proofs.YtimpopolkofdgabDoor
open Go.RowKit Go.Shelf
set_option linter.unusedSimpArgs false
set_option maxRecDepth 20000
theorem two_A (w : World) (a b : Ad) : ∀ W, Below ((w.alloc (.cells (acells a).toArray 23)).alloc (.cells (acells b).toArray 23)).heap.size ((w.alloc (.cells (acells a).toArray 23)).alloc (.cells (acells b).toArray 23)) W → LA W w.heap.size 0 a ∧ LA W (w.heap.size + 1) 0 b ∧ Below w.heap.size w W := fun W hb => by
  have h1 := (LA.new w a 23).alloc (.cells (acells b).toArray 23)
  have h2 := LA.new (w.alloc (.cells (acells a).toArray 23)) b 23
  simp only [World.size_alloc] at h2
  exact ⟨h1.below hb (by simp; omega), h2.below hb (by simp), bt (bt (ba _ _) (ba _ _)) hb⟩
theorem most_long (src dst : Ad) (ad : Option Addr) (n c : Nat) (w : World) (hn : 60 < n) (hL : ∀ W, Below w.heap.size w W → Calls Tryd.prog 7 #[] W (Gives W (.bool true))) : Calls Tryd.prog 4 #[.slice ad n c, (Value.agg (acells src).toArray), (Value.agg (acells dst).toArray)] w (Gives w (.bool true)) := by
  have HK : Hid (∀ W, _ → LA W w.heap.size 0 src ∧ LA W (w.heap.size + 1) 0 dst ∧ Below w.heap.size w W) := two_A w src dst
  have hb0 := Below.refl ((w.alloc (.cells (acells src).toArray 23)).alloc (.cells (acells dst).toArray 23)).heap.size ((w.alloc (.cells (acells src).toArray 23)).alloc (.cells (acells dst).toArray 23))
  have h60 : (60 : Int) < (n : Int) := by omega
  clear hn
  go_enter Tryd.func4, Tryd.ntmps4
  go_wp2_with (go_at_call 7; refine (hL _ (HK.out _ hb0).2.2).mono ?_; rintro e w1 ⟨rfl, hB⟩; replace hb0 := bt hb0 hB; clear hB)
  go_ret
  exact ⟨rfl, (HK.out _ hb0).2.2⟩
theorem most_zero (src dst : Ad) (ad : Option Addr) (c : Nat) (w : World) (hL : ∀ W, Below w.heap.size w W → Calls Tryd.prog 7 #[] W (Gives W (.bool true))) : Calls Tryd.prog 4 #[.slice ad 0 c, (Value.agg (acells src).toArray), (Value.agg (acells dst).toArray)] w (Gives w (.bool true)) := by
  have HK : Hid (∀ W, _ → LA W w.heap.size 0 src ∧ LA W (w.heap.size + 1) 0 dst ∧ Below w.heap.size w W) := two_A w src dst
  have hb0 := Below.refl ((w.alloc (.cells (acells src).toArray 23)).alloc (.cells (acells dst).toArray 23)).heap.size ((w.alloc (.cells (acells src).toArray 23)).alloc (.cells (acells dst).toArray 23))
  go_enter Tryd.func4, Tryd.ntmps4
  go_wp2_with (first
    | (refine ldA (.tmp 4) (by rfl) rfl _ _ src rfl (HK.out _ hb0).1 ?_)
    | (refine ldA (.tmp 5) (by rfl) rfl _ _ dst rfl (HK.out _ hb0).2.1 ?_)
    | (go_at_call 14; refine (best_nil src dst ad c _).mono ?_; rintro e w1 ⟨rfl, hB⟩; replace hb0 := bt hb0 hB; clear hB))
  go_quiet (fail)
  go_wp2
  refine wp_loop_rounds 1 ?_
  rw [rounds_succ]
  go_wp2_with (go_at_call 7; refine (hL _ (HK.out _ (below_drewN hb0 _)).2.2).mono ?_; rintro e w2 ⟨rfl, hB⟩)
  go_ret
  exact ⟨rfl, bt (HK.out _ (below_drewN hb0 _)).2.2 hB⟩
set_option maxHeartbeats 8000000 in
theorem most_none (src dst : Ad) (g o n c : Nat) (qs : List Pr) (w : World) (hn : qs.length = n) (hq : ∀ j q, qs[j]? = some q → LQ w g (o + j * 34) q) (hg : g < w.heap.size) (h60 : n ≤ 60) (k : Nat) (hk : bst qs src dst n = (k, false)) (hno : ∀ i r, i < n → qs[i]? = some r → mat r src dst = false)
    (hL : ∀ W, Below w.heap.size w W → Calls Tryd.prog 7 #[] W (Gives W (.bool true))) : Calls Tryd.prog 4 #[.slice (some ⟨g, o, none⟩) n c, (Value.agg (acells src).toArray), (Value.agg (acells dst).toArray)] w (Gives w (.bool true)) := by
  have HK : Hid (∀ W, Below ((w.alloc (.cells (acells src).toArray 23)).alloc (.cells (acells dst).toArray 23)).heap.size ((w.alloc (.cells (acells src).toArray 23)).alloc (.cells (acells dst).toArray 23)) W → (LA W w.heap.size 0 src ∧ LA W (w.heap.size + 1) 0 dst ∧ Below w.heap.size w W) ∧ (∀ j q, qs[j]? = some q → LQ W g (o + j * 34) q) ∧ g < W.heap.size) := fun W h => ⟨two_A w src dst W h, fun j q h' => (hq j q h').below (two_A w src dst W h).2.2 hg, Nat.lt_of_lt_of_le hg (two_A w src dst W h).2.2.size⟩
  have hb0 := Below.refl ((w.alloc (.cells (acells src).toArray 23)).alloc (.cells (acells dst).toArray 23)).heap.size ((w.alloc (.cells (acells src).toArray 23)).alloc (.cells (acells dst).toArray 23))
  have hBest := fun W h1 h2 => best_any src dst g o n c qs W hn h1 h2 (by omega)
  rw [hk] at hBest
  dsimp only at hBest
  have HN : Hid (qs.length = n ∧ n ≤ 60) := ⟨hn, h60⟩
  have d60 : decide ((60 : Int) < (n : Int)) = false := by simp; omega
  have n60 : ¬ (60 : Int) < (n : Int) := by omega
  clear hn h60 hq hk
  go_enter Tryd.func4, Tryd.ntmps4
  go_wp2_with (first
    | (refine ldA (.tmp 4) (by rfl) rfl _ _ src rfl (HK.out _ hb0).1.1 ?_)
    | (refine ldA (.tmp 5) (by rfl) rfl _ _ dst rfl (HK.out _ hb0).1.2.1 ?_)
    | (go_at_call 14; refine (hBest _ (HK.out _ hb0).2.1 (HK.out _ hb0).2.2).mono ?_; rintro e w1 ⟨rfl, hB⟩; replace hb0 := bt hb0 hB; clear hB))
  go_quiet (fail)
  replace hb0 := below_drewN hb0 nq
  go_wp2
  go_loopw [9] (fun i wr => ∃ j : Nat, j ≤ n ∧ i = .int .i64 j ∧ Below ((w.alloc (.cells (acells src).toArray 23)).alloc (.cells (acells dst).toArray 23)).heap.size ((w.alloc (.cells (acells src).toArray 23)).alloc (.cells (acells dst).toArray 23)) wr) (fun i _ => n - (intOf i).toNat)
  case atStart => exact ⟨0, Nat.zero_le _, rfl, hb0⟩
  case round =>
    clear hb0
    obtain ⟨j, hj, rfl, hb0⟩ := hrel
    by_cases hlt : j < n
    · obtain ⟨q, hqj⟩ : ∃ q, qs[j]? = some q := ⟨_, List.getElem?_eq_getElem (by rw [HN.out.1]; exact hlt)⟩
      have hM := matches_any q src dst
      rw [hno j q hlt hqj] at hM
      have hlt' : (j : Int) < (n : Int) := by omega
      have HQ : Hid (∀ W, Below ((w.alloc (.cells (acells src).toArray 23)).alloc (.cells (acells dst).toArray 23)).heap.size ((w.alloc (.cells (acells src).toArray 23)).alloc (.cells (acells dst).toArray 23)) W → LQ W g (o + j * 34) q) := fun W h => (HK.out W h).2.1 j q hqj
      go_wp2
      refine wp_region_noPanic ?_
      refine wp_region_held_drew (S := fun W => Below ((w.alloc (.cells (acells src).toArray 23)).alloc (.cells (acells dst).toArray 23)).heap.size ((w.alloc (.cells (acells src).toArray 23)).alloc (.cells (acells dst).toArray 23)) W) (by kernel_rfl) (hb0.drew) (fun hHeld => ?_)
      refine take_lit (i := 0) (v := ?_) rfl (by kernel_rfl) (by kernel_rfl) (by kernel_rfl) (fun _ _ _ h => h) (Or.inl ⟨by rfl, ?_⟩) (by assumption) ?_
      rotate_left
      · (intro w hSw; (try dsimp only at hSw); go_simp <;> with_reducible rfl)
      try simp only [Act.put, List.setIfInBounds_toArray, List.set_cons_zero, List.set_cons_succ]
      refine take_lit (i := 1) (v := ?_) rfl (by kernel_rfl) (by kernel_rfl) (by kernel_rfl) (fun _ _ _ h => h) (Or.inl ⟨by rfl, ?_⟩) (by assumption) ?_
      rotate_left
      · (intro w hSw; (try dsimp only at hSw); go_simp <;> with_reducible rfl)
      try simp only [Act.put, List.setIfInBounds_toArray, List.set_cons_zero, List.set_cons_succ]
      refine take_lit (i := 2) (v := ?_) rfl (by kernel_rfl) (by kernel_rfl) (by kernel_rfl) (fun _ _ _ h => h) (Or.inl ⟨by rfl, ?_⟩) (by assumption) ?_
      rotate_left
      · (intro w hSw; (try dsimp only at hSw); go_simp <;> with_reducible rfl)
      try simp only [Act.put, List.setIfInBounds_toArray, List.set_cons_zero, List.set_cons_succ]
      refine take_lit (i := 3) rfl (by kernel_rfl) (by kernel_rfl) (by kernel_rfl) (fun _ _ _ h => h) (yQ q (fun w h => HQ.out w h) (by rfl) rfl rfl) (by assumption) ?_
      try simp only [Act.put, List.setIfInBounds_toArray, List.set_cons_zero, List.set_cons_succ]
      refine take_lit (i := 4) rfl (by kernel_rfl) (by kernel_rfl) (by kernel_rfl) (fun _ _ _ h => h) (yA src (fun w h => (HK.out w h).1.1) (by rfl) rfl rfl) (by assumption) ?_
      try simp only [Act.put, List.setIfInBounds_toArray, List.set_cons_zero, List.set_cons_succ]
      refine take_lit (i := 5) rfl (by kernel_rfl) (by kernel_rfl) (by kernel_rfl) (fun _ _ _ h => h) (yA dst (fun w h => (HK.out w h).1.2.1) (by rfl) rfl rfl) (by assumption) ?_
      try simp only [Act.put, List.setIfInBounds_toArray, List.set_cons_zero, List.set_cons_succ]
      refine wpAnyH_ready (rs := [6]) (by kernel_rfl) (by simp) ?_
      refine cons_lit rfl (fun K hK => ?_) ?_
      · go_simp
        refine (hM _).mono ?_
        rintro e w2 ⟨rfl, hB2⟩
        refine hK.out _ _ ?_ (fun hHeld => ?_)
        · exact bt hHeld hB2
        clear hK K
        try simp only [Act.put, List.setIfInBounds_toArray, List.set_cons_zero, List.set_cons_succ]
        refine take_lit (i := 7) (v := ?_) rfl (by kernel_rfl) (by kernel_rfl) (by kernel_rfl) (fun _ _ _ h => h) (Or.inl ⟨by rfl, ?_⟩) (by assumption) ?_
        rotate_left
        · (intro w hSw; (try dsimp only at hSw); go_simp <;> with_reducible rfl)
        try simp only [Act.put, List.setIfInBounds_toArray, List.set_cons_zero, List.set_cons_succ]
        refine wpAnyH_done (by kernel_rfl) ?_ _
        refine NoPanic.normal ?_
        go_wp2
        go_roundw
        case rel => exact ⟨j + 1, by omega, by go_num, hHeld⟩
        case measure => simp [intOf]; omega
      exact AllReadyH.nil
    · obtain rfl : n = j := by omega
      go_wp2_with (go_at_call 7; refine (hL _ (HK.out _ hb0).1.2.2).mono ?_; rintro e w2 ⟨rfl, hB⟩)
      go_ret
      exact ⟨rfl, bt (HK.out _ hb0).1.2.2 hB⟩
end Go.Proofs.YtimpopolkofdgabDoor
