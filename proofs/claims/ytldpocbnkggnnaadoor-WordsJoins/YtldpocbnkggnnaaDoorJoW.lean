/-
  The walk of WordsJoins.
-/
import Derived.Test.YtldpocbnkggnnaaDoorJ6
namespace Go.Proofs.YtldpocbnkggnnaaDoor
open Go.RowKit
set_option linter.unusedSimpArgs false
set_option maxRecDepth 20000
theorem numV_two (o : Option Nat) (m : Int) : ∃ (x : Int) (b : Bool), numV o m = .tuple #[.int .i64 x, .bool b] := by
  cases o with
  | none => exact ⟨_, _, rfl⟩
  | some u =>
    unfold numV
    dsimp only
    split
    · exact ⟨_, _, rfl⟩
    · exact ⟨_, _, rfl⟩
theorem psV_two (l : List UInt8) : ∃ (i : List UInt8) (b : Bool), i.length = 8 ∧ psV (psI l) = .tuple #[idV i, .bool b] := by
  unfold psI
  split
  · exact ⟨_, _, by simp, rfl⟩
  · exact ⟨_, _, rfl, rfl⟩
set_option maxHeartbeats 4000000 in
theorem joins_walk (ws : List (List UInt8)) (a : Option Addr) (n c : Nat) (s : ByteArray) (most : Int) (i8 : List UInt8) (h8 : i8.length = 8) (w : World) (hs : Src w a n c (scells ws)) (hn : n ≤ 140737488355328) (hx : ∀ x ∈ ws, x.length ≤ 140737488355328) (hL : ∀ W, Below w.heap.size w W → Calls Tryd.prog 8 #[] W fun e w' => e = .returned (.bool true) ∧ Below W.heap.size W w') :
    Calls Tryd.prog 4 #[.slice a n c, .string s, .int .i64 most, idV i8] w fun e w' => e = .returned (.bool true) ∧ Below w.heap.size w w' := by
  have hr := Row.new w 39 (bcells i8)
  have hb0 := ba w (.cells (bcells i8).toArray 39)
  by_cases hbig : 70000 < s.size
  · have hb' : (70000 : Int) < (s.size : Int) := by omega
    go_enter Tryd.func4, Tryd.ntmps4
    go_wp2_with (go_at_call 8; refine (hL _ hb0).mono ?_; rintro e w' ⟨rfl, hb⟩)
    go_ret
    exact ⟨rfl, bt hb0 hb⟩
  have hb' : ¬ (70000 : Int) < (s.size : Int) := by omega
  have p1 := printId_any i8 h8
  have p2 := rprintId_any i8 h8
  obtain ⟨st, hst⟩ : ∃ st, st = str (prI i8) := ⟨_, rfl⟩
  rw [← hst] at p1 p2
  clear hst
  have nu1 := number_any s most
  have nu2 := rnumber_any s most
  obtain ⟨nx, nb, hnv⟩ := numV_two (decN s.data.toList) most
  rw [hnv] at nu1 nu2
  clear hnv
  have ps1 := parseId_any s
  have ps2 := fun W => rparseId_any s W (by omega)
  rw [ps_same] at ps2
  obtain ⟨ix, ib, hix, hpv⟩ := psV_two s.data.toList
  rw [hpv] at ps1 ps2
  clear hpv hbig
  have n2 : ∀ W, (binOp .eql 39 (idV ix) (idV ix)).run Tryd.prog W = .ok (.bool true) W := fun W => by rw [run_eqlI ix ix hix hix, decide_eq_true rfl]
  have hpr := fun W hs => printable_any ws a n c W hs hn hx
  have HS : Hid (∀ W, Below w.heap.size w W → Src W a n c (scells ws)) := fun W h => hs.stay h
  have m3 : True := trivial
  have m4 : True := trivial
  clear hs hn hx
  go_enter Tryd.func4, Tryd.ntmps4
  go_wp2_with (go_at_call 16; refine (hpr _ (HS.out _ hb0)).mono ?_; rintro e w5 ⟨B, rfl, hB, hw5⟩; subst hw5; refine Hid.out ?_)
  unfold Hid
  clear hpr
  cases B
  · clear hB HS
    go_wp2_with (first
      | (go_at_call 19; refine (nu1 _).mono ?_; rintro e w6 ⟨rfl, rfl⟩)
      | (go_at_call 20; refine (nu2 _).mono ?_; rintro e w7 ⟨rfl, rfl⟩)
      | (go_at_call 21; refine (ps1 _).mono ?_; rintro e w8 ⟨rfl, b8⟩; replace hr := hr.below b8 hr.lt; replace hb0 := bt hb0 b8; clear b8)
      | (have k := m3; clear m3; refine alG infoIz (by rfl) rfl ?_; intro gA wA a1 a2 a3 rA; have hge : w.heap.size < gA := Nat.lt_of_lt_of_le hr.lt a1; replace hr := hr.below a3 hr.lt; replace hb0 := bt hb0 a3)
      | (have k := m4; clear m4; refine stI (.tmp 13) (.tmp 45) (by rfl) rfl gA ix hix _ rfl rfl rfl rA (Below.refl gA wA) (Nat.le_refl _) ?_; intro W4 r4 hb4; replace hr := hr.below hb4 hge; replace hb0 := hb0.trans (hb4.mono (Nat.le_of_lt hge)); clear hb4 rA a1 a2 a3)
      | (go_at_call 22; refine (ps2 _).mono ?_; rintro e w9 ⟨rfl, b9⟩; replace hr := hr.below b9 hr.lt; replace r4 := r4.below b9 r4.lt; replace hb0 := bt hb0 b9; clear b9)
      | (refine alG infoIz (by rfl) rfl ?_; intro gC wC c1 c2 c3 rC; have hlC : w.heap.size < gC := Nat.lt_of_lt_of_le hr.lt c1; have hlD : gA < gC := Nat.lt_of_lt_of_le r4.lt c1; replace hr := hr.below c3 hr.lt; replace r4 := r4.below c3 r4.lt; replace hb0 := bt hb0 c3)
      | (refine stI (.tmp 15) (.tmp 50) (by rfl) rfl gC ix hix _ rfl rfl rfl rC (Below.refl gC wC) (Nat.le_refl _) ?_; intro W5 r5 hb5; replace hr := hr.below hb5 hlC; replace r4 := r4.below hb5 hlD; replace hb0 := hb0.trans (hb5.mono (Nat.le_of_lt hlC)); clear hb5 rC c1 c2 c3))
    refine wp_region_noPanic ?_
    refine wp_region_held_drew (S := fun W => (Row W w.heap.size 39 (bcells i8) ∧ Row W gA 39 (bcells ix) ∧ Row W gC 39 (bcells ix)) ∧ Below w.heap.size w W) (by kernel_rfl) (⟨⟨hr, r4, r5⟩, hb0.drew⟩) (fun hHeld => ?_)
    refine take_lit (i := 0) (v := ?_) rfl (by kernel_rfl) (by kernel_rfl) (by kernel_rfl) (fun _ _ _ h => h) (Or.inl ⟨by rfl, ?_⟩) (by assumption) ?_
    rotate_left
    · (intro w hSw; (try dsimp only at hSw); go_simp <;> with_reducible rfl)
    try simp only [Act.put, List.setIfInBounds_toArray, List.set_cons_zero, List.set_cons_succ]
    refine take_lit (i := 1) (v := ?_) rfl (by kernel_rfl) (by kernel_rfl) (by kernel_rfl) (fun _ _ _ h => h) (Or.inl ⟨by rfl, ?_⟩) (by assumption) ?_
    rotate_left
    · (intro w hSw; (try dsimp only at hSw); go_simp <;> with_reducible rfl)
    try simp only [Act.put, List.setIfInBounds_toArray, List.set_cons_zero, List.set_cons_succ]
    refine take_lit (i := 2) (v := ?_) rfl (by kernel_rfl) (by kernel_rfl) (by kernel_rfl) (fun _ _ _ h => h) (Or.inl ⟨by rfl, ?_⟩) (by assumption) ?_
    rotate_left
    · (intro w hSw; (try dsimp only at hSw); go_simp <;> with_reducible rfl)
    try simp only [Act.put, List.setIfInBounds_toArray, List.set_cons_zero, List.set_cons_succ]
    refine take_lit (i := 3) (v := ?_) rfl (by kernel_rfl) (by kernel_rfl) (by kernel_rfl) (fun _ _ _ h => h) (Or.inl ⟨by rfl, ?_⟩) (by assumption) ?_
    rotate_left
    · (intro w hSw; (try dsimp only at hSw); go_simp <;> with_reducible rfl)
    try simp only [Act.put, List.setIfInBounds_toArray, List.set_cons_zero, List.set_cons_succ]
    refine take_lit (i := 4) (v := ?_) rfl (by kernel_rfl) (by kernel_rfl) (by kernel_rfl) (fun _ _ _ h => h) (Or.inl ⟨by rfl, ?_⟩) (by assumption) ?_
    rotate_left
    · (intro w hSw; (try dsimp only at hSw); go_simp <;> with_reducible rfl)
    try simp only [Act.put, List.setIfInBounds_toArray, List.set_cons_zero, List.set_cons_succ]
    refine take_lit (i := 5) (v := ?_) rfl (by kernel_rfl) (by kernel_rfl) (by kernel_rfl) (fun _ _ _ h => h) (Or.inl ⟨by rfl, ?_⟩) (by assumption) ?_
    rotate_left
    · (intro w hSw; (try dsimp only at hSw); go_simp <;> with_reducible rfl)
    try simp only [Act.put, List.setIfInBounds_toArray, List.set_cons_zero, List.set_cons_succ]
    refine take_lit (i := 6) (v := ?_) rfl (by kernel_rfl) (by kernel_rfl) (by kernel_rfl) (fun _ _ _ h => h) (Or.inl ⟨by rfl, ?_⟩) (by assumption) ?_
    rotate_left
    · (intro w hSw; (try dsimp only at hSw); go_simp <;> with_reducible rfl)
    try simp only [Act.put, List.setIfInBounds_toArray, List.set_cons_zero, List.set_cons_succ]
    refine take_lit (i := 7) (v := ?_) rfl (by kernel_rfl) (by kernel_rfl) (by kernel_rfl) (fun _ _ _ h => h) (Or.inl ⟨by rfl, ?_⟩) (by assumption) ?_
    rotate_left
    · (intro w hSw; (try dsimp only at hSw); go_simp <;> with_reducible rfl)
    try simp only [Act.put, List.setIfInBounds_toArray, List.set_cons_zero, List.set_cons_succ]
    refine take_lit (i := 8) (v := ?_) rfl (by kernel_rfl) (by kernel_rfl) (by kernel_rfl) (fun _ _ _ h => h) (Or.inl ⟨by rfl, ?_⟩) (by assumption) ?_
    rotate_left
    · (intro w hSw; (try dsimp only at hSw); go_simp <;> with_reducible rfl)
    try simp only [Act.put, List.setIfInBounds_toArray, List.set_cons_zero, List.set_cons_succ]
    refine take_lit (i := 9) rfl (by kernel_rfl) (by kernel_rfl) (by kernel_rfl) (fun _ _ _ h => h) (yI ix hix (fun W h => h.1.2.1.range) (by rfl) rfl rfl) (by assumption) ?_
    try simp only [Act.put, List.setIfInBounds_toArray, List.set_cons_zero, List.set_cons_succ]
    refine take_lit (i := 10) rfl (by kernel_rfl) (by kernel_rfl) (by kernel_rfl) (fun _ _ _ h => h) (yI ix hix (fun W h => h.1.2.2.range) (by rfl) rfl rfl) (by assumption) ?_
    try simp only [Act.put, List.setIfInBounds_toArray, List.set_cons_zero, List.set_cons_succ]
    refine take_lit (i := 11) (v := ?_) rfl (by kernel_rfl) (by kernel_rfl) (by kernel_rfl) (fun _ _ _ h => h) (Or.inl ⟨by rfl, ?_⟩) (by assumption) ?_
    rotate_left
    · (intro w hSw; (try dsimp only at hSw); go_simp <;> with_reducible rfl)
    try simp only [Act.put, List.setIfInBounds_toArray, List.set_cons_zero, List.set_cons_succ]
    refine take_lit (i := 12) (v := ?_) rfl (by kernel_rfl) (by kernel_rfl) (by kernel_rfl) (fun _ _ _ h => h) (Or.inl ⟨by rfl, ?_⟩) (by assumption) ?_
    rotate_left
    · (intro w hSw; (try dsimp only at hSw); go_simp <;> with_reducible rfl)
    try simp only [Act.put, List.setIfInBounds_toArray, List.set_cons_zero, List.set_cons_succ]
    refine take_lit (i := 13) (v := ?_) rfl (by kernel_rfl) (by kernel_rfl) (by kernel_rfl) (fun _ _ _ h => h) (Or.inl ⟨by rfl, ?_⟩) (by assumption) ?_
    rotate_left
    · (intro w hSw; (try dsimp only at hSw); go_simp <;> with_reducible rfl)
    try simp only [Act.put, List.setIfInBounds_toArray, List.set_cons_zero, List.set_cons_succ]
    refine take_lit (i := 14) (v := ?_) rfl (by kernel_rfl) (by kernel_rfl) (by kernel_rfl) (fun _ _ _ h => h) (Or.inl ⟨by rfl, ?_⟩) (by assumption) ?_
    rotate_left
    · (intro w hSw; (try dsimp only at hSw); go_simp <;> with_reducible rfl)
    try simp only [Act.put, List.setIfInBounds_toArray, List.set_cons_zero, List.set_cons_succ]
    refine take_lit (i := 15) (v := ?_) rfl (by kernel_rfl) (by kernel_rfl) (by kernel_rfl) (fun _ _ _ h => h) (Or.inl ⟨by rfl, ?_⟩) (by assumption) ?_
    rotate_left
    · (intro w hSw; (try dsimp only at hSw); go_simp <;> with_reducible rfl)
    try simp only [Act.put, List.setIfInBounds_toArray, List.set_cons_zero, List.set_cons_succ]
    refine take_lit (i := 16) (v := ?_) rfl (by kernel_rfl) (by kernel_rfl) (by kernel_rfl) (fun _ _ _ h => h) (Or.inl ⟨by rfl, ?_⟩) (by assumption) ?_
    rotate_left
    · (intro w hSw; (try dsimp only at hSw); go_simp <;> with_reducible rfl)
    try simp only [Act.put, List.setIfInBounds_toArray, List.set_cons_zero, List.set_cons_succ]
    refine take_lit (i := 17) (v := ?_) rfl (by kernel_rfl) (by kernel_rfl) (by kernel_rfl) (fun _ _ _ h => h) (Or.inl ⟨by rfl, ?_⟩) (by assumption) ?_
    rotate_left
    · (intro w hSw; (try dsimp only at hSw); go_simp <;> with_reducible rfl)
    try simp only [Act.put, List.setIfInBounds_toArray, List.set_cons_zero, List.set_cons_succ]
    refine take_lit (i := 18) (v := ?_) rfl (by kernel_rfl) (by kernel_rfl) (by kernel_rfl) (fun _ _ _ h => h) (Or.inl ⟨by rfl, ?_⟩) (by assumption) ?_
    rotate_left
    · (intro w hSw; (try dsimp only at hSw); go_simp <;> with_reducible rfl)
    try simp only [Act.put, List.setIfInBounds_toArray, List.set_cons_zero, List.set_cons_succ]
    refine take_lit (i := 19) rfl (by kernel_rfl) (by kernel_rfl) (by kernel_rfl) (fun _ _ _ h => h) (yI i8 h8 (fun W h => h.1.1.range) (by rfl) rfl rfl) (by assumption) ?_
    try simp only [Act.put, List.setIfInBounds_toArray, List.set_cons_zero, List.set_cons_succ]
    refine take_lit (i := 21) rfl (by kernel_rfl) (by kernel_rfl) (by kernel_rfl) (fun _ _ _ h => h) (yI i8 h8 (fun W h => h.1.1.range) (by rfl) rfl rfl) (by assumption) ?_
    try simp only [Act.put, List.setIfInBounds_toArray, List.set_cons_zero, List.set_cons_succ]
    refine wpAnyH_ready (rs := [20]) (by kernel_rfl) (by simp) ?_
    refine cons_lit rfl (fun K hK => ?_) ?_
    · go_simp
      refine (p1 _).mono ?_
      rintro e w20 ⟨rfl, b20⟩
      refine hK.out _ _ ?_ (fun hHeld => ?_)
      · exact ⟨⟨hHeld.1.1.below b20 hHeld.1.1.lt, hHeld.1.2.1.below b20 hHeld.1.2.1.lt, hHeld.1.2.2.below b20 hHeld.1.2.2.lt⟩, bt hHeld.2 b20⟩
      clear hK K
      try simp only [Act.put, List.setIfInBounds_toArray, List.set_cons_zero, List.set_cons_succ]
      refine wpAnyH_ready (rs := [22]) (by kernel_rfl) (by simp) ?_
      refine cons_lit rfl (fun K hK => ?_) ?_
      · go_simp
        refine (p2 _).mono ?_
        rintro e w22 ⟨rfl, b22⟩
        refine hK.out _ _ ?_ (fun hHeld => ?_)
        · exact ⟨⟨hHeld.1.1.below b22 hHeld.1.1.lt, hHeld.1.2.1.below b22 hHeld.1.2.1.lt, hHeld.1.2.2.below b22 hHeld.1.2.2.lt⟩, bt hHeld.2 b22⟩
        clear hK K
        try simp only [Act.put, List.setIfInBounds_toArray, List.set_cons_zero, List.set_cons_succ]
        refine take_lit (i := 23) (v := ?_) rfl (by kernel_rfl) (by kernel_rfl) (by kernel_rfl) (fun _ _ _ h => h) (Or.inl ⟨by rfl, ?_⟩) (by assumption) ?_
        rotate_left
        · (intro w hSw; (try dsimp only at hSw); go_simp <;> with_reducible rfl)
        try simp only [Act.put, List.setIfInBounds_toArray, List.set_cons_zero, List.set_cons_succ]
        refine take_lit (i := 24) (v := ?_) rfl (by kernel_rfl) (by kernel_rfl) (by kernel_rfl) (fun _ _ _ h => h) (Or.inl ⟨by rfl, ?_⟩) (by assumption) ?_
        rotate_left
        · (intro w hSw; (try dsimp only at hSw); go_simp <;> with_reducible rfl)
        try simp only [Act.put, List.setIfInBounds_toArray, List.set_cons_zero, List.set_cons_succ]
        refine take_lit (i := 25) (v := ?_) rfl (by kernel_rfl) (by kernel_rfl) (by kernel_rfl) (fun _ _ _ h => h) (Or.inl ⟨by rfl, ?_⟩) (by assumption) ?_
        rotate_left
        · (intro w hSw; (try dsimp only at hSw); go_simp <;> with_reducible rfl)
        try simp only [Act.put, List.setIfInBounds_toArray, List.set_cons_zero, List.set_cons_succ]
        refine wpAnyH_ready (rs := [26]) (by kernel_rfl) (by simp) ?_
        refine cons_lit rfl (fun K hK => ?_) ?_
        · go_simp
          refine (hL _ hHeld.2).mono ?_
          rintro e w26 ⟨rfl, b26⟩
          refine hK.out _ _ ?_ (fun hHeld => ?_)
          · exact ⟨⟨hHeld.1.1.below b26 hHeld.1.1.lt, hHeld.1.2.1.below b26 hHeld.1.2.1.lt, hHeld.1.2.2.below b26 hHeld.1.2.2.lt⟩, bt hHeld.2 b26⟩
          clear hK K
          try simp only [Act.put, List.setIfInBounds_toArray, List.set_cons_zero, List.set_cons_succ]
          refine take_lit (i := 27) (v := ?_) rfl (by kernel_rfl) (by kernel_rfl) (by kernel_rfl) (fun _ _ _ h => h) (Or.inl ⟨by rfl, ?_⟩) (by assumption) ?_
          rotate_left
          · (intro w hSw; (try dsimp only at hSw); go_simp <;> with_reducible rfl)
          try simp only [Act.put, List.setIfInBounds_toArray, List.set_cons_zero, List.set_cons_succ]
          refine take_lit (i := 28) (v := ?_) rfl (by kernel_rfl) (by kernel_rfl) (by kernel_rfl) (fun _ _ _ h => h) (Or.inl ⟨by rfl, ?_⟩) (by assumption) ?_
          rotate_left
          · (intro w hSw; (try dsimp only at hSw); go_simp <;> with_reducible rfl)
          try simp only [Act.put, List.setIfInBounds_toArray, List.set_cons_zero, List.set_cons_succ]
          refine wpAnyH_done (by kernel_rfl) ?_ _
          refine NoPanic.normal ?_
          go_wp2
          go_ret
          exact ⟨rfl, hHeld.2⟩
        exact AllReadyH.nil
      exact AllReadyH.nil
    exact AllReadyH.nil
  · have j1 := joinP ws (hB rfl) a n c
    have j2 := rjoin_any ws (hB rfl) a n c
    obtain ⟨sj, hsj⟩ : ∃ sj, sj = str (joinW ws) := ⟨_, rfl⟩
    rw [← hsj] at j1 j2
    clear hsj hB
    go_wp2_with (first
      | (go_at_call 17; refine (j1 _ (HS.out _ hb0)).mono ?_; rintro e w3 ⟨rfl, b3⟩; replace hr := hr.below b3 hr.lt; replace hb0 := bt hb0 b3; clear b3)
      | (go_at_call 18; refine (j2 _ (HS.out _ hb0)).mono ?_; rintro e w4 ⟨rfl, rfl⟩)
      | (go_at_call 19; refine (nu1 _).mono ?_; rintro e w6 ⟨rfl, rfl⟩)
      | (go_at_call 20; refine (nu2 _).mono ?_; rintro e w7 ⟨rfl, rfl⟩)
      | (go_at_call 21; refine (ps1 _).mono ?_; rintro e w8 ⟨rfl, b8⟩; replace hr := hr.below b8 hr.lt; replace hb0 := bt hb0 b8; clear b8)
      | (have k := m3; clear m3; refine alG infoIz (by rfl) rfl ?_; intro gA wA a1 a2 a3 rA; have hge : w.heap.size < gA := Nat.lt_of_lt_of_le hr.lt a1; replace hr := hr.below a3 hr.lt; replace hb0 := bt hb0 a3)
      | (have k := m4; clear m4; refine stI (.tmp 13) (.tmp 45) (by rfl) rfl gA ix hix _ rfl rfl rfl rA (Below.refl gA wA) (Nat.le_refl _) ?_; intro W4 r4 hb4; replace hr := hr.below hb4 hge; replace hb0 := hb0.trans (hb4.mono (Nat.le_of_lt hge)); clear hb4 rA a1 a2 a3)
      | (go_at_call 22; refine (ps2 _).mono ?_; rintro e w9 ⟨rfl, b9⟩; replace hr := hr.below b9 hr.lt; replace r4 := r4.below b9 r4.lt; replace hb0 := bt hb0 b9; clear b9)
      | (refine alG infoIz (by rfl) rfl ?_; intro gC wC c1 c2 c3 rC; have hlC : w.heap.size < gC := Nat.lt_of_lt_of_le hr.lt c1; have hlD : gA < gC := Nat.lt_of_lt_of_le r4.lt c1; replace hr := hr.below c3 hr.lt; replace r4 := r4.below c3 r4.lt; replace hb0 := bt hb0 c3)
      | (refine stI (.tmp 15) (.tmp 50) (by rfl) rfl gC ix hix _ rfl rfl rfl rC (Below.refl gC wC) (Nat.le_refl _) ?_; intro W5 r5 hb5; replace hr := hr.below hb5 hlC; replace r4 := r4.below hb5 hlD; replace hb0 := hb0.trans (hb5.mono (Nat.le_of_lt hlC)); clear hb5 rC c1 c2 c3))
    refine wp_region_noPanic ?_
    refine wp_region_held_drew (S := fun W => (Row W w.heap.size 39 (bcells i8) ∧ Row W gA 39 (bcells ix) ∧ Row W gC 39 (bcells ix)) ∧ Below w.heap.size w W) (by kernel_rfl) (⟨⟨hr, r4, r5⟩, hb0.drew⟩) (fun hHeld => ?_)
    refine take_lit (i := 0) (v := ?_) rfl (by kernel_rfl) (by kernel_rfl) (by kernel_rfl) (fun _ _ _ h => h) (Or.inl ⟨by rfl, ?_⟩) (by assumption) ?_
    rotate_left
    · (intro w hSw; (try dsimp only at hSw); go_simp <;> with_reducible rfl)
    try simp only [Act.put, List.setIfInBounds_toArray, List.set_cons_zero, List.set_cons_succ]
    refine take_lit (i := 1) (v := ?_) rfl (by kernel_rfl) (by kernel_rfl) (by kernel_rfl) (fun _ _ _ h => h) (Or.inl ⟨by rfl, ?_⟩) (by assumption) ?_
    rotate_left
    · (intro w hSw; (try dsimp only at hSw); go_simp <;> with_reducible rfl)
    try simp only [Act.put, List.setIfInBounds_toArray, List.set_cons_zero, List.set_cons_succ]
    refine take_lit (i := 2) (v := ?_) rfl (by kernel_rfl) (by kernel_rfl) (by kernel_rfl) (fun _ _ _ h => h) (Or.inl ⟨by rfl, ?_⟩) (by assumption) ?_
    rotate_left
    · (intro w hSw; (try dsimp only at hSw); go_simp <;> with_reducible rfl)
    try simp only [Act.put, List.setIfInBounds_toArray, List.set_cons_zero, List.set_cons_succ]
    refine take_lit (i := 3) (v := ?_) rfl (by kernel_rfl) (by kernel_rfl) (by kernel_rfl) (fun _ _ _ h => h) (Or.inl ⟨by rfl, ?_⟩) (by assumption) ?_
    rotate_left
    · (intro w hSw; (try dsimp only at hSw); go_simp <;> with_reducible rfl)
    try simp only [Act.put, List.setIfInBounds_toArray, List.set_cons_zero, List.set_cons_succ]
    refine take_lit (i := 4) (v := ?_) rfl (by kernel_rfl) (by kernel_rfl) (by kernel_rfl) (fun _ _ _ h => h) (Or.inl ⟨by rfl, ?_⟩) (by assumption) ?_
    rotate_left
    · (intro w hSw; (try dsimp only at hSw); go_simp <;> with_reducible rfl)
    try simp only [Act.put, List.setIfInBounds_toArray, List.set_cons_zero, List.set_cons_succ]
    refine take_lit (i := 5) (v := ?_) rfl (by kernel_rfl) (by kernel_rfl) (by kernel_rfl) (fun _ _ _ h => h) (Or.inl ⟨by rfl, ?_⟩) (by assumption) ?_
    rotate_left
    · (intro w hSw; (try dsimp only at hSw); go_simp <;> with_reducible rfl)
    try simp only [Act.put, List.setIfInBounds_toArray, List.set_cons_zero, List.set_cons_succ]
    refine take_lit (i := 6) (v := ?_) rfl (by kernel_rfl) (by kernel_rfl) (by kernel_rfl) (fun _ _ _ h => h) (Or.inl ⟨by rfl, ?_⟩) (by assumption) ?_
    rotate_left
    · (intro w hSw; (try dsimp only at hSw); go_simp <;> with_reducible rfl)
    try simp only [Act.put, List.setIfInBounds_toArray, List.set_cons_zero, List.set_cons_succ]
    refine take_lit (i := 7) (v := ?_) rfl (by kernel_rfl) (by kernel_rfl) (by kernel_rfl) (fun _ _ _ h => h) (Or.inl ⟨by rfl, ?_⟩) (by assumption) ?_
    rotate_left
    · (intro w hSw; (try dsimp only at hSw); go_simp <;> with_reducible rfl)
    try simp only [Act.put, List.setIfInBounds_toArray, List.set_cons_zero, List.set_cons_succ]
    refine take_lit (i := 8) (v := ?_) rfl (by kernel_rfl) (by kernel_rfl) (by kernel_rfl) (fun _ _ _ h => h) (Or.inl ⟨by rfl, ?_⟩) (by assumption) ?_
    rotate_left
    · (intro w hSw; (try dsimp only at hSw); go_simp <;> with_reducible rfl)
    try simp only [Act.put, List.setIfInBounds_toArray, List.set_cons_zero, List.set_cons_succ]
    refine take_lit (i := 9) rfl (by kernel_rfl) (by kernel_rfl) (by kernel_rfl) (fun _ _ _ h => h) (yI ix hix (fun W h => h.1.2.1.range) (by rfl) rfl rfl) (by assumption) ?_
    try simp only [Act.put, List.setIfInBounds_toArray, List.set_cons_zero, List.set_cons_succ]
    refine take_lit (i := 10) rfl (by kernel_rfl) (by kernel_rfl) (by kernel_rfl) (fun _ _ _ h => h) (yI ix hix (fun W h => h.1.2.2.range) (by rfl) rfl rfl) (by assumption) ?_
    try simp only [Act.put, List.setIfInBounds_toArray, List.set_cons_zero, List.set_cons_succ]
    refine take_lit (i := 11) (v := ?_) rfl (by kernel_rfl) (by kernel_rfl) (by kernel_rfl) (fun _ _ _ h => h) (Or.inl ⟨by rfl, ?_⟩) (by assumption) ?_
    rotate_left
    · (intro w hSw; (try dsimp only at hSw); go_simp <;> with_reducible rfl)
    try simp only [Act.put, List.setIfInBounds_toArray, List.set_cons_zero, List.set_cons_succ]
    refine take_lit (i := 12) (v := ?_) rfl (by kernel_rfl) (by kernel_rfl) (by kernel_rfl) (fun _ _ _ h => h) (Or.inl ⟨by rfl, ?_⟩) (by assumption) ?_
    rotate_left
    · (intro w hSw; (try dsimp only at hSw); go_simp <;> with_reducible rfl)
    try simp only [Act.put, List.setIfInBounds_toArray, List.set_cons_zero, List.set_cons_succ]
    refine take_lit (i := 13) (v := ?_) rfl (by kernel_rfl) (by kernel_rfl) (by kernel_rfl) (fun _ _ _ h => h) (Or.inl ⟨by rfl, ?_⟩) (by assumption) ?_
    rotate_left
    · (intro w hSw; (try dsimp only at hSw); go_simp <;> with_reducible rfl)
    try simp only [Act.put, List.setIfInBounds_toArray, List.set_cons_zero, List.set_cons_succ]
    refine take_lit (i := 14) (v := ?_) rfl (by kernel_rfl) (by kernel_rfl) (by kernel_rfl) (fun _ _ _ h => h) (Or.inl ⟨by rfl, ?_⟩) (by assumption) ?_
    rotate_left
    · (intro w hSw; (try dsimp only at hSw); go_simp <;> with_reducible rfl)
    try simp only [Act.put, List.setIfInBounds_toArray, List.set_cons_zero, List.set_cons_succ]
    refine take_lit (i := 15) (v := ?_) rfl (by kernel_rfl) (by kernel_rfl) (by kernel_rfl) (fun _ _ _ h => h) (Or.inl ⟨by rfl, ?_⟩) (by assumption) ?_
    rotate_left
    · (intro w hSw; (try dsimp only at hSw); go_simp <;> with_reducible rfl)
    try simp only [Act.put, List.setIfInBounds_toArray, List.set_cons_zero, List.set_cons_succ]
    refine take_lit (i := 16) (v := ?_) rfl (by kernel_rfl) (by kernel_rfl) (by kernel_rfl) (fun _ _ _ h => h) (Or.inl ⟨by rfl, ?_⟩) (by assumption) ?_
    rotate_left
    · (intro w hSw; (try dsimp only at hSw); go_simp <;> with_reducible rfl)
    try simp only [Act.put, List.setIfInBounds_toArray, List.set_cons_zero, List.set_cons_succ]
    refine take_lit (i := 17) (v := ?_) rfl (by kernel_rfl) (by kernel_rfl) (by kernel_rfl) (fun _ _ _ h => h) (Or.inl ⟨by rfl, ?_⟩) (by assumption) ?_
    rotate_left
    · (intro w hSw; (try dsimp only at hSw); go_simp <;> with_reducible rfl)
    try simp only [Act.put, List.setIfInBounds_toArray, List.set_cons_zero, List.set_cons_succ]
    refine take_lit (i := 18) (v := ?_) rfl (by kernel_rfl) (by kernel_rfl) (by kernel_rfl) (fun _ _ _ h => h) (Or.inl ⟨by rfl, ?_⟩) (by assumption) ?_
    rotate_left
    · (intro w hSw; (try dsimp only at hSw); go_simp <;> with_reducible rfl)
    try simp only [Act.put, List.setIfInBounds_toArray, List.set_cons_zero, List.set_cons_succ]
    refine take_lit (i := 19) rfl (by kernel_rfl) (by kernel_rfl) (by kernel_rfl) (fun _ _ _ h => h) (yI i8 h8 (fun W h => h.1.1.range) (by rfl) rfl rfl) (by assumption) ?_
    try simp only [Act.put, List.setIfInBounds_toArray, List.set_cons_zero, List.set_cons_succ]
    refine take_lit (i := 21) rfl (by kernel_rfl) (by kernel_rfl) (by kernel_rfl) (fun _ _ _ h => h) (yI i8 h8 (fun W h => h.1.1.range) (by rfl) rfl rfl) (by assumption) ?_
    try simp only [Act.put, List.setIfInBounds_toArray, List.set_cons_zero, List.set_cons_succ]
    refine wpAnyH_ready (rs := [20]) (by kernel_rfl) (by simp) ?_
    refine cons_lit rfl (fun K hK => ?_) ?_
    · go_simp
      refine (p1 _).mono ?_
      rintro e w20 ⟨rfl, b20⟩
      refine hK.out _ _ ?_ (fun hHeld => ?_)
      · exact ⟨⟨hHeld.1.1.below b20 hHeld.1.1.lt, hHeld.1.2.1.below b20 hHeld.1.2.1.lt, hHeld.1.2.2.below b20 hHeld.1.2.2.lt⟩, bt hHeld.2 b20⟩
      clear hK K
      try simp only [Act.put, List.setIfInBounds_toArray, List.set_cons_zero, List.set_cons_succ]
      refine wpAnyH_ready (rs := [22]) (by kernel_rfl) (by simp) ?_
      refine cons_lit rfl (fun K hK => ?_) ?_
      · go_simp
        refine (p2 _).mono ?_
        rintro e w22 ⟨rfl, b22⟩
        refine hK.out _ _ ?_ (fun hHeld => ?_)
        · exact ⟨⟨hHeld.1.1.below b22 hHeld.1.1.lt, hHeld.1.2.1.below b22 hHeld.1.2.1.lt, hHeld.1.2.2.below b22 hHeld.1.2.2.lt⟩, bt hHeld.2 b22⟩
        clear hK K
        try simp only [Act.put, List.setIfInBounds_toArray, List.set_cons_zero, List.set_cons_succ]
        refine take_lit (i := 23) (v := ?_) rfl (by kernel_rfl) (by kernel_rfl) (by kernel_rfl) (fun _ _ _ h => h) (Or.inl ⟨by rfl, ?_⟩) (by assumption) ?_
        rotate_left
        · (intro w hSw; (try dsimp only at hSw); go_simp <;> with_reducible rfl)
        try simp only [Act.put, List.setIfInBounds_toArray, List.set_cons_zero, List.set_cons_succ]
        refine take_lit (i := 24) (v := ?_) rfl (by kernel_rfl) (by kernel_rfl) (by kernel_rfl) (fun _ _ _ h => h) (Or.inl ⟨by rfl, ?_⟩) (by assumption) ?_
        rotate_left
        · (intro w hSw; (try dsimp only at hSw); go_simp <;> with_reducible rfl)
        try simp only [Act.put, List.setIfInBounds_toArray, List.set_cons_zero, List.set_cons_succ]
        refine take_lit (i := 25) (v := ?_) rfl (by kernel_rfl) (by kernel_rfl) (by kernel_rfl) (fun _ _ _ h => h) (Or.inl ⟨by rfl, ?_⟩) (by assumption) ?_
        rotate_left
        · (intro w hSw; (try dsimp only at hSw); go_simp <;> with_reducible rfl)
        try simp only [Act.put, List.setIfInBounds_toArray, List.set_cons_zero, List.set_cons_succ]
        refine wpAnyH_ready (rs := [26]) (by kernel_rfl) (by simp) ?_
        refine cons_lit rfl (fun K hK => ?_) ?_
        · go_simp
          refine (hL _ hHeld.2).mono ?_
          rintro e w26 ⟨rfl, b26⟩
          refine hK.out _ _ ?_ (fun hHeld => ?_)
          · exact ⟨⟨hHeld.1.1.below b26 hHeld.1.1.lt, hHeld.1.2.1.below b26 hHeld.1.2.1.lt, hHeld.1.2.2.below b26 hHeld.1.2.2.lt⟩, bt hHeld.2 b26⟩
          clear hK K
          try simp only [Act.put, List.setIfInBounds_toArray, List.set_cons_zero, List.set_cons_succ]
          refine take_lit (i := 27) (v := ?_) rfl (by kernel_rfl) (by kernel_rfl) (by kernel_rfl) (fun _ _ _ h => h) (Or.inl ⟨by rfl, ?_⟩) (by assumption) ?_
          rotate_left
          · (intro w hSw; (try dsimp only at hSw); go_simp <;> with_reducible rfl)
          try simp only [Act.put, List.setIfInBounds_toArray, List.set_cons_zero, List.set_cons_succ]
          refine take_lit (i := 28) (v := ?_) rfl (by kernel_rfl) (by kernel_rfl) (by kernel_rfl) (fun _ _ _ h => h) (Or.inl ⟨by rfl, ?_⟩) (by assumption) ?_
          rotate_left
          · (intro w hSw; (try dsimp only at hSw); go_simp <;> with_reducible rfl)
          try simp only [Act.put, List.setIfInBounds_toArray, List.set_cons_zero, List.set_cons_succ]
          refine wpAnyH_done (by kernel_rfl) ?_ _
          refine NoPanic.normal ?_
          go_wp2
          go_ret
          exact ⟨rfl, hHeld.2⟩
        exact AllReadyH.nil
      exact AllReadyH.nil
    exact AllReadyH.nil
end Go.Proofs.YtldpocbnkggnnaaDoor
