/-
  The law PacketPads returns true for every address, bytes, number of pads, type and body.
-/
import Derived.Test.YtaleclmccmeglaaPaP
namespace Go.Proofs.Ytaleclmccmeglaa
open Go.RowKit
set_option linter.unusedSimpArgs false
set_option maxRecDepth 20000

theorem pads_out0 (src : Ad) (a0 : Option Addr) (n0 c0 : Nat) (p z : Int) (a1 : Option Addr) (n1 c1 : Nat) (w : World)  (h0 : 5000 < n0) :
    Calls Try.prog 6 #[(Value.agg (acells src).toArray), .slice a0 n0 c0, .int .i64 p, .int .u8 z, .slice a1 n1 c1] w fun e w' => e = .returned (.bool true) ∧ Below w.heap.size w w' := by
  have x0 : (5000 : Int) < (n0 : Int) := by omega
  clear h0
  go_enter Try.func6, Try.ntmps6
  go_wp2_with (go_at_call 8; refine (live_any _).mono ?_; rintro e w' ⟨rfl, hw⟩)
  go_ret
  exact ⟨rfl, bt (ba _ _) hw⟩
theorem pads_out1 (src : Ad) (a0 : Option Addr) (n0 c0 : Nat) (p z : Int) (a1 : Option Addr) (n1 c1 : Nat) (w : World) (h0 : ¬ 5000 < n0) (h1 : p < 0) :
    Calls Try.prog 6 #[(Value.agg (acells src).toArray), .slice a0 n0 c0, .int .i64 p, .int .u8 z, .slice a1 n1 c1] w fun e w' => e = .returned (.bool true) ∧ Below w.heap.size w w' := by
  have x0 : ¬ (5000 : Int) < (n0 : Int) := by omega
  have x1 : p < 0 := by omega
  clear h0 h1
  go_enter Try.func6, Try.ntmps6
  go_wp2_with (go_at_call 8; refine (live_any _).mono ?_; rintro e w' ⟨rfl, hw⟩)
  go_ret
  exact ⟨rfl, bt (ba _ _) hw⟩
theorem pads_out2 (src : Ad) (a0 : Option Addr) (n0 c0 : Nat) (p z : Int) (a1 : Option Addr) (n1 c1 : Nat) (w : World) (h0 : ¬ 5000 < n0) (h1 : ¬ p < 0) (h2 : 50 < p) :
    Calls Try.prog 6 #[(Value.agg (acells src).toArray), .slice a0 n0 c0, .int .i64 p, .int .u8 z, .slice a1 n1 c1] w fun e w' => e = .returned (.bool true) ∧ Below w.heap.size w w' := by
  have x0 : ¬ (5000 : Int) < (n0 : Int) := by omega
  have x1 : ¬ p < 0 := by omega
  have x2 : 50 < p := by omega
  clear h0 h1 h2
  go_enter Try.func6, Try.ntmps6
  go_wp2_with (go_at_call 8; refine (live_any _).mono ?_; rintro e w' ⟨rfl, hw⟩)
  go_ret
  exact ⟨rfl, bt (ba _ _) hw⟩
theorem pads_out3 (src : Ad) (a0 : Option Addr) (n0 c0 : Nat) (p z : Int) (a1 : Option Addr) (n1 c1 : Nat) (w : World) (h0 : ¬ 5000 < n0) (h1 : ¬ p < 0) (h2 : ¬ 50 < p) (h3 : 200 < n1) :
    Calls Try.prog 6 #[(Value.agg (acells src).toArray), .slice a0 n0 c0, .int .i64 p, .int .u8 z, .slice a1 n1 c1] w fun e w' => e = .returned (.bool true) ∧ Below w.heap.size w w' := by
  have x0 : ¬ (5000 : Int) < (n0 : Int) := by omega
  have x1 : ¬ p < 0 := by omega
  have x2 : ¬ 50 < p := by omega
  have x3 : (200 : Int) < (n1 : Int) := by omega
  clear h0 h1 h2 h3
  go_enter Try.func6, Try.ntmps6
  go_wp2_with (go_at_call 8; refine (live_any _).mono ?_; rintro e w' ⟨rfl, hw⟩)
  go_ret
  exact ⟨rfl, bt (ba _ _) hw⟩
theorem pads_out4 (src : Ad) (a0 : Option Addr) (n0 c0 : Nat) (p z : Int) (a1 : Option Addr) (n1 c1 : Nat) (w : World) (h0 : ¬ 5000 < n0) (h1 : ¬ p < 0) (h2 : ¬ 50 < p) (h3 : ¬ 200 < n1) (h4 : (z ≤ 10 ∧ z ≠ 1)) :
    Calls Try.prog 6 #[(Value.agg (acells src).toArray), .slice a0 n0 c0, .int .i64 p, .int .u8 z, .slice a1 n1 c1] w fun e w' => e = .returned (.bool true) ∧ Below w.heap.size w w' := by
  have x0 : ¬ (5000 : Int) < (n0 : Int) := by omega
  have x1 : ¬ p < 0 := by omega
  have x2 : ¬ 50 < p := by omega
  have x3 : ¬ (200 : Int) < (n1 : Int) := by omega
  have x4 : z ≤ 10 := h4.1
  have x5 : ¬ z = 1 := h4.2
  clear h0 h1 h2 h3 h4
  go_enter Try.func6, Try.ntmps6
  go_wp2_with (go_at_call 8; refine (live_any _).mono ?_; rintro e w' ⟨rfl, hw⟩)
  go_ret
  exact ⟨rfl, bt (ba _ _) hw⟩
set_option maxHeartbeats 4000000 in
theorem pads_walk1 (src : Ad) (a0 : Option Addr) (n0 c0 : Nat) (l0 : List UInt8) (k : Nat) (kt : UInt8) (z : Int) (a1 : Option Addr) (n1 c1 : Nat) (lb : List UInt8) (w : World) (h0 : Src w a0 n0 c0 (bcells l0)) (h1 : Src w a1 n1 c1 (bcells lb)) (k0 : n0 ≤ 5000) (hk : k ≤ 50) (k1 : n1 ≤ 200) (hz : z = (kt.toNat : Int)) (x4 : z ≤ 10) (x5 : z = 1) :
    Calls Try.prog 6 #[(Value.agg (acells src).toArray), .slice a0 n0 c0, .int .i64 (k : Int), .int .u8 z, .slice a1 n1 c1] w fun e w' => e = .returned (.bool true) ∧ Below w.heap.size w w' := by
  subst x5
  clear x4
  have x0 : ¬ (5000 : Int) < (n0 : Int) := by omega
  have x1 : ¬ (k : Int) < 0 := by omega
  have x2 : ¬ (50 : Int) < (k : Int) := by omega
  have x3 : ¬ (200 : Int) < (n1 : Int) := by omega
  have yw : IntKind.u8.wrap (n1 : Int) = (n1 : Int) := by rw [IntKind.wrap_u8]; omega
  have L0 : Hid (l0.length = n0) := h0.blen.symm
  have L1 : Hid (lb.length = n1) := h1.blen.symm
  have hbs : bcells [kt, UInt8.ofNat n1] = [.int .u8 1, .int .u8 (n1 : Int)] := by
    have : (UInt8.ofNat n1).toNat = n1 := by simp; omega
    simp only [bcells, List.map_cons, List.map_nil, this, ← hz]
  have KT : Hid (kt.toNat = 1 ∨ 10 < kt.toNat) := by show _ ∨ _; omega
  obtain ⟨s0, hs0⟩ : ∃ s, (⟨l0.toArray⟩ : ByteArray) = s := ⟨_, rfl⟩
  obtain ⟨s1, hs1⟩ : ∃ s, (⟨(List.replicate k (0 : UInt8)).toArray⟩ : ByteArray) = s := ⟨_, rfl⟩
  obtain ⟨s2, hs2⟩ : ∃ s, (⟨[kt, UInt8.ofNat n1].toArray⟩ : ByteArray) = s := ⟨_, rfl⟩
  obtain ⟨s3, hs3⟩ : ∃ s, (⟨lb.toArray⟩ : ByteArray) = s := ⟨_, rfl⟩
  obtain ⟨f1, hf1⟩ : ∃ s, s1 ++ s2 = s := ⟨_, rfl⟩
  obtain ⟨f2, hf2⟩ : ∃ s, f1 ++ s3 = s := ⟨_, rfl⟩
  obtain ⟨f3, hf3⟩ : ∃ s, f2 ++ s0 = s := ⟨_, rfl⟩
  have zs0 : s0.size = n0 := by rw [← hs0, ← L0.out]; show l0.toArray.size = _; simp
  have zs1 : s1.size = k := by rw [← hs1]; show (List.replicate k (0 : UInt8)).toArray.size = _; simp
  have zs2 : s2.size = 2 := by rw [← hs2]; rfl
  have zs3 : s3.size = n1 := by rw [← hs3, ← L1.out]; show lb.toArray.size = _; simp
  have zf1 : f1.size = k + 2 := by rw [← hf1, ByteArray.size_append, zs1, zs2]
  have zf2 : f2.size = k + 2 + n1 := by rw [← hf2, ByteArray.size_append, zf1, zs3]
  have zf3 : f3.size = k + 2 + n1 + n0 := by rw [← hf3, ByteArray.size_append, zf2, zs0]
  have C1 : Hid (¬ 9223372036854775807 < s1.size + s2.size) := by show ¬ _; omega
  have C2 : Hid (¬ 9223372036854775807 < f1.size + s3.size) := by show ¬ _; omega
  have C3 : Hid (¬ 9223372036854775807 < f2.size + s0.size) := by show ¬ _; omega
  have Z0 : s0.size ≤ 65535 := by omega
  have Z3 : f3.size ≤ 65535 := by omega
  have D0 : Hid (s0.data.toList = l0) := by show _ = _; rw [← hs0]
  have D3 : Hid (f3.data.toList = padL k kt lb l0) := by
    show _ = _
    rw [← hf3, ByteArray.data_append, ← hf2, ByteArray.data_append, ← hf1, ByteArray.data_append, ← hs0, ← hs1, ← hs2, ← hs3, ← L1.out]
    simp [padL]
  have PS := pad_spl (bgS src) k kt lb l0 KT.out (by have := L1.out; omega)
  obtain ⟨E0, hE0⟩ : ∃ E, (splL l0).2 = E := ⟨_, rfl⟩
  have Q0 : Hid (∀ W a c, Src W a (4 + s0.size) c (bcells (pkL s0.data.toList)) → Calls Try.prog 9 #[(Value.agg (acells src).toArray), .slice a (4 + s0.size) c] W fun e w' => ∃ a c N ts, e = .returned (.tuple #[.slice a N c, .int .i64 E0]) ∧ ToldP w' a N c ts src l0 ∧ Below W.heap.size W w') := fun W a c hs => by
    rw [D0.out] at hs
    rw [← hE0]
    exact parse_pk src l0 (by have := L0.out; omega) hs (by omega)
  have Q1 : Hid (∀ W a c, Src W a (4 + f3.size) c (bcells (pkL f3.data.toList)) → Calls Try.prog 9 #[(Value.agg (acells src).toArray), .slice a (4 + f3.size) c] W fun e w' => ∃ a c N ts, e = .returned (.tuple #[.slice a N c, .int .i64 E0]) ∧ ToldP w' a N c ts src (padL k kt lb l0) ∧ Below W.heap.size W w') := fun W a c hs => by
    rw [D3.out] at hs
    rw [← hE0, ← PS.1]
    exact parse_pk src (padL k kt lb l0) (by have := L0.out; have := L1.out; rw [padL_len]; omega) hs (by omega)
  have HP : Hid (tellL (bgS src) (splL (padL k kt lb l0)).1 = tellL (bgS src) (splL l0).1) := PS.2
  clear hE0 PS zs0 zs1 zs2 zs3 zf1 zf2 zf3 hz D0 D3 k0 k1
  go_enter Try.func6, Try.ntmps6
  go_wp2
  refine name_world (R := fun W => Code.wp _ _ _ _ W) (P := fun W => Below w.heap.size w W ∧ Row W w.heap.size 23 (acells src)) _ ⟨ba _ _, Row.new _ _ _⟩ ?_
  rintro X ⟨hB, hR⟩
  have bX := bt hB (bd X)
  have rX := hR.below (bd X) hR.lt
  have sX := Src.below h0 bX (Src.lt h0)
  have tX := Src.below h1 bX (Src.lt h1)
  refine wp_region_noPanic ?_
  refine wp_region_held_drew (S := fun W => Src W a1 n1 c1 (bcells lb)) (by kernel_rfl) (tX) (fun hHeld => ?_)
  refine take_lit (i := 0) (v := ?_) rfl (by kernel_rfl) (by kernel_rfl) (by kernel_rfl) (fun _ _ _ h => h) (Or.inl ⟨by rfl, ?_⟩) (by assumption) ?_
  rotate_left
  · (intro w hSw; (try dsimp only at hSw); go_simp <;> with_reducible rfl)
  try simp only [Act.put, List.setIfInBounds_toArray, List.set_cons_zero, List.set_cons_succ]
  refine take_lit (i := 3) (v := ?_) rfl (by kernel_rfl) (by kernel_rfl) (by kernel_rfl) (fun _ _ _ h => h) (Or.inl ⟨by rfl, ?_⟩) (by assumption) ?_
  rotate_left
  · (intro w hSw; (try dsimp only at hSw); go_simp <;> with_reducible rfl)
  try simp only [Act.put, List.setIfInBounds_toArray, List.set_cons_zero, List.set_cons_succ]
  refine take_lit (i := 4) (v := ?_) rfl (by kernel_rfl) (by kernel_rfl) (by kernel_rfl) (fun _ _ _ h => h) (Or.inl ⟨by rfl, ?_⟩) (by assumption) ?_
  rotate_left
  · (intro w hSw; (try dsimp only at hSw); go_simp <;> with_reducible rfl)
  try simp only [Act.put, List.setIfInBounds_toArray, List.set_cons_zero, List.set_cons_succ]
  refine take_lit (i := 5) (v := ?_) rfl (by kernel_rfl) (by kernel_rfl) (by kernel_rfl) (fun _ _ _ h => h) (Or.inl ⟨by rfl, ?_⟩) (by assumption) ?_
  rotate_left
  · (intro w hSw; (try dsimp only at hSw); go_simp <;> with_reducible rfl)
  try simp only [Act.put, List.setIfInBounds_toArray, List.set_cons_zero, List.set_cons_succ]
  refine take_lit (i := 6) (v := ?_) rfl (by kernel_rfl) (by kernel_rfl) (by kernel_rfl) (fun _ _ _ h => h) (Or.inl ⟨by rfl, ?_⟩) (by assumption) ?_
  rotate_left
  · (intro w hSw; (try dsimp only at hSw); go_simp <;> with_reducible rfl)
  try simp only [Act.put, List.setIfInBounds_toArray, List.set_cons_zero, List.set_cons_succ]
  refine take_lit (i := 10) (v := ?_) rfl (by kernel_rfl) (by kernel_rfl) (by kernel_rfl) (fun _ _ _ h => h) (Or.inl ⟨by rfl, ?_⟩) (by assumption) ?_
  rotate_left
  · (intro w hSw; (try dsimp only at hSw); go_simp <;> with_reducible rfl)
  try simp only [Act.put, List.setIfInBounds_toArray, List.set_cons_zero, List.set_cons_succ]
  refine take_lit (i := 11) (v := ?_) rfl (by kernel_rfl) (by kernel_rfl) (by kernel_rfl) (fun _ _ _ h => h) (Or.inl ⟨by rfl, ?_⟩) (by assumption) ?_
  rotate_left
  · (intro w hSw; (try dsimp only at hSw); have hm := hSw.str; go_simp <;> with_reducible rfl)
  try simp only [Act.put, List.setIfInBounds_toArray, List.set_cons_zero, List.set_cons_succ]
  refine wpAnyH_ready (rs := [1, 7]) (by kernel_rfl) (by simp) ?_
  refine cons_lit rfl (fun K hK => ?_) ?_
  · skip
    refine sMk (.tmp 41) (by rfl) rfl k hk rfl ?_
    intro g1 W1 m1 d1
    replace bX := bt bX d1
    replace rX := rX.below d1 rX.lt
    replace sX := Src.below sX d1 (Src.lt sX)
    replace tX := Src.below tX d1 (Src.lt tX)
    try replace m7 := Src.below m7 d1 (Src.lt m7)
    clear d1
    refine hK.out _ _ ?_ (fun hHeld => ?_)
    · exact tX
    clear hK K
    try simp only [Act.put, List.setIfInBounds_toArray, List.set_cons_zero, List.set_cons_succ]
    refine wpAnyH_ready (rs := [2, 7]) (by kernel_rfl) (by simp) ?_
    refine cons_lit rfl (fun K hK => ?_) ?_
    · skip
      refine sCv (.tmp 42) (by rfl) rfl _ _ _ _ s1 rfl m1 hs1 ?_
      refine hK.out _ _ ?_ (fun hHeld => ?_)
      · exact tX
      clear hK K
      try simp only [Act.put, List.setIfInBounds_toArray, List.set_cons_zero, List.set_cons_succ]
      refine wpAnyH_ready (rs := [7]) (by kernel_rfl) (by simp) ?_
      refine cons_lit rfl (fun K hK => ?_) ?_
      · skip
        refine sBs (.tmp 44) (.tmp 47) (by rfl) rfl [kt, UInt8.ofNat n1] _ _ rfl rfl hbs ?_
        intro g7 W7 m7 d7
        replace bX := bt bX d7
        replace rX := rX.below d7 rX.lt
        replace sX := Src.below sX d7 (Src.lt sX)
        replace tX := Src.below tX d7 (Src.lt tX)
        try replace m1 := Src.below m1 d7 (Src.lt m1)
        clear d7
        refine hK.out _ _ ?_ (fun hHeld => ?_)
        · exact tX
        clear hK K
        try simp only [Act.put, List.setIfInBounds_toArray, List.set_cons_zero, List.set_cons_succ]
        refine wpAnyH_ready (rs := [8]) (by kernel_rfl) (by simp) ?_
        refine cons_lit rfl (fun K hK => ?_) ?_
        · skip
          refine sCv (.tmp 48) (by rfl) rfl _ _ _ _ s2 rfl m7 hs2 ?_
          refine hK.out _ _ ?_ (fun hHeld => ?_)
          · exact tX
          clear hK K
          try simp only [Act.put, List.setIfInBounds_toArray, List.set_cons_zero, List.set_cons_succ]
          refine take_lit (i := 9) (v := ?_) rfl (by kernel_rfl) (by kernel_rfl) (by kernel_rfl) (fun _ _ _ h => h) (Or.inl ⟨by rfl, ?_⟩) (by assumption) ?_
          rotate_left
          · (intro w hSw; (try dsimp only at hSw); go_simp; rw [if_neg C1.out])
          try simp only [Act.put, List.setIfInBounds_toArray, List.set_cons_zero, List.set_cons_succ]
          refine take_lit (i := 12) (v := ?_) rfl (by kernel_rfl) (by kernel_rfl) (by kernel_rfl) (fun _ _ _ h => h) (Or.inl ⟨by rfl, ?_⟩) (by assumption) ?_
          rotate_left
          · (intro w hSw; (try dsimp only at hSw); go_simp; rw [if_neg C2.out])
          try simp only [Act.put, List.setIfInBounds_toArray, List.set_cons_zero, List.set_cons_succ]
          refine take_lit (i := 13) (v := ?_) rfl (by kernel_rfl) (by kernel_rfl) (by kernel_rfl) (fun _ _ _ h => h) (Or.inl ⟨by rfl, ?_⟩) (by assumption) ?_
          rotate_left
          · (intro w hSw; (try dsimp only at hSw); go_simp <;> with_reducible rfl)
          try simp only [Act.put, List.setIfInBounds_toArray, List.set_cons_zero, List.set_cons_succ]
          refine wpAnyH_done (by kernel_rfl) ?_ _
          refine NoPanic.normal ?_
          go_wp2
          refine name_world (R := fun W => Code.wp _ _ _ _ W) (P := fun W => Below w.heap.size w W ∧ Row W w.heap.size 23 (acells src) ∧ Src W a0 n0 c0 (bcells l0)) _ ⟨bX, rX, sX⟩ ?_
          clear hHeld rX sX tX bX m1 m7
          rintro Y ⟨hBY, hRY, hSY⟩
          have bX := bt hBY (bd Y)
          have rD := hRY.below (bd Y) hRY.lt
          have sX := Src.below hSY (bd Y) (Src.lt hSY)
          refine wp_region_noPanic ?_
          refine wp_region_held_drew (S := fun W => Row W w.heap.size 23 (acells src) ∧ Src W a0 n0 c0 (bcells l0)) (by kernel_rfl) (⟨rD, sX⟩) (fun hHeld => ?_)
          refine take_lit (i := 0) rfl (by kernel_rfl) (by kernel_rfl) (by kernel_rfl) (fun _ _ _ h => h) (yA src (fun W hW => hW.1.range) (by rfl) rfl rfl) (by assumption) ?_
          try simp only [Act.put, List.setIfInBounds_toArray, List.set_cons_zero, List.set_cons_succ]
          refine take_lit (i := 1) (v := ?_) rfl (by kernel_rfl) (by kernel_rfl) (by kernel_rfl) (fun _ _ _ h => h) (Or.inl ⟨by rfl, ?_⟩) (by assumption) ?_
          rotate_left
          · (intro w hSw; (try dsimp only at hSw); go_simp <;> with_reducible rfl)
          try simp only [Act.put, List.setIfInBounds_toArray, List.set_cons_zero, List.set_cons_succ]
          refine take_lit (i := 2) (v := ?_) rfl (by kernel_rfl) (by kernel_rfl) (by kernel_rfl) (fun _ _ _ h => h) (Or.inl ⟨by rfl, ?_⟩) (by assumption) ?_
          rotate_left
          · (intro w hSw; (try dsimp only at hSw); have hm := hSw.2.str; go_simp <;> with_reducible rfl)
          try simp only [Act.put, List.setIfInBounds_toArray, List.set_cons_zero, List.set_cons_succ]
          refine wpAnyH_ready (rs := [3]) (by kernel_rfl) (by simp) ?_
          refine cons_lit rfl (fun K hK => ?_) ?_
          · go_simp
            refine (wrap_any s0 Z0 _).mono ?_
            rintro e w1 ⟨ax, cx, rfl, s1', b1⟩
            have r1 := rD.below b1 rD.lt
            have t1 := Src.below sX b1 (Src.lt sX)
            refine hK.out _ _ ?_ (fun hHeld => ?_)
            · exact ⟨r1, t1⟩
            clear hK K
            try simp only [Act.put, List.setIfInBounds_toArray, List.set_cons_zero, List.set_cons_succ]
            refine wpAnyH_ready (rs := [4]) (by kernel_rfl) (by simp) ?_
            refine cons_lit rfl (fun K hK => ?_) ?_
            · go_simp
              refine (Q0.out _ _ _ s1').mono ?_
              rintro e w2 ⟨a2, c2, N, ts, rfl, ht, b2⟩
              have r2 := r1.below b2 r1.lt
              have t2 := Src.below t1 b2 (Src.lt t1)
              have B2 := bt (bt bX b1) b2
              refine hK.out _ _ ?_ (fun hHeld => ?_)
              · exact ⟨r2, t2⟩
              clear hK K
              try simp only [Act.put, List.setIfInBounds_toArray, List.set_cons_zero, List.set_cons_succ]
              refine take_lit (i := 5) (v := ?_) rfl (by kernel_rfl) (by kernel_rfl) (by kernel_rfl) (fun _ _ _ h => h) (Or.inl ⟨by rfl, ?_⟩) (by assumption) ?_
              rotate_left
              · (intro w hSw; (try dsimp only at hSw); go_simp <;> with_reducible rfl)
              try simp only [Act.put, List.setIfInBounds_toArray, List.set_cons_zero, List.set_cons_succ]
              refine take_lit (i := 6) (v := ?_) rfl (by kernel_rfl) (by kernel_rfl) (by kernel_rfl) (fun _ _ _ h => h) (Or.inl ⟨by rfl, ?_⟩) (by assumption) ?_
              rotate_left
              · (intro w hSw; (try dsimp only at hSw); go_simp <;> with_reducible rfl)
              try simp only [Act.put, List.setIfInBounds_toArray, List.set_cons_zero, List.set_cons_succ]
              refine take_lit (i := 7) (v := ?_) rfl (by kernel_rfl) (by kernel_rfl) (by kernel_rfl) (fun _ _ _ h => h) (Or.inl ⟨by rfl, ?_⟩) (by assumption) ?_
              rotate_left
              · (intro w hSw; (try dsimp only at hSw); go_simp <;> with_reducible rfl)
              try simp only [Act.put, List.setIfInBounds_toArray, List.set_cons_zero, List.set_cons_succ]
              refine take_lit (i := 8) (v := ?_) rfl (by kernel_rfl) (by kernel_rfl) (by kernel_rfl) (fun _ _ _ h => h) (Or.inl ⟨by rfl, ?_⟩) (by assumption) ?_
              rotate_left
              · (intro w hSw; (try dsimp only at hSw); go_simp <;> with_reducible rfl)
              try simp only [Act.put, List.setIfInBounds_toArray, List.set_cons_zero, List.set_cons_succ]
              refine take_lit (i := 9) (v := ?_) rfl (by kernel_rfl) (by kernel_rfl) (by kernel_rfl) (fun _ _ _ h => h) (Or.inl ⟨by rfl, ?_⟩) (by assumption) ?_
              rotate_left
              · (intro w hSw; (try dsimp only at hSw); go_simp <;> with_reducible rfl)
              try simp only [Act.put, List.setIfInBounds_toArray, List.set_cons_zero, List.set_cons_succ]
              refine wpAnyH_done (by kernel_rfl) ?_ _
              refine NoPanic.normal ?_
              go_wp2
              clear hHeld s1' t1 r1 sX rD
              have rE := r2.below (bd w2) r2.lt
              have sE := Src.below t2 (bd w2) (Src.lt t2)
              have hT := ht.below (bd w2)
              have B3 := bt B2 (bd w2)
              clear r2 t2 ht
              refine wp_region_noPanic ?_
              refine wp_region_held_drew (S := fun W => Row W w.heap.size 23 (acells src) ∧ Src W a0 n0 c0 (bcells l0)) (by kernel_rfl) (⟨rE, sE⟩) (fun hHeld => ?_)
              refine take_lit (i := 0) rfl (by kernel_rfl) (by kernel_rfl) (by kernel_rfl) (fun _ _ _ h => h) (yA src (fun W hW => hW.1.range) (by rfl) rfl rfl) (by assumption) ?_
              try simp only [Act.put, List.setIfInBounds_toArray, List.set_cons_zero, List.set_cons_succ]
              refine take_lit (i := 1) (v := ?_) rfl (by kernel_rfl) (by kernel_rfl) (by kernel_rfl) (fun _ _ _ h => h) (Or.inl ⟨by rfl, ?_⟩) (by assumption) ?_
              rotate_left
              · (intro w hSw; (try dsimp only at hSw); go_simp <;> with_reducible rfl)
              try simp only [Act.put, List.setIfInBounds_toArray, List.set_cons_zero, List.set_cons_succ]
              refine take_lit (i := 2) (v := ?_) rfl (by kernel_rfl) (by kernel_rfl) (by kernel_rfl) (fun _ _ _ h => h) (Or.inl ⟨by rfl, ?_⟩) (by assumption) ?_
              rotate_left
              · (intro w hSw; (try dsimp only at hSw); go_simp <;> with_reducible rfl)
              try simp only [Act.put, List.setIfInBounds_toArray, List.set_cons_zero, List.set_cons_succ]
              refine take_lit (i := 3) (v := ?_) rfl (by kernel_rfl) (by kernel_rfl) (by kernel_rfl) (fun _ _ _ h => h) (Or.inl ⟨by rfl, ?_⟩) (by assumption) ?_
              rotate_left
              · (intro w hSw; (try dsimp only at hSw); have hm := hSw.2.str; go_simp <;> with_reducible rfl)
              try simp only [Act.put, List.setIfInBounds_toArray, List.set_cons_zero, List.set_cons_succ]
              refine take_lit (i := 4) (v := ?_) rfl (by kernel_rfl) (by kernel_rfl) (by kernel_rfl) (fun _ _ _ h => h) (Or.inl ⟨by rfl, ?_⟩) (by assumption) ?_
              rotate_left
              · (intro w hSw; (try dsimp only at hSw); go_simp; rw [if_neg C3.out])
              try simp only [Act.put, List.setIfInBounds_toArray, List.set_cons_zero, List.set_cons_succ]
              refine wpAnyH_ready (rs := [5]) (by kernel_rfl) (by simp) ?_
              refine cons_lit rfl (fun K hK => ?_) ?_
              · go_simp
                refine (wrap_any f3 Z3 _).mono ?_
                rintro e w3 ⟨ay, cy, rfl, s3', b3⟩
                refine hK.out _ _ ?_ (fun hHeld => ?_)
                · exact ⟨rE.below b3 rE.lt, Src.below sE b3 (Src.lt sE)⟩
                clear hK K
                try simp only [Act.put, List.setIfInBounds_toArray, List.set_cons_zero, List.set_cons_succ]
                refine wpAnyH_ready (rs := [6]) (by kernel_rfl) (by simp) ?_
                refine cons_lit rfl (fun K hK => ?_) ?_
                · go_simp
                  refine (Q1.out _ _ _ s3').mono ?_
                  rintro e w4 ⟨a4, c4, M, us, rfl, hU, b4⟩
                  have B4 := bt (bt B3 b3) b4
                  have hT4 := (hT.below b3).below b4
                  refine hK.out _ _ ?_ (fun hHeld => ?_)
                  · exact ⟨(rE.below b3 rE.lt).below b4 (rE.below b3 rE.lt).lt, Src.below (Src.below sE b3 (Src.lt sE)) b4 (Src.lt (Src.below sE b3 (Src.lt sE)))⟩
                  clear hK K
                  try simp only [Act.put, List.setIfInBounds_toArray, List.set_cons_zero, List.set_cons_succ]
                  refine take_lit (i := 7) (v := ?_) rfl (by kernel_rfl) (by kernel_rfl) (by kernel_rfl) (fun _ _ _ h => h) (Or.inl ⟨by rfl, ?_⟩) (by assumption) ?_
                  rotate_left
                  · (intro w hSw; (try dsimp only at hSw); go_simp <;> with_reducible rfl)
                  try simp only [Act.put, List.setIfInBounds_toArray, List.set_cons_zero, List.set_cons_succ]
                  refine take_lit (i := 8) (v := ?_) rfl (by kernel_rfl) (by kernel_rfl) (by kernel_rfl) (fun _ _ _ h => h) (Or.inl ⟨by rfl, ?_⟩) (by assumption) ?_
                  rotate_left
                  · (intro w hSw; (try dsimp only at hSw); go_simp <;> with_reducible rfl)
                  try simp only [Act.put, List.setIfInBounds_toArray, List.set_cons_zero, List.set_cons_succ]
                  refine take_lit (i := 9) (v := ?_) rfl (by kernel_rfl) (by kernel_rfl) (by kernel_rfl) (fun _ _ _ h => h) (Or.inl ⟨by rfl, ?_⟩) (by assumption) ?_
                  rotate_left
                  · (intro w hSw; (try dsimp only at hSw); go_simp <;> with_reducible rfl)
                  try simp only [Act.put, List.setIfInBounds_toArray, List.set_cons_zero, List.set_cons_succ]
                  refine take_lit (i := 10) (v := ?_) rfl (by kernel_rfl) (by kernel_rfl) (by kernel_rfl) (fun _ _ _ h => h) (Or.inl ⟨by rfl, ?_⟩) (by assumption) ?_
                  rotate_left
                  · (intro w hSw; (try dsimp only at hSw); go_simp <;> with_reducible rfl)
                  try simp only [Act.put, List.setIfInBounds_toArray, List.set_cons_zero, List.set_cons_succ]
                  refine take_lit (i := 11) (v := ?_) rfl (by kernel_rfl) (by kernel_rfl) (by kernel_rfl) (fun _ _ _ h => h) (Or.inl ⟨by rfl, ?_⟩) (by assumption) ?_
                  rotate_left
                  · (intro w hSw; (try dsimp only at hSw); go_simp <;> with_reducible rfl)
                  try simp only [Act.put, List.setIfInBounds_toArray, List.set_cons_zero, List.set_cons_succ]
                  refine wpAnyH_done (by kernel_rfl) ?_ _
                  refine NoPanic.normal ?_
                  have ek : ts.map Tl.key = us.map Tl.key := by rw [hT4.key, hU.key, HP.out]
                  obtain rfl : M = N := by
                    have n1 := hT4.tlw.len
                    have n2 := hU.tlw.len
                    have n3 := congrArg List.length ek
                    simp only [List.length_map] at n3
                    omega
                  have HS : Hid (Calls Try.prog 11 #[.slice a2 M c2, .slice a4 M c4] w4 fun e w' => e = .returned (.bool true) ∧ Below w4.heap.size w4 w') := sames_true a2 a4 M c2 c4 ts us w4 hT4.tlw hU.tlw ek hT4.le hT4.st
                  clear hHeld s3' b3 b4 b2 b1 rE sE hT B3 B2 Q0 Q1 Z0 Z3 hT4 hU ek
                  go_wp2_with (first
                    | (go_at_call 12; refine (num6 _ _).mono ?_; rintro e wn ⟨rfl, rfl⟩)
                    | (go_at_call 11; refine HS.out.mono ?_; rintro e w6 ⟨rfl, b6⟩)
                    | (go_at_call 8; refine (live_any _).mono ?_; rintro e w5 ⟨rfl, b5⟩))
                  go_ret
                  exact ⟨rfl, bt (bt B4 b6) b5⟩
                exact AllReadyH.nil
              exact AllReadyH.nil
            exact AllReadyH.nil
          exact AllReadyH.nil
        exact AllReadyH.nil
      exact AllReadyH.nil
    refine cons_lit rfl (fun K hK => ?_) ?_
    · skip
      refine sBs (.tmp 44) (.tmp 47) (by rfl) rfl [kt, UInt8.ofNat n1] _ _ rfl rfl hbs ?_
      intro g7 W7 m7 d7
      replace bX := bt bX d7
      replace rX := rX.below d7 rX.lt
      replace sX := Src.below sX d7 (Src.lt sX)
      replace tX := Src.below tX d7 (Src.lt tX)
      try replace m1 := Src.below m1 d7 (Src.lt m1)
      clear d7
      refine hK.out _ _ ?_ (fun hHeld => ?_)
      · exact tX
      clear hK K
      try simp only [Act.put, List.setIfInBounds_toArray, List.set_cons_zero, List.set_cons_succ]
      refine wpAnyH_ready (rs := [2, 8]) (by kernel_rfl) (by simp) ?_
      refine cons_lit rfl (fun K hK => ?_) ?_
      · skip
        refine sCv (.tmp 42) (by rfl) rfl _ _ _ _ s1 rfl m1 hs1 ?_
        refine hK.out _ _ ?_ (fun hHeld => ?_)
        · exact tX
        clear hK K
        try simp only [Act.put, List.setIfInBounds_toArray, List.set_cons_zero, List.set_cons_succ]
        refine wpAnyH_ready (rs := [8]) (by kernel_rfl) (by simp) ?_
        refine cons_lit rfl (fun K hK => ?_) ?_
        · skip
          refine sCv (.tmp 48) (by rfl) rfl _ _ _ _ s2 rfl m7 hs2 ?_
          refine hK.out _ _ ?_ (fun hHeld => ?_)
          · exact tX
          clear hK K
          try simp only [Act.put, List.setIfInBounds_toArray, List.set_cons_zero, List.set_cons_succ]
          refine take_lit (i := 9) (v := ?_) rfl (by kernel_rfl) (by kernel_rfl) (by kernel_rfl) (fun _ _ _ h => h) (Or.inl ⟨by rfl, ?_⟩) (by assumption) ?_
          rotate_left
          · (intro w hSw; (try dsimp only at hSw); go_simp; rw [if_neg C1.out])
          try simp only [Act.put, List.setIfInBounds_toArray, List.set_cons_zero, List.set_cons_succ]
          refine take_lit (i := 12) (v := ?_) rfl (by kernel_rfl) (by kernel_rfl) (by kernel_rfl) (fun _ _ _ h => h) (Or.inl ⟨by rfl, ?_⟩) (by assumption) ?_
          rotate_left
          · (intro w hSw; (try dsimp only at hSw); go_simp; rw [if_neg C2.out])
          try simp only [Act.put, List.setIfInBounds_toArray, List.set_cons_zero, List.set_cons_succ]
          refine take_lit (i := 13) (v := ?_) rfl (by kernel_rfl) (by kernel_rfl) (by kernel_rfl) (fun _ _ _ h => h) (Or.inl ⟨by rfl, ?_⟩) (by assumption) ?_
          rotate_left
          · (intro w hSw; (try dsimp only at hSw); go_simp <;> with_reducible rfl)
          try simp only [Act.put, List.setIfInBounds_toArray, List.set_cons_zero, List.set_cons_succ]
          refine wpAnyH_done (by kernel_rfl) ?_ _
          refine NoPanic.normal ?_
          go_wp2
          refine name_world (R := fun W => Code.wp _ _ _ _ W) (P := fun W => Below w.heap.size w W ∧ Row W w.heap.size 23 (acells src) ∧ Src W a0 n0 c0 (bcells l0)) _ ⟨bX, rX, sX⟩ ?_
          clear hHeld rX sX tX bX m1 m7
          rintro Y ⟨hBY, hRY, hSY⟩
          have bX := bt hBY (bd Y)
          have rD := hRY.below (bd Y) hRY.lt
          have sX := Src.below hSY (bd Y) (Src.lt hSY)
          refine wp_region_noPanic ?_
          refine wp_region_held_drew (S := fun W => Row W w.heap.size 23 (acells src) ∧ Src W a0 n0 c0 (bcells l0)) (by kernel_rfl) (⟨rD, sX⟩) (fun hHeld => ?_)
          refine take_lit (i := 0) rfl (by kernel_rfl) (by kernel_rfl) (by kernel_rfl) (fun _ _ _ h => h) (yA src (fun W hW => hW.1.range) (by rfl) rfl rfl) (by assumption) ?_
          try simp only [Act.put, List.setIfInBounds_toArray, List.set_cons_zero, List.set_cons_succ]
          refine take_lit (i := 1) (v := ?_) rfl (by kernel_rfl) (by kernel_rfl) (by kernel_rfl) (fun _ _ _ h => h) (Or.inl ⟨by rfl, ?_⟩) (by assumption) ?_
          rotate_left
          · (intro w hSw; (try dsimp only at hSw); go_simp <;> with_reducible rfl)
          try simp only [Act.put, List.setIfInBounds_toArray, List.set_cons_zero, List.set_cons_succ]
          refine take_lit (i := 2) (v := ?_) rfl (by kernel_rfl) (by kernel_rfl) (by kernel_rfl) (fun _ _ _ h => h) (Or.inl ⟨by rfl, ?_⟩) (by assumption) ?_
          rotate_left
          · (intro w hSw; (try dsimp only at hSw); have hm := hSw.2.str; go_simp <;> with_reducible rfl)
          try simp only [Act.put, List.setIfInBounds_toArray, List.set_cons_zero, List.set_cons_succ]
          refine wpAnyH_ready (rs := [3]) (by kernel_rfl) (by simp) ?_
          refine cons_lit rfl (fun K hK => ?_) ?_
          · go_simp
            refine (wrap_any s0 Z0 _).mono ?_
            rintro e w1 ⟨ax, cx, rfl, s1', b1⟩
            have r1 := rD.below b1 rD.lt
            have t1 := Src.below sX b1 (Src.lt sX)
            refine hK.out _ _ ?_ (fun hHeld => ?_)
            · exact ⟨r1, t1⟩
            clear hK K
            try simp only [Act.put, List.setIfInBounds_toArray, List.set_cons_zero, List.set_cons_succ]
            refine wpAnyH_ready (rs := [4]) (by kernel_rfl) (by simp) ?_
            refine cons_lit rfl (fun K hK => ?_) ?_
            · go_simp
              refine (Q0.out _ _ _ s1').mono ?_
              rintro e w2 ⟨a2, c2, N, ts, rfl, ht, b2⟩
              have r2 := r1.below b2 r1.lt
              have t2 := Src.below t1 b2 (Src.lt t1)
              have B2 := bt (bt bX b1) b2
              refine hK.out _ _ ?_ (fun hHeld => ?_)
              · exact ⟨r2, t2⟩
              clear hK K
              try simp only [Act.put, List.setIfInBounds_toArray, List.set_cons_zero, List.set_cons_succ]
              refine take_lit (i := 5) (v := ?_) rfl (by kernel_rfl) (by kernel_rfl) (by kernel_rfl) (fun _ _ _ h => h) (Or.inl ⟨by rfl, ?_⟩) (by assumption) ?_
              rotate_left
              · (intro w hSw; (try dsimp only at hSw); go_simp <;> with_reducible rfl)
              try simp only [Act.put, List.setIfInBounds_toArray, List.set_cons_zero, List.set_cons_succ]
              refine take_lit (i := 6) (v := ?_) rfl (by kernel_rfl) (by kernel_rfl) (by kernel_rfl) (fun _ _ _ h => h) (Or.inl ⟨by rfl, ?_⟩) (by assumption) ?_
              rotate_left
              · (intro w hSw; (try dsimp only at hSw); go_simp <;> with_reducible rfl)
              try simp only [Act.put, List.setIfInBounds_toArray, List.set_cons_zero, List.set_cons_succ]
              refine take_lit (i := 7) (v := ?_) rfl (by kernel_rfl) (by kernel_rfl) (by kernel_rfl) (fun _ _ _ h => h) (Or.inl ⟨by rfl, ?_⟩) (by assumption) ?_
              rotate_left
              · (intro w hSw; (try dsimp only at hSw); go_simp <;> with_reducible rfl)
              try simp only [Act.put, List.setIfInBounds_toArray, List.set_cons_zero, List.set_cons_succ]
              refine take_lit (i := 8) (v := ?_) rfl (by kernel_rfl) (by kernel_rfl) (by kernel_rfl) (fun _ _ _ h => h) (Or.inl ⟨by rfl, ?_⟩) (by assumption) ?_
              rotate_left
              · (intro w hSw; (try dsimp only at hSw); go_simp <;> with_reducible rfl)
              try simp only [Act.put, List.setIfInBounds_toArray, List.set_cons_zero, List.set_cons_succ]
              refine take_lit (i := 9) (v := ?_) rfl (by kernel_rfl) (by kernel_rfl) (by kernel_rfl) (fun _ _ _ h => h) (Or.inl ⟨by rfl, ?_⟩) (by assumption) ?_
              rotate_left
              · (intro w hSw; (try dsimp only at hSw); go_simp <;> with_reducible rfl)
              try simp only [Act.put, List.setIfInBounds_toArray, List.set_cons_zero, List.set_cons_succ]
              refine wpAnyH_done (by kernel_rfl) ?_ _
              refine NoPanic.normal ?_
              go_wp2
              clear hHeld s1' t1 r1 sX rD
              have rE := r2.below (bd w2) r2.lt
              have sE := Src.below t2 (bd w2) (Src.lt t2)
              have hT := ht.below (bd w2)
              have B3 := bt B2 (bd w2)
              clear r2 t2 ht
              refine wp_region_noPanic ?_
              refine wp_region_held_drew (S := fun W => Row W w.heap.size 23 (acells src) ∧ Src W a0 n0 c0 (bcells l0)) (by kernel_rfl) (⟨rE, sE⟩) (fun hHeld => ?_)
              refine take_lit (i := 0) rfl (by kernel_rfl) (by kernel_rfl) (by kernel_rfl) (fun _ _ _ h => h) (yA src (fun W hW => hW.1.range) (by rfl) rfl rfl) (by assumption) ?_
              try simp only [Act.put, List.setIfInBounds_toArray, List.set_cons_zero, List.set_cons_succ]
              refine take_lit (i := 1) (v := ?_) rfl (by kernel_rfl) (by kernel_rfl) (by kernel_rfl) (fun _ _ _ h => h) (Or.inl ⟨by rfl, ?_⟩) (by assumption) ?_
              rotate_left
              · (intro w hSw; (try dsimp only at hSw); go_simp <;> with_reducible rfl)
              try simp only [Act.put, List.setIfInBounds_toArray, List.set_cons_zero, List.set_cons_succ]
              refine take_lit (i := 2) (v := ?_) rfl (by kernel_rfl) (by kernel_rfl) (by kernel_rfl) (fun _ _ _ h => h) (Or.inl ⟨by rfl, ?_⟩) (by assumption) ?_
              rotate_left
              · (intro w hSw; (try dsimp only at hSw); go_simp <;> with_reducible rfl)
              try simp only [Act.put, List.setIfInBounds_toArray, List.set_cons_zero, List.set_cons_succ]
              refine take_lit (i := 3) (v := ?_) rfl (by kernel_rfl) (by kernel_rfl) (by kernel_rfl) (fun _ _ _ h => h) (Or.inl ⟨by rfl, ?_⟩) (by assumption) ?_
              rotate_left
              · (intro w hSw; (try dsimp only at hSw); have hm := hSw.2.str; go_simp <;> with_reducible rfl)
              try simp only [Act.put, List.setIfInBounds_toArray, List.set_cons_zero, List.set_cons_succ]
              refine take_lit (i := 4) (v := ?_) rfl (by kernel_rfl) (by kernel_rfl) (by kernel_rfl) (fun _ _ _ h => h) (Or.inl ⟨by rfl, ?_⟩) (by assumption) ?_
              rotate_left
              · (intro w hSw; (try dsimp only at hSw); go_simp; rw [if_neg C3.out])
              try simp only [Act.put, List.setIfInBounds_toArray, List.set_cons_zero, List.set_cons_succ]
              refine wpAnyH_ready (rs := [5]) (by kernel_rfl) (by simp) ?_
              refine cons_lit rfl (fun K hK => ?_) ?_
              · go_simp
                refine (wrap_any f3 Z3 _).mono ?_
                rintro e w3 ⟨ay, cy, rfl, s3', b3⟩
                refine hK.out _ _ ?_ (fun hHeld => ?_)
                · exact ⟨rE.below b3 rE.lt, Src.below sE b3 (Src.lt sE)⟩
                clear hK K
                try simp only [Act.put, List.setIfInBounds_toArray, List.set_cons_zero, List.set_cons_succ]
                refine wpAnyH_ready (rs := [6]) (by kernel_rfl) (by simp) ?_
                refine cons_lit rfl (fun K hK => ?_) ?_
                · go_simp
                  refine (Q1.out _ _ _ s3').mono ?_
                  rintro e w4 ⟨a4, c4, M, us, rfl, hU, b4⟩
                  have B4 := bt (bt B3 b3) b4
                  have hT4 := (hT.below b3).below b4
                  refine hK.out _ _ ?_ (fun hHeld => ?_)
                  · exact ⟨(rE.below b3 rE.lt).below b4 (rE.below b3 rE.lt).lt, Src.below (Src.below sE b3 (Src.lt sE)) b4 (Src.lt (Src.below sE b3 (Src.lt sE)))⟩
                  clear hK K
                  try simp only [Act.put, List.setIfInBounds_toArray, List.set_cons_zero, List.set_cons_succ]
                  refine take_lit (i := 7) (v := ?_) rfl (by kernel_rfl) (by kernel_rfl) (by kernel_rfl) (fun _ _ _ h => h) (Or.inl ⟨by rfl, ?_⟩) (by assumption) ?_
                  rotate_left
                  · (intro w hSw; (try dsimp only at hSw); go_simp <;> with_reducible rfl)
                  try simp only [Act.put, List.setIfInBounds_toArray, List.set_cons_zero, List.set_cons_succ]
                  refine take_lit (i := 8) (v := ?_) rfl (by kernel_rfl) (by kernel_rfl) (by kernel_rfl) (fun _ _ _ h => h) (Or.inl ⟨by rfl, ?_⟩) (by assumption) ?_
                  rotate_left
                  · (intro w hSw; (try dsimp only at hSw); go_simp <;> with_reducible rfl)
                  try simp only [Act.put, List.setIfInBounds_toArray, List.set_cons_zero, List.set_cons_succ]
                  refine take_lit (i := 9) (v := ?_) rfl (by kernel_rfl) (by kernel_rfl) (by kernel_rfl) (fun _ _ _ h => h) (Or.inl ⟨by rfl, ?_⟩) (by assumption) ?_
                  rotate_left
                  · (intro w hSw; (try dsimp only at hSw); go_simp <;> with_reducible rfl)
                  try simp only [Act.put, List.setIfInBounds_toArray, List.set_cons_zero, List.set_cons_succ]
                  refine take_lit (i := 10) (v := ?_) rfl (by kernel_rfl) (by kernel_rfl) (by kernel_rfl) (fun _ _ _ h => h) (Or.inl ⟨by rfl, ?_⟩) (by assumption) ?_
                  rotate_left
                  · (intro w hSw; (try dsimp only at hSw); go_simp <;> with_reducible rfl)
                  try simp only [Act.put, List.setIfInBounds_toArray, List.set_cons_zero, List.set_cons_succ]
                  refine take_lit (i := 11) (v := ?_) rfl (by kernel_rfl) (by kernel_rfl) (by kernel_rfl) (fun _ _ _ h => h) (Or.inl ⟨by rfl, ?_⟩) (by assumption) ?_
                  rotate_left
                  · (intro w hSw; (try dsimp only at hSw); go_simp <;> with_reducible rfl)
                  try simp only [Act.put, List.setIfInBounds_toArray, List.set_cons_zero, List.set_cons_succ]
                  refine wpAnyH_done (by kernel_rfl) ?_ _
                  refine NoPanic.normal ?_
                  have ek : ts.map Tl.key = us.map Tl.key := by rw [hT4.key, hU.key, HP.out]
                  obtain rfl : M = N := by
                    have n1 := hT4.tlw.len
                    have n2 := hU.tlw.len
                    have n3 := congrArg List.length ek
                    simp only [List.length_map] at n3
                    omega
                  have HS : Hid (Calls Try.prog 11 #[.slice a2 M c2, .slice a4 M c4] w4 fun e w' => e = .returned (.bool true) ∧ Below w4.heap.size w4 w') := sames_true a2 a4 M c2 c4 ts us w4 hT4.tlw hU.tlw ek hT4.le hT4.st
                  clear hHeld s3' b3 b4 b2 b1 rE sE hT B3 B2 Q0 Q1 Z0 Z3 hT4 hU ek
                  go_wp2_with (first
                    | (go_at_call 12; refine (num6 _ _).mono ?_; rintro e wn ⟨rfl, rfl⟩)
                    | (go_at_call 11; refine HS.out.mono ?_; rintro e w6 ⟨rfl, b6⟩)
                    | (go_at_call 8; refine (live_any _).mono ?_; rintro e w5 ⟨rfl, b5⟩))
                  go_ret
                  exact ⟨rfl, bt (bt B4 b6) b5⟩
                exact AllReadyH.nil
              exact AllReadyH.nil
            exact AllReadyH.nil
          exact AllReadyH.nil
        exact AllReadyH.nil
      refine cons_lit rfl (fun K hK => ?_) ?_
      · skip
        refine sCv (.tmp 48) (by rfl) rfl _ _ _ _ s2 rfl m7 hs2 ?_
        refine hK.out _ _ ?_ (fun hHeld => ?_)
        · exact tX
        clear hK K
        try simp only [Act.put, List.setIfInBounds_toArray, List.set_cons_zero, List.set_cons_succ]
        refine wpAnyH_ready (rs := [2]) (by kernel_rfl) (by simp) ?_
        refine cons_lit rfl (fun K hK => ?_) ?_
        · skip
          refine sCv (.tmp 42) (by rfl) rfl _ _ _ _ s1 rfl m1 hs1 ?_
          refine hK.out _ _ ?_ (fun hHeld => ?_)
          · exact tX
          clear hK K
          try simp only [Act.put, List.setIfInBounds_toArray, List.set_cons_zero, List.set_cons_succ]
          refine take_lit (i := 9) (v := ?_) rfl (by kernel_rfl) (by kernel_rfl) (by kernel_rfl) (fun _ _ _ h => h) (Or.inl ⟨by rfl, ?_⟩) (by assumption) ?_
          rotate_left
          · (intro w hSw; (try dsimp only at hSw); go_simp; rw [if_neg C1.out])
          try simp only [Act.put, List.setIfInBounds_toArray, List.set_cons_zero, List.set_cons_succ]
          refine take_lit (i := 12) (v := ?_) rfl (by kernel_rfl) (by kernel_rfl) (by kernel_rfl) (fun _ _ _ h => h) (Or.inl ⟨by rfl, ?_⟩) (by assumption) ?_
          rotate_left
          · (intro w hSw; (try dsimp only at hSw); go_simp; rw [if_neg C2.out])
          try simp only [Act.put, List.setIfInBounds_toArray, List.set_cons_zero, List.set_cons_succ]
          refine take_lit (i := 13) (v := ?_) rfl (by kernel_rfl) (by kernel_rfl) (by kernel_rfl) (fun _ _ _ h => h) (Or.inl ⟨by rfl, ?_⟩) (by assumption) ?_
          rotate_left
          · (intro w hSw; (try dsimp only at hSw); go_simp <;> with_reducible rfl)
          try simp only [Act.put, List.setIfInBounds_toArray, List.set_cons_zero, List.set_cons_succ]
          refine wpAnyH_done (by kernel_rfl) ?_ _
          refine NoPanic.normal ?_
          go_wp2
          refine name_world (R := fun W => Code.wp _ _ _ _ W) (P := fun W => Below w.heap.size w W ∧ Row W w.heap.size 23 (acells src) ∧ Src W a0 n0 c0 (bcells l0)) _ ⟨bX, rX, sX⟩ ?_
          clear hHeld rX sX tX bX m1 m7
          rintro Y ⟨hBY, hRY, hSY⟩
          have bX := bt hBY (bd Y)
          have rD := hRY.below (bd Y) hRY.lt
          have sX := Src.below hSY (bd Y) (Src.lt hSY)
          refine wp_region_noPanic ?_
          refine wp_region_held_drew (S := fun W => Row W w.heap.size 23 (acells src) ∧ Src W a0 n0 c0 (bcells l0)) (by kernel_rfl) (⟨rD, sX⟩) (fun hHeld => ?_)
          refine take_lit (i := 0) rfl (by kernel_rfl) (by kernel_rfl) (by kernel_rfl) (fun _ _ _ h => h) (yA src (fun W hW => hW.1.range) (by rfl) rfl rfl) (by assumption) ?_
          try simp only [Act.put, List.setIfInBounds_toArray, List.set_cons_zero, List.set_cons_succ]
          refine take_lit (i := 1) (v := ?_) rfl (by kernel_rfl) (by kernel_rfl) (by kernel_rfl) (fun _ _ _ h => h) (Or.inl ⟨by rfl, ?_⟩) (by assumption) ?_
          rotate_left
          · (intro w hSw; (try dsimp only at hSw); go_simp <;> with_reducible rfl)
          try simp only [Act.put, List.setIfInBounds_toArray, List.set_cons_zero, List.set_cons_succ]
          refine take_lit (i := 2) (v := ?_) rfl (by kernel_rfl) (by kernel_rfl) (by kernel_rfl) (fun _ _ _ h => h) (Or.inl ⟨by rfl, ?_⟩) (by assumption) ?_
          rotate_left
          · (intro w hSw; (try dsimp only at hSw); have hm := hSw.2.str; go_simp <;> with_reducible rfl)
          try simp only [Act.put, List.setIfInBounds_toArray, List.set_cons_zero, List.set_cons_succ]
          refine wpAnyH_ready (rs := [3]) (by kernel_rfl) (by simp) ?_
          refine cons_lit rfl (fun K hK => ?_) ?_
          · go_simp
            refine (wrap_any s0 Z0 _).mono ?_
            rintro e w1 ⟨ax, cx, rfl, s1', b1⟩
            have r1 := rD.below b1 rD.lt
            have t1 := Src.below sX b1 (Src.lt sX)
            refine hK.out _ _ ?_ (fun hHeld => ?_)
            · exact ⟨r1, t1⟩
            clear hK K
            try simp only [Act.put, List.setIfInBounds_toArray, List.set_cons_zero, List.set_cons_succ]
            refine wpAnyH_ready (rs := [4]) (by kernel_rfl) (by simp) ?_
            refine cons_lit rfl (fun K hK => ?_) ?_
            · go_simp
              refine (Q0.out _ _ _ s1').mono ?_
              rintro e w2 ⟨a2, c2, N, ts, rfl, ht, b2⟩
              have r2 := r1.below b2 r1.lt
              have t2 := Src.below t1 b2 (Src.lt t1)
              have B2 := bt (bt bX b1) b2
              refine hK.out _ _ ?_ (fun hHeld => ?_)
              · exact ⟨r2, t2⟩
              clear hK K
              try simp only [Act.put, List.setIfInBounds_toArray, List.set_cons_zero, List.set_cons_succ]
              refine take_lit (i := 5) (v := ?_) rfl (by kernel_rfl) (by kernel_rfl) (by kernel_rfl) (fun _ _ _ h => h) (Or.inl ⟨by rfl, ?_⟩) (by assumption) ?_
              rotate_left
              · (intro w hSw; (try dsimp only at hSw); go_simp <;> with_reducible rfl)
              try simp only [Act.put, List.setIfInBounds_toArray, List.set_cons_zero, List.set_cons_succ]
              refine take_lit (i := 6) (v := ?_) rfl (by kernel_rfl) (by kernel_rfl) (by kernel_rfl) (fun _ _ _ h => h) (Or.inl ⟨by rfl, ?_⟩) (by assumption) ?_
              rotate_left
              · (intro w hSw; (try dsimp only at hSw); go_simp <;> with_reducible rfl)
              try simp only [Act.put, List.setIfInBounds_toArray, List.set_cons_zero, List.set_cons_succ]
              refine take_lit (i := 7) (v := ?_) rfl (by kernel_rfl) (by kernel_rfl) (by kernel_rfl) (fun _ _ _ h => h) (Or.inl ⟨by rfl, ?_⟩) (by assumption) ?_
              rotate_left
              · (intro w hSw; (try dsimp only at hSw); go_simp <;> with_reducible rfl)
              try simp only [Act.put, List.setIfInBounds_toArray, List.set_cons_zero, List.set_cons_succ]
              refine take_lit (i := 8) (v := ?_) rfl (by kernel_rfl) (by kernel_rfl) (by kernel_rfl) (fun _ _ _ h => h) (Or.inl ⟨by rfl, ?_⟩) (by assumption) ?_
              rotate_left
              · (intro w hSw; (try dsimp only at hSw); go_simp <;> with_reducible rfl)
              try simp only [Act.put, List.setIfInBounds_toArray, List.set_cons_zero, List.set_cons_succ]
              refine take_lit (i := 9) (v := ?_) rfl (by kernel_rfl) (by kernel_rfl) (by kernel_rfl) (fun _ _ _ h => h) (Or.inl ⟨by rfl, ?_⟩) (by assumption) ?_
              rotate_left
              · (intro w hSw; (try dsimp only at hSw); go_simp <;> with_reducible rfl)
              try simp only [Act.put, List.setIfInBounds_toArray, List.set_cons_zero, List.set_cons_succ]
              refine wpAnyH_done (by kernel_rfl) ?_ _
              refine NoPanic.normal ?_
              go_wp2
              clear hHeld s1' t1 r1 sX rD
              have rE := r2.below (bd w2) r2.lt
              have sE := Src.below t2 (bd w2) (Src.lt t2)
              have hT := ht.below (bd w2)
              have B3 := bt B2 (bd w2)
              clear r2 t2 ht
              refine wp_region_noPanic ?_
              refine wp_region_held_drew (S := fun W => Row W w.heap.size 23 (acells src) ∧ Src W a0 n0 c0 (bcells l0)) (by kernel_rfl) (⟨rE, sE⟩) (fun hHeld => ?_)
              refine take_lit (i := 0) rfl (by kernel_rfl) (by kernel_rfl) (by kernel_rfl) (fun _ _ _ h => h) (yA src (fun W hW => hW.1.range) (by rfl) rfl rfl) (by assumption) ?_
              try simp only [Act.put, List.setIfInBounds_toArray, List.set_cons_zero, List.set_cons_succ]
              refine take_lit (i := 1) (v := ?_) rfl (by kernel_rfl) (by kernel_rfl) (by kernel_rfl) (fun _ _ _ h => h) (Or.inl ⟨by rfl, ?_⟩) (by assumption) ?_
              rotate_left
              · (intro w hSw; (try dsimp only at hSw); go_simp <;> with_reducible rfl)
              try simp only [Act.put, List.setIfInBounds_toArray, List.set_cons_zero, List.set_cons_succ]
              refine take_lit (i := 2) (v := ?_) rfl (by kernel_rfl) (by kernel_rfl) (by kernel_rfl) (fun _ _ _ h => h) (Or.inl ⟨by rfl, ?_⟩) (by assumption) ?_
              rotate_left
              · (intro w hSw; (try dsimp only at hSw); go_simp <;> with_reducible rfl)
              try simp only [Act.put, List.setIfInBounds_toArray, List.set_cons_zero, List.set_cons_succ]
              refine take_lit (i := 3) (v := ?_) rfl (by kernel_rfl) (by kernel_rfl) (by kernel_rfl) (fun _ _ _ h => h) (Or.inl ⟨by rfl, ?_⟩) (by assumption) ?_
              rotate_left
              · (intro w hSw; (try dsimp only at hSw); have hm := hSw.2.str; go_simp <;> with_reducible rfl)
              try simp only [Act.put, List.setIfInBounds_toArray, List.set_cons_zero, List.set_cons_succ]
              refine take_lit (i := 4) (v := ?_) rfl (by kernel_rfl) (by kernel_rfl) (by kernel_rfl) (fun _ _ _ h => h) (Or.inl ⟨by rfl, ?_⟩) (by assumption) ?_
              rotate_left
              · (intro w hSw; (try dsimp only at hSw); go_simp; rw [if_neg C3.out])
              try simp only [Act.put, List.setIfInBounds_toArray, List.set_cons_zero, List.set_cons_succ]
              refine wpAnyH_ready (rs := [5]) (by kernel_rfl) (by simp) ?_
              refine cons_lit rfl (fun K hK => ?_) ?_
              · go_simp
                refine (wrap_any f3 Z3 _).mono ?_
                rintro e w3 ⟨ay, cy, rfl, s3', b3⟩
                refine hK.out _ _ ?_ (fun hHeld => ?_)
                · exact ⟨rE.below b3 rE.lt, Src.below sE b3 (Src.lt sE)⟩
                clear hK K
                try simp only [Act.put, List.setIfInBounds_toArray, List.set_cons_zero, List.set_cons_succ]
                refine wpAnyH_ready (rs := [6]) (by kernel_rfl) (by simp) ?_
                refine cons_lit rfl (fun K hK => ?_) ?_
                · go_simp
                  refine (Q1.out _ _ _ s3').mono ?_
                  rintro e w4 ⟨a4, c4, M, us, rfl, hU, b4⟩
                  have B4 := bt (bt B3 b3) b4
                  have hT4 := (hT.below b3).below b4
                  refine hK.out _ _ ?_ (fun hHeld => ?_)
                  · exact ⟨(rE.below b3 rE.lt).below b4 (rE.below b3 rE.lt).lt, Src.below (Src.below sE b3 (Src.lt sE)) b4 (Src.lt (Src.below sE b3 (Src.lt sE)))⟩
                  clear hK K
                  try simp only [Act.put, List.setIfInBounds_toArray, List.set_cons_zero, List.set_cons_succ]
                  refine take_lit (i := 7) (v := ?_) rfl (by kernel_rfl) (by kernel_rfl) (by kernel_rfl) (fun _ _ _ h => h) (Or.inl ⟨by rfl, ?_⟩) (by assumption) ?_
                  rotate_left
                  · (intro w hSw; (try dsimp only at hSw); go_simp <;> with_reducible rfl)
                  try simp only [Act.put, List.setIfInBounds_toArray, List.set_cons_zero, List.set_cons_succ]
                  refine take_lit (i := 8) (v := ?_) rfl (by kernel_rfl) (by kernel_rfl) (by kernel_rfl) (fun _ _ _ h => h) (Or.inl ⟨by rfl, ?_⟩) (by assumption) ?_
                  rotate_left
                  · (intro w hSw; (try dsimp only at hSw); go_simp <;> with_reducible rfl)
                  try simp only [Act.put, List.setIfInBounds_toArray, List.set_cons_zero, List.set_cons_succ]
                  refine take_lit (i := 9) (v := ?_) rfl (by kernel_rfl) (by kernel_rfl) (by kernel_rfl) (fun _ _ _ h => h) (Or.inl ⟨by rfl, ?_⟩) (by assumption) ?_
                  rotate_left
                  · (intro w hSw; (try dsimp only at hSw); go_simp <;> with_reducible rfl)
                  try simp only [Act.put, List.setIfInBounds_toArray, List.set_cons_zero, List.set_cons_succ]
                  refine take_lit (i := 10) (v := ?_) rfl (by kernel_rfl) (by kernel_rfl) (by kernel_rfl) (fun _ _ _ h => h) (Or.inl ⟨by rfl, ?_⟩) (by assumption) ?_
                  rotate_left
                  · (intro w hSw; (try dsimp only at hSw); go_simp <;> with_reducible rfl)
                  try simp only [Act.put, List.setIfInBounds_toArray, List.set_cons_zero, List.set_cons_succ]
                  refine take_lit (i := 11) (v := ?_) rfl (by kernel_rfl) (by kernel_rfl) (by kernel_rfl) (fun _ _ _ h => h) (Or.inl ⟨by rfl, ?_⟩) (by assumption) ?_
                  rotate_left
                  · (intro w hSw; (try dsimp only at hSw); go_simp <;> with_reducible rfl)
                  try simp only [Act.put, List.setIfInBounds_toArray, List.set_cons_zero, List.set_cons_succ]
                  refine wpAnyH_done (by kernel_rfl) ?_ _
                  refine NoPanic.normal ?_
                  have ek : ts.map Tl.key = us.map Tl.key := by rw [hT4.key, hU.key, HP.out]
                  obtain rfl : M = N := by
                    have n1 := hT4.tlw.len
                    have n2 := hU.tlw.len
                    have n3 := congrArg List.length ek
                    simp only [List.length_map] at n3
                    omega
                  have HS : Hid (Calls Try.prog 11 #[.slice a2 M c2, .slice a4 M c4] w4 fun e w' => e = .returned (.bool true) ∧ Below w4.heap.size w4 w') := sames_true a2 a4 M c2 c4 ts us w4 hT4.tlw hU.tlw ek hT4.le hT4.st
                  clear hHeld s3' b3 b4 b2 b1 rE sE hT B3 B2 Q0 Q1 Z0 Z3 hT4 hU ek
                  go_wp2_with (first
                    | (go_at_call 12; refine (num6 _ _).mono ?_; rintro e wn ⟨rfl, rfl⟩)
                    | (go_at_call 11; refine HS.out.mono ?_; rintro e w6 ⟨rfl, b6⟩)
                    | (go_at_call 8; refine (live_any _).mono ?_; rintro e w5 ⟨rfl, b5⟩))
                  go_ret
                  exact ⟨rfl, bt (bt B4 b6) b5⟩
                exact AllReadyH.nil
              exact AllReadyH.nil
            exact AllReadyH.nil
          exact AllReadyH.nil
        exact AllReadyH.nil
      exact AllReadyH.nil
    exact AllReadyH.nil
  refine cons_lit rfl (fun K hK => ?_) ?_
  · skip
    refine sBs (.tmp 44) (.tmp 47) (by rfl) rfl [kt, UInt8.ofNat n1] _ _ rfl rfl hbs ?_
    intro g7 W7 m7 d7
    replace bX := bt bX d7
    replace rX := rX.below d7 rX.lt
    replace sX := Src.below sX d7 (Src.lt sX)
    replace tX := Src.below tX d7 (Src.lt tX)
    try replace m1 := Src.below m1 d7 (Src.lt m1)
    clear d7
    refine hK.out _ _ ?_ (fun hHeld => ?_)
    · exact tX
    clear hK K
    try simp only [Act.put, List.setIfInBounds_toArray, List.set_cons_zero, List.set_cons_succ]
    refine wpAnyH_ready (rs := [1, 8]) (by kernel_rfl) (by simp) ?_
    refine cons_lit rfl (fun K hK => ?_) ?_
    · skip
      refine sMk (.tmp 41) (by rfl) rfl k hk rfl ?_
      intro g1 W1 m1 d1
      replace bX := bt bX d1
      replace rX := rX.below d1 rX.lt
      replace sX := Src.below sX d1 (Src.lt sX)
      replace tX := Src.below tX d1 (Src.lt tX)
      try replace m7 := Src.below m7 d1 (Src.lt m7)
      clear d1
      refine hK.out _ _ ?_ (fun hHeld => ?_)
      · exact tX
      clear hK K
      try simp only [Act.put, List.setIfInBounds_toArray, List.set_cons_zero, List.set_cons_succ]
      refine wpAnyH_ready (rs := [2, 8]) (by kernel_rfl) (by simp) ?_
      refine cons_lit rfl (fun K hK => ?_) ?_
      · skip
        refine sCv (.tmp 42) (by rfl) rfl _ _ _ _ s1 rfl m1 hs1 ?_
        refine hK.out _ _ ?_ (fun hHeld => ?_)
        · exact tX
        clear hK K
        try simp only [Act.put, List.setIfInBounds_toArray, List.set_cons_zero, List.set_cons_succ]
        refine wpAnyH_ready (rs := [8]) (by kernel_rfl) (by simp) ?_
        refine cons_lit rfl (fun K hK => ?_) ?_
        · skip
          refine sCv (.tmp 48) (by rfl) rfl _ _ _ _ s2 rfl m7 hs2 ?_
          refine hK.out _ _ ?_ (fun hHeld => ?_)
          · exact tX
          clear hK K
          try simp only [Act.put, List.setIfInBounds_toArray, List.set_cons_zero, List.set_cons_succ]
          refine take_lit (i := 9) (v := ?_) rfl (by kernel_rfl) (by kernel_rfl) (by kernel_rfl) (fun _ _ _ h => h) (Or.inl ⟨by rfl, ?_⟩) (by assumption) ?_
          rotate_left
          · (intro w hSw; (try dsimp only at hSw); go_simp; rw [if_neg C1.out])
          try simp only [Act.put, List.setIfInBounds_toArray, List.set_cons_zero, List.set_cons_succ]
          refine take_lit (i := 12) (v := ?_) rfl (by kernel_rfl) (by kernel_rfl) (by kernel_rfl) (fun _ _ _ h => h) (Or.inl ⟨by rfl, ?_⟩) (by assumption) ?_
          rotate_left
          · (intro w hSw; (try dsimp only at hSw); go_simp; rw [if_neg C2.out])
          try simp only [Act.put, List.setIfInBounds_toArray, List.set_cons_zero, List.set_cons_succ]
          refine take_lit (i := 13) (v := ?_) rfl (by kernel_rfl) (by kernel_rfl) (by kernel_rfl) (fun _ _ _ h => h) (Or.inl ⟨by rfl, ?_⟩) (by assumption) ?_
          rotate_left
          · (intro w hSw; (try dsimp only at hSw); go_simp <;> with_reducible rfl)
          try simp only [Act.put, List.setIfInBounds_toArray, List.set_cons_zero, List.set_cons_succ]
          refine wpAnyH_done (by kernel_rfl) ?_ _
          refine NoPanic.normal ?_
          go_wp2
          refine name_world (R := fun W => Code.wp _ _ _ _ W) (P := fun W => Below w.heap.size w W ∧ Row W w.heap.size 23 (acells src) ∧ Src W a0 n0 c0 (bcells l0)) _ ⟨bX, rX, sX⟩ ?_
          clear hHeld rX sX tX bX m1 m7
          rintro Y ⟨hBY, hRY, hSY⟩
          have bX := bt hBY (bd Y)
          have rD := hRY.below (bd Y) hRY.lt
          have sX := Src.below hSY (bd Y) (Src.lt hSY)
          refine wp_region_noPanic ?_
          refine wp_region_held_drew (S := fun W => Row W w.heap.size 23 (acells src) ∧ Src W a0 n0 c0 (bcells l0)) (by kernel_rfl) (⟨rD, sX⟩) (fun hHeld => ?_)
          refine take_lit (i := 0) rfl (by kernel_rfl) (by kernel_rfl) (by kernel_rfl) (fun _ _ _ h => h) (yA src (fun W hW => hW.1.range) (by rfl) rfl rfl) (by assumption) ?_
          try simp only [Act.put, List.setIfInBounds_toArray, List.set_cons_zero, List.set_cons_succ]
          refine take_lit (i := 1) (v := ?_) rfl (by kernel_rfl) (by kernel_rfl) (by kernel_rfl) (fun _ _ _ h => h) (Or.inl ⟨by rfl, ?_⟩) (by assumption) ?_
          rotate_left
          · (intro w hSw; (try dsimp only at hSw); go_simp <;> with_reducible rfl)
          try simp only [Act.put, List.setIfInBounds_toArray, List.set_cons_zero, List.set_cons_succ]
          refine take_lit (i := 2) (v := ?_) rfl (by kernel_rfl) (by kernel_rfl) (by kernel_rfl) (fun _ _ _ h => h) (Or.inl ⟨by rfl, ?_⟩) (by assumption) ?_
          rotate_left
          · (intro w hSw; (try dsimp only at hSw); have hm := hSw.2.str; go_simp <;> with_reducible rfl)
          try simp only [Act.put, List.setIfInBounds_toArray, List.set_cons_zero, List.set_cons_succ]
          refine wpAnyH_ready (rs := [3]) (by kernel_rfl) (by simp) ?_
          refine cons_lit rfl (fun K hK => ?_) ?_
          · go_simp
            refine (wrap_any s0 Z0 _).mono ?_
            rintro e w1 ⟨ax, cx, rfl, s1', b1⟩
            have r1 := rD.below b1 rD.lt
            have t1 := Src.below sX b1 (Src.lt sX)
            refine hK.out _ _ ?_ (fun hHeld => ?_)
            · exact ⟨r1, t1⟩
            clear hK K
            try simp only [Act.put, List.setIfInBounds_toArray, List.set_cons_zero, List.set_cons_succ]
            refine wpAnyH_ready (rs := [4]) (by kernel_rfl) (by simp) ?_
            refine cons_lit rfl (fun K hK => ?_) ?_
            · go_simp
              refine (Q0.out _ _ _ s1').mono ?_
              rintro e w2 ⟨a2, c2, N, ts, rfl, ht, b2⟩
              have r2 := r1.below b2 r1.lt
              have t2 := Src.below t1 b2 (Src.lt t1)
              have B2 := bt (bt bX b1) b2
              refine hK.out _ _ ?_ (fun hHeld => ?_)
              · exact ⟨r2, t2⟩
              clear hK K
              try simp only [Act.put, List.setIfInBounds_toArray, List.set_cons_zero, List.set_cons_succ]
              refine take_lit (i := 5) (v := ?_) rfl (by kernel_rfl) (by kernel_rfl) (by kernel_rfl) (fun _ _ _ h => h) (Or.inl ⟨by rfl, ?_⟩) (by assumption) ?_
              rotate_left
              · (intro w hSw; (try dsimp only at hSw); go_simp <;> with_reducible rfl)
              try simp only [Act.put, List.setIfInBounds_toArray, List.set_cons_zero, List.set_cons_succ]
              refine take_lit (i := 6) (v := ?_) rfl (by kernel_rfl) (by kernel_rfl) (by kernel_rfl) (fun _ _ _ h => h) (Or.inl ⟨by rfl, ?_⟩) (by assumption) ?_
              rotate_left
              · (intro w hSw; (try dsimp only at hSw); go_simp <;> with_reducible rfl)
              try simp only [Act.put, List.setIfInBounds_toArray, List.set_cons_zero, List.set_cons_succ]
              refine take_lit (i := 7) (v := ?_) rfl (by kernel_rfl) (by kernel_rfl) (by kernel_rfl) (fun _ _ _ h => h) (Or.inl ⟨by rfl, ?_⟩) (by assumption) ?_
              rotate_left
              · (intro w hSw; (try dsimp only at hSw); go_simp <;> with_reducible rfl)
              try simp only [Act.put, List.setIfInBounds_toArray, List.set_cons_zero, List.set_cons_succ]
              refine take_lit (i := 8) (v := ?_) rfl (by kernel_rfl) (by kernel_rfl) (by kernel_rfl) (fun _ _ _ h => h) (Or.inl ⟨by rfl, ?_⟩) (by assumption) ?_
              rotate_left
              · (intro w hSw; (try dsimp only at hSw); go_simp <;> with_reducible rfl)
              try simp only [Act.put, List.setIfInBounds_toArray, List.set_cons_zero, List.set_cons_succ]
              refine take_lit (i := 9) (v := ?_) rfl (by kernel_rfl) (by kernel_rfl) (by kernel_rfl) (fun _ _ _ h => h) (Or.inl ⟨by rfl, ?_⟩) (by assumption) ?_
              rotate_left
              · (intro w hSw; (try dsimp only at hSw); go_simp <;> with_reducible rfl)
              try simp only [Act.put, List.setIfInBounds_toArray, List.set_cons_zero, List.set_cons_succ]
              refine wpAnyH_done (by kernel_rfl) ?_ _
              refine NoPanic.normal ?_
              go_wp2
              clear hHeld s1' t1 r1 sX rD
              have rE := r2.below (bd w2) r2.lt
              have sE := Src.below t2 (bd w2) (Src.lt t2)
              have hT := ht.below (bd w2)
              have B3 := bt B2 (bd w2)
              clear r2 t2 ht
              refine wp_region_noPanic ?_
              refine wp_region_held_drew (S := fun W => Row W w.heap.size 23 (acells src) ∧ Src W a0 n0 c0 (bcells l0)) (by kernel_rfl) (⟨rE, sE⟩) (fun hHeld => ?_)
              refine take_lit (i := 0) rfl (by kernel_rfl) (by kernel_rfl) (by kernel_rfl) (fun _ _ _ h => h) (yA src (fun W hW => hW.1.range) (by rfl) rfl rfl) (by assumption) ?_
              try simp only [Act.put, List.setIfInBounds_toArray, List.set_cons_zero, List.set_cons_succ]
              refine take_lit (i := 1) (v := ?_) rfl (by kernel_rfl) (by kernel_rfl) (by kernel_rfl) (fun _ _ _ h => h) (Or.inl ⟨by rfl, ?_⟩) (by assumption) ?_
              rotate_left
              · (intro w hSw; (try dsimp only at hSw); go_simp <;> with_reducible rfl)
              try simp only [Act.put, List.setIfInBounds_toArray, List.set_cons_zero, List.set_cons_succ]
              refine take_lit (i := 2) (v := ?_) rfl (by kernel_rfl) (by kernel_rfl) (by kernel_rfl) (fun _ _ _ h => h) (Or.inl ⟨by rfl, ?_⟩) (by assumption) ?_
              rotate_left
              · (intro w hSw; (try dsimp only at hSw); go_simp <;> with_reducible rfl)
              try simp only [Act.put, List.setIfInBounds_toArray, List.set_cons_zero, List.set_cons_succ]
              refine take_lit (i := 3) (v := ?_) rfl (by kernel_rfl) (by kernel_rfl) (by kernel_rfl) (fun _ _ _ h => h) (Or.inl ⟨by rfl, ?_⟩) (by assumption) ?_
              rotate_left
              · (intro w hSw; (try dsimp only at hSw); have hm := hSw.2.str; go_simp <;> with_reducible rfl)
              try simp only [Act.put, List.setIfInBounds_toArray, List.set_cons_zero, List.set_cons_succ]
              refine take_lit (i := 4) (v := ?_) rfl (by kernel_rfl) (by kernel_rfl) (by kernel_rfl) (fun _ _ _ h => h) (Or.inl ⟨by rfl, ?_⟩) (by assumption) ?_
              rotate_left
              · (intro w hSw; (try dsimp only at hSw); go_simp; rw [if_neg C3.out])
              try simp only [Act.put, List.setIfInBounds_toArray, List.set_cons_zero, List.set_cons_succ]
              refine wpAnyH_ready (rs := [5]) (by kernel_rfl) (by simp) ?_
              refine cons_lit rfl (fun K hK => ?_) ?_
              · go_simp
                refine (wrap_any f3 Z3 _).mono ?_
                rintro e w3 ⟨ay, cy, rfl, s3', b3⟩
                refine hK.out _ _ ?_ (fun hHeld => ?_)
                · exact ⟨rE.below b3 rE.lt, Src.below sE b3 (Src.lt sE)⟩
                clear hK K
                try simp only [Act.put, List.setIfInBounds_toArray, List.set_cons_zero, List.set_cons_succ]
                refine wpAnyH_ready (rs := [6]) (by kernel_rfl) (by simp) ?_
                refine cons_lit rfl (fun K hK => ?_) ?_
                · go_simp
                  refine (Q1.out _ _ _ s3').mono ?_
                  rintro e w4 ⟨a4, c4, M, us, rfl, hU, b4⟩
                  have B4 := bt (bt B3 b3) b4
                  have hT4 := (hT.below b3).below b4
                  refine hK.out _ _ ?_ (fun hHeld => ?_)
                  · exact ⟨(rE.below b3 rE.lt).below b4 (rE.below b3 rE.lt).lt, Src.below (Src.below sE b3 (Src.lt sE)) b4 (Src.lt (Src.below sE b3 (Src.lt sE)))⟩
                  clear hK K
                  try simp only [Act.put, List.setIfInBounds_toArray, List.set_cons_zero, List.set_cons_succ]
                  refine take_lit (i := 7) (v := ?_) rfl (by kernel_rfl) (by kernel_rfl) (by kernel_rfl) (fun _ _ _ h => h) (Or.inl ⟨by rfl, ?_⟩) (by assumption) ?_
                  rotate_left
                  · (intro w hSw; (try dsimp only at hSw); go_simp <;> with_reducible rfl)
                  try simp only [Act.put, List.setIfInBounds_toArray, List.set_cons_zero, List.set_cons_succ]
                  refine take_lit (i := 8) (v := ?_) rfl (by kernel_rfl) (by kernel_rfl) (by kernel_rfl) (fun _ _ _ h => h) (Or.inl ⟨by rfl, ?_⟩) (by assumption) ?_
                  rotate_left
                  · (intro w hSw; (try dsimp only at hSw); go_simp <;> with_reducible rfl)
                  try simp only [Act.put, List.setIfInBounds_toArray, List.set_cons_zero, List.set_cons_succ]
                  refine take_lit (i := 9) (v := ?_) rfl (by kernel_rfl) (by kernel_rfl) (by kernel_rfl) (fun _ _ _ h => h) (Or.inl ⟨by rfl, ?_⟩) (by assumption) ?_
                  rotate_left
                  · (intro w hSw; (try dsimp only at hSw); go_simp <;> with_reducible rfl)
                  try simp only [Act.put, List.setIfInBounds_toArray, List.set_cons_zero, List.set_cons_succ]
                  refine take_lit (i := 10) (v := ?_) rfl (by kernel_rfl) (by kernel_rfl) (by kernel_rfl) (fun _ _ _ h => h) (Or.inl ⟨by rfl, ?_⟩) (by assumption) ?_
                  rotate_left
                  · (intro w hSw; (try dsimp only at hSw); go_simp <;> with_reducible rfl)
                  try simp only [Act.put, List.setIfInBounds_toArray, List.set_cons_zero, List.set_cons_succ]
                  refine take_lit (i := 11) (v := ?_) rfl (by kernel_rfl) (by kernel_rfl) (by kernel_rfl) (fun _ _ _ h => h) (Or.inl ⟨by rfl, ?_⟩) (by assumption) ?_
                  rotate_left
                  · (intro w hSw; (try dsimp only at hSw); go_simp <;> with_reducible rfl)
                  try simp only [Act.put, List.setIfInBounds_toArray, List.set_cons_zero, List.set_cons_succ]
                  refine wpAnyH_done (by kernel_rfl) ?_ _
                  refine NoPanic.normal ?_
                  have ek : ts.map Tl.key = us.map Tl.key := by rw [hT4.key, hU.key, HP.out]
                  obtain rfl : M = N := by
                    have n1 := hT4.tlw.len
                    have n2 := hU.tlw.len
                    have n3 := congrArg List.length ek
                    simp only [List.length_map] at n3
                    omega
                  have HS : Hid (Calls Try.prog 11 #[.slice a2 M c2, .slice a4 M c4] w4 fun e w' => e = .returned (.bool true) ∧ Below w4.heap.size w4 w') := sames_true a2 a4 M c2 c4 ts us w4 hT4.tlw hU.tlw ek hT4.le hT4.st
                  clear hHeld s3' b3 b4 b2 b1 rE sE hT B3 B2 Q0 Q1 Z0 Z3 hT4 hU ek
                  go_wp2_with (first
                    | (go_at_call 12; refine (num6 _ _).mono ?_; rintro e wn ⟨rfl, rfl⟩)
                    | (go_at_call 11; refine HS.out.mono ?_; rintro e w6 ⟨rfl, b6⟩)
                    | (go_at_call 8; refine (live_any _).mono ?_; rintro e w5 ⟨rfl, b5⟩))
                  go_ret
                  exact ⟨rfl, bt (bt B4 b6) b5⟩
                exact AllReadyH.nil
              exact AllReadyH.nil
            exact AllReadyH.nil
          exact AllReadyH.nil
        exact AllReadyH.nil
      refine cons_lit rfl (fun K hK => ?_) ?_
      · skip
        refine sCv (.tmp 48) (by rfl) rfl _ _ _ _ s2 rfl m7 hs2 ?_
        refine hK.out _ _ ?_ (fun hHeld => ?_)
        · exact tX
        clear hK K
        try simp only [Act.put, List.setIfInBounds_toArray, List.set_cons_zero, List.set_cons_succ]
        refine wpAnyH_ready (rs := [2]) (by kernel_rfl) (by simp) ?_
        refine cons_lit rfl (fun K hK => ?_) ?_
        · skip
          refine sCv (.tmp 42) (by rfl) rfl _ _ _ _ s1 rfl m1 hs1 ?_
          refine hK.out _ _ ?_ (fun hHeld => ?_)
          · exact tX
          clear hK K
          try simp only [Act.put, List.setIfInBounds_toArray, List.set_cons_zero, List.set_cons_succ]
          refine take_lit (i := 9) (v := ?_) rfl (by kernel_rfl) (by kernel_rfl) (by kernel_rfl) (fun _ _ _ h => h) (Or.inl ⟨by rfl, ?_⟩) (by assumption) ?_
          rotate_left
          · (intro w hSw; (try dsimp only at hSw); go_simp; rw [if_neg C1.out])
          try simp only [Act.put, List.setIfInBounds_toArray, List.set_cons_zero, List.set_cons_succ]
          refine take_lit (i := 12) (v := ?_) rfl (by kernel_rfl) (by kernel_rfl) (by kernel_rfl) (fun _ _ _ h => h) (Or.inl ⟨by rfl, ?_⟩) (by assumption) ?_
          rotate_left
          · (intro w hSw; (try dsimp only at hSw); go_simp; rw [if_neg C2.out])
          try simp only [Act.put, List.setIfInBounds_toArray, List.set_cons_zero, List.set_cons_succ]
          refine take_lit (i := 13) (v := ?_) rfl (by kernel_rfl) (by kernel_rfl) (by kernel_rfl) (fun _ _ _ h => h) (Or.inl ⟨by rfl, ?_⟩) (by assumption) ?_
          rotate_left
          · (intro w hSw; (try dsimp only at hSw); go_simp <;> with_reducible rfl)
          try simp only [Act.put, List.setIfInBounds_toArray, List.set_cons_zero, List.set_cons_succ]
          refine wpAnyH_done (by kernel_rfl) ?_ _
          refine NoPanic.normal ?_
          go_wp2
          refine name_world (R := fun W => Code.wp _ _ _ _ W) (P := fun W => Below w.heap.size w W ∧ Row W w.heap.size 23 (acells src) ∧ Src W a0 n0 c0 (bcells l0)) _ ⟨bX, rX, sX⟩ ?_
          clear hHeld rX sX tX bX m1 m7
          rintro Y ⟨hBY, hRY, hSY⟩
          have bX := bt hBY (bd Y)
          have rD := hRY.below (bd Y) hRY.lt
          have sX := Src.below hSY (bd Y) (Src.lt hSY)
          refine wp_region_noPanic ?_
          refine wp_region_held_drew (S := fun W => Row W w.heap.size 23 (acells src) ∧ Src W a0 n0 c0 (bcells l0)) (by kernel_rfl) (⟨rD, sX⟩) (fun hHeld => ?_)
          refine take_lit (i := 0) rfl (by kernel_rfl) (by kernel_rfl) (by kernel_rfl) (fun _ _ _ h => h) (yA src (fun W hW => hW.1.range) (by rfl) rfl rfl) (by assumption) ?_
          try simp only [Act.put, List.setIfInBounds_toArray, List.set_cons_zero, List.set_cons_succ]
          refine take_lit (i := 1) (v := ?_) rfl (by kernel_rfl) (by kernel_rfl) (by kernel_rfl) (fun _ _ _ h => h) (Or.inl ⟨by rfl, ?_⟩) (by assumption) ?_
          rotate_left
          · (intro w hSw; (try dsimp only at hSw); go_simp <;> with_reducible rfl)
          try simp only [Act.put, List.setIfInBounds_toArray, List.set_cons_zero, List.set_cons_succ]
          refine take_lit (i := 2) (v := ?_) rfl (by kernel_rfl) (by kernel_rfl) (by kernel_rfl) (fun _ _ _ h => h) (Or.inl ⟨by rfl, ?_⟩) (by assumption) ?_
          rotate_left
          · (intro w hSw; (try dsimp only at hSw); have hm := hSw.2.str; go_simp <;> with_reducible rfl)
          try simp only [Act.put, List.setIfInBounds_toArray, List.set_cons_zero, List.set_cons_succ]
          refine wpAnyH_ready (rs := [3]) (by kernel_rfl) (by simp) ?_
          refine cons_lit rfl (fun K hK => ?_) ?_
          · go_simp
            refine (wrap_any s0 Z0 _).mono ?_
            rintro e w1 ⟨ax, cx, rfl, s1', b1⟩
            have r1 := rD.below b1 rD.lt
            have t1 := Src.below sX b1 (Src.lt sX)
            refine hK.out _ _ ?_ (fun hHeld => ?_)
            · exact ⟨r1, t1⟩
            clear hK K
            try simp only [Act.put, List.setIfInBounds_toArray, List.set_cons_zero, List.set_cons_succ]
            refine wpAnyH_ready (rs := [4]) (by kernel_rfl) (by simp) ?_
            refine cons_lit rfl (fun K hK => ?_) ?_
            · go_simp
              refine (Q0.out _ _ _ s1').mono ?_
              rintro e w2 ⟨a2, c2, N, ts, rfl, ht, b2⟩
              have r2 := r1.below b2 r1.lt
              have t2 := Src.below t1 b2 (Src.lt t1)
              have B2 := bt (bt bX b1) b2
              refine hK.out _ _ ?_ (fun hHeld => ?_)
              · exact ⟨r2, t2⟩
              clear hK K
              try simp only [Act.put, List.setIfInBounds_toArray, List.set_cons_zero, List.set_cons_succ]
              refine take_lit (i := 5) (v := ?_) rfl (by kernel_rfl) (by kernel_rfl) (by kernel_rfl) (fun _ _ _ h => h) (Or.inl ⟨by rfl, ?_⟩) (by assumption) ?_
              rotate_left
              · (intro w hSw; (try dsimp only at hSw); go_simp <;> with_reducible rfl)
              try simp only [Act.put, List.setIfInBounds_toArray, List.set_cons_zero, List.set_cons_succ]
              refine take_lit (i := 6) (v := ?_) rfl (by kernel_rfl) (by kernel_rfl) (by kernel_rfl) (fun _ _ _ h => h) (Or.inl ⟨by rfl, ?_⟩) (by assumption) ?_
              rotate_left
              · (intro w hSw; (try dsimp only at hSw); go_simp <;> with_reducible rfl)
              try simp only [Act.put, List.setIfInBounds_toArray, List.set_cons_zero, List.set_cons_succ]
              refine take_lit (i := 7) (v := ?_) rfl (by kernel_rfl) (by kernel_rfl) (by kernel_rfl) (fun _ _ _ h => h) (Or.inl ⟨by rfl, ?_⟩) (by assumption) ?_
              rotate_left
              · (intro w hSw; (try dsimp only at hSw); go_simp <;> with_reducible rfl)
              try simp only [Act.put, List.setIfInBounds_toArray, List.set_cons_zero, List.set_cons_succ]
              refine take_lit (i := 8) (v := ?_) rfl (by kernel_rfl) (by kernel_rfl) (by kernel_rfl) (fun _ _ _ h => h) (Or.inl ⟨by rfl, ?_⟩) (by assumption) ?_
              rotate_left
              · (intro w hSw; (try dsimp only at hSw); go_simp <;> with_reducible rfl)
              try simp only [Act.put, List.setIfInBounds_toArray, List.set_cons_zero, List.set_cons_succ]
              refine take_lit (i := 9) (v := ?_) rfl (by kernel_rfl) (by kernel_rfl) (by kernel_rfl) (fun _ _ _ h => h) (Or.inl ⟨by rfl, ?_⟩) (by assumption) ?_
              rotate_left
              · (intro w hSw; (try dsimp only at hSw); go_simp <;> with_reducible rfl)
              try simp only [Act.put, List.setIfInBounds_toArray, List.set_cons_zero, List.set_cons_succ]
              refine wpAnyH_done (by kernel_rfl) ?_ _
              refine NoPanic.normal ?_
              go_wp2
              clear hHeld s1' t1 r1 sX rD
              have rE := r2.below (bd w2) r2.lt
              have sE := Src.below t2 (bd w2) (Src.lt t2)
              have hT := ht.below (bd w2)
              have B3 := bt B2 (bd w2)
              clear r2 t2 ht
              refine wp_region_noPanic ?_
              refine wp_region_held_drew (S := fun W => Row W w.heap.size 23 (acells src) ∧ Src W a0 n0 c0 (bcells l0)) (by kernel_rfl) (⟨rE, sE⟩) (fun hHeld => ?_)
              refine take_lit (i := 0) rfl (by kernel_rfl) (by kernel_rfl) (by kernel_rfl) (fun _ _ _ h => h) (yA src (fun W hW => hW.1.range) (by rfl) rfl rfl) (by assumption) ?_
              try simp only [Act.put, List.setIfInBounds_toArray, List.set_cons_zero, List.set_cons_succ]
              refine take_lit (i := 1) (v := ?_) rfl (by kernel_rfl) (by kernel_rfl) (by kernel_rfl) (fun _ _ _ h => h) (Or.inl ⟨by rfl, ?_⟩) (by assumption) ?_
              rotate_left
              · (intro w hSw; (try dsimp only at hSw); go_simp <;> with_reducible rfl)
              try simp only [Act.put, List.setIfInBounds_toArray, List.set_cons_zero, List.set_cons_succ]
              refine take_lit (i := 2) (v := ?_) rfl (by kernel_rfl) (by kernel_rfl) (by kernel_rfl) (fun _ _ _ h => h) (Or.inl ⟨by rfl, ?_⟩) (by assumption) ?_
              rotate_left
              · (intro w hSw; (try dsimp only at hSw); go_simp <;> with_reducible rfl)
              try simp only [Act.put, List.setIfInBounds_toArray, List.set_cons_zero, List.set_cons_succ]
              refine take_lit (i := 3) (v := ?_) rfl (by kernel_rfl) (by kernel_rfl) (by kernel_rfl) (fun _ _ _ h => h) (Or.inl ⟨by rfl, ?_⟩) (by assumption) ?_
              rotate_left
              · (intro w hSw; (try dsimp only at hSw); have hm := hSw.2.str; go_simp <;> with_reducible rfl)
              try simp only [Act.put, List.setIfInBounds_toArray, List.set_cons_zero, List.set_cons_succ]
              refine take_lit (i := 4) (v := ?_) rfl (by kernel_rfl) (by kernel_rfl) (by kernel_rfl) (fun _ _ _ h => h) (Or.inl ⟨by rfl, ?_⟩) (by assumption) ?_
              rotate_left
              · (intro w hSw; (try dsimp only at hSw); go_simp; rw [if_neg C3.out])
              try simp only [Act.put, List.setIfInBounds_toArray, List.set_cons_zero, List.set_cons_succ]
              refine wpAnyH_ready (rs := [5]) (by kernel_rfl) (by simp) ?_
              refine cons_lit rfl (fun K hK => ?_) ?_
              · go_simp
                refine (wrap_any f3 Z3 _).mono ?_
                rintro e w3 ⟨ay, cy, rfl, s3', b3⟩
                refine hK.out _ _ ?_ (fun hHeld => ?_)
                · exact ⟨rE.below b3 rE.lt, Src.below sE b3 (Src.lt sE)⟩
                clear hK K
                try simp only [Act.put, List.setIfInBounds_toArray, List.set_cons_zero, List.set_cons_succ]
                refine wpAnyH_ready (rs := [6]) (by kernel_rfl) (by simp) ?_
                refine cons_lit rfl (fun K hK => ?_) ?_
                · go_simp
                  refine (Q1.out _ _ _ s3').mono ?_
                  rintro e w4 ⟨a4, c4, M, us, rfl, hU, b4⟩
                  have B4 := bt (bt B3 b3) b4
                  have hT4 := (hT.below b3).below b4
                  refine hK.out _ _ ?_ (fun hHeld => ?_)
                  · exact ⟨(rE.below b3 rE.lt).below b4 (rE.below b3 rE.lt).lt, Src.below (Src.below sE b3 (Src.lt sE)) b4 (Src.lt (Src.below sE b3 (Src.lt sE)))⟩
                  clear hK K
                  try simp only [Act.put, List.setIfInBounds_toArray, List.set_cons_zero, List.set_cons_succ]
                  refine take_lit (i := 7) (v := ?_) rfl (by kernel_rfl) (by kernel_rfl) (by kernel_rfl) (fun _ _ _ h => h) (Or.inl ⟨by rfl, ?_⟩) (by assumption) ?_
                  rotate_left
                  · (intro w hSw; (try dsimp only at hSw); go_simp <;> with_reducible rfl)
                  try simp only [Act.put, List.setIfInBounds_toArray, List.set_cons_zero, List.set_cons_succ]
                  refine take_lit (i := 8) (v := ?_) rfl (by kernel_rfl) (by kernel_rfl) (by kernel_rfl) (fun _ _ _ h => h) (Or.inl ⟨by rfl, ?_⟩) (by assumption) ?_
                  rotate_left
                  · (intro w hSw; (try dsimp only at hSw); go_simp <;> with_reducible rfl)
                  try simp only [Act.put, List.setIfInBounds_toArray, List.set_cons_zero, List.set_cons_succ]
                  refine take_lit (i := 9) (v := ?_) rfl (by kernel_rfl) (by kernel_rfl) (by kernel_rfl) (fun _ _ _ h => h) (Or.inl ⟨by rfl, ?_⟩) (by assumption) ?_
                  rotate_left
                  · (intro w hSw; (try dsimp only at hSw); go_simp <;> with_reducible rfl)
                  try simp only [Act.put, List.setIfInBounds_toArray, List.set_cons_zero, List.set_cons_succ]
                  refine take_lit (i := 10) (v := ?_) rfl (by kernel_rfl) (by kernel_rfl) (by kernel_rfl) (fun _ _ _ h => h) (Or.inl ⟨by rfl, ?_⟩) (by assumption) ?_
                  rotate_left
                  · (intro w hSw; (try dsimp only at hSw); go_simp <;> with_reducible rfl)
                  try simp only [Act.put, List.setIfInBounds_toArray, List.set_cons_zero, List.set_cons_succ]
                  refine take_lit (i := 11) (v := ?_) rfl (by kernel_rfl) (by kernel_rfl) (by kernel_rfl) (fun _ _ _ h => h) (Or.inl ⟨by rfl, ?_⟩) (by assumption) ?_
                  rotate_left
                  · (intro w hSw; (try dsimp only at hSw); go_simp <;> with_reducible rfl)
                  try simp only [Act.put, List.setIfInBounds_toArray, List.set_cons_zero, List.set_cons_succ]
                  refine wpAnyH_done (by kernel_rfl) ?_ _
                  refine NoPanic.normal ?_
                  have ek : ts.map Tl.key = us.map Tl.key := by rw [hT4.key, hU.key, HP.out]
                  obtain rfl : M = N := by
                    have n1 := hT4.tlw.len
                    have n2 := hU.tlw.len
                    have n3 := congrArg List.length ek
                    simp only [List.length_map] at n3
                    omega
                  have HS : Hid (Calls Try.prog 11 #[.slice a2 M c2, .slice a4 M c4] w4 fun e w' => e = .returned (.bool true) ∧ Below w4.heap.size w4 w') := sames_true a2 a4 M c2 c4 ts us w4 hT4.tlw hU.tlw ek hT4.le hT4.st
                  clear hHeld s3' b3 b4 b2 b1 rE sE hT B3 B2 Q0 Q1 Z0 Z3 hT4 hU ek
                  go_wp2_with (first
                    | (go_at_call 12; refine (num6 _ _).mono ?_; rintro e wn ⟨rfl, rfl⟩)
                    | (go_at_call 11; refine HS.out.mono ?_; rintro e w6 ⟨rfl, b6⟩)
                    | (go_at_call 8; refine (live_any _).mono ?_; rintro e w5 ⟨rfl, b5⟩))
                  go_ret
                  exact ⟨rfl, bt (bt B4 b6) b5⟩
                exact AllReadyH.nil
              exact AllReadyH.nil
            exact AllReadyH.nil
          exact AllReadyH.nil
        exact AllReadyH.nil
      exact AllReadyH.nil
    refine cons_lit rfl (fun K hK => ?_) ?_
    · skip
      refine sCv (.tmp 48) (by rfl) rfl _ _ _ _ s2 rfl m7 hs2 ?_
      refine hK.out _ _ ?_ (fun hHeld => ?_)
      · exact tX
      clear hK K
      try simp only [Act.put, List.setIfInBounds_toArray, List.set_cons_zero, List.set_cons_succ]
      refine wpAnyH_ready (rs := [1]) (by kernel_rfl) (by simp) ?_
      refine cons_lit rfl (fun K hK => ?_) ?_
      · skip
        refine sMk (.tmp 41) (by rfl) rfl k hk rfl ?_
        intro g1 W1 m1 d1
        replace bX := bt bX d1
        replace rX := rX.below d1 rX.lt
        replace sX := Src.below sX d1 (Src.lt sX)
        replace tX := Src.below tX d1 (Src.lt tX)
        try replace m7 := Src.below m7 d1 (Src.lt m7)
        clear d1
        refine hK.out _ _ ?_ (fun hHeld => ?_)
        · exact tX
        clear hK K
        try simp only [Act.put, List.setIfInBounds_toArray, List.set_cons_zero, List.set_cons_succ]
        refine wpAnyH_ready (rs := [2]) (by kernel_rfl) (by simp) ?_
        refine cons_lit rfl (fun K hK => ?_) ?_
        · skip
          refine sCv (.tmp 42) (by rfl) rfl _ _ _ _ s1 rfl m1 hs1 ?_
          refine hK.out _ _ ?_ (fun hHeld => ?_)
          · exact tX
          clear hK K
          try simp only [Act.put, List.setIfInBounds_toArray, List.set_cons_zero, List.set_cons_succ]
          refine take_lit (i := 9) (v := ?_) rfl (by kernel_rfl) (by kernel_rfl) (by kernel_rfl) (fun _ _ _ h => h) (Or.inl ⟨by rfl, ?_⟩) (by assumption) ?_
          rotate_left
          · (intro w hSw; (try dsimp only at hSw); go_simp; rw [if_neg C1.out])
          try simp only [Act.put, List.setIfInBounds_toArray, List.set_cons_zero, List.set_cons_succ]
          refine take_lit (i := 12) (v := ?_) rfl (by kernel_rfl) (by kernel_rfl) (by kernel_rfl) (fun _ _ _ h => h) (Or.inl ⟨by rfl, ?_⟩) (by assumption) ?_
          rotate_left
          · (intro w hSw; (try dsimp only at hSw); go_simp; rw [if_neg C2.out])
          try simp only [Act.put, List.setIfInBounds_toArray, List.set_cons_zero, List.set_cons_succ]
          refine take_lit (i := 13) (v := ?_) rfl (by kernel_rfl) (by kernel_rfl) (by kernel_rfl) (fun _ _ _ h => h) (Or.inl ⟨by rfl, ?_⟩) (by assumption) ?_
          rotate_left
          · (intro w hSw; (try dsimp only at hSw); go_simp <;> with_reducible rfl)
          try simp only [Act.put, List.setIfInBounds_toArray, List.set_cons_zero, List.set_cons_succ]
          refine wpAnyH_done (by kernel_rfl) ?_ _
          refine NoPanic.normal ?_
          go_wp2
          refine name_world (R := fun W => Code.wp _ _ _ _ W) (P := fun W => Below w.heap.size w W ∧ Row W w.heap.size 23 (acells src) ∧ Src W a0 n0 c0 (bcells l0)) _ ⟨bX, rX, sX⟩ ?_
          clear hHeld rX sX tX bX m1 m7
          rintro Y ⟨hBY, hRY, hSY⟩
          have bX := bt hBY (bd Y)
          have rD := hRY.below (bd Y) hRY.lt
          have sX := Src.below hSY (bd Y) (Src.lt hSY)
          refine wp_region_noPanic ?_
          refine wp_region_held_drew (S := fun W => Row W w.heap.size 23 (acells src) ∧ Src W a0 n0 c0 (bcells l0)) (by kernel_rfl) (⟨rD, sX⟩) (fun hHeld => ?_)
          refine take_lit (i := 0) rfl (by kernel_rfl) (by kernel_rfl) (by kernel_rfl) (fun _ _ _ h => h) (yA src (fun W hW => hW.1.range) (by rfl) rfl rfl) (by assumption) ?_
          try simp only [Act.put, List.setIfInBounds_toArray, List.set_cons_zero, List.set_cons_succ]
          refine take_lit (i := 1) (v := ?_) rfl (by kernel_rfl) (by kernel_rfl) (by kernel_rfl) (fun _ _ _ h => h) (Or.inl ⟨by rfl, ?_⟩) (by assumption) ?_
          rotate_left
          · (intro w hSw; (try dsimp only at hSw); go_simp <;> with_reducible rfl)
          try simp only [Act.put, List.setIfInBounds_toArray, List.set_cons_zero, List.set_cons_succ]
          refine take_lit (i := 2) (v := ?_) rfl (by kernel_rfl) (by kernel_rfl) (by kernel_rfl) (fun _ _ _ h => h) (Or.inl ⟨by rfl, ?_⟩) (by assumption) ?_
          rotate_left
          · (intro w hSw; (try dsimp only at hSw); have hm := hSw.2.str; go_simp <;> with_reducible rfl)
          try simp only [Act.put, List.setIfInBounds_toArray, List.set_cons_zero, List.set_cons_succ]
          refine wpAnyH_ready (rs := [3]) (by kernel_rfl) (by simp) ?_
          refine cons_lit rfl (fun K hK => ?_) ?_
          · go_simp
            refine (wrap_any s0 Z0 _).mono ?_
            rintro e w1 ⟨ax, cx, rfl, s1', b1⟩
            have r1 := rD.below b1 rD.lt
            have t1 := Src.below sX b1 (Src.lt sX)
            refine hK.out _ _ ?_ (fun hHeld => ?_)
            · exact ⟨r1, t1⟩
            clear hK K
            try simp only [Act.put, List.setIfInBounds_toArray, List.set_cons_zero, List.set_cons_succ]
            refine wpAnyH_ready (rs := [4]) (by kernel_rfl) (by simp) ?_
            refine cons_lit rfl (fun K hK => ?_) ?_
            · go_simp
              refine (Q0.out _ _ _ s1').mono ?_
              rintro e w2 ⟨a2, c2, N, ts, rfl, ht, b2⟩
              have r2 := r1.below b2 r1.lt
              have t2 := Src.below t1 b2 (Src.lt t1)
              have B2 := bt (bt bX b1) b2
              refine hK.out _ _ ?_ (fun hHeld => ?_)
              · exact ⟨r2, t2⟩
              clear hK K
              try simp only [Act.put, List.setIfInBounds_toArray, List.set_cons_zero, List.set_cons_succ]
              refine take_lit (i := 5) (v := ?_) rfl (by kernel_rfl) (by kernel_rfl) (by kernel_rfl) (fun _ _ _ h => h) (Or.inl ⟨by rfl, ?_⟩) (by assumption) ?_
              rotate_left
              · (intro w hSw; (try dsimp only at hSw); go_simp <;> with_reducible rfl)
              try simp only [Act.put, List.setIfInBounds_toArray, List.set_cons_zero, List.set_cons_succ]
              refine take_lit (i := 6) (v := ?_) rfl (by kernel_rfl) (by kernel_rfl) (by kernel_rfl) (fun _ _ _ h => h) (Or.inl ⟨by rfl, ?_⟩) (by assumption) ?_
              rotate_left
              · (intro w hSw; (try dsimp only at hSw); go_simp <;> with_reducible rfl)
              try simp only [Act.put, List.setIfInBounds_toArray, List.set_cons_zero, List.set_cons_succ]
              refine take_lit (i := 7) (v := ?_) rfl (by kernel_rfl) (by kernel_rfl) (by kernel_rfl) (fun _ _ _ h => h) (Or.inl ⟨by rfl, ?_⟩) (by assumption) ?_
              rotate_left
              · (intro w hSw; (try dsimp only at hSw); go_simp <;> with_reducible rfl)
              try simp only [Act.put, List.setIfInBounds_toArray, List.set_cons_zero, List.set_cons_succ]
              refine take_lit (i := 8) (v := ?_) rfl (by kernel_rfl) (by kernel_rfl) (by kernel_rfl) (fun _ _ _ h => h) (Or.inl ⟨by rfl, ?_⟩) (by assumption) ?_
              rotate_left
              · (intro w hSw; (try dsimp only at hSw); go_simp <;> with_reducible rfl)
              try simp only [Act.put, List.setIfInBounds_toArray, List.set_cons_zero, List.set_cons_succ]
              refine take_lit (i := 9) (v := ?_) rfl (by kernel_rfl) (by kernel_rfl) (by kernel_rfl) (fun _ _ _ h => h) (Or.inl ⟨by rfl, ?_⟩) (by assumption) ?_
              rotate_left
              · (intro w hSw; (try dsimp only at hSw); go_simp <;> with_reducible rfl)
              try simp only [Act.put, List.setIfInBounds_toArray, List.set_cons_zero, List.set_cons_succ]
              refine wpAnyH_done (by kernel_rfl) ?_ _
              refine NoPanic.normal ?_
              go_wp2
              clear hHeld s1' t1 r1 sX rD
              have rE := r2.below (bd w2) r2.lt
              have sE := Src.below t2 (bd w2) (Src.lt t2)
              have hT := ht.below (bd w2)
              have B3 := bt B2 (bd w2)
              clear r2 t2 ht
              refine wp_region_noPanic ?_
              refine wp_region_held_drew (S := fun W => Row W w.heap.size 23 (acells src) ∧ Src W a0 n0 c0 (bcells l0)) (by kernel_rfl) (⟨rE, sE⟩) (fun hHeld => ?_)
              refine take_lit (i := 0) rfl (by kernel_rfl) (by kernel_rfl) (by kernel_rfl) (fun _ _ _ h => h) (yA src (fun W hW => hW.1.range) (by rfl) rfl rfl) (by assumption) ?_
              try simp only [Act.put, List.setIfInBounds_toArray, List.set_cons_zero, List.set_cons_succ]
              refine take_lit (i := 1) (v := ?_) rfl (by kernel_rfl) (by kernel_rfl) (by kernel_rfl) (fun _ _ _ h => h) (Or.inl ⟨by rfl, ?_⟩) (by assumption) ?_
              rotate_left
              · (intro w hSw; (try dsimp only at hSw); go_simp <;> with_reducible rfl)
              try simp only [Act.put, List.setIfInBounds_toArray, List.set_cons_zero, List.set_cons_succ]
              refine take_lit (i := 2) (v := ?_) rfl (by kernel_rfl) (by kernel_rfl) (by kernel_rfl) (fun _ _ _ h => h) (Or.inl ⟨by rfl, ?_⟩) (by assumption) ?_
              rotate_left
              · (intro w hSw; (try dsimp only at hSw); go_simp <;> with_reducible rfl)
              try simp only [Act.put, List.setIfInBounds_toArray, List.set_cons_zero, List.set_cons_succ]
              refine take_lit (i := 3) (v := ?_) rfl (by kernel_rfl) (by kernel_rfl) (by kernel_rfl) (fun _ _ _ h => h) (Or.inl ⟨by rfl, ?_⟩) (by assumption) ?_
              rotate_left
              · (intro w hSw; (try dsimp only at hSw); have hm := hSw.2.str; go_simp <;> with_reducible rfl)
              try simp only [Act.put, List.setIfInBounds_toArray, List.set_cons_zero, List.set_cons_succ]
              refine take_lit (i := 4) (v := ?_) rfl (by kernel_rfl) (by kernel_rfl) (by kernel_rfl) (fun _ _ _ h => h) (Or.inl ⟨by rfl, ?_⟩) (by assumption) ?_
              rotate_left
              · (intro w hSw; (try dsimp only at hSw); go_simp; rw [if_neg C3.out])
              try simp only [Act.put, List.setIfInBounds_toArray, List.set_cons_zero, List.set_cons_succ]
              refine wpAnyH_ready (rs := [5]) (by kernel_rfl) (by simp) ?_
              refine cons_lit rfl (fun K hK => ?_) ?_
              · go_simp
                refine (wrap_any f3 Z3 _).mono ?_
                rintro e w3 ⟨ay, cy, rfl, s3', b3⟩
                refine hK.out _ _ ?_ (fun hHeld => ?_)
                · exact ⟨rE.below b3 rE.lt, Src.below sE b3 (Src.lt sE)⟩
                clear hK K
                try simp only [Act.put, List.setIfInBounds_toArray, List.set_cons_zero, List.set_cons_succ]
                refine wpAnyH_ready (rs := [6]) (by kernel_rfl) (by simp) ?_
                refine cons_lit rfl (fun K hK => ?_) ?_
                · go_simp
                  refine (Q1.out _ _ _ s3').mono ?_
                  rintro e w4 ⟨a4, c4, M, us, rfl, hU, b4⟩
                  have B4 := bt (bt B3 b3) b4
                  have hT4 := (hT.below b3).below b4
                  refine hK.out _ _ ?_ (fun hHeld => ?_)
                  · exact ⟨(rE.below b3 rE.lt).below b4 (rE.below b3 rE.lt).lt, Src.below (Src.below sE b3 (Src.lt sE)) b4 (Src.lt (Src.below sE b3 (Src.lt sE)))⟩
                  clear hK K
                  try simp only [Act.put, List.setIfInBounds_toArray, List.set_cons_zero, List.set_cons_succ]
                  refine take_lit (i := 7) (v := ?_) rfl (by kernel_rfl) (by kernel_rfl) (by kernel_rfl) (fun _ _ _ h => h) (Or.inl ⟨by rfl, ?_⟩) (by assumption) ?_
                  rotate_left
                  · (intro w hSw; (try dsimp only at hSw); go_simp <;> with_reducible rfl)
                  try simp only [Act.put, List.setIfInBounds_toArray, List.set_cons_zero, List.set_cons_succ]
                  refine take_lit (i := 8) (v := ?_) rfl (by kernel_rfl) (by kernel_rfl) (by kernel_rfl) (fun _ _ _ h => h) (Or.inl ⟨by rfl, ?_⟩) (by assumption) ?_
                  rotate_left
                  · (intro w hSw; (try dsimp only at hSw); go_simp <;> with_reducible rfl)
                  try simp only [Act.put, List.setIfInBounds_toArray, List.set_cons_zero, List.set_cons_succ]
                  refine take_lit (i := 9) (v := ?_) rfl (by kernel_rfl) (by kernel_rfl) (by kernel_rfl) (fun _ _ _ h => h) (Or.inl ⟨by rfl, ?_⟩) (by assumption) ?_
                  rotate_left
                  · (intro w hSw; (try dsimp only at hSw); go_simp <;> with_reducible rfl)
                  try simp only [Act.put, List.setIfInBounds_toArray, List.set_cons_zero, List.set_cons_succ]
                  refine take_lit (i := 10) (v := ?_) rfl (by kernel_rfl) (by kernel_rfl) (by kernel_rfl) (fun _ _ _ h => h) (Or.inl ⟨by rfl, ?_⟩) (by assumption) ?_
                  rotate_left
                  · (intro w hSw; (try dsimp only at hSw); go_simp <;> with_reducible rfl)
                  try simp only [Act.put, List.setIfInBounds_toArray, List.set_cons_zero, List.set_cons_succ]
                  refine take_lit (i := 11) (v := ?_) rfl (by kernel_rfl) (by kernel_rfl) (by kernel_rfl) (fun _ _ _ h => h) (Or.inl ⟨by rfl, ?_⟩) (by assumption) ?_
                  rotate_left
                  · (intro w hSw; (try dsimp only at hSw); go_simp <;> with_reducible rfl)
                  try simp only [Act.put, List.setIfInBounds_toArray, List.set_cons_zero, List.set_cons_succ]
                  refine wpAnyH_done (by kernel_rfl) ?_ _
                  refine NoPanic.normal ?_
                  have ek : ts.map Tl.key = us.map Tl.key := by rw [hT4.key, hU.key, HP.out]
                  obtain rfl : M = N := by
                    have n1 := hT4.tlw.len
                    have n2 := hU.tlw.len
                    have n3 := congrArg List.length ek
                    simp only [List.length_map] at n3
                    omega
                  have HS : Hid (Calls Try.prog 11 #[.slice a2 M c2, .slice a4 M c4] w4 fun e w' => e = .returned (.bool true) ∧ Below w4.heap.size w4 w') := sames_true a2 a4 M c2 c4 ts us w4 hT4.tlw hU.tlw ek hT4.le hT4.st
                  clear hHeld s3' b3 b4 b2 b1 rE sE hT B3 B2 Q0 Q1 Z0 Z3 hT4 hU ek
                  go_wp2_with (first
                    | (go_at_call 12; refine (num6 _ _).mono ?_; rintro e wn ⟨rfl, rfl⟩)
                    | (go_at_call 11; refine HS.out.mono ?_; rintro e w6 ⟨rfl, b6⟩)
                    | (go_at_call 8; refine (live_any _).mono ?_; rintro e w5 ⟨rfl, b5⟩))
                  go_ret
                  exact ⟨rfl, bt (bt B4 b6) b5⟩
                exact AllReadyH.nil
              exact AllReadyH.nil
            exact AllReadyH.nil
          exact AllReadyH.nil
        exact AllReadyH.nil
      exact AllReadyH.nil
    exact AllReadyH.nil
  exact AllReadyH.nil
set_option maxHeartbeats 4000000 in
theorem pads_walk2 (src : Ad) (a0 : Option Addr) (n0 c0 : Nat) (l0 : List UInt8) (k : Nat) (kt : UInt8) (z : Int) (a1 : Option Addr) (n1 c1 : Nat) (lb : List UInt8) (w : World) (h0 : Src w a0 n0 c0 (bcells l0)) (h1 : Src w a1 n1 c1 (bcells lb)) (k0 : n0 ≤ 5000) (hk : k ≤ 50) (k1 : n1 ≤ 200) (hz : z = (kt.toNat : Int)) (x4 : ¬ z ≤ 10) :
    Calls Try.prog 6 #[(Value.agg (acells src).toArray), .slice a0 n0 c0, .int .i64 (k : Int), .int .u8 z, .slice a1 n1 c1] w fun e w' => e = .returned (.bool true) ∧ Below w.heap.size w w' := by
  have x0 : ¬ (5000 : Int) < (n0 : Int) := by omega
  have x1 : ¬ (k : Int) < 0 := by omega
  have x2 : ¬ (50 : Int) < (k : Int) := by omega
  have x3 : ¬ (200 : Int) < (n1 : Int) := by omega
  have yw : IntKind.u8.wrap (n1 : Int) = (n1 : Int) := by rw [IntKind.wrap_u8]; omega
  have L0 : Hid (l0.length = n0) := h0.blen.symm
  have L1 : Hid (lb.length = n1) := h1.blen.symm
  have hbs : bcells [kt, UInt8.ofNat n1] = [.int .u8 z, .int .u8 (n1 : Int)] := by
    have : (UInt8.ofNat n1).toNat = n1 := by simp; omega
    simp only [bcells, List.map_cons, List.map_nil, this, hz]
  have KT : Hid (kt.toNat = 1 ∨ 10 < kt.toNat) := by show _ ∨ _; omega
  obtain ⟨s0, hs0⟩ : ∃ s, (⟨l0.toArray⟩ : ByteArray) = s := ⟨_, rfl⟩
  obtain ⟨s1, hs1⟩ : ∃ s, (⟨(List.replicate k (0 : UInt8)).toArray⟩ : ByteArray) = s := ⟨_, rfl⟩
  obtain ⟨s2, hs2⟩ : ∃ s, (⟨[kt, UInt8.ofNat n1].toArray⟩ : ByteArray) = s := ⟨_, rfl⟩
  obtain ⟨s3, hs3⟩ : ∃ s, (⟨lb.toArray⟩ : ByteArray) = s := ⟨_, rfl⟩
  obtain ⟨f1, hf1⟩ : ∃ s, s1 ++ s2 = s := ⟨_, rfl⟩
  obtain ⟨f2, hf2⟩ : ∃ s, f1 ++ s3 = s := ⟨_, rfl⟩
  obtain ⟨f3, hf3⟩ : ∃ s, f2 ++ s0 = s := ⟨_, rfl⟩
  have zs0 : s0.size = n0 := by rw [← hs0, ← L0.out]; show l0.toArray.size = _; simp
  have zs1 : s1.size = k := by rw [← hs1]; show (List.replicate k (0 : UInt8)).toArray.size = _; simp
  have zs2 : s2.size = 2 := by rw [← hs2]; rfl
  have zs3 : s3.size = n1 := by rw [← hs3, ← L1.out]; show lb.toArray.size = _; simp
  have zf1 : f1.size = k + 2 := by rw [← hf1, ByteArray.size_append, zs1, zs2]
  have zf2 : f2.size = k + 2 + n1 := by rw [← hf2, ByteArray.size_append, zf1, zs3]
  have zf3 : f3.size = k + 2 + n1 + n0 := by rw [← hf3, ByteArray.size_append, zf2, zs0]
  have C1 : Hid (¬ 9223372036854775807 < s1.size + s2.size) := by show ¬ _; omega
  have C2 : Hid (¬ 9223372036854775807 < f1.size + s3.size) := by show ¬ _; omega
  have C3 : Hid (¬ 9223372036854775807 < f2.size + s0.size) := by show ¬ _; omega
  have Z0 : s0.size ≤ 65535 := by omega
  have Z3 : f3.size ≤ 65535 := by omega
  have D0 : Hid (s0.data.toList = l0) := by show _ = _; rw [← hs0]
  have D3 : Hid (f3.data.toList = padL k kt lb l0) := by
    show _ = _
    rw [← hf3, ByteArray.data_append, ← hf2, ByteArray.data_append, ← hf1, ByteArray.data_append, ← hs0, ← hs1, ← hs2, ← hs3, ← L1.out]
    simp [padL]
  have PS := pad_spl (bgS src) k kt lb l0 KT.out (by have := L1.out; omega)
  obtain ⟨E0, hE0⟩ : ∃ E, (splL l0).2 = E := ⟨_, rfl⟩
  have Q0 : Hid (∀ W a c, Src W a (4 + s0.size) c (bcells (pkL s0.data.toList)) → Calls Try.prog 9 #[(Value.agg (acells src).toArray), .slice a (4 + s0.size) c] W fun e w' => ∃ a c N ts, e = .returned (.tuple #[.slice a N c, .int .i64 E0]) ∧ ToldP w' a N c ts src l0 ∧ Below W.heap.size W w') := fun W a c hs => by
    rw [D0.out] at hs
    rw [← hE0]
    exact parse_pk src l0 (by have := L0.out; omega) hs (by omega)
  have Q1 : Hid (∀ W a c, Src W a (4 + f3.size) c (bcells (pkL f3.data.toList)) → Calls Try.prog 9 #[(Value.agg (acells src).toArray), .slice a (4 + f3.size) c] W fun e w' => ∃ a c N ts, e = .returned (.tuple #[.slice a N c, .int .i64 E0]) ∧ ToldP w' a N c ts src (padL k kt lb l0) ∧ Below W.heap.size W w') := fun W a c hs => by
    rw [D3.out] at hs
    rw [← hE0, ← PS.1]
    exact parse_pk src (padL k kt lb l0) (by have := L0.out; have := L1.out; rw [padL_len]; omega) hs (by omega)
  have HP : Hid (tellL (bgS src) (splL (padL k kt lb l0)).1 = tellL (bgS src) (splL l0).1) := PS.2
  clear hE0 PS zs0 zs1 zs2 zs3 zf1 zf2 zf3 hz D0 D3 k0 k1
  go_enter Try.func6, Try.ntmps6
  go_wp2
  refine name_world (R := fun W => Code.wp _ _ _ _ W) (P := fun W => Below w.heap.size w W ∧ Row W w.heap.size 23 (acells src)) _ ⟨ba _ _, Row.new _ _ _⟩ ?_
  rintro X ⟨hB, hR⟩
  have bX := bt hB (bd X)
  have rX := hR.below (bd X) hR.lt
  have sX := Src.below h0 bX (Src.lt h0)
  have tX := Src.below h1 bX (Src.lt h1)
  refine wp_region_noPanic ?_
  refine wp_region_held_drew (S := fun W => Src W a1 n1 c1 (bcells lb)) (by kernel_rfl) (tX) (fun hHeld => ?_)
  refine take_lit (i := 0) (v := ?_) rfl (by kernel_rfl) (by kernel_rfl) (by kernel_rfl) (fun _ _ _ h => h) (Or.inl ⟨by rfl, ?_⟩) (by assumption) ?_
  rotate_left
  · (intro w hSw; (try dsimp only at hSw); go_simp <;> with_reducible rfl)
  try simp only [Act.put, List.setIfInBounds_toArray, List.set_cons_zero, List.set_cons_succ]
  refine take_lit (i := 3) (v := ?_) rfl (by kernel_rfl) (by kernel_rfl) (by kernel_rfl) (fun _ _ _ h => h) (Or.inl ⟨by rfl, ?_⟩) (by assumption) ?_
  rotate_left
  · (intro w hSw; (try dsimp only at hSw); go_simp <;> with_reducible rfl)
  try simp only [Act.put, List.setIfInBounds_toArray, List.set_cons_zero, List.set_cons_succ]
  refine take_lit (i := 4) (v := ?_) rfl (by kernel_rfl) (by kernel_rfl) (by kernel_rfl) (fun _ _ _ h => h) (Or.inl ⟨by rfl, ?_⟩) (by assumption) ?_
  rotate_left
  · (intro w hSw; (try dsimp only at hSw); go_simp <;> with_reducible rfl)
  try simp only [Act.put, List.setIfInBounds_toArray, List.set_cons_zero, List.set_cons_succ]
  refine take_lit (i := 5) (v := ?_) rfl (by kernel_rfl) (by kernel_rfl) (by kernel_rfl) (fun _ _ _ h => h) (Or.inl ⟨by rfl, ?_⟩) (by assumption) ?_
  rotate_left
  · (intro w hSw; (try dsimp only at hSw); go_simp <;> with_reducible rfl)
  try simp only [Act.put, List.setIfInBounds_toArray, List.set_cons_zero, List.set_cons_succ]
  refine take_lit (i := 6) (v := ?_) rfl (by kernel_rfl) (by kernel_rfl) (by kernel_rfl) (fun _ _ _ h => h) (Or.inl ⟨by rfl, ?_⟩) (by assumption) ?_
  rotate_left
  · (intro w hSw; (try dsimp only at hSw); go_simp <;> with_reducible rfl)
  try simp only [Act.put, List.setIfInBounds_toArray, List.set_cons_zero, List.set_cons_succ]
  refine take_lit (i := 10) (v := ?_) rfl (by kernel_rfl) (by kernel_rfl) (by kernel_rfl) (fun _ _ _ h => h) (Or.inl ⟨by rfl, ?_⟩) (by assumption) ?_
  rotate_left
  · (intro w hSw; (try dsimp only at hSw); go_simp <;> with_reducible rfl)
  try simp only [Act.put, List.setIfInBounds_toArray, List.set_cons_zero, List.set_cons_succ]
  refine take_lit (i := 11) (v := ?_) rfl (by kernel_rfl) (by kernel_rfl) (by kernel_rfl) (fun _ _ _ h => h) (Or.inl ⟨by rfl, ?_⟩) (by assumption) ?_
  rotate_left
  · (intro w hSw; (try dsimp only at hSw); have hm := hSw.str; go_simp <;> with_reducible rfl)
  try simp only [Act.put, List.setIfInBounds_toArray, List.set_cons_zero, List.set_cons_succ]
  refine wpAnyH_ready (rs := [1, 7]) (by kernel_rfl) (by simp) ?_
  refine cons_lit rfl (fun K hK => ?_) ?_
  · skip
    refine sMk (.tmp 41) (by rfl) rfl k hk rfl ?_
    intro g1 W1 m1 d1
    replace bX := bt bX d1
    replace rX := rX.below d1 rX.lt
    replace sX := Src.below sX d1 (Src.lt sX)
    replace tX := Src.below tX d1 (Src.lt tX)
    try replace m7 := Src.below m7 d1 (Src.lt m7)
    clear d1
    refine hK.out _ _ ?_ (fun hHeld => ?_)
    · exact tX
    clear hK K
    try simp only [Act.put, List.setIfInBounds_toArray, List.set_cons_zero, List.set_cons_succ]
    refine wpAnyH_ready (rs := [2, 7]) (by kernel_rfl) (by simp) ?_
    refine cons_lit rfl (fun K hK => ?_) ?_
    · skip
      refine sCv (.tmp 42) (by rfl) rfl _ _ _ _ s1 rfl m1 hs1 ?_
      refine hK.out _ _ ?_ (fun hHeld => ?_)
      · exact tX
      clear hK K
      try simp only [Act.put, List.setIfInBounds_toArray, List.set_cons_zero, List.set_cons_succ]
      refine wpAnyH_ready (rs := [7]) (by kernel_rfl) (by simp) ?_
      refine cons_lit rfl (fun K hK => ?_) ?_
      · skip
        refine sBs (.tmp 44) (.tmp 47) (by rfl) rfl [kt, UInt8.ofNat n1] _ _ rfl rfl hbs ?_
        intro g7 W7 m7 d7
        replace bX := bt bX d7
        replace rX := rX.below d7 rX.lt
        replace sX := Src.below sX d7 (Src.lt sX)
        replace tX := Src.below tX d7 (Src.lt tX)
        try replace m1 := Src.below m1 d7 (Src.lt m1)
        clear d7
        refine hK.out _ _ ?_ (fun hHeld => ?_)
        · exact tX
        clear hK K
        try simp only [Act.put, List.setIfInBounds_toArray, List.set_cons_zero, List.set_cons_succ]
        refine wpAnyH_ready (rs := [8]) (by kernel_rfl) (by simp) ?_
        refine cons_lit rfl (fun K hK => ?_) ?_
        · skip
          refine sCv (.tmp 48) (by rfl) rfl _ _ _ _ s2 rfl m7 hs2 ?_
          refine hK.out _ _ ?_ (fun hHeld => ?_)
          · exact tX
          clear hK K
          try simp only [Act.put, List.setIfInBounds_toArray, List.set_cons_zero, List.set_cons_succ]
          refine take_lit (i := 9) (v := ?_) rfl (by kernel_rfl) (by kernel_rfl) (by kernel_rfl) (fun _ _ _ h => h) (Or.inl ⟨by rfl, ?_⟩) (by assumption) ?_
          rotate_left
          · (intro w hSw; (try dsimp only at hSw); go_simp; rw [if_neg C1.out])
          try simp only [Act.put, List.setIfInBounds_toArray, List.set_cons_zero, List.set_cons_succ]
          refine take_lit (i := 12) (v := ?_) rfl (by kernel_rfl) (by kernel_rfl) (by kernel_rfl) (fun _ _ _ h => h) (Or.inl ⟨by rfl, ?_⟩) (by assumption) ?_
          rotate_left
          · (intro w hSw; (try dsimp only at hSw); go_simp; rw [if_neg C2.out])
          try simp only [Act.put, List.setIfInBounds_toArray, List.set_cons_zero, List.set_cons_succ]
          refine take_lit (i := 13) (v := ?_) rfl (by kernel_rfl) (by kernel_rfl) (by kernel_rfl) (fun _ _ _ h => h) (Or.inl ⟨by rfl, ?_⟩) (by assumption) ?_
          rotate_left
          · (intro w hSw; (try dsimp only at hSw); go_simp <;> with_reducible rfl)
          try simp only [Act.put, List.setIfInBounds_toArray, List.set_cons_zero, List.set_cons_succ]
          refine wpAnyH_done (by kernel_rfl) ?_ _
          refine NoPanic.normal ?_
          go_wp2
          refine name_world (R := fun W => Code.wp _ _ _ _ W) (P := fun W => Below w.heap.size w W ∧ Row W w.heap.size 23 (acells src) ∧ Src W a0 n0 c0 (bcells l0)) _ ⟨bX, rX, sX⟩ ?_
          clear hHeld rX sX tX bX m1 m7
          rintro Y ⟨hBY, hRY, hSY⟩
          have bX := bt hBY (bd Y)
          have rD := hRY.below (bd Y) hRY.lt
          have sX := Src.below hSY (bd Y) (Src.lt hSY)
          refine wp_region_noPanic ?_
          refine wp_region_held_drew (S := fun W => Row W w.heap.size 23 (acells src) ∧ Src W a0 n0 c0 (bcells l0)) (by kernel_rfl) (⟨rD, sX⟩) (fun hHeld => ?_)
          refine take_lit (i := 0) rfl (by kernel_rfl) (by kernel_rfl) (by kernel_rfl) (fun _ _ _ h => h) (yA src (fun W hW => hW.1.range) (by rfl) rfl rfl) (by assumption) ?_
          try simp only [Act.put, List.setIfInBounds_toArray, List.set_cons_zero, List.set_cons_succ]
          refine take_lit (i := 1) (v := ?_) rfl (by kernel_rfl) (by kernel_rfl) (by kernel_rfl) (fun _ _ _ h => h) (Or.inl ⟨by rfl, ?_⟩) (by assumption) ?_
          rotate_left
          · (intro w hSw; (try dsimp only at hSw); go_simp <;> with_reducible rfl)
          try simp only [Act.put, List.setIfInBounds_toArray, List.set_cons_zero, List.set_cons_succ]
          refine take_lit (i := 2) (v := ?_) rfl (by kernel_rfl) (by kernel_rfl) (by kernel_rfl) (fun _ _ _ h => h) (Or.inl ⟨by rfl, ?_⟩) (by assumption) ?_
          rotate_left
          · (intro w hSw; (try dsimp only at hSw); have hm := hSw.2.str; go_simp <;> with_reducible rfl)
          try simp only [Act.put, List.setIfInBounds_toArray, List.set_cons_zero, List.set_cons_succ]
          refine wpAnyH_ready (rs := [3]) (by kernel_rfl) (by simp) ?_
          refine cons_lit rfl (fun K hK => ?_) ?_
          · go_simp
            refine (wrap_any s0 Z0 _).mono ?_
            rintro e w1 ⟨ax, cx, rfl, s1', b1⟩
            have r1 := rD.below b1 rD.lt
            have t1 := Src.below sX b1 (Src.lt sX)
            refine hK.out _ _ ?_ (fun hHeld => ?_)
            · exact ⟨r1, t1⟩
            clear hK K
            try simp only [Act.put, List.setIfInBounds_toArray, List.set_cons_zero, List.set_cons_succ]
            refine wpAnyH_ready (rs := [4]) (by kernel_rfl) (by simp) ?_
            refine cons_lit rfl (fun K hK => ?_) ?_
            · go_simp
              refine (Q0.out _ _ _ s1').mono ?_
              rintro e w2 ⟨a2, c2, N, ts, rfl, ht, b2⟩
              have r2 := r1.below b2 r1.lt
              have t2 := Src.below t1 b2 (Src.lt t1)
              have B2 := bt (bt bX b1) b2
              refine hK.out _ _ ?_ (fun hHeld => ?_)
              · exact ⟨r2, t2⟩
              clear hK K
              try simp only [Act.put, List.setIfInBounds_toArray, List.set_cons_zero, List.set_cons_succ]
              refine take_lit (i := 5) (v := ?_) rfl (by kernel_rfl) (by kernel_rfl) (by kernel_rfl) (fun _ _ _ h => h) (Or.inl ⟨by rfl, ?_⟩) (by assumption) ?_
              rotate_left
              · (intro w hSw; (try dsimp only at hSw); go_simp <;> with_reducible rfl)
              try simp only [Act.put, List.setIfInBounds_toArray, List.set_cons_zero, List.set_cons_succ]
              refine take_lit (i := 6) (v := ?_) rfl (by kernel_rfl) (by kernel_rfl) (by kernel_rfl) (fun _ _ _ h => h) (Or.inl ⟨by rfl, ?_⟩) (by assumption) ?_
              rotate_left
              · (intro w hSw; (try dsimp only at hSw); go_simp <;> with_reducible rfl)
              try simp only [Act.put, List.setIfInBounds_toArray, List.set_cons_zero, List.set_cons_succ]
              refine take_lit (i := 7) (v := ?_) rfl (by kernel_rfl) (by kernel_rfl) (by kernel_rfl) (fun _ _ _ h => h) (Or.inl ⟨by rfl, ?_⟩) (by assumption) ?_
              rotate_left
              · (intro w hSw; (try dsimp only at hSw); go_simp <;> with_reducible rfl)
              try simp only [Act.put, List.setIfInBounds_toArray, List.set_cons_zero, List.set_cons_succ]
              refine take_lit (i := 8) (v := ?_) rfl (by kernel_rfl) (by kernel_rfl) (by kernel_rfl) (fun _ _ _ h => h) (Or.inl ⟨by rfl, ?_⟩) (by assumption) ?_
              rotate_left
              · (intro w hSw; (try dsimp only at hSw); go_simp <;> with_reducible rfl)
              try simp only [Act.put, List.setIfInBounds_toArray, List.set_cons_zero, List.set_cons_succ]
              refine take_lit (i := 9) (v := ?_) rfl (by kernel_rfl) (by kernel_rfl) (by kernel_rfl) (fun _ _ _ h => h) (Or.inl ⟨by rfl, ?_⟩) (by assumption) ?_
              rotate_left
              · (intro w hSw; (try dsimp only at hSw); go_simp <;> with_reducible rfl)
              try simp only [Act.put, List.setIfInBounds_toArray, List.set_cons_zero, List.set_cons_succ]
              refine wpAnyH_done (by kernel_rfl) ?_ _
              refine NoPanic.normal ?_
              go_wp2
              clear hHeld s1' t1 r1 sX rD
              have rE := r2.below (bd w2) r2.lt
              have sE := Src.below t2 (bd w2) (Src.lt t2)
              have hT := ht.below (bd w2)
              have B3 := bt B2 (bd w2)
              clear r2 t2 ht
              refine wp_region_noPanic ?_
              refine wp_region_held_drew (S := fun W => Row W w.heap.size 23 (acells src) ∧ Src W a0 n0 c0 (bcells l0)) (by kernel_rfl) (⟨rE, sE⟩) (fun hHeld => ?_)
              refine take_lit (i := 0) rfl (by kernel_rfl) (by kernel_rfl) (by kernel_rfl) (fun _ _ _ h => h) (yA src (fun W hW => hW.1.range) (by rfl) rfl rfl) (by assumption) ?_
              try simp only [Act.put, List.setIfInBounds_toArray, List.set_cons_zero, List.set_cons_succ]
              refine take_lit (i := 1) (v := ?_) rfl (by kernel_rfl) (by kernel_rfl) (by kernel_rfl) (fun _ _ _ h => h) (Or.inl ⟨by rfl, ?_⟩) (by assumption) ?_
              rotate_left
              · (intro w hSw; (try dsimp only at hSw); go_simp <;> with_reducible rfl)
              try simp only [Act.put, List.setIfInBounds_toArray, List.set_cons_zero, List.set_cons_succ]
              refine take_lit (i := 2) (v := ?_) rfl (by kernel_rfl) (by kernel_rfl) (by kernel_rfl) (fun _ _ _ h => h) (Or.inl ⟨by rfl, ?_⟩) (by assumption) ?_
              rotate_left
              · (intro w hSw; (try dsimp only at hSw); go_simp <;> with_reducible rfl)
              try simp only [Act.put, List.setIfInBounds_toArray, List.set_cons_zero, List.set_cons_succ]
              refine take_lit (i := 3) (v := ?_) rfl (by kernel_rfl) (by kernel_rfl) (by kernel_rfl) (fun _ _ _ h => h) (Or.inl ⟨by rfl, ?_⟩) (by assumption) ?_
              rotate_left
              · (intro w hSw; (try dsimp only at hSw); have hm := hSw.2.str; go_simp <;> with_reducible rfl)
              try simp only [Act.put, List.setIfInBounds_toArray, List.set_cons_zero, List.set_cons_succ]
              refine take_lit (i := 4) (v := ?_) rfl (by kernel_rfl) (by kernel_rfl) (by kernel_rfl) (fun _ _ _ h => h) (Or.inl ⟨by rfl, ?_⟩) (by assumption) ?_
              rotate_left
              · (intro w hSw; (try dsimp only at hSw); go_simp; rw [if_neg C3.out])
              try simp only [Act.put, List.setIfInBounds_toArray, List.set_cons_zero, List.set_cons_succ]
              refine wpAnyH_ready (rs := [5]) (by kernel_rfl) (by simp) ?_
              refine cons_lit rfl (fun K hK => ?_) ?_
              · go_simp
                refine (wrap_any f3 Z3 _).mono ?_
                rintro e w3 ⟨ay, cy, rfl, s3', b3⟩
                refine hK.out _ _ ?_ (fun hHeld => ?_)
                · exact ⟨rE.below b3 rE.lt, Src.below sE b3 (Src.lt sE)⟩
                clear hK K
                try simp only [Act.put, List.setIfInBounds_toArray, List.set_cons_zero, List.set_cons_succ]
                refine wpAnyH_ready (rs := [6]) (by kernel_rfl) (by simp) ?_
                refine cons_lit rfl (fun K hK => ?_) ?_
                · go_simp
                  refine (Q1.out _ _ _ s3').mono ?_
                  rintro e w4 ⟨a4, c4, M, us, rfl, hU, b4⟩
                  have B4 := bt (bt B3 b3) b4
                  have hT4 := (hT.below b3).below b4
                  refine hK.out _ _ ?_ (fun hHeld => ?_)
                  · exact ⟨(rE.below b3 rE.lt).below b4 (rE.below b3 rE.lt).lt, Src.below (Src.below sE b3 (Src.lt sE)) b4 (Src.lt (Src.below sE b3 (Src.lt sE)))⟩
                  clear hK K
                  try simp only [Act.put, List.setIfInBounds_toArray, List.set_cons_zero, List.set_cons_succ]
                  refine take_lit (i := 7) (v := ?_) rfl (by kernel_rfl) (by kernel_rfl) (by kernel_rfl) (fun _ _ _ h => h) (Or.inl ⟨by rfl, ?_⟩) (by assumption) ?_
                  rotate_left
                  · (intro w hSw; (try dsimp only at hSw); go_simp <;> with_reducible rfl)
                  try simp only [Act.put, List.setIfInBounds_toArray, List.set_cons_zero, List.set_cons_succ]
                  refine take_lit (i := 8) (v := ?_) rfl (by kernel_rfl) (by kernel_rfl) (by kernel_rfl) (fun _ _ _ h => h) (Or.inl ⟨by rfl, ?_⟩) (by assumption) ?_
                  rotate_left
                  · (intro w hSw; (try dsimp only at hSw); go_simp <;> with_reducible rfl)
                  try simp only [Act.put, List.setIfInBounds_toArray, List.set_cons_zero, List.set_cons_succ]
                  refine take_lit (i := 9) (v := ?_) rfl (by kernel_rfl) (by kernel_rfl) (by kernel_rfl) (fun _ _ _ h => h) (Or.inl ⟨by rfl, ?_⟩) (by assumption) ?_
                  rotate_left
                  · (intro w hSw; (try dsimp only at hSw); go_simp <;> with_reducible rfl)
                  try simp only [Act.put, List.setIfInBounds_toArray, List.set_cons_zero, List.set_cons_succ]
                  refine take_lit (i := 10) (v := ?_) rfl (by kernel_rfl) (by kernel_rfl) (by kernel_rfl) (fun _ _ _ h => h) (Or.inl ⟨by rfl, ?_⟩) (by assumption) ?_
                  rotate_left
                  · (intro w hSw; (try dsimp only at hSw); go_simp <;> with_reducible rfl)
                  try simp only [Act.put, List.setIfInBounds_toArray, List.set_cons_zero, List.set_cons_succ]
                  refine take_lit (i := 11) (v := ?_) rfl (by kernel_rfl) (by kernel_rfl) (by kernel_rfl) (fun _ _ _ h => h) (Or.inl ⟨by rfl, ?_⟩) (by assumption) ?_
                  rotate_left
                  · (intro w hSw; (try dsimp only at hSw); go_simp <;> with_reducible rfl)
                  try simp only [Act.put, List.setIfInBounds_toArray, List.set_cons_zero, List.set_cons_succ]
                  refine wpAnyH_done (by kernel_rfl) ?_ _
                  refine NoPanic.normal ?_
                  have ek : ts.map Tl.key = us.map Tl.key := by rw [hT4.key, hU.key, HP.out]
                  obtain rfl : M = N := by
                    have n1 := hT4.tlw.len
                    have n2 := hU.tlw.len
                    have n3 := congrArg List.length ek
                    simp only [List.length_map] at n3
                    omega
                  have HS : Hid (Calls Try.prog 11 #[.slice a2 M c2, .slice a4 M c4] w4 fun e w' => e = .returned (.bool true) ∧ Below w4.heap.size w4 w') := sames_true a2 a4 M c2 c4 ts us w4 hT4.tlw hU.tlw ek hT4.le hT4.st
                  clear hHeld s3' b3 b4 b2 b1 rE sE hT B3 B2 Q0 Q1 Z0 Z3 hT4 hU ek
                  go_wp2_with (first
                    | (go_at_call 12; refine (num6 _ _).mono ?_; rintro e wn ⟨rfl, rfl⟩)
                    | (go_at_call 11; refine HS.out.mono ?_; rintro e w6 ⟨rfl, b6⟩)
                    | (go_at_call 8; refine (live_any _).mono ?_; rintro e w5 ⟨rfl, b5⟩))
                  go_ret
                  exact ⟨rfl, bt (bt B4 b6) b5⟩
                exact AllReadyH.nil
              exact AllReadyH.nil
            exact AllReadyH.nil
          exact AllReadyH.nil
        exact AllReadyH.nil
      exact AllReadyH.nil
    refine cons_lit rfl (fun K hK => ?_) ?_
    · skip
      refine sBs (.tmp 44) (.tmp 47) (by rfl) rfl [kt, UInt8.ofNat n1] _ _ rfl rfl hbs ?_
      intro g7 W7 m7 d7
      replace bX := bt bX d7
      replace rX := rX.below d7 rX.lt
      replace sX := Src.below sX d7 (Src.lt sX)
      replace tX := Src.below tX d7 (Src.lt tX)
      try replace m1 := Src.below m1 d7 (Src.lt m1)
      clear d7
      refine hK.out _ _ ?_ (fun hHeld => ?_)
      · exact tX
      clear hK K
      try simp only [Act.put, List.setIfInBounds_toArray, List.set_cons_zero, List.set_cons_succ]
      refine wpAnyH_ready (rs := [2, 8]) (by kernel_rfl) (by simp) ?_
      refine cons_lit rfl (fun K hK => ?_) ?_
      · skip
        refine sCv (.tmp 42) (by rfl) rfl _ _ _ _ s1 rfl m1 hs1 ?_
        refine hK.out _ _ ?_ (fun hHeld => ?_)
        · exact tX
        clear hK K
        try simp only [Act.put, List.setIfInBounds_toArray, List.set_cons_zero, List.set_cons_succ]
        refine wpAnyH_ready (rs := [8]) (by kernel_rfl) (by simp) ?_
        refine cons_lit rfl (fun K hK => ?_) ?_
        · skip
          refine sCv (.tmp 48) (by rfl) rfl _ _ _ _ s2 rfl m7 hs2 ?_
          refine hK.out _ _ ?_ (fun hHeld => ?_)
          · exact tX
          clear hK K
          try simp only [Act.put, List.setIfInBounds_toArray, List.set_cons_zero, List.set_cons_succ]
          refine take_lit (i := 9) (v := ?_) rfl (by kernel_rfl) (by kernel_rfl) (by kernel_rfl) (fun _ _ _ h => h) (Or.inl ⟨by rfl, ?_⟩) (by assumption) ?_
          rotate_left
          · (intro w hSw; (try dsimp only at hSw); go_simp; rw [if_neg C1.out])
          try simp only [Act.put, List.setIfInBounds_toArray, List.set_cons_zero, List.set_cons_succ]
          refine take_lit (i := 12) (v := ?_) rfl (by kernel_rfl) (by kernel_rfl) (by kernel_rfl) (fun _ _ _ h => h) (Or.inl ⟨by rfl, ?_⟩) (by assumption) ?_
          rotate_left
          · (intro w hSw; (try dsimp only at hSw); go_simp; rw [if_neg C2.out])
          try simp only [Act.put, List.setIfInBounds_toArray, List.set_cons_zero, List.set_cons_succ]
          refine take_lit (i := 13) (v := ?_) rfl (by kernel_rfl) (by kernel_rfl) (by kernel_rfl) (fun _ _ _ h => h) (Or.inl ⟨by rfl, ?_⟩) (by assumption) ?_
          rotate_left
          · (intro w hSw; (try dsimp only at hSw); go_simp <;> with_reducible rfl)
          try simp only [Act.put, List.setIfInBounds_toArray, List.set_cons_zero, List.set_cons_succ]
          refine wpAnyH_done (by kernel_rfl) ?_ _
          refine NoPanic.normal ?_
          go_wp2
          refine name_world (R := fun W => Code.wp _ _ _ _ W) (P := fun W => Below w.heap.size w W ∧ Row W w.heap.size 23 (acells src) ∧ Src W a0 n0 c0 (bcells l0)) _ ⟨bX, rX, sX⟩ ?_
          clear hHeld rX sX tX bX m1 m7
          rintro Y ⟨hBY, hRY, hSY⟩
          have bX := bt hBY (bd Y)
          have rD := hRY.below (bd Y) hRY.lt
          have sX := Src.below hSY (bd Y) (Src.lt hSY)
          refine wp_region_noPanic ?_
          refine wp_region_held_drew (S := fun W => Row W w.heap.size 23 (acells src) ∧ Src W a0 n0 c0 (bcells l0)) (by kernel_rfl) (⟨rD, sX⟩) (fun hHeld => ?_)
          refine take_lit (i := 0) rfl (by kernel_rfl) (by kernel_rfl) (by kernel_rfl) (fun _ _ _ h => h) (yA src (fun W hW => hW.1.range) (by rfl) rfl rfl) (by assumption) ?_
          try simp only [Act.put, List.setIfInBounds_toArray, List.set_cons_zero, List.set_cons_succ]
          refine take_lit (i := 1) (v := ?_) rfl (by kernel_rfl) (by kernel_rfl) (by kernel_rfl) (fun _ _ _ h => h) (Or.inl ⟨by rfl, ?_⟩) (by assumption) ?_
          rotate_left
          · (intro w hSw; (try dsimp only at hSw); go_simp <;> with_reducible rfl)
          try simp only [Act.put, List.setIfInBounds_toArray, List.set_cons_zero, List.set_cons_succ]
          refine take_lit (i := 2) (v := ?_) rfl (by kernel_rfl) (by kernel_rfl) (by kernel_rfl) (fun _ _ _ h => h) (Or.inl ⟨by rfl, ?_⟩) (by assumption) ?_
          rotate_left
          · (intro w hSw; (try dsimp only at hSw); have hm := hSw.2.str; go_simp <;> with_reducible rfl)
          try simp only [Act.put, List.setIfInBounds_toArray, List.set_cons_zero, List.set_cons_succ]
          refine wpAnyH_ready (rs := [3]) (by kernel_rfl) (by simp) ?_
          refine cons_lit rfl (fun K hK => ?_) ?_
          · go_simp
            refine (wrap_any s0 Z0 _).mono ?_
            rintro e w1 ⟨ax, cx, rfl, s1', b1⟩
            have r1 := rD.below b1 rD.lt
            have t1 := Src.below sX b1 (Src.lt sX)
            refine hK.out _ _ ?_ (fun hHeld => ?_)
            · exact ⟨r1, t1⟩
            clear hK K
            try simp only [Act.put, List.setIfInBounds_toArray, List.set_cons_zero, List.set_cons_succ]
            refine wpAnyH_ready (rs := [4]) (by kernel_rfl) (by simp) ?_
            refine cons_lit rfl (fun K hK => ?_) ?_
            · go_simp
              refine (Q0.out _ _ _ s1').mono ?_
              rintro e w2 ⟨a2, c2, N, ts, rfl, ht, b2⟩
              have r2 := r1.below b2 r1.lt
              have t2 := Src.below t1 b2 (Src.lt t1)
              have B2 := bt (bt bX b1) b2
              refine hK.out _ _ ?_ (fun hHeld => ?_)
              · exact ⟨r2, t2⟩
              clear hK K
              try simp only [Act.put, List.setIfInBounds_toArray, List.set_cons_zero, List.set_cons_succ]
              refine take_lit (i := 5) (v := ?_) rfl (by kernel_rfl) (by kernel_rfl) (by kernel_rfl) (fun _ _ _ h => h) (Or.inl ⟨by rfl, ?_⟩) (by assumption) ?_
              rotate_left
              · (intro w hSw; (try dsimp only at hSw); go_simp <;> with_reducible rfl)
              try simp only [Act.put, List.setIfInBounds_toArray, List.set_cons_zero, List.set_cons_succ]
              refine take_lit (i := 6) (v := ?_) rfl (by kernel_rfl) (by kernel_rfl) (by kernel_rfl) (fun _ _ _ h => h) (Or.inl ⟨by rfl, ?_⟩) (by assumption) ?_
              rotate_left
              · (intro w hSw; (try dsimp only at hSw); go_simp <;> with_reducible rfl)
              try simp only [Act.put, List.setIfInBounds_toArray, List.set_cons_zero, List.set_cons_succ]
              refine take_lit (i := 7) (v := ?_) rfl (by kernel_rfl) (by kernel_rfl) (by kernel_rfl) (fun _ _ _ h => h) (Or.inl ⟨by rfl, ?_⟩) (by assumption) ?_
              rotate_left
              · (intro w hSw; (try dsimp only at hSw); go_simp <;> with_reducible rfl)
              try simp only [Act.put, List.setIfInBounds_toArray, List.set_cons_zero, List.set_cons_succ]
              refine take_lit (i := 8) (v := ?_) rfl (by kernel_rfl) (by kernel_rfl) (by kernel_rfl) (fun _ _ _ h => h) (Or.inl ⟨by rfl, ?_⟩) (by assumption) ?_
              rotate_left
              · (intro w hSw; (try dsimp only at hSw); go_simp <;> with_reducible rfl)
              try simp only [Act.put, List.setIfInBounds_toArray, List.set_cons_zero, List.set_cons_succ]
              refine take_lit (i := 9) (v := ?_) rfl (by kernel_rfl) (by kernel_rfl) (by kernel_rfl) (fun _ _ _ h => h) (Or.inl ⟨by rfl, ?_⟩) (by assumption) ?_
              rotate_left
              · (intro w hSw; (try dsimp only at hSw); go_simp <;> with_reducible rfl)
              try simp only [Act.put, List.setIfInBounds_toArray, List.set_cons_zero, List.set_cons_succ]
              refine wpAnyH_done (by kernel_rfl) ?_ _
              refine NoPanic.normal ?_
              go_wp2
              clear hHeld s1' t1 r1 sX rD
              have rE := r2.below (bd w2) r2.lt
              have sE := Src.below t2 (bd w2) (Src.lt t2)
              have hT := ht.below (bd w2)
              have B3 := bt B2 (bd w2)
              clear r2 t2 ht
              refine wp_region_noPanic ?_
              refine wp_region_held_drew (S := fun W => Row W w.heap.size 23 (acells src) ∧ Src W a0 n0 c0 (bcells l0)) (by kernel_rfl) (⟨rE, sE⟩) (fun hHeld => ?_)
              refine take_lit (i := 0) rfl (by kernel_rfl) (by kernel_rfl) (by kernel_rfl) (fun _ _ _ h => h) (yA src (fun W hW => hW.1.range) (by rfl) rfl rfl) (by assumption) ?_
              try simp only [Act.put, List.setIfInBounds_toArray, List.set_cons_zero, List.set_cons_succ]
              refine take_lit (i := 1) (v := ?_) rfl (by kernel_rfl) (by kernel_rfl) (by kernel_rfl) (fun _ _ _ h => h) (Or.inl ⟨by rfl, ?_⟩) (by assumption) ?_
              rotate_left
              · (intro w hSw; (try dsimp only at hSw); go_simp <;> with_reducible rfl)
              try simp only [Act.put, List.setIfInBounds_toArray, List.set_cons_zero, List.set_cons_succ]
              refine take_lit (i := 2) (v := ?_) rfl (by kernel_rfl) (by kernel_rfl) (by kernel_rfl) (fun _ _ _ h => h) (Or.inl ⟨by rfl, ?_⟩) (by assumption) ?_
              rotate_left
              · (intro w hSw; (try dsimp only at hSw); go_simp <;> with_reducible rfl)
              try simp only [Act.put, List.setIfInBounds_toArray, List.set_cons_zero, List.set_cons_succ]
              refine take_lit (i := 3) (v := ?_) rfl (by kernel_rfl) (by kernel_rfl) (by kernel_rfl) (fun _ _ _ h => h) (Or.inl ⟨by rfl, ?_⟩) (by assumption) ?_
              rotate_left
              · (intro w hSw; (try dsimp only at hSw); have hm := hSw.2.str; go_simp <;> with_reducible rfl)
              try simp only [Act.put, List.setIfInBounds_toArray, List.set_cons_zero, List.set_cons_succ]
              refine take_lit (i := 4) (v := ?_) rfl (by kernel_rfl) (by kernel_rfl) (by kernel_rfl) (fun _ _ _ h => h) (Or.inl ⟨by rfl, ?_⟩) (by assumption) ?_
              rotate_left
              · (intro w hSw; (try dsimp only at hSw); go_simp; rw [if_neg C3.out])
              try simp only [Act.put, List.setIfInBounds_toArray, List.set_cons_zero, List.set_cons_succ]
              refine wpAnyH_ready (rs := [5]) (by kernel_rfl) (by simp) ?_
              refine cons_lit rfl (fun K hK => ?_) ?_
              · go_simp
                refine (wrap_any f3 Z3 _).mono ?_
                rintro e w3 ⟨ay, cy, rfl, s3', b3⟩
                refine hK.out _ _ ?_ (fun hHeld => ?_)
                · exact ⟨rE.below b3 rE.lt, Src.below sE b3 (Src.lt sE)⟩
                clear hK K
                try simp only [Act.put, List.setIfInBounds_toArray, List.set_cons_zero, List.set_cons_succ]
                refine wpAnyH_ready (rs := [6]) (by kernel_rfl) (by simp) ?_
                refine cons_lit rfl (fun K hK => ?_) ?_
                · go_simp
                  refine (Q1.out _ _ _ s3').mono ?_
                  rintro e w4 ⟨a4, c4, M, us, rfl, hU, b4⟩
                  have B4 := bt (bt B3 b3) b4
                  have hT4 := (hT.below b3).below b4
                  refine hK.out _ _ ?_ (fun hHeld => ?_)
                  · exact ⟨(rE.below b3 rE.lt).below b4 (rE.below b3 rE.lt).lt, Src.below (Src.below sE b3 (Src.lt sE)) b4 (Src.lt (Src.below sE b3 (Src.lt sE)))⟩
                  clear hK K
                  try simp only [Act.put, List.setIfInBounds_toArray, List.set_cons_zero, List.set_cons_succ]
                  refine take_lit (i := 7) (v := ?_) rfl (by kernel_rfl) (by kernel_rfl) (by kernel_rfl) (fun _ _ _ h => h) (Or.inl ⟨by rfl, ?_⟩) (by assumption) ?_
                  rotate_left
                  · (intro w hSw; (try dsimp only at hSw); go_simp <;> with_reducible rfl)
                  try simp only [Act.put, List.setIfInBounds_toArray, List.set_cons_zero, List.set_cons_succ]
                  refine take_lit (i := 8) (v := ?_) rfl (by kernel_rfl) (by kernel_rfl) (by kernel_rfl) (fun _ _ _ h => h) (Or.inl ⟨by rfl, ?_⟩) (by assumption) ?_
                  rotate_left
                  · (intro w hSw; (try dsimp only at hSw); go_simp <;> with_reducible rfl)
                  try simp only [Act.put, List.setIfInBounds_toArray, List.set_cons_zero, List.set_cons_succ]
                  refine take_lit (i := 9) (v := ?_) rfl (by kernel_rfl) (by kernel_rfl) (by kernel_rfl) (fun _ _ _ h => h) (Or.inl ⟨by rfl, ?_⟩) (by assumption) ?_
                  rotate_left
                  · (intro w hSw; (try dsimp only at hSw); go_simp <;> with_reducible rfl)
                  try simp only [Act.put, List.setIfInBounds_toArray, List.set_cons_zero, List.set_cons_succ]
                  refine take_lit (i := 10) (v := ?_) rfl (by kernel_rfl) (by kernel_rfl) (by kernel_rfl) (fun _ _ _ h => h) (Or.inl ⟨by rfl, ?_⟩) (by assumption) ?_
                  rotate_left
                  · (intro w hSw; (try dsimp only at hSw); go_simp <;> with_reducible rfl)
                  try simp only [Act.put, List.setIfInBounds_toArray, List.set_cons_zero, List.set_cons_succ]
                  refine take_lit (i := 11) (v := ?_) rfl (by kernel_rfl) (by kernel_rfl) (by kernel_rfl) (fun _ _ _ h => h) (Or.inl ⟨by rfl, ?_⟩) (by assumption) ?_
                  rotate_left
                  · (intro w hSw; (try dsimp only at hSw); go_simp <;> with_reducible rfl)
                  try simp only [Act.put, List.setIfInBounds_toArray, List.set_cons_zero, List.set_cons_succ]
                  refine wpAnyH_done (by kernel_rfl) ?_ _
                  refine NoPanic.normal ?_
                  have ek : ts.map Tl.key = us.map Tl.key := by rw [hT4.key, hU.key, HP.out]
                  obtain rfl : M = N := by
                    have n1 := hT4.tlw.len
                    have n2 := hU.tlw.len
                    have n3 := congrArg List.length ek
                    simp only [List.length_map] at n3
                    omega
                  have HS : Hid (Calls Try.prog 11 #[.slice a2 M c2, .slice a4 M c4] w4 fun e w' => e = .returned (.bool true) ∧ Below w4.heap.size w4 w') := sames_true a2 a4 M c2 c4 ts us w4 hT4.tlw hU.tlw ek hT4.le hT4.st
                  clear hHeld s3' b3 b4 b2 b1 rE sE hT B3 B2 Q0 Q1 Z0 Z3 hT4 hU ek
                  go_wp2_with (first
                    | (go_at_call 12; refine (num6 _ _).mono ?_; rintro e wn ⟨rfl, rfl⟩)
                    | (go_at_call 11; refine HS.out.mono ?_; rintro e w6 ⟨rfl, b6⟩)
                    | (go_at_call 8; refine (live_any _).mono ?_; rintro e w5 ⟨rfl, b5⟩))
                  go_ret
                  exact ⟨rfl, bt (bt B4 b6) b5⟩
                exact AllReadyH.nil
              exact AllReadyH.nil
            exact AllReadyH.nil
          exact AllReadyH.nil
        exact AllReadyH.nil
      refine cons_lit rfl (fun K hK => ?_) ?_
      · skip
        refine sCv (.tmp 48) (by rfl) rfl _ _ _ _ s2 rfl m7 hs2 ?_
        refine hK.out _ _ ?_ (fun hHeld => ?_)
        · exact tX
        clear hK K
        try simp only [Act.put, List.setIfInBounds_toArray, List.set_cons_zero, List.set_cons_succ]
        refine wpAnyH_ready (rs := [2]) (by kernel_rfl) (by simp) ?_
        refine cons_lit rfl (fun K hK => ?_) ?_
        · skip
          refine sCv (.tmp 42) (by rfl) rfl _ _ _ _ s1 rfl m1 hs1 ?_
          refine hK.out _ _ ?_ (fun hHeld => ?_)
          · exact tX
          clear hK K
          try simp only [Act.put, List.setIfInBounds_toArray, List.set_cons_zero, List.set_cons_succ]
          refine take_lit (i := 9) (v := ?_) rfl (by kernel_rfl) (by kernel_rfl) (by kernel_rfl) (fun _ _ _ h => h) (Or.inl ⟨by rfl, ?_⟩) (by assumption) ?_
          rotate_left
          · (intro w hSw; (try dsimp only at hSw); go_simp; rw [if_neg C1.out])
          try simp only [Act.put, List.setIfInBounds_toArray, List.set_cons_zero, List.set_cons_succ]
          refine take_lit (i := 12) (v := ?_) rfl (by kernel_rfl) (by kernel_rfl) (by kernel_rfl) (fun _ _ _ h => h) (Or.inl ⟨by rfl, ?_⟩) (by assumption) ?_
          rotate_left
          · (intro w hSw; (try dsimp only at hSw); go_simp; rw [if_neg C2.out])
          try simp only [Act.put, List.setIfInBounds_toArray, List.set_cons_zero, List.set_cons_succ]
          refine take_lit (i := 13) (v := ?_) rfl (by kernel_rfl) (by kernel_rfl) (by kernel_rfl) (fun _ _ _ h => h) (Or.inl ⟨by rfl, ?_⟩) (by assumption) ?_
          rotate_left
          · (intro w hSw; (try dsimp only at hSw); go_simp <;> with_reducible rfl)
          try simp only [Act.put, List.setIfInBounds_toArray, List.set_cons_zero, List.set_cons_succ]
          refine wpAnyH_done (by kernel_rfl) ?_ _
          refine NoPanic.normal ?_
          go_wp2
          refine name_world (R := fun W => Code.wp _ _ _ _ W) (P := fun W => Below w.heap.size w W ∧ Row W w.heap.size 23 (acells src) ∧ Src W a0 n0 c0 (bcells l0)) _ ⟨bX, rX, sX⟩ ?_
          clear hHeld rX sX tX bX m1 m7
          rintro Y ⟨hBY, hRY, hSY⟩
          have bX := bt hBY (bd Y)
          have rD := hRY.below (bd Y) hRY.lt
          have sX := Src.below hSY (bd Y) (Src.lt hSY)
          refine wp_region_noPanic ?_
          refine wp_region_held_drew (S := fun W => Row W w.heap.size 23 (acells src) ∧ Src W a0 n0 c0 (bcells l0)) (by kernel_rfl) (⟨rD, sX⟩) (fun hHeld => ?_)
          refine take_lit (i := 0) rfl (by kernel_rfl) (by kernel_rfl) (by kernel_rfl) (fun _ _ _ h => h) (yA src (fun W hW => hW.1.range) (by rfl) rfl rfl) (by assumption) ?_
          try simp only [Act.put, List.setIfInBounds_toArray, List.set_cons_zero, List.set_cons_succ]
          refine take_lit (i := 1) (v := ?_) rfl (by kernel_rfl) (by kernel_rfl) (by kernel_rfl) (fun _ _ _ h => h) (Or.inl ⟨by rfl, ?_⟩) (by assumption) ?_
          rotate_left
          · (intro w hSw; (try dsimp only at hSw); go_simp <;> with_reducible rfl)
          try simp only [Act.put, List.setIfInBounds_toArray, List.set_cons_zero, List.set_cons_succ]
          refine take_lit (i := 2) (v := ?_) rfl (by kernel_rfl) (by kernel_rfl) (by kernel_rfl) (fun _ _ _ h => h) (Or.inl ⟨by rfl, ?_⟩) (by assumption) ?_
          rotate_left
          · (intro w hSw; (try dsimp only at hSw); have hm := hSw.2.str; go_simp <;> with_reducible rfl)
          try simp only [Act.put, List.setIfInBounds_toArray, List.set_cons_zero, List.set_cons_succ]
          refine wpAnyH_ready (rs := [3]) (by kernel_rfl) (by simp) ?_
          refine cons_lit rfl (fun K hK => ?_) ?_
          · go_simp
            refine (wrap_any s0 Z0 _).mono ?_
            rintro e w1 ⟨ax, cx, rfl, s1', b1⟩
            have r1 := rD.below b1 rD.lt
            have t1 := Src.below sX b1 (Src.lt sX)
            refine hK.out _ _ ?_ (fun hHeld => ?_)
            · exact ⟨r1, t1⟩
            clear hK K
            try simp only [Act.put, List.setIfInBounds_toArray, List.set_cons_zero, List.set_cons_succ]
            refine wpAnyH_ready (rs := [4]) (by kernel_rfl) (by simp) ?_
            refine cons_lit rfl (fun K hK => ?_) ?_
            · go_simp
              refine (Q0.out _ _ _ s1').mono ?_
              rintro e w2 ⟨a2, c2, N, ts, rfl, ht, b2⟩
              have r2 := r1.below b2 r1.lt
              have t2 := Src.below t1 b2 (Src.lt t1)
              have B2 := bt (bt bX b1) b2
              refine hK.out _ _ ?_ (fun hHeld => ?_)
              · exact ⟨r2, t2⟩
              clear hK K
              try simp only [Act.put, List.setIfInBounds_toArray, List.set_cons_zero, List.set_cons_succ]
              refine take_lit (i := 5) (v := ?_) rfl (by kernel_rfl) (by kernel_rfl) (by kernel_rfl) (fun _ _ _ h => h) (Or.inl ⟨by rfl, ?_⟩) (by assumption) ?_
              rotate_left
              · (intro w hSw; (try dsimp only at hSw); go_simp <;> with_reducible rfl)
              try simp only [Act.put, List.setIfInBounds_toArray, List.set_cons_zero, List.set_cons_succ]
              refine take_lit (i := 6) (v := ?_) rfl (by kernel_rfl) (by kernel_rfl) (by kernel_rfl) (fun _ _ _ h => h) (Or.inl ⟨by rfl, ?_⟩) (by assumption) ?_
              rotate_left
              · (intro w hSw; (try dsimp only at hSw); go_simp <;> with_reducible rfl)
              try simp only [Act.put, List.setIfInBounds_toArray, List.set_cons_zero, List.set_cons_succ]
              refine take_lit (i := 7) (v := ?_) rfl (by kernel_rfl) (by kernel_rfl) (by kernel_rfl) (fun _ _ _ h => h) (Or.inl ⟨by rfl, ?_⟩) (by assumption) ?_
              rotate_left
              · (intro w hSw; (try dsimp only at hSw); go_simp <;> with_reducible rfl)
              try simp only [Act.put, List.setIfInBounds_toArray, List.set_cons_zero, List.set_cons_succ]
              refine take_lit (i := 8) (v := ?_) rfl (by kernel_rfl) (by kernel_rfl) (by kernel_rfl) (fun _ _ _ h => h) (Or.inl ⟨by rfl, ?_⟩) (by assumption) ?_
              rotate_left
              · (intro w hSw; (try dsimp only at hSw); go_simp <;> with_reducible rfl)
              try simp only [Act.put, List.setIfInBounds_toArray, List.set_cons_zero, List.set_cons_succ]
              refine take_lit (i := 9) (v := ?_) rfl (by kernel_rfl) (by kernel_rfl) (by kernel_rfl) (fun _ _ _ h => h) (Or.inl ⟨by rfl, ?_⟩) (by assumption) ?_
              rotate_left
              · (intro w hSw; (try dsimp only at hSw); go_simp <;> with_reducible rfl)
              try simp only [Act.put, List.setIfInBounds_toArray, List.set_cons_zero, List.set_cons_succ]
              refine wpAnyH_done (by kernel_rfl) ?_ _
              refine NoPanic.normal ?_
              go_wp2
              clear hHeld s1' t1 r1 sX rD
              have rE := r2.below (bd w2) r2.lt
              have sE := Src.below t2 (bd w2) (Src.lt t2)
              have hT := ht.below (bd w2)
              have B3 := bt B2 (bd w2)
              clear r2 t2 ht
              refine wp_region_noPanic ?_
              refine wp_region_held_drew (S := fun W => Row W w.heap.size 23 (acells src) ∧ Src W a0 n0 c0 (bcells l0)) (by kernel_rfl) (⟨rE, sE⟩) (fun hHeld => ?_)
              refine take_lit (i := 0) rfl (by kernel_rfl) (by kernel_rfl) (by kernel_rfl) (fun _ _ _ h => h) (yA src (fun W hW => hW.1.range) (by rfl) rfl rfl) (by assumption) ?_
              try simp only [Act.put, List.setIfInBounds_toArray, List.set_cons_zero, List.set_cons_succ]
              refine take_lit (i := 1) (v := ?_) rfl (by kernel_rfl) (by kernel_rfl) (by kernel_rfl) (fun _ _ _ h => h) (Or.inl ⟨by rfl, ?_⟩) (by assumption) ?_
              rotate_left
              · (intro w hSw; (try dsimp only at hSw); go_simp <;> with_reducible rfl)
              try simp only [Act.put, List.setIfInBounds_toArray, List.set_cons_zero, List.set_cons_succ]
              refine take_lit (i := 2) (v := ?_) rfl (by kernel_rfl) (by kernel_rfl) (by kernel_rfl) (fun _ _ _ h => h) (Or.inl ⟨by rfl, ?_⟩) (by assumption) ?_
              rotate_left
              · (intro w hSw; (try dsimp only at hSw); go_simp <;> with_reducible rfl)
              try simp only [Act.put, List.setIfInBounds_toArray, List.set_cons_zero, List.set_cons_succ]
              refine take_lit (i := 3) (v := ?_) rfl (by kernel_rfl) (by kernel_rfl) (by kernel_rfl) (fun _ _ _ h => h) (Or.inl ⟨by rfl, ?_⟩) (by assumption) ?_
              rotate_left
              · (intro w hSw; (try dsimp only at hSw); have hm := hSw.2.str; go_simp <;> with_reducible rfl)
              try simp only [Act.put, List.setIfInBounds_toArray, List.set_cons_zero, List.set_cons_succ]
              refine take_lit (i := 4) (v := ?_) rfl (by kernel_rfl) (by kernel_rfl) (by kernel_rfl) (fun _ _ _ h => h) (Or.inl ⟨by rfl, ?_⟩) (by assumption) ?_
              rotate_left
              · (intro w hSw; (try dsimp only at hSw); go_simp; rw [if_neg C3.out])
              try simp only [Act.put, List.setIfInBounds_toArray, List.set_cons_zero, List.set_cons_succ]
              refine wpAnyH_ready (rs := [5]) (by kernel_rfl) (by simp) ?_
              refine cons_lit rfl (fun K hK => ?_) ?_
              · go_simp
                refine (wrap_any f3 Z3 _).mono ?_
                rintro e w3 ⟨ay, cy, rfl, s3', b3⟩
                refine hK.out _ _ ?_ (fun hHeld => ?_)
                · exact ⟨rE.below b3 rE.lt, Src.below sE b3 (Src.lt sE)⟩
                clear hK K
                try simp only [Act.put, List.setIfInBounds_toArray, List.set_cons_zero, List.set_cons_succ]
                refine wpAnyH_ready (rs := [6]) (by kernel_rfl) (by simp) ?_
                refine cons_lit rfl (fun K hK => ?_) ?_
                · go_simp
                  refine (Q1.out _ _ _ s3').mono ?_
                  rintro e w4 ⟨a4, c4, M, us, rfl, hU, b4⟩
                  have B4 := bt (bt B3 b3) b4
                  have hT4 := (hT.below b3).below b4
                  refine hK.out _ _ ?_ (fun hHeld => ?_)
                  · exact ⟨(rE.below b3 rE.lt).below b4 (rE.below b3 rE.lt).lt, Src.below (Src.below sE b3 (Src.lt sE)) b4 (Src.lt (Src.below sE b3 (Src.lt sE)))⟩
                  clear hK K
                  try simp only [Act.put, List.setIfInBounds_toArray, List.set_cons_zero, List.set_cons_succ]
                  refine take_lit (i := 7) (v := ?_) rfl (by kernel_rfl) (by kernel_rfl) (by kernel_rfl) (fun _ _ _ h => h) (Or.inl ⟨by rfl, ?_⟩) (by assumption) ?_
                  rotate_left
                  · (intro w hSw; (try dsimp only at hSw); go_simp <;> with_reducible rfl)
                  try simp only [Act.put, List.setIfInBounds_toArray, List.set_cons_zero, List.set_cons_succ]
                  refine take_lit (i := 8) (v := ?_) rfl (by kernel_rfl) (by kernel_rfl) (by kernel_rfl) (fun _ _ _ h => h) (Or.inl ⟨by rfl, ?_⟩) (by assumption) ?_
                  rotate_left
                  · (intro w hSw; (try dsimp only at hSw); go_simp <;> with_reducible rfl)
                  try simp only [Act.put, List.setIfInBounds_toArray, List.set_cons_zero, List.set_cons_succ]
                  refine take_lit (i := 9) (v := ?_) rfl (by kernel_rfl) (by kernel_rfl) (by kernel_rfl) (fun _ _ _ h => h) (Or.inl ⟨by rfl, ?_⟩) (by assumption) ?_
                  rotate_left
                  · (intro w hSw; (try dsimp only at hSw); go_simp <;> with_reducible rfl)
                  try simp only [Act.put, List.setIfInBounds_toArray, List.set_cons_zero, List.set_cons_succ]
                  refine take_lit (i := 10) (v := ?_) rfl (by kernel_rfl) (by kernel_rfl) (by kernel_rfl) (fun _ _ _ h => h) (Or.inl ⟨by rfl, ?_⟩) (by assumption) ?_
                  rotate_left
                  · (intro w hSw; (try dsimp only at hSw); go_simp <;> with_reducible rfl)
                  try simp only [Act.put, List.setIfInBounds_toArray, List.set_cons_zero, List.set_cons_succ]
                  refine take_lit (i := 11) (v := ?_) rfl (by kernel_rfl) (by kernel_rfl) (by kernel_rfl) (fun _ _ _ h => h) (Or.inl ⟨by rfl, ?_⟩) (by assumption) ?_
                  rotate_left
                  · (intro w hSw; (try dsimp only at hSw); go_simp <;> with_reducible rfl)
                  try simp only [Act.put, List.setIfInBounds_toArray, List.set_cons_zero, List.set_cons_succ]
                  refine wpAnyH_done (by kernel_rfl) ?_ _
                  refine NoPanic.normal ?_
                  have ek : ts.map Tl.key = us.map Tl.key := by rw [hT4.key, hU.key, HP.out]
                  obtain rfl : M = N := by
                    have n1 := hT4.tlw.len
                    have n2 := hU.tlw.len
                    have n3 := congrArg List.length ek
                    simp only [List.length_map] at n3
                    omega
                  have HS : Hid (Calls Try.prog 11 #[.slice a2 M c2, .slice a4 M c4] w4 fun e w' => e = .returned (.bool true) ∧ Below w4.heap.size w4 w') := sames_true a2 a4 M c2 c4 ts us w4 hT4.tlw hU.tlw ek hT4.le hT4.st
                  clear hHeld s3' b3 b4 b2 b1 rE sE hT B3 B2 Q0 Q1 Z0 Z3 hT4 hU ek
                  go_wp2_with (first
                    | (go_at_call 12; refine (num6 _ _).mono ?_; rintro e wn ⟨rfl, rfl⟩)
                    | (go_at_call 11; refine HS.out.mono ?_; rintro e w6 ⟨rfl, b6⟩)
                    | (go_at_call 8; refine (live_any _).mono ?_; rintro e w5 ⟨rfl, b5⟩))
                  go_ret
                  exact ⟨rfl, bt (bt B4 b6) b5⟩
                exact AllReadyH.nil
              exact AllReadyH.nil
            exact AllReadyH.nil
          exact AllReadyH.nil
        exact AllReadyH.nil
      exact AllReadyH.nil
    exact AllReadyH.nil
  refine cons_lit rfl (fun K hK => ?_) ?_
  · skip
    refine sBs (.tmp 44) (.tmp 47) (by rfl) rfl [kt, UInt8.ofNat n1] _ _ rfl rfl hbs ?_
    intro g7 W7 m7 d7
    replace bX := bt bX d7
    replace rX := rX.below d7 rX.lt
    replace sX := Src.below sX d7 (Src.lt sX)
    replace tX := Src.below tX d7 (Src.lt tX)
    try replace m1 := Src.below m1 d7 (Src.lt m1)
    clear d7
    refine hK.out _ _ ?_ (fun hHeld => ?_)
    · exact tX
    clear hK K
    try simp only [Act.put, List.setIfInBounds_toArray, List.set_cons_zero, List.set_cons_succ]
    refine wpAnyH_ready (rs := [1, 8]) (by kernel_rfl) (by simp) ?_
    refine cons_lit rfl (fun K hK => ?_) ?_
    · skip
      refine sMk (.tmp 41) (by rfl) rfl k hk rfl ?_
      intro g1 W1 m1 d1
      replace bX := bt bX d1
      replace rX := rX.below d1 rX.lt
      replace sX := Src.below sX d1 (Src.lt sX)
      replace tX := Src.below tX d1 (Src.lt tX)
      try replace m7 := Src.below m7 d1 (Src.lt m7)
      clear d1
      refine hK.out _ _ ?_ (fun hHeld => ?_)
      · exact tX
      clear hK K
      try simp only [Act.put, List.setIfInBounds_toArray, List.set_cons_zero, List.set_cons_succ]
      refine wpAnyH_ready (rs := [2, 8]) (by kernel_rfl) (by simp) ?_
      refine cons_lit rfl (fun K hK => ?_) ?_
      · skip
        refine sCv (.tmp 42) (by rfl) rfl _ _ _ _ s1 rfl m1 hs1 ?_
        refine hK.out _ _ ?_ (fun hHeld => ?_)
        · exact tX
        clear hK K
        try simp only [Act.put, List.setIfInBounds_toArray, List.set_cons_zero, List.set_cons_succ]
        refine wpAnyH_ready (rs := [8]) (by kernel_rfl) (by simp) ?_
        refine cons_lit rfl (fun K hK => ?_) ?_
        · skip
          refine sCv (.tmp 48) (by rfl) rfl _ _ _ _ s2 rfl m7 hs2 ?_
          refine hK.out _ _ ?_ (fun hHeld => ?_)
          · exact tX
          clear hK K
          try simp only [Act.put, List.setIfInBounds_toArray, List.set_cons_zero, List.set_cons_succ]
          refine take_lit (i := 9) (v := ?_) rfl (by kernel_rfl) (by kernel_rfl) (by kernel_rfl) (fun _ _ _ h => h) (Or.inl ⟨by rfl, ?_⟩) (by assumption) ?_
          rotate_left
          · (intro w hSw; (try dsimp only at hSw); go_simp; rw [if_neg C1.out])
          try simp only [Act.put, List.setIfInBounds_toArray, List.set_cons_zero, List.set_cons_succ]
          refine take_lit (i := 12) (v := ?_) rfl (by kernel_rfl) (by kernel_rfl) (by kernel_rfl) (fun _ _ _ h => h) (Or.inl ⟨by rfl, ?_⟩) (by assumption) ?_
          rotate_left
          · (intro w hSw; (try dsimp only at hSw); go_simp; rw [if_neg C2.out])
          try simp only [Act.put, List.setIfInBounds_toArray, List.set_cons_zero, List.set_cons_succ]
          refine take_lit (i := 13) (v := ?_) rfl (by kernel_rfl) (by kernel_rfl) (by kernel_rfl) (fun _ _ _ h => h) (Or.inl ⟨by rfl, ?_⟩) (by assumption) ?_
          rotate_left
          · (intro w hSw; (try dsimp only at hSw); go_simp <;> with_reducible rfl)
          try simp only [Act.put, List.setIfInBounds_toArray, List.set_cons_zero, List.set_cons_succ]
          refine wpAnyH_done (by kernel_rfl) ?_ _
          refine NoPanic.normal ?_
          go_wp2
          refine name_world (R := fun W => Code.wp _ _ _ _ W) (P := fun W => Below w.heap.size w W ∧ Row W w.heap.size 23 (acells src) ∧ Src W a0 n0 c0 (bcells l0)) _ ⟨bX, rX, sX⟩ ?_
          clear hHeld rX sX tX bX m1 m7
          rintro Y ⟨hBY, hRY, hSY⟩
          have bX := bt hBY (bd Y)
          have rD := hRY.below (bd Y) hRY.lt
          have sX := Src.below hSY (bd Y) (Src.lt hSY)
          refine wp_region_noPanic ?_
          refine wp_region_held_drew (S := fun W => Row W w.heap.size 23 (acells src) ∧ Src W a0 n0 c0 (bcells l0)) (by kernel_rfl) (⟨rD, sX⟩) (fun hHeld => ?_)
          refine take_lit (i := 0) rfl (by kernel_rfl) (by kernel_rfl) (by kernel_rfl) (fun _ _ _ h => h) (yA src (fun W hW => hW.1.range) (by rfl) rfl rfl) (by assumption) ?_
          try simp only [Act.put, List.setIfInBounds_toArray, List.set_cons_zero, List.set_cons_succ]
          refine take_lit (i := 1) (v := ?_) rfl (by kernel_rfl) (by kernel_rfl) (by kernel_rfl) (fun _ _ _ h => h) (Or.inl ⟨by rfl, ?_⟩) (by assumption) ?_
          rotate_left
          · (intro w hSw; (try dsimp only at hSw); go_simp <;> with_reducible rfl)
          try simp only [Act.put, List.setIfInBounds_toArray, List.set_cons_zero, List.set_cons_succ]
          refine take_lit (i := 2) (v := ?_) rfl (by kernel_rfl) (by kernel_rfl) (by kernel_rfl) (fun _ _ _ h => h) (Or.inl ⟨by rfl, ?_⟩) (by assumption) ?_
          rotate_left
          · (intro w hSw; (try dsimp only at hSw); have hm := hSw.2.str; go_simp <;> with_reducible rfl)
          try simp only [Act.put, List.setIfInBounds_toArray, List.set_cons_zero, List.set_cons_succ]
          refine wpAnyH_ready (rs := [3]) (by kernel_rfl) (by simp) ?_
          refine cons_lit rfl (fun K hK => ?_) ?_
          · go_simp
            refine (wrap_any s0 Z0 _).mono ?_
            rintro e w1 ⟨ax, cx, rfl, s1', b1⟩
            have r1 := rD.below b1 rD.lt
            have t1 := Src.below sX b1 (Src.lt sX)
            refine hK.out _ _ ?_ (fun hHeld => ?_)
            · exact ⟨r1, t1⟩
            clear hK K
            try simp only [Act.put, List.setIfInBounds_toArray, List.set_cons_zero, List.set_cons_succ]
            refine wpAnyH_ready (rs := [4]) (by kernel_rfl) (by simp) ?_
            refine cons_lit rfl (fun K hK => ?_) ?_
            · go_simp
              refine (Q0.out _ _ _ s1').mono ?_
              rintro e w2 ⟨a2, c2, N, ts, rfl, ht, b2⟩
              have r2 := r1.below b2 r1.lt
              have t2 := Src.below t1 b2 (Src.lt t1)
              have B2 := bt (bt bX b1) b2
              refine hK.out _ _ ?_ (fun hHeld => ?_)
              · exact ⟨r2, t2⟩
              clear hK K
              try simp only [Act.put, List.setIfInBounds_toArray, List.set_cons_zero, List.set_cons_succ]
              refine take_lit (i := 5) (v := ?_) rfl (by kernel_rfl) (by kernel_rfl) (by kernel_rfl) (fun _ _ _ h => h) (Or.inl ⟨by rfl, ?_⟩) (by assumption) ?_
              rotate_left
              · (intro w hSw; (try dsimp only at hSw); go_simp <;> with_reducible rfl)
              try simp only [Act.put, List.setIfInBounds_toArray, List.set_cons_zero, List.set_cons_succ]
              refine take_lit (i := 6) (v := ?_) rfl (by kernel_rfl) (by kernel_rfl) (by kernel_rfl) (fun _ _ _ h => h) (Or.inl ⟨by rfl, ?_⟩) (by assumption) ?_
              rotate_left
              · (intro w hSw; (try dsimp only at hSw); go_simp <;> with_reducible rfl)
              try simp only [Act.put, List.setIfInBounds_toArray, List.set_cons_zero, List.set_cons_succ]
              refine take_lit (i := 7) (v := ?_) rfl (by kernel_rfl) (by kernel_rfl) (by kernel_rfl) (fun _ _ _ h => h) (Or.inl ⟨by rfl, ?_⟩) (by assumption) ?_
              rotate_left
              · (intro w hSw; (try dsimp only at hSw); go_simp <;> with_reducible rfl)
              try simp only [Act.put, List.setIfInBounds_toArray, List.set_cons_zero, List.set_cons_succ]
              refine take_lit (i := 8) (v := ?_) rfl (by kernel_rfl) (by kernel_rfl) (by kernel_rfl) (fun _ _ _ h => h) (Or.inl ⟨by rfl, ?_⟩) (by assumption) ?_
              rotate_left
              · (intro w hSw; (try dsimp only at hSw); go_simp <;> with_reducible rfl)
              try simp only [Act.put, List.setIfInBounds_toArray, List.set_cons_zero, List.set_cons_succ]
              refine take_lit (i := 9) (v := ?_) rfl (by kernel_rfl) (by kernel_rfl) (by kernel_rfl) (fun _ _ _ h => h) (Or.inl ⟨by rfl, ?_⟩) (by assumption) ?_
              rotate_left
              · (intro w hSw; (try dsimp only at hSw); go_simp <;> with_reducible rfl)
              try simp only [Act.put, List.setIfInBounds_toArray, List.set_cons_zero, List.set_cons_succ]
              refine wpAnyH_done (by kernel_rfl) ?_ _
              refine NoPanic.normal ?_
              go_wp2
              clear hHeld s1' t1 r1 sX rD
              have rE := r2.below (bd w2) r2.lt
              have sE := Src.below t2 (bd w2) (Src.lt t2)
              have hT := ht.below (bd w2)
              have B3 := bt B2 (bd w2)
              clear r2 t2 ht
              refine wp_region_noPanic ?_
              refine wp_region_held_drew (S := fun W => Row W w.heap.size 23 (acells src) ∧ Src W a0 n0 c0 (bcells l0)) (by kernel_rfl) (⟨rE, sE⟩) (fun hHeld => ?_)
              refine take_lit (i := 0) rfl (by kernel_rfl) (by kernel_rfl) (by kernel_rfl) (fun _ _ _ h => h) (yA src (fun W hW => hW.1.range) (by rfl) rfl rfl) (by assumption) ?_
              try simp only [Act.put, List.setIfInBounds_toArray, List.set_cons_zero, List.set_cons_succ]
              refine take_lit (i := 1) (v := ?_) rfl (by kernel_rfl) (by kernel_rfl) (by kernel_rfl) (fun _ _ _ h => h) (Or.inl ⟨by rfl, ?_⟩) (by assumption) ?_
              rotate_left
              · (intro w hSw; (try dsimp only at hSw); go_simp <;> with_reducible rfl)
              try simp only [Act.put, List.setIfInBounds_toArray, List.set_cons_zero, List.set_cons_succ]
              refine take_lit (i := 2) (v := ?_) rfl (by kernel_rfl) (by kernel_rfl) (by kernel_rfl) (fun _ _ _ h => h) (Or.inl ⟨by rfl, ?_⟩) (by assumption) ?_
              rotate_left
              · (intro w hSw; (try dsimp only at hSw); go_simp <;> with_reducible rfl)
              try simp only [Act.put, List.setIfInBounds_toArray, List.set_cons_zero, List.set_cons_succ]
              refine take_lit (i := 3) (v := ?_) rfl (by kernel_rfl) (by kernel_rfl) (by kernel_rfl) (fun _ _ _ h => h) (Or.inl ⟨by rfl, ?_⟩) (by assumption) ?_
              rotate_left
              · (intro w hSw; (try dsimp only at hSw); have hm := hSw.2.str; go_simp <;> with_reducible rfl)
              try simp only [Act.put, List.setIfInBounds_toArray, List.set_cons_zero, List.set_cons_succ]
              refine take_lit (i := 4) (v := ?_) rfl (by kernel_rfl) (by kernel_rfl) (by kernel_rfl) (fun _ _ _ h => h) (Or.inl ⟨by rfl, ?_⟩) (by assumption) ?_
              rotate_left
              · (intro w hSw; (try dsimp only at hSw); go_simp; rw [if_neg C3.out])
              try simp only [Act.put, List.setIfInBounds_toArray, List.set_cons_zero, List.set_cons_succ]
              refine wpAnyH_ready (rs := [5]) (by kernel_rfl) (by simp) ?_
              refine cons_lit rfl (fun K hK => ?_) ?_
              · go_simp
                refine (wrap_any f3 Z3 _).mono ?_
                rintro e w3 ⟨ay, cy, rfl, s3', b3⟩
                refine hK.out _ _ ?_ (fun hHeld => ?_)
                · exact ⟨rE.below b3 rE.lt, Src.below sE b3 (Src.lt sE)⟩
                clear hK K
                try simp only [Act.put, List.setIfInBounds_toArray, List.set_cons_zero, List.set_cons_succ]
                refine wpAnyH_ready (rs := [6]) (by kernel_rfl) (by simp) ?_
                refine cons_lit rfl (fun K hK => ?_) ?_
                · go_simp
                  refine (Q1.out _ _ _ s3').mono ?_
                  rintro e w4 ⟨a4, c4, M, us, rfl, hU, b4⟩
                  have B4 := bt (bt B3 b3) b4
                  have hT4 := (hT.below b3).below b4
                  refine hK.out _ _ ?_ (fun hHeld => ?_)
                  · exact ⟨(rE.below b3 rE.lt).below b4 (rE.below b3 rE.lt).lt, Src.below (Src.below sE b3 (Src.lt sE)) b4 (Src.lt (Src.below sE b3 (Src.lt sE)))⟩
                  clear hK K
                  try simp only [Act.put, List.setIfInBounds_toArray, List.set_cons_zero, List.set_cons_succ]
                  refine take_lit (i := 7) (v := ?_) rfl (by kernel_rfl) (by kernel_rfl) (by kernel_rfl) (fun _ _ _ h => h) (Or.inl ⟨by rfl, ?_⟩) (by assumption) ?_
                  rotate_left
                  · (intro w hSw; (try dsimp only at hSw); go_simp <;> with_reducible rfl)
                  try simp only [Act.put, List.setIfInBounds_toArray, List.set_cons_zero, List.set_cons_succ]
                  refine take_lit (i := 8) (v := ?_) rfl (by kernel_rfl) (by kernel_rfl) (by kernel_rfl) (fun _ _ _ h => h) (Or.inl ⟨by rfl, ?_⟩) (by assumption) ?_
                  rotate_left
                  · (intro w hSw; (try dsimp only at hSw); go_simp <;> with_reducible rfl)
                  try simp only [Act.put, List.setIfInBounds_toArray, List.set_cons_zero, List.set_cons_succ]
                  refine take_lit (i := 9) (v := ?_) rfl (by kernel_rfl) (by kernel_rfl) (by kernel_rfl) (fun _ _ _ h => h) (Or.inl ⟨by rfl, ?_⟩) (by assumption) ?_
                  rotate_left
                  · (intro w hSw; (try dsimp only at hSw); go_simp <;> with_reducible rfl)
                  try simp only [Act.put, List.setIfInBounds_toArray, List.set_cons_zero, List.set_cons_succ]
                  refine take_lit (i := 10) (v := ?_) rfl (by kernel_rfl) (by kernel_rfl) (by kernel_rfl) (fun _ _ _ h => h) (Or.inl ⟨by rfl, ?_⟩) (by assumption) ?_
                  rotate_left
                  · (intro w hSw; (try dsimp only at hSw); go_simp <;> with_reducible rfl)
                  try simp only [Act.put, List.setIfInBounds_toArray, List.set_cons_zero, List.set_cons_succ]
                  refine take_lit (i := 11) (v := ?_) rfl (by kernel_rfl) (by kernel_rfl) (by kernel_rfl) (fun _ _ _ h => h) (Or.inl ⟨by rfl, ?_⟩) (by assumption) ?_
                  rotate_left
                  · (intro w hSw; (try dsimp only at hSw); go_simp <;> with_reducible rfl)
                  try simp only [Act.put, List.setIfInBounds_toArray, List.set_cons_zero, List.set_cons_succ]
                  refine wpAnyH_done (by kernel_rfl) ?_ _
                  refine NoPanic.normal ?_
                  have ek : ts.map Tl.key = us.map Tl.key := by rw [hT4.key, hU.key, HP.out]
                  obtain rfl : M = N := by
                    have n1 := hT4.tlw.len
                    have n2 := hU.tlw.len
                    have n3 := congrArg List.length ek
                    simp only [List.length_map] at n3
                    omega
                  have HS : Hid (Calls Try.prog 11 #[.slice a2 M c2, .slice a4 M c4] w4 fun e w' => e = .returned (.bool true) ∧ Below w4.heap.size w4 w') := sames_true a2 a4 M c2 c4 ts us w4 hT4.tlw hU.tlw ek hT4.le hT4.st
                  clear hHeld s3' b3 b4 b2 b1 rE sE hT B3 B2 Q0 Q1 Z0 Z3 hT4 hU ek
                  go_wp2_with (first
                    | (go_at_call 12; refine (num6 _ _).mono ?_; rintro e wn ⟨rfl, rfl⟩)
                    | (go_at_call 11; refine HS.out.mono ?_; rintro e w6 ⟨rfl, b6⟩)
                    | (go_at_call 8; refine (live_any _).mono ?_; rintro e w5 ⟨rfl, b5⟩))
                  go_ret
                  exact ⟨rfl, bt (bt B4 b6) b5⟩
                exact AllReadyH.nil
              exact AllReadyH.nil
            exact AllReadyH.nil
          exact AllReadyH.nil
        exact AllReadyH.nil
      refine cons_lit rfl (fun K hK => ?_) ?_
      · skip
        refine sCv (.tmp 48) (by rfl) rfl _ _ _ _ s2 rfl m7 hs2 ?_
        refine hK.out _ _ ?_ (fun hHeld => ?_)
        · exact tX
        clear hK K
        try simp only [Act.put, List.setIfInBounds_toArray, List.set_cons_zero, List.set_cons_succ]
        refine wpAnyH_ready (rs := [2]) (by kernel_rfl) (by simp) ?_
        refine cons_lit rfl (fun K hK => ?_) ?_
        · skip
          refine sCv (.tmp 42) (by rfl) rfl _ _ _ _ s1 rfl m1 hs1 ?_
          refine hK.out _ _ ?_ (fun hHeld => ?_)
          · exact tX
          clear hK K
          try simp only [Act.put, List.setIfInBounds_toArray, List.set_cons_zero, List.set_cons_succ]
          refine take_lit (i := 9) (v := ?_) rfl (by kernel_rfl) (by kernel_rfl) (by kernel_rfl) (fun _ _ _ h => h) (Or.inl ⟨by rfl, ?_⟩) (by assumption) ?_
          rotate_left
          · (intro w hSw; (try dsimp only at hSw); go_simp; rw [if_neg C1.out])
          try simp only [Act.put, List.setIfInBounds_toArray, List.set_cons_zero, List.set_cons_succ]
          refine take_lit (i := 12) (v := ?_) rfl (by kernel_rfl) (by kernel_rfl) (by kernel_rfl) (fun _ _ _ h => h) (Or.inl ⟨by rfl, ?_⟩) (by assumption) ?_
          rotate_left
          · (intro w hSw; (try dsimp only at hSw); go_simp; rw [if_neg C2.out])
          try simp only [Act.put, List.setIfInBounds_toArray, List.set_cons_zero, List.set_cons_succ]
          refine take_lit (i := 13) (v := ?_) rfl (by kernel_rfl) (by kernel_rfl) (by kernel_rfl) (fun _ _ _ h => h) (Or.inl ⟨by rfl, ?_⟩) (by assumption) ?_
          rotate_left
          · (intro w hSw; (try dsimp only at hSw); go_simp <;> with_reducible rfl)
          try simp only [Act.put, List.setIfInBounds_toArray, List.set_cons_zero, List.set_cons_succ]
          refine wpAnyH_done (by kernel_rfl) ?_ _
          refine NoPanic.normal ?_
          go_wp2
          refine name_world (R := fun W => Code.wp _ _ _ _ W) (P := fun W => Below w.heap.size w W ∧ Row W w.heap.size 23 (acells src) ∧ Src W a0 n0 c0 (bcells l0)) _ ⟨bX, rX, sX⟩ ?_
          clear hHeld rX sX tX bX m1 m7
          rintro Y ⟨hBY, hRY, hSY⟩
          have bX := bt hBY (bd Y)
          have rD := hRY.below (bd Y) hRY.lt
          have sX := Src.below hSY (bd Y) (Src.lt hSY)
          refine wp_region_noPanic ?_
          refine wp_region_held_drew (S := fun W => Row W w.heap.size 23 (acells src) ∧ Src W a0 n0 c0 (bcells l0)) (by kernel_rfl) (⟨rD, sX⟩) (fun hHeld => ?_)
          refine take_lit (i := 0) rfl (by kernel_rfl) (by kernel_rfl) (by kernel_rfl) (fun _ _ _ h => h) (yA src (fun W hW => hW.1.range) (by rfl) rfl rfl) (by assumption) ?_
          try simp only [Act.put, List.setIfInBounds_toArray, List.set_cons_zero, List.set_cons_succ]
          refine take_lit (i := 1) (v := ?_) rfl (by kernel_rfl) (by kernel_rfl) (by kernel_rfl) (fun _ _ _ h => h) (Or.inl ⟨by rfl, ?_⟩) (by assumption) ?_
          rotate_left
          · (intro w hSw; (try dsimp only at hSw); go_simp <;> with_reducible rfl)
          try simp only [Act.put, List.setIfInBounds_toArray, List.set_cons_zero, List.set_cons_succ]
          refine take_lit (i := 2) (v := ?_) rfl (by kernel_rfl) (by kernel_rfl) (by kernel_rfl) (fun _ _ _ h => h) (Or.inl ⟨by rfl, ?_⟩) (by assumption) ?_
          rotate_left
          · (intro w hSw; (try dsimp only at hSw); have hm := hSw.2.str; go_simp <;> with_reducible rfl)
          try simp only [Act.put, List.setIfInBounds_toArray, List.set_cons_zero, List.set_cons_succ]
          refine wpAnyH_ready (rs := [3]) (by kernel_rfl) (by simp) ?_
          refine cons_lit rfl (fun K hK => ?_) ?_
          · go_simp
            refine (wrap_any s0 Z0 _).mono ?_
            rintro e w1 ⟨ax, cx, rfl, s1', b1⟩
            have r1 := rD.below b1 rD.lt
            have t1 := Src.below sX b1 (Src.lt sX)
            refine hK.out _ _ ?_ (fun hHeld => ?_)
            · exact ⟨r1, t1⟩
            clear hK K
            try simp only [Act.put, List.setIfInBounds_toArray, List.set_cons_zero, List.set_cons_succ]
            refine wpAnyH_ready (rs := [4]) (by kernel_rfl) (by simp) ?_
            refine cons_lit rfl (fun K hK => ?_) ?_
            · go_simp
              refine (Q0.out _ _ _ s1').mono ?_
              rintro e w2 ⟨a2, c2, N, ts, rfl, ht, b2⟩
              have r2 := r1.below b2 r1.lt
              have t2 := Src.below t1 b2 (Src.lt t1)
              have B2 := bt (bt bX b1) b2
              refine hK.out _ _ ?_ (fun hHeld => ?_)
              · exact ⟨r2, t2⟩
              clear hK K
              try simp only [Act.put, List.setIfInBounds_toArray, List.set_cons_zero, List.set_cons_succ]
              refine take_lit (i := 5) (v := ?_) rfl (by kernel_rfl) (by kernel_rfl) (by kernel_rfl) (fun _ _ _ h => h) (Or.inl ⟨by rfl, ?_⟩) (by assumption) ?_
              rotate_left
              · (intro w hSw; (try dsimp only at hSw); go_simp <;> with_reducible rfl)
              try simp only [Act.put, List.setIfInBounds_toArray, List.set_cons_zero, List.set_cons_succ]
              refine take_lit (i := 6) (v := ?_) rfl (by kernel_rfl) (by kernel_rfl) (by kernel_rfl) (fun _ _ _ h => h) (Or.inl ⟨by rfl, ?_⟩) (by assumption) ?_
              rotate_left
              · (intro w hSw; (try dsimp only at hSw); go_simp <;> with_reducible rfl)
              try simp only [Act.put, List.setIfInBounds_toArray, List.set_cons_zero, List.set_cons_succ]
              refine take_lit (i := 7) (v := ?_) rfl (by kernel_rfl) (by kernel_rfl) (by kernel_rfl) (fun _ _ _ h => h) (Or.inl ⟨by rfl, ?_⟩) (by assumption) ?_
              rotate_left
              · (intro w hSw; (try dsimp only at hSw); go_simp <;> with_reducible rfl)
              try simp only [Act.put, List.setIfInBounds_toArray, List.set_cons_zero, List.set_cons_succ]
              refine take_lit (i := 8) (v := ?_) rfl (by kernel_rfl) (by kernel_rfl) (by kernel_rfl) (fun _ _ _ h => h) (Or.inl ⟨by rfl, ?_⟩) (by assumption) ?_
              rotate_left
              · (intro w hSw; (try dsimp only at hSw); go_simp <;> with_reducible rfl)
              try simp only [Act.put, List.setIfInBounds_toArray, List.set_cons_zero, List.set_cons_succ]
              refine take_lit (i := 9) (v := ?_) rfl (by kernel_rfl) (by kernel_rfl) (by kernel_rfl) (fun _ _ _ h => h) (Or.inl ⟨by rfl, ?_⟩) (by assumption) ?_
              rotate_left
              · (intro w hSw; (try dsimp only at hSw); go_simp <;> with_reducible rfl)
              try simp only [Act.put, List.setIfInBounds_toArray, List.set_cons_zero, List.set_cons_succ]
              refine wpAnyH_done (by kernel_rfl) ?_ _
              refine NoPanic.normal ?_
              go_wp2
              clear hHeld s1' t1 r1 sX rD
              have rE := r2.below (bd w2) r2.lt
              have sE := Src.below t2 (bd w2) (Src.lt t2)
              have hT := ht.below (bd w2)
              have B3 := bt B2 (bd w2)
              clear r2 t2 ht
              refine wp_region_noPanic ?_
              refine wp_region_held_drew (S := fun W => Row W w.heap.size 23 (acells src) ∧ Src W a0 n0 c0 (bcells l0)) (by kernel_rfl) (⟨rE, sE⟩) (fun hHeld => ?_)
              refine take_lit (i := 0) rfl (by kernel_rfl) (by kernel_rfl) (by kernel_rfl) (fun _ _ _ h => h) (yA src (fun W hW => hW.1.range) (by rfl) rfl rfl) (by assumption) ?_
              try simp only [Act.put, List.setIfInBounds_toArray, List.set_cons_zero, List.set_cons_succ]
              refine take_lit (i := 1) (v := ?_) rfl (by kernel_rfl) (by kernel_rfl) (by kernel_rfl) (fun _ _ _ h => h) (Or.inl ⟨by rfl, ?_⟩) (by assumption) ?_
              rotate_left
              · (intro w hSw; (try dsimp only at hSw); go_simp <;> with_reducible rfl)
              try simp only [Act.put, List.setIfInBounds_toArray, List.set_cons_zero, List.set_cons_succ]
              refine take_lit (i := 2) (v := ?_) rfl (by kernel_rfl) (by kernel_rfl) (by kernel_rfl) (fun _ _ _ h => h) (Or.inl ⟨by rfl, ?_⟩) (by assumption) ?_
              rotate_left
              · (intro w hSw; (try dsimp only at hSw); go_simp <;> with_reducible rfl)
              try simp only [Act.put, List.setIfInBounds_toArray, List.set_cons_zero, List.set_cons_succ]
              refine take_lit (i := 3) (v := ?_) rfl (by kernel_rfl) (by kernel_rfl) (by kernel_rfl) (fun _ _ _ h => h) (Or.inl ⟨by rfl, ?_⟩) (by assumption) ?_
              rotate_left
              · (intro w hSw; (try dsimp only at hSw); have hm := hSw.2.str; go_simp <;> with_reducible rfl)
              try simp only [Act.put, List.setIfInBounds_toArray, List.set_cons_zero, List.set_cons_succ]
              refine take_lit (i := 4) (v := ?_) rfl (by kernel_rfl) (by kernel_rfl) (by kernel_rfl) (fun _ _ _ h => h) (Or.inl ⟨by rfl, ?_⟩) (by assumption) ?_
              rotate_left
              · (intro w hSw; (try dsimp only at hSw); go_simp; rw [if_neg C3.out])
              try simp only [Act.put, List.setIfInBounds_toArray, List.set_cons_zero, List.set_cons_succ]
              refine wpAnyH_ready (rs := [5]) (by kernel_rfl) (by simp) ?_
              refine cons_lit rfl (fun K hK => ?_) ?_
              · go_simp
                refine (wrap_any f3 Z3 _).mono ?_
                rintro e w3 ⟨ay, cy, rfl, s3', b3⟩
                refine hK.out _ _ ?_ (fun hHeld => ?_)
                · exact ⟨rE.below b3 rE.lt, Src.below sE b3 (Src.lt sE)⟩
                clear hK K
                try simp only [Act.put, List.setIfInBounds_toArray, List.set_cons_zero, List.set_cons_succ]
                refine wpAnyH_ready (rs := [6]) (by kernel_rfl) (by simp) ?_
                refine cons_lit rfl (fun K hK => ?_) ?_
                · go_simp
                  refine (Q1.out _ _ _ s3').mono ?_
                  rintro e w4 ⟨a4, c4, M, us, rfl, hU, b4⟩
                  have B4 := bt (bt B3 b3) b4
                  have hT4 := (hT.below b3).below b4
                  refine hK.out _ _ ?_ (fun hHeld => ?_)
                  · exact ⟨(rE.below b3 rE.lt).below b4 (rE.below b3 rE.lt).lt, Src.below (Src.below sE b3 (Src.lt sE)) b4 (Src.lt (Src.below sE b3 (Src.lt sE)))⟩
                  clear hK K
                  try simp only [Act.put, List.setIfInBounds_toArray, List.set_cons_zero, List.set_cons_succ]
                  refine take_lit (i := 7) (v := ?_) rfl (by kernel_rfl) (by kernel_rfl) (by kernel_rfl) (fun _ _ _ h => h) (Or.inl ⟨by rfl, ?_⟩) (by assumption) ?_
                  rotate_left
                  · (intro w hSw; (try dsimp only at hSw); go_simp <;> with_reducible rfl)
                  try simp only [Act.put, List.setIfInBounds_toArray, List.set_cons_zero, List.set_cons_succ]
                  refine take_lit (i := 8) (v := ?_) rfl (by kernel_rfl) (by kernel_rfl) (by kernel_rfl) (fun _ _ _ h => h) (Or.inl ⟨by rfl, ?_⟩) (by assumption) ?_
                  rotate_left
                  · (intro w hSw; (try dsimp only at hSw); go_simp <;> with_reducible rfl)
                  try simp only [Act.put, List.setIfInBounds_toArray, List.set_cons_zero, List.set_cons_succ]
                  refine take_lit (i := 9) (v := ?_) rfl (by kernel_rfl) (by kernel_rfl) (by kernel_rfl) (fun _ _ _ h => h) (Or.inl ⟨by rfl, ?_⟩) (by assumption) ?_
                  rotate_left
                  · (intro w hSw; (try dsimp only at hSw); go_simp <;> with_reducible rfl)
                  try simp only [Act.put, List.setIfInBounds_toArray, List.set_cons_zero, List.set_cons_succ]
                  refine take_lit (i := 10) (v := ?_) rfl (by kernel_rfl) (by kernel_rfl) (by kernel_rfl) (fun _ _ _ h => h) (Or.inl ⟨by rfl, ?_⟩) (by assumption) ?_
                  rotate_left
                  · (intro w hSw; (try dsimp only at hSw); go_simp <;> with_reducible rfl)
                  try simp only [Act.put, List.setIfInBounds_toArray, List.set_cons_zero, List.set_cons_succ]
                  refine take_lit (i := 11) (v := ?_) rfl (by kernel_rfl) (by kernel_rfl) (by kernel_rfl) (fun _ _ _ h => h) (Or.inl ⟨by rfl, ?_⟩) (by assumption) ?_
                  rotate_left
                  · (intro w hSw; (try dsimp only at hSw); go_simp <;> with_reducible rfl)
                  try simp only [Act.put, List.setIfInBounds_toArray, List.set_cons_zero, List.set_cons_succ]
                  refine wpAnyH_done (by kernel_rfl) ?_ _
                  refine NoPanic.normal ?_
                  have ek : ts.map Tl.key = us.map Tl.key := by rw [hT4.key, hU.key, HP.out]
                  obtain rfl : M = N := by
                    have n1 := hT4.tlw.len
                    have n2 := hU.tlw.len
                    have n3 := congrArg List.length ek
                    simp only [List.length_map] at n3
                    omega
                  have HS : Hid (Calls Try.prog 11 #[.slice a2 M c2, .slice a4 M c4] w4 fun e w' => e = .returned (.bool true) ∧ Below w4.heap.size w4 w') := sames_true a2 a4 M c2 c4 ts us w4 hT4.tlw hU.tlw ek hT4.le hT4.st
                  clear hHeld s3' b3 b4 b2 b1 rE sE hT B3 B2 Q0 Q1 Z0 Z3 hT4 hU ek
                  go_wp2_with (first
                    | (go_at_call 12; refine (num6 _ _).mono ?_; rintro e wn ⟨rfl, rfl⟩)
                    | (go_at_call 11; refine HS.out.mono ?_; rintro e w6 ⟨rfl, b6⟩)
                    | (go_at_call 8; refine (live_any _).mono ?_; rintro e w5 ⟨rfl, b5⟩))
                  go_ret
                  exact ⟨rfl, bt (bt B4 b6) b5⟩
                exact AllReadyH.nil
              exact AllReadyH.nil
            exact AllReadyH.nil
          exact AllReadyH.nil
        exact AllReadyH.nil
      exact AllReadyH.nil
    refine cons_lit rfl (fun K hK => ?_) ?_
    · skip
      refine sCv (.tmp 48) (by rfl) rfl _ _ _ _ s2 rfl m7 hs2 ?_
      refine hK.out _ _ ?_ (fun hHeld => ?_)
      · exact tX
      clear hK K
      try simp only [Act.put, List.setIfInBounds_toArray, List.set_cons_zero, List.set_cons_succ]
      refine wpAnyH_ready (rs := [1]) (by kernel_rfl) (by simp) ?_
      refine cons_lit rfl (fun K hK => ?_) ?_
      · skip
        refine sMk (.tmp 41) (by rfl) rfl k hk rfl ?_
        intro g1 W1 m1 d1
        replace bX := bt bX d1
        replace rX := rX.below d1 rX.lt
        replace sX := Src.below sX d1 (Src.lt sX)
        replace tX := Src.below tX d1 (Src.lt tX)
        try replace m7 := Src.below m7 d1 (Src.lt m7)
        clear d1
        refine hK.out _ _ ?_ (fun hHeld => ?_)
        · exact tX
        clear hK K
        try simp only [Act.put, List.setIfInBounds_toArray, List.set_cons_zero, List.set_cons_succ]
        refine wpAnyH_ready (rs := [2]) (by kernel_rfl) (by simp) ?_
        refine cons_lit rfl (fun K hK => ?_) ?_
        · skip
          refine sCv (.tmp 42) (by rfl) rfl _ _ _ _ s1 rfl m1 hs1 ?_
          refine hK.out _ _ ?_ (fun hHeld => ?_)
          · exact tX
          clear hK K
          try simp only [Act.put, List.setIfInBounds_toArray, List.set_cons_zero, List.set_cons_succ]
          refine take_lit (i := 9) (v := ?_) rfl (by kernel_rfl) (by kernel_rfl) (by kernel_rfl) (fun _ _ _ h => h) (Or.inl ⟨by rfl, ?_⟩) (by assumption) ?_
          rotate_left
          · (intro w hSw; (try dsimp only at hSw); go_simp; rw [if_neg C1.out])
          try simp only [Act.put, List.setIfInBounds_toArray, List.set_cons_zero, List.set_cons_succ]
          refine take_lit (i := 12) (v := ?_) rfl (by kernel_rfl) (by kernel_rfl) (by kernel_rfl) (fun _ _ _ h => h) (Or.inl ⟨by rfl, ?_⟩) (by assumption) ?_
          rotate_left
          · (intro w hSw; (try dsimp only at hSw); go_simp; rw [if_neg C2.out])
          try simp only [Act.put, List.setIfInBounds_toArray, List.set_cons_zero, List.set_cons_succ]
          refine take_lit (i := 13) (v := ?_) rfl (by kernel_rfl) (by kernel_rfl) (by kernel_rfl) (fun _ _ _ h => h) (Or.inl ⟨by rfl, ?_⟩) (by assumption) ?_
          rotate_left
          · (intro w hSw; (try dsimp only at hSw); go_simp <;> with_reducible rfl)
          try simp only [Act.put, List.setIfInBounds_toArray, List.set_cons_zero, List.set_cons_succ]
          refine wpAnyH_done (by kernel_rfl) ?_ _
          refine NoPanic.normal ?_
          go_wp2
          refine name_world (R := fun W => Code.wp _ _ _ _ W) (P := fun W => Below w.heap.size w W ∧ Row W w.heap.size 23 (acells src) ∧ Src W a0 n0 c0 (bcells l0)) _ ⟨bX, rX, sX⟩ ?_
          clear hHeld rX sX tX bX m1 m7
          rintro Y ⟨hBY, hRY, hSY⟩
          have bX := bt hBY (bd Y)
          have rD := hRY.below (bd Y) hRY.lt
          have sX := Src.below hSY (bd Y) (Src.lt hSY)
          refine wp_region_noPanic ?_
          refine wp_region_held_drew (S := fun W => Row W w.heap.size 23 (acells src) ∧ Src W a0 n0 c0 (bcells l0)) (by kernel_rfl) (⟨rD, sX⟩) (fun hHeld => ?_)
          refine take_lit (i := 0) rfl (by kernel_rfl) (by kernel_rfl) (by kernel_rfl) (fun _ _ _ h => h) (yA src (fun W hW => hW.1.range) (by rfl) rfl rfl) (by assumption) ?_
          try simp only [Act.put, List.setIfInBounds_toArray, List.set_cons_zero, List.set_cons_succ]
          refine take_lit (i := 1) (v := ?_) rfl (by kernel_rfl) (by kernel_rfl) (by kernel_rfl) (fun _ _ _ h => h) (Or.inl ⟨by rfl, ?_⟩) (by assumption) ?_
          rotate_left
          · (intro w hSw; (try dsimp only at hSw); go_simp <;> with_reducible rfl)
          try simp only [Act.put, List.setIfInBounds_toArray, List.set_cons_zero, List.set_cons_succ]
          refine take_lit (i := 2) (v := ?_) rfl (by kernel_rfl) (by kernel_rfl) (by kernel_rfl) (fun _ _ _ h => h) (Or.inl ⟨by rfl, ?_⟩) (by assumption) ?_
          rotate_left
          · (intro w hSw; (try dsimp only at hSw); have hm := hSw.2.str; go_simp <;> with_reducible rfl)
          try simp only [Act.put, List.setIfInBounds_toArray, List.set_cons_zero, List.set_cons_succ]
          refine wpAnyH_ready (rs := [3]) (by kernel_rfl) (by simp) ?_
          refine cons_lit rfl (fun K hK => ?_) ?_
          · go_simp
            refine (wrap_any s0 Z0 _).mono ?_
            rintro e w1 ⟨ax, cx, rfl, s1', b1⟩
            have r1 := rD.below b1 rD.lt
            have t1 := Src.below sX b1 (Src.lt sX)
            refine hK.out _ _ ?_ (fun hHeld => ?_)
            · exact ⟨r1, t1⟩
            clear hK K
            try simp only [Act.put, List.setIfInBounds_toArray, List.set_cons_zero, List.set_cons_succ]
            refine wpAnyH_ready (rs := [4]) (by kernel_rfl) (by simp) ?_
            refine cons_lit rfl (fun K hK => ?_) ?_
            · go_simp
              refine (Q0.out _ _ _ s1').mono ?_
              rintro e w2 ⟨a2, c2, N, ts, rfl, ht, b2⟩
              have r2 := r1.below b2 r1.lt
              have t2 := Src.below t1 b2 (Src.lt t1)
              have B2 := bt (bt bX b1) b2
              refine hK.out _ _ ?_ (fun hHeld => ?_)
              · exact ⟨r2, t2⟩
              clear hK K
              try simp only [Act.put, List.setIfInBounds_toArray, List.set_cons_zero, List.set_cons_succ]
              refine take_lit (i := 5) (v := ?_) rfl (by kernel_rfl) (by kernel_rfl) (by kernel_rfl) (fun _ _ _ h => h) (Or.inl ⟨by rfl, ?_⟩) (by assumption) ?_
              rotate_left
              · (intro w hSw; (try dsimp only at hSw); go_simp <;> with_reducible rfl)
              try simp only [Act.put, List.setIfInBounds_toArray, List.set_cons_zero, List.set_cons_succ]
              refine take_lit (i := 6) (v := ?_) rfl (by kernel_rfl) (by kernel_rfl) (by kernel_rfl) (fun _ _ _ h => h) (Or.inl ⟨by rfl, ?_⟩) (by assumption) ?_
              rotate_left
              · (intro w hSw; (try dsimp only at hSw); go_simp <;> with_reducible rfl)
              try simp only [Act.put, List.setIfInBounds_toArray, List.set_cons_zero, List.set_cons_succ]
              refine take_lit (i := 7) (v := ?_) rfl (by kernel_rfl) (by kernel_rfl) (by kernel_rfl) (fun _ _ _ h => h) (Or.inl ⟨by rfl, ?_⟩) (by assumption) ?_
              rotate_left
              · (intro w hSw; (try dsimp only at hSw); go_simp <;> with_reducible rfl)
              try simp only [Act.put, List.setIfInBounds_toArray, List.set_cons_zero, List.set_cons_succ]
              refine take_lit (i := 8) (v := ?_) rfl (by kernel_rfl) (by kernel_rfl) (by kernel_rfl) (fun _ _ _ h => h) (Or.inl ⟨by rfl, ?_⟩) (by assumption) ?_
              rotate_left
              · (intro w hSw; (try dsimp only at hSw); go_simp <;> with_reducible rfl)
              try simp only [Act.put, List.setIfInBounds_toArray, List.set_cons_zero, List.set_cons_succ]
              refine take_lit (i := 9) (v := ?_) rfl (by kernel_rfl) (by kernel_rfl) (by kernel_rfl) (fun _ _ _ h => h) (Or.inl ⟨by rfl, ?_⟩) (by assumption) ?_
              rotate_left
              · (intro w hSw; (try dsimp only at hSw); go_simp <;> with_reducible rfl)
              try simp only [Act.put, List.setIfInBounds_toArray, List.set_cons_zero, List.set_cons_succ]
              refine wpAnyH_done (by kernel_rfl) ?_ _
              refine NoPanic.normal ?_
              go_wp2
              clear hHeld s1' t1 r1 sX rD
              have rE := r2.below (bd w2) r2.lt
              have sE := Src.below t2 (bd w2) (Src.lt t2)
              have hT := ht.below (bd w2)
              have B3 := bt B2 (bd w2)
              clear r2 t2 ht
              refine wp_region_noPanic ?_
              refine wp_region_held_drew (S := fun W => Row W w.heap.size 23 (acells src) ∧ Src W a0 n0 c0 (bcells l0)) (by kernel_rfl) (⟨rE, sE⟩) (fun hHeld => ?_)
              refine take_lit (i := 0) rfl (by kernel_rfl) (by kernel_rfl) (by kernel_rfl) (fun _ _ _ h => h) (yA src (fun W hW => hW.1.range) (by rfl) rfl rfl) (by assumption) ?_
              try simp only [Act.put, List.setIfInBounds_toArray, List.set_cons_zero, List.set_cons_succ]
              refine take_lit (i := 1) (v := ?_) rfl (by kernel_rfl) (by kernel_rfl) (by kernel_rfl) (fun _ _ _ h => h) (Or.inl ⟨by rfl, ?_⟩) (by assumption) ?_
              rotate_left
              · (intro w hSw; (try dsimp only at hSw); go_simp <;> with_reducible rfl)
              try simp only [Act.put, List.setIfInBounds_toArray, List.set_cons_zero, List.set_cons_succ]
              refine take_lit (i := 2) (v := ?_) rfl (by kernel_rfl) (by kernel_rfl) (by kernel_rfl) (fun _ _ _ h => h) (Or.inl ⟨by rfl, ?_⟩) (by assumption) ?_
              rotate_left
              · (intro w hSw; (try dsimp only at hSw); go_simp <;> with_reducible rfl)
              try simp only [Act.put, List.setIfInBounds_toArray, List.set_cons_zero, List.set_cons_succ]
              refine take_lit (i := 3) (v := ?_) rfl (by kernel_rfl) (by kernel_rfl) (by kernel_rfl) (fun _ _ _ h => h) (Or.inl ⟨by rfl, ?_⟩) (by assumption) ?_
              rotate_left
              · (intro w hSw; (try dsimp only at hSw); have hm := hSw.2.str; go_simp <;> with_reducible rfl)
              try simp only [Act.put, List.setIfInBounds_toArray, List.set_cons_zero, List.set_cons_succ]
              refine take_lit (i := 4) (v := ?_) rfl (by kernel_rfl) (by kernel_rfl) (by kernel_rfl) (fun _ _ _ h => h) (Or.inl ⟨by rfl, ?_⟩) (by assumption) ?_
              rotate_left
              · (intro w hSw; (try dsimp only at hSw); go_simp; rw [if_neg C3.out])
              try simp only [Act.put, List.setIfInBounds_toArray, List.set_cons_zero, List.set_cons_succ]
              refine wpAnyH_ready (rs := [5]) (by kernel_rfl) (by simp) ?_
              refine cons_lit rfl (fun K hK => ?_) ?_
              · go_simp
                refine (wrap_any f3 Z3 _).mono ?_
                rintro e w3 ⟨ay, cy, rfl, s3', b3⟩
                refine hK.out _ _ ?_ (fun hHeld => ?_)
                · exact ⟨rE.below b3 rE.lt, Src.below sE b3 (Src.lt sE)⟩
                clear hK K
                try simp only [Act.put, List.setIfInBounds_toArray, List.set_cons_zero, List.set_cons_succ]
                refine wpAnyH_ready (rs := [6]) (by kernel_rfl) (by simp) ?_
                refine cons_lit rfl (fun K hK => ?_) ?_
                · go_simp
                  refine (Q1.out _ _ _ s3').mono ?_
                  rintro e w4 ⟨a4, c4, M, us, rfl, hU, b4⟩
                  have B4 := bt (bt B3 b3) b4
                  have hT4 := (hT.below b3).below b4
                  refine hK.out _ _ ?_ (fun hHeld => ?_)
                  · exact ⟨(rE.below b3 rE.lt).below b4 (rE.below b3 rE.lt).lt, Src.below (Src.below sE b3 (Src.lt sE)) b4 (Src.lt (Src.below sE b3 (Src.lt sE)))⟩
                  clear hK K
                  try simp only [Act.put, List.setIfInBounds_toArray, List.set_cons_zero, List.set_cons_succ]
                  refine take_lit (i := 7) (v := ?_) rfl (by kernel_rfl) (by kernel_rfl) (by kernel_rfl) (fun _ _ _ h => h) (Or.inl ⟨by rfl, ?_⟩) (by assumption) ?_
                  rotate_left
                  · (intro w hSw; (try dsimp only at hSw); go_simp <;> with_reducible rfl)
                  try simp only [Act.put, List.setIfInBounds_toArray, List.set_cons_zero, List.set_cons_succ]
                  refine take_lit (i := 8) (v := ?_) rfl (by kernel_rfl) (by kernel_rfl) (by kernel_rfl) (fun _ _ _ h => h) (Or.inl ⟨by rfl, ?_⟩) (by assumption) ?_
                  rotate_left
                  · (intro w hSw; (try dsimp only at hSw); go_simp <;> with_reducible rfl)
                  try simp only [Act.put, List.setIfInBounds_toArray, List.set_cons_zero, List.set_cons_succ]
                  refine take_lit (i := 9) (v := ?_) rfl (by kernel_rfl) (by kernel_rfl) (by kernel_rfl) (fun _ _ _ h => h) (Or.inl ⟨by rfl, ?_⟩) (by assumption) ?_
                  rotate_left
                  · (intro w hSw; (try dsimp only at hSw); go_simp <;> with_reducible rfl)
                  try simp only [Act.put, List.setIfInBounds_toArray, List.set_cons_zero, List.set_cons_succ]
                  refine take_lit (i := 10) (v := ?_) rfl (by kernel_rfl) (by kernel_rfl) (by kernel_rfl) (fun _ _ _ h => h) (Or.inl ⟨by rfl, ?_⟩) (by assumption) ?_
                  rotate_left
                  · (intro w hSw; (try dsimp only at hSw); go_simp <;> with_reducible rfl)
                  try simp only [Act.put, List.setIfInBounds_toArray, List.set_cons_zero, List.set_cons_succ]
                  refine take_lit (i := 11) (v := ?_) rfl (by kernel_rfl) (by kernel_rfl) (by kernel_rfl) (fun _ _ _ h => h) (Or.inl ⟨by rfl, ?_⟩) (by assumption) ?_
                  rotate_left
                  · (intro w hSw; (try dsimp only at hSw); go_simp <;> with_reducible rfl)
                  try simp only [Act.put, List.setIfInBounds_toArray, List.set_cons_zero, List.set_cons_succ]
                  refine wpAnyH_done (by kernel_rfl) ?_ _
                  refine NoPanic.normal ?_
                  have ek : ts.map Tl.key = us.map Tl.key := by rw [hT4.key, hU.key, HP.out]
                  obtain rfl : M = N := by
                    have n1 := hT4.tlw.len
                    have n2 := hU.tlw.len
                    have n3 := congrArg List.length ek
                    simp only [List.length_map] at n3
                    omega
                  have HS : Hid (Calls Try.prog 11 #[.slice a2 M c2, .slice a4 M c4] w4 fun e w' => e = .returned (.bool true) ∧ Below w4.heap.size w4 w') := sames_true a2 a4 M c2 c4 ts us w4 hT4.tlw hU.tlw ek hT4.le hT4.st
                  clear hHeld s3' b3 b4 b2 b1 rE sE hT B3 B2 Q0 Q1 Z0 Z3 hT4 hU ek
                  go_wp2_with (first
                    | (go_at_call 12; refine (num6 _ _).mono ?_; rintro e wn ⟨rfl, rfl⟩)
                    | (go_at_call 11; refine HS.out.mono ?_; rintro e w6 ⟨rfl, b6⟩)
                    | (go_at_call 8; refine (live_any _).mono ?_; rintro e w5 ⟨rfl, b5⟩))
                  go_ret
                  exact ⟨rfl, bt (bt B4 b6) b5⟩
                exact AllReadyH.nil
              exact AllReadyH.nil
            exact AllReadyH.nil
          exact AllReadyH.nil
        exact AllReadyH.nil
      exact AllReadyH.nil
    exact AllReadyH.nil
  exact AllReadyH.nil
theorem pads_any (src : Ad) (a0 : Option Addr) (n0 c0 : Nat) (l0 : List UInt8) (p z : Int) (a1 : Option Addr) (n1 c1 : Nat) (lb : List UInt8) (w : World) (h0 : Src w a0 n0 c0 (bcells l0)) (h1 : Src w a1 n1 c1 (bcells lb)) (hz : 0 ≤ z ∧ z ≤ 255) :
    Calls Try.prog 6 #[(Value.agg (acells src).toArray), .slice a0 n0 c0, .int .i64 p, .int .u8 z, .slice a1 n1 c1] w fun e w' => e = .returned (.bool true) ∧ Below w.heap.size w w' := by
  by_cases y0 : 5000 < n0
  · exact pads_out0 src a0 n0 c0 p z a1 n1 c1 w y0
  by_cases y1 : p < 0
  · exact pads_out1 src a0 n0 c0 p z a1 n1 c1 w y0 y1
  by_cases y2 : 50 < p
  · exact pads_out2 src a0 n0 c0 p z a1 n1 c1 w y0 y1 y2
  by_cases y3 : 200 < n1
  · exact pads_out3 src a0 n0 c0 p z a1 n1 c1 w y0 y1 y2 y3
  by_cases y4 : z ≤ 10 ∧ z ≠ 1
  · exact pads_out4 src a0 n0 c0 p z a1 n1 c1 w y0 y1 y2 y3 y4
  obtain ⟨k, rfl⟩ : ∃ k : Nat, p = (k : Int) := ⟨p.toNat, by omega⟩
  have ez : z = ((UInt8.ofNat z.toNat).toNat : Int) := by simp; omega
  by_cases y5 : z ≤ 10
  · exact pads_walk1 src a0 n0 c0 l0 k (UInt8.ofNat z.toNat) z a1 n1 c1 lb w h0 h1 (by omega) (by omega) (by omega) ez y5 (by omega)
  · exact pads_walk2 src a0 n0 c0 l0 k (UInt8.ofNat z.toNat) z a1 n1 c1 lb w h0 h1 (by omega) (by omega) (by omega) ez y5
end Go.Proofs.Ytaleclmccmeglaa
