/-
  The law PacketGoes returns true for every address and every two slices of bytes.
-/
import Derived.Test.YtaleclmccmeglaaGp
namespace Go.Proofs.Ytaleclmccmeglaa
open Go.RowKit
set_option linter.unusedSimpArgs false
set_option maxRecDepth 20000

theorem goes_long (src : Ad) (a0 : Option Addr) (n0 c0 : Nat) (a1 : Option Addr) (n1 c1 : Nat) (w : World) (k0 : n0 ≤ 140737488355328) (k1 : n1 ≤ 140737488355328) (h : 5000 < n0 + n1) :
    Calls Try.prog 7 #[(Value.agg (acells src).toArray), .slice a0 n0 c0, .slice a1 n1 c1] w fun e w' => e = .returned (.bool true) ∧ Below w.heap.size w w' := by
  have h0' : (5000 : Int) < (n0 : Int) + (n1 : Int) := by omega
  have y1 : IntKind.i64.wrap ((n0 : Int) + (n1 : Int)) = (n0 : Int) + (n1 : Int) := by rw [IntKind.wrap_i64]; omega
  clear h
  go_enter Try.func7, Try.ntmps7
  go_wp2_with (go_at_call 8; refine (live_any _).mono ?_; rintro e w' ⟨rfl, hw⟩)
  go_ret
  exact ⟨rfl, bt (ba _ _) hw⟩
set_option maxHeartbeats 4000000 in
theorem goes_walk (src : Ad) (a0 : Option Addr) (n0 c0 : Nat) (l0 : List UInt8) (a1 : Option Addr) (n1 c1 : Nat) (l1 : List UInt8) (w : World) (h0 : Src w a0 n0 c0 (bcells l0)) (h1 : Src w a1 n1 c1 (bcells l1)) (h : n0 + n1 ≤ 5000) :
    Calls Try.prog 7 #[(Value.agg (acells src).toArray), .slice a0 n0 c0, .slice a1 n1 c1] w fun e w' => e = .returned (.bool true) ∧ Below w.heap.size w w' := by
  have h0' : ¬ (5000 : Int) < (n0 : Int) + (n1 : Int) := by omega
  have y1 : IntKind.i64.wrap ((n0 : Int) + (n1 : Int)) = (n0 : Int) + (n1 : Int) := by rw [IntKind.wrap_i64]; omega
  have HL : Hid (l0.length + l1.length ≤ 5000) := by show _ ≤ _; have := h0.blen; have := h1.blen; omega
  have Z0 : (⟨l0.toArray⟩ : ByteArray).size ≤ 65535 := by have := HL.out; show l0.toArray.size ≤ _; simp; omega
  have Z1 : ((⟨l0.toArray⟩ : ByteArray) ++ ⟨l1.toArray⟩).size ≤ 65535 := by have := HL.out; rw [ByteArray.size_append]; show l0.toArray.size + l1.toArray.size ≤ _; simp; omega
  have Q0 : Hid (∀ W a c, Src W a (4 + (⟨l0.toArray⟩ : ByteArray).size) c (bcells (pkL (⟨l0.toArray⟩ : ByteArray).data.toList)) → Calls Try.prog 9 #[(Value.agg (acells src).toArray), .slice a (4 + (⟨l0.toArray⟩ : ByteArray).size) c] W fun e w' => ∃ a c N ts, e = .returned (.tuple #[.slice a N c, .int .i64 (splL l0).2]) ∧ ToldP w' a N c ts src l0 ∧ Below W.heap.size W w') := fun W a c hs => parse_pk src l0 (by have := HL.out; omega) hs (by omega)
  obtain ⟨st, hst⟩ : ∃ st, ((⟨l0.toArray⟩ : ByteArray) ++ ⟨l1.toArray⟩) = st := ⟨_, rfl⟩
  have HST : Hid (st.data.toList = l0 ++ l1) := by show _ = _; rw [← hst, ByteArray.data_append]; simp
  rw [hst] at Z1
  have Q1 : Hid (∀ W a c, Src W a (4 + st.size) c (bcells (pkL st.data.toList)) → Calls Try.prog 9 #[(Value.agg (acells src).toArray), .slice a (4 + st.size) c] W fun e w' => ∃ a c N ts, e = .returned (.tuple #[.slice a N c, .int .i64 (splL (l0 ++ l1)).2]) ∧ ToldP w' a N c ts src (l0 ++ l1) ∧ Below W.heap.size W w') := fun W a c hs => by
    rw [HST.out] at hs
    exact parse_pk src (l0 ++ l1) (by have := HL.out; simp; omega) hs (by omega)
  obtain ⟨E0, hE0⟩ : ∃ E, E = (splL l0).2 := ⟨_, rfl⟩
  obtain ⟨E1, hE1⟩ : ∃ E, E = (splL (l0 ++ l1)).2 := ⟨_, rfl⟩
  rw [← hE0] at Q0
  rw [← hE1] at Q1
  have HE : Hid (E0 = (splL l0).2) := hE0
  clear hE0 hE1 h
  go_enter Try.func7, Try.ntmps7
  go_wp2
  refine name_world (R := fun W => Code.wp _ _ _ _ W) (P := fun W => Below w.heap.size w W ∧ Row W w.heap.size 23 (acells src)) _ ⟨ba _ _, Row.new _ _ _⟩ ?_
  rintro X ⟨hB, hR⟩
  have bX := bt hB (bd X)
  have rD := hR.below (bd X) hR.lt
  have sX := Src.below h0 bX (Src.lt h0)
  have tX := Src.below h1 bX (Src.lt h1)
  refine wp_region_noPanic ?_
  refine wp_region_held_drew (S := fun W => Row W w.heap.size 23 (acells src) ∧ Src W a0 n0 c0 (bcells l0)) (by kernel_rfl) (⟨rD, sX⟩) (fun hHeld => ?_)
  refine take_lit (i := 0) rfl (by kernel_rfl) (by kernel_rfl) (by kernel_rfl) (fun _ _ _ h => h) (yA src (fun W hW => hW.1.range) (by rfl) rfl rfl) (by assumption) ?_
  try simp only [Act.put, List.setIfInBounds_toArray, List.set_cons_zero, List.set_cons_succ]
  refine take_lit (i := 1) (v := ?_) rfl (by kernel_rfl) (by kernel_rfl) (by kernel_rfl) (fun _ _ _ h => h) (Or.inl ⟨by rfl, ?_⟩) (by assumption) ?_
  rotate_left
  · (intro w hSw; (try dsimp only at hSw); go_simp <;> with_reducible rfl)
  try simp only [Act.put, List.setIfInBounds_toArray, List.set_cons_zero, List.set_cons_succ]
  refine take_lit (i := 2) (v := ?_) rfl (by kernel_rfl) (by kernel_rfl) (by kernel_rfl) (fun _ _ _ h => h) (Or.inl ⟨by rfl, ?_⟩) (by assumption) ?_
  rotate_left
  · (intro w hSw; (try dsimp only at hSw); have hm := hSw.2.str; go_simp <;> with_reducible rfl)
  try simp only [Act.put, List.setIfInBounds_toArray, List.set_cons_zero, List.set_cons_succ]
  refine wpAnyH_ready (rs := [3]) (by kernel_rfl) (by simp) ?_
  refine cons_lit rfl (fun K hK => ?_) ?_
  · go_simp
    refine (wrap_any ⟨l0.toArray⟩ Z0 _).mono ?_
    rintro e w1 ⟨ax, cx, rfl, s1, b1⟩
    have r1 := rD.below b1 rD.lt
    have s1' := Src.below sX b1 (Src.lt sX)
    refine hK.out _ _ ?_ (fun hHeld => ?_)
    · exact ⟨r1, s1'⟩
    clear hK K
    try simp only [Act.put, List.setIfInBounds_toArray, List.set_cons_zero, List.set_cons_succ]
    refine wpAnyH_ready (rs := [4]) (by kernel_rfl) (by simp) ?_
    refine cons_lit rfl (fun K hK => ?_) ?_
    · go_simp
      refine (Q0.out _ _ _ s1).mono ?_
      rintro e w2 ⟨a2, c2, N, ts, rfl, ht, b2⟩
      have r2 := r1.below b2 r1.lt
      have s2 := Src.below s1' b2 (Src.lt s1')
      have t2 := Src.below (Src.below tX b1 (Src.lt tX)) b2 (Src.lt (Src.below tX b1 (Src.lt tX)))
      have B2 := bt (bt bX b1) b2
      refine hK.out _ _ ?_ (fun hHeld => ?_)
      · exact ⟨r2, s2⟩
      clear hK K
      try simp only [Act.put, List.setIfInBounds_toArray, List.set_cons_zero, List.set_cons_succ]
      refine take_lit (i := 5) (v := ?_) rfl (by kernel_rfl) (by kernel_rfl) (by kernel_rfl) (fun _ _ _ h => h) (Or.inl ⟨by rfl, ?_⟩) (by assumption) ?_
      rotate_left
      · (intro w hSw; (try dsimp only at hSw); go_simp <;> with_reducible rfl)
      try simp only [Act.put, List.setIfInBounds_toArray, List.set_cons_zero, List.set_cons_succ]
      refine take_lit (i := 6) (v := ?_) rfl (by kernel_rfl) (by kernel_rfl) (by kernel_rfl) (fun _ _ _ h => h) (Or.inl ⟨by rfl, ?_⟩) (by assumption) ?_
      rotate_left
      · (intro w hSw; (try dsimp only at hSw); go_simp <;> with_reducible rfl)
      try simp only [Act.put, List.setIfInBounds_toArray, List.set_cons_zero, List.set_cons_succ]
      refine take_lit (i := 7) (v := ?_) rfl (by kernel_rfl) (by kernel_rfl) (by kernel_rfl) (fun _ _ _ h => h) (Or.inl ⟨by rfl, ?_⟩) (by assumption) ?_
      rotate_left
      · (intro w hSw; (try dsimp only at hSw); go_simp <;> with_reducible rfl)
      try simp only [Act.put, List.setIfInBounds_toArray, List.set_cons_zero, List.set_cons_succ]
      refine take_lit (i := 8) (v := ?_) rfl (by kernel_rfl) (by kernel_rfl) (by kernel_rfl) (fun _ _ _ h => h) (Or.inl ⟨by rfl, ?_⟩) (by assumption) ?_
      rotate_left
      · (intro w hSw; (try dsimp only at hSw); go_simp <;> with_reducible rfl)
      try simp only [Act.put, List.setIfInBounds_toArray, List.set_cons_zero, List.set_cons_succ]
      refine take_lit (i := 9) (v := ?_) rfl (by kernel_rfl) (by kernel_rfl) (by kernel_rfl) (fun _ _ _ h => h) (Or.inl ⟨by rfl, ?_⟩) (by assumption) ?_
      rotate_left
      · (intro w hSw; (try dsimp only at hSw); go_simp <;> with_reducible rfl)
      try simp only [Act.put, List.setIfInBounds_toArray, List.set_cons_zero, List.set_cons_succ]
      refine wpAnyH_done (by kernel_rfl) ?_ _
      refine NoPanic.normal ?_
      go_wp2
      clear hHeld s1 s1' r1 sX tX rD
      have rE := r2.below (bd w2) r2.lt
      have sE := Src.below s2 (bd w2) (Src.lt s2)
      have tE := Src.below t2 (bd w2) (Src.lt t2)
      have hT := ht.below (bd w2)
      have B3 := bt B2 (bd w2)
      clear r2 s2 t2 ht
      refine wp_region_noPanic ?_
      refine wp_region_held_drew (S := fun W => Row W w.heap.size 23 (acells src) ∧ Src W a0 n0 c0 (bcells l0) ∧ Src W a1 n1 c1 (bcells l1)) (by kernel_rfl) (⟨rE, sE, tE⟩) (fun hHeld => ?_)
      refine take_lit (i := 0) rfl (by kernel_rfl) (by kernel_rfl) (by kernel_rfl) (fun _ _ _ h => h) (yA src (fun W hW => hW.1.range) (by rfl) rfl rfl) (by assumption) ?_
      try simp only [Act.put, List.setIfInBounds_toArray, List.set_cons_zero, List.set_cons_succ]
      refine take_lit (i := 1) (v := ?_) rfl (by kernel_rfl) (by kernel_rfl) (by kernel_rfl) (fun _ _ _ h => h) (Or.inl ⟨by rfl, ?_⟩) (by assumption) ?_
      rotate_left
      · (intro w hSw; (try dsimp only at hSw); go_simp <;> with_reducible rfl)
      try simp only [Act.put, List.setIfInBounds_toArray, List.set_cons_zero, List.set_cons_succ]
      refine take_lit (i := 2) (v := ?_) rfl (by kernel_rfl) (by kernel_rfl) (by kernel_rfl) (fun _ _ _ h => h) (Or.inl ⟨by rfl, ?_⟩) (by assumption) ?_
      rotate_left
      · (intro w hSw; (try dsimp only at hSw); have hm := hSw.2.1.str; go_simp <;> with_reducible rfl)
      try simp only [Act.put, List.setIfInBounds_toArray, List.set_cons_zero, List.set_cons_succ]
      refine take_lit (i := 3) (v := ?_) rfl (by kernel_rfl) (by kernel_rfl) (by kernel_rfl) (fun _ _ _ h => h) (Or.inl ⟨by rfl, ?_⟩) (by assumption) ?_
      rotate_left
      · (intro w hSw; (try dsimp only at hSw); go_simp <;> with_reducible rfl)
      try simp only [Act.put, List.setIfInBounds_toArray, List.set_cons_zero, List.set_cons_succ]
      refine take_lit (i := 4) (v := ?_) rfl (by kernel_rfl) (by kernel_rfl) (by kernel_rfl) (fun _ _ _ h => h) (Or.inl ⟨by rfl, ?_⟩) (by assumption) ?_
      rotate_left
      · (intro w hSw; (try dsimp only at hSw); have hm := hSw.2.2.str; go_simp <;> with_reducible rfl)
      try simp only [Act.put, List.setIfInBounds_toArray, List.set_cons_zero, List.set_cons_succ]
      refine take_lit (i := 5) (v := ?_) rfl (by kernel_rfl) (by kernel_rfl) (by kernel_rfl) (fun _ _ _ h => h) (Or.inl ⟨by rfl, ?_⟩) (by assumption) ?_
      rotate_left
      · (intro w hSw; (try dsimp only at hSw); go_simp; rw [if_neg (show ¬ 9223372036854775807 < l0.length + l1.length by have := HL.out; omega)])
      try simp only [Act.put, List.setIfInBounds_toArray, List.set_cons_zero, List.set_cons_succ]
      refine wpAnyH_ready (rs := [6]) (by kernel_rfl) (by simp) ?_
      refine cons_lit rfl (fun K hK => ?_) ?_
      · go_simp
        refine (wrap_any st Z1 _).mono ?_
        rintro e w3 ⟨ay, cy, rfl, s3, b3⟩
        refine hK.out _ _ ?_ (fun hHeld => ?_)
        · exact ⟨rE.below b3 rE.lt, Src.below sE b3 (Src.lt sE), Src.below tE b3 (Src.lt tE)⟩
        clear hK K
        try simp only [Act.put, List.setIfInBounds_toArray, List.set_cons_zero, List.set_cons_succ]
        refine wpAnyH_ready (rs := [7]) (by kernel_rfl) (by simp) ?_
        refine cons_lit rfl (fun K hK => ?_) ?_
        · go_simp
          refine (Q1.out _ _ _ s3).mono ?_
          rintro e w4 ⟨a4, c4, M, us, rfl, hU, b4⟩
          have B4 := bt (bt B3 b3) b4
          have hT4 := (hT.below b3).below b4
          refine hK.out _ _ ?_ (fun hHeld => ?_)
          · exact ⟨(rE.below b3 rE.lt).below b4 (rE.below b3 rE.lt).lt, Src.below (Src.below sE b3 (Src.lt sE)) b4 (Src.lt (Src.below sE b3 (Src.lt sE))), Src.below (Src.below tE b3 (Src.lt tE)) b4 (Src.lt (Src.below tE b3 (Src.lt tE)))⟩
          clear hK K
          try simp only [Act.put, List.setIfInBounds_toArray, List.set_cons_zero, List.set_cons_succ]
          refine take_lit (i := 8) (v := ?_) rfl (by kernel_rfl) (by kernel_rfl) (by kernel_rfl) (fun _ _ _ h => h) (Or.inl ⟨by rfl, ?_⟩) (by assumption) ?_
          rotate_left
          · (intro w hSw; (try dsimp only at hSw); go_simp <;> with_reducible rfl)
          try simp only [Act.put, List.setIfInBounds_toArray, List.set_cons_zero, List.set_cons_succ]
          refine take_lit (i := 9) (v := ?_) rfl (by kernel_rfl) (by kernel_rfl) (by kernel_rfl) (fun _ _ _ h => h) (Or.inl ⟨by rfl, ?_⟩) (by assumption) ?_
          rotate_left
          · (intro w hSw; (try dsimp only at hSw); go_simp <;> with_reducible rfl)
          try simp only [Act.put, List.setIfInBounds_toArray, List.set_cons_zero, List.set_cons_succ]
          refine take_lit (i := 10) (v := ?_) rfl (by kernel_rfl) (by kernel_rfl) (by kernel_rfl) (fun _ _ _ h => h) (Or.inl ⟨by rfl, ?_⟩) (by assumption) ?_
          rotate_left
          · (intro w hSw; (try dsimp only at hSw); go_simp <;> with_reducible rfl)
          try simp only [Act.put, List.setIfInBounds_toArray, List.set_cons_zero, List.set_cons_succ]
          refine take_lit (i := 11) (v := ?_) rfl (by kernel_rfl) (by kernel_rfl) (by kernel_rfl) (fun _ _ _ h => h) (Or.inl ⟨by rfl, ?_⟩) (by assumption) ?_
          rotate_left
          · (intro w hSw; (try dsimp only at hSw); go_simp <;> with_reducible rfl)
          try simp only [Act.put, List.setIfInBounds_toArray, List.set_cons_zero, List.set_cons_succ]
          refine take_lit (i := 12) (v := ?_) rfl (by kernel_rfl) (by kernel_rfl) (by kernel_rfl) (fun _ _ _ h => h) (Or.inl ⟨by rfl, ?_⟩) (by assumption) ?_
          rotate_left
          · (intro w hSw; (try dsimp only at hSw); go_simp <;> with_reducible rfl)
          try simp only [Act.put, List.setIfInBounds_toArray, List.set_cons_zero, List.set_cons_succ]
          refine wpAnyH_done (by kernel_rfl) ?_ _
          refine NoPanic.normal ?_
          clear hHeld s3 b3 b4 b2 b1 rE sE tE hT B3 B2 Q0 Q1 Z0 Z1
          by_cases hz : E0 = 0
          · have ek : (us.take N).map Tl.key = ts.map Tl.key ∧ N ≤ M := by
              have k1 := hT4.key
              have k2 := hU.key
              have hs : (splL l0).2 = 0 := by rw [← HE.out]; exact hz
              rw [spl_append l0.length l0 l1 (Nat.le_refl _) hs, tellL_append, ← k1] at k2
              have n1 := hT4.tlw.len
              have n2 := hU.tlw.len
              have n3 := congrArg List.length k2
              simp only [List.length_map, List.length_append] at n3
              refine ⟨?_, by omega⟩
              rw [List.map_take, k2, List.take_left' (by rw [List.length_map]; exact n1)]
            obtain ⟨ek, hNM⟩ := ek
            have HS : Hid (∀ W cc, Below w4.heap.size w4 W → Calls Try.prog 11 #[.slice a2 N c2, .slice a4 N cc] W fun e w' => e = .returned (.bool true) ∧ Below W.heap.size W w') := fun W cc hW => sames_true a2 a4 N c2 cc ts (us.take N) W (hT4.tlw.below hW) ((hU.tlw.take N hNM).below hW) ek.symm hT4.le hT4.st
            have hNM' : (N : Int) ≤ (M : Int) := by omega
            have hM : M ≤ 100000 := hU.le
            rcases hU.shape with ⟨rfl, rfl, rfl⟩ | ⟨g4, rfl, hc4, hc5⟩
            · obtain rfl : N = 0 := by omega
              clear hT4 hU ek hNM
              subst hz
              go_wp2_with (first
                | (go_at_call 12; refine (num6 _ _).mono ?_; rintro e wn ⟨rfl, rfl⟩)
                | (go_at_call 11; refine (HS.out _ _ (Below.refl _ _)).mono ?_; rintro e w6 ⟨rfl, b6⟩)
                | (go_at_call 8; refine (live_any _).mono ?_; rintro e w5 ⟨rfl, b5⟩))
              go_ret
              exact ⟨rfl, bt (bt B4 b6) b5⟩
            · clear hT4 hU ek
              subst hz
              have hNc : N ≤ c4 := Nat.le_trans hNM hc4
              go_wp2_with (first
                | (go_at_call 12; refine (num6 _ _).mono ?_; rintro e wn ⟨rfl, rfl⟩)
                | (go_at_call 11; refine (HS.out _ _ (Below.refl _ _)).mono ?_; rintro e w6 ⟨rfl, b6⟩)
                | (go_at_call 8; refine (live_any _).mono ?_; rintro e w5 ⟨rfl, b5⟩))
              go_ret
              exact ⟨rfl, bt (bt B4 b6) b5⟩
          · have hz' : ¬ (E0 : Int) = 0 := hz
            go_wp2_with (first
              | (go_at_call 12; refine (num6 _ _).mono ?_; rintro e wn ⟨rfl, rfl⟩)
              | (go_at_call 8; refine (live_any _).mono ?_; rintro e w5 ⟨rfl, b5⟩))
            go_ret
            exact ⟨rfl, bt B4 b5⟩
        exact AllReadyH.nil
      exact AllReadyH.nil
    exact AllReadyH.nil
  exact AllReadyH.nil
theorem goes_any (src : Ad) (a0 : Option Addr) (n0 c0 : Nat) (l0 : List UInt8) (a1 : Option Addr) (n1 c1 : Nat) (l1 : List UInt8) (w : World) (h0 : Src w a0 n0 c0 (bcells l0)) (h1 : Src w a1 n1 c1 (bcells l1)) (k0 : n0 ≤ 140737488355328) (k1 : n1 ≤ 140737488355328) :
    Calls Try.prog 7 #[(Value.agg (acells src).toArray), .slice a0 n0 c0, .slice a1 n1 c1] w fun e w' => e = .returned (.bool true) ∧ Below w.heap.size w w' := by
  by_cases h : 5000 < n0 + n1
  · exact goes_long src a0 n0 c0 a1 n1 c1 w k0 k1 h
  · exact goes_walk src a0 n0 c0 l0 a1 n1 c1 l1 w h0 h1 (by omega)
end Go.Proofs.Ytaleclmccmeglaa
