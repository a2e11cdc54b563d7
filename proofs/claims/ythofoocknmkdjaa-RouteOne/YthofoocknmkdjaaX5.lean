/-
  Tell: what a neighbour tells.
-/
import Derived.Test.YthofoocknmkdjaaX4
namespace Go.Proofs.Ythofoocknmkdjaa
open Go.RowKit Go.Maps
set_option linter.unusedSimpArgs false
set_option linter.unusedVariables false
set_option maxRecDepth 20000
theorem retold_inf {old n : Ro} {now : Int} (h : n.r = 65535) : retold old now n = retr old now := if_pos h
theorem retold_fin {old n : Ro} {now : Int} (h : ¬ n.r = 65535) : retold old now n = { old with r := n.r, id := n.id, q := n.q, h := n.h, d := n.d, u := now + n.d } := if_neg h
set_option maxHeartbeats 4000000 in
theorem retold_any (old n : Ro) (now : Int) (w : World) (ha : 0 ≤ now) (hb : now ≤ 17592186044416) (d0 : 1 ≤ n.d) (d1 : n.d ≤ 2147483648) (e0 : 1 ≤ old.d) (e1 : old.d ≤ 2147483648) : Calls Try.prog 48 #[rV old, .int .i64 now, rV n] w (Gives w (rV (retold old now n))) := by
  have hw : wrap64 (now + n.d) = now + n.d := by unfold wrap64; omega
  have hR := fun W => retr_any old now W ha hb e0 e1
  clear d0 d1 e0 e1 ha hb
  obtain ⟨R, HR⟩ : ∃ R, Hid (retold old now n = R) := ⟨_, rfl⟩
  rw [HR.out]
  go_enter Try.func48, Try.ntmps48
  go_upto_region 1 with (first
    | (refine alG infoRz rfl rfl ?_; intro g1 W1 hge hgl hB1 hr1))
  obtain ⟨hB, r0, r1, hs⟩ := stepRow2 hB1
  have hg : w.heap.size + 1 < g1 := by simp at hge; omega
  have c60 : W1.cell? ⟨w.heap.size + 1, 60, none⟩ = some (.int .u16 n.r) := (r1.cell 60).trans (oc60 n)
  clear hB1 hge
  have hne : g1 ≠ w.heap.size := by omega
  have hne1 : g1 ≠ w.heap.size + 1 := by omega
  by_cases hi : n.r = 65535
  · obtain rfl : R = retr old now := by rw [← HR.out, retold_inf hi]
    have hi' : (n.r == 65535) = true := by simpa using hi
    clear hi hw
    go_wp2_with (first
      | (have kk := q2; refine stS (.tmp 6) (.tmp 12) rfl rfl g1 (retr old now) _ rfl rfl q2 ?_; intro W5 g5 q5; clear q2)
      | (have kk := r0; go_at_call 50; refine (hR _).mono ?_; rintro e w2 ⟨rfl, b2⟩; have q2 := hr1.below b2 hr1.lt; clear r0)
      | (have kk := r0; refine ldS (.tmp 3) rfl rfl _ _ old rfl r0.ro ?_))
    have b3 := bt hB b2
    exact bodyPost_ret (retC rfl _ _ 0 rfl (lvS q5)) rfl ⟨rfl, grown_below g5 b3 (by omega) b3.size⟩
  · have HR2 : Hid (R = { old with r := n.r, id := n.id, q := n.q, h := n.h, d := n.d, u := now + n.d }) := by show _ = _; rw [← HR.out, retold_fin hi]
    clear HR
    have hi' : (n.r == 65535) = false := by simpa using hi
    clear hi hR
    have hs0 := r0.lt
    go_upto_region 3 with fail
    refine wp_region_noPanic ?_
    refine wp_region_held_drew (S := fun W => Row W (w.heap.size + 1) 41 (ocs n)) (by kernel_rfl) (r1.drew) (fun hHeld => ?_)
    refine take_lit (i := 0) (v := ?_) rfl (by kernel_rfl) (by kernel_rfl) (by kernel_rfl) (fun _ _ _ h => h) (Or.inl ⟨by rfl, ?_⟩) (by assumption) ?_
    rotate_left
    · (intro w hSw; (try dsimp only at hSw); go_simp <;> with_reducible rfl)
    try simp only [Act.put, List.setIfInBounds_toArray, List.set_cons_zero, List.set_cons_succ]
    refine take_lit (i := 1) (v := ?_) rfl (by kernel_rfl) (by kernel_rfl) (by kernel_rfl) (fun _ _ _ h => h) (Or.inl ⟨by rfl, ?_⟩) (by assumption) ?_
    rotate_left
    · (intro w hSw; (try dsimp only at hSw); have z := (hSw.cell 60).trans (oc60 n); go_simp <;> with_reducible rfl)
    try simp only [Act.put, List.setIfInBounds_toArray, List.set_cons_zero, List.set_cons_succ]
    refine take_lit (i := 2) (v := ?_) rfl (by kernel_rfl) (by kernel_rfl) (by kernel_rfl) (fun _ _ _ h => h) (Or.inl ⟨by rfl, ?_⟩) (by assumption) ?_
    rotate_left
    · (intro w hSw; (try dsimp only at hSw); go_simp <;> with_reducible rfl)
    try simp only [Act.put, List.setIfInBounds_toArray, List.set_cons_zero, List.set_cons_succ]
    refine take_lit (i := 3) rfl (by kernel_rfl) (by kernel_rfl) (by kernel_rfl) (fun _ _ _ h => h) (yI n.id (fun w h => by have := (Row.ro h).id; simpa using this) (by rfl) rfl rfl) (by assumption) ?_
    try simp only [Act.put, List.setIfInBounds_toArray, List.set_cons_zero, List.set_cons_succ]
    refine take_lit (i := 4) (v := ?_) rfl (by kernel_rfl) (by kernel_rfl) (by kernel_rfl) (fun _ _ _ h => h) (Or.inl ⟨by rfl, ?_⟩) (by assumption) ?_
    rotate_left
    · (intro w hSw; (try dsimp only at hSw); go_simp <;> with_reducible rfl)
    try simp only [Act.put, List.setIfInBounds_toArray, List.set_cons_zero, List.set_cons_succ]
    refine take_lit (i := 5) (v := ?_) rfl (by kernel_rfl) (by kernel_rfl) (by kernel_rfl) (fun _ _ _ h => h) (Or.inl ⟨by rfl, ?_⟩) (by assumption) ?_
    rotate_left
    · (intro w hSw; (try dsimp only at hSw); have z := (hSw.cell 59).trans (oc59 n); go_simp <;> with_reducible rfl)
    try simp only [Act.put, List.setIfInBounds_toArray, List.set_cons_zero, List.set_cons_succ]
    refine take_lit (i := 6) (v := ?_) rfl (by kernel_rfl) (by kernel_rfl) (by kernel_rfl) (fun _ _ _ h => h) (Or.inl ⟨by rfl, ?_⟩) (by assumption) ?_
    rotate_left
    · (intro w hSw; (try dsimp only at hSw); go_simp <;> with_reducible rfl)
    try simp only [Act.put, List.setIfInBounds_toArray, List.set_cons_zero, List.set_cons_succ]
    refine take_lit (i := 7) rfl (by kernel_rfl) (by kernel_rfl) (by kernel_rfl) (fun _ _ _ h => h) (yA n.h (fun w h => by have := (Row.ro h).h; simpa using this) (by rfl) rfl rfl) (by assumption) ?_
    try simp only [Act.put, List.setIfInBounds_toArray, List.set_cons_zero, List.set_cons_succ]
    refine take_lit (i := 8) (v := ?_) rfl (by kernel_rfl) (by kernel_rfl) (by kernel_rfl) (fun _ _ _ h => h) (Or.inl ⟨by rfl, ?_⟩) (by assumption) ?_
    rotate_left
    · (intro w hSw; (try dsimp only at hSw); go_simp <;> with_reducible rfl)
    try simp only [Act.put, List.setIfInBounds_toArray, List.set_cons_zero, List.set_cons_succ]
    refine take_lit (i := 9) (v := ?_) rfl (by kernel_rfl) (by kernel_rfl) (by kernel_rfl) (fun _ _ _ h => h) (Or.inl ⟨by rfl, ?_⟩) (by assumption) ?_
    rotate_left
    · (intro w hSw; (try dsimp only at hSw); have z := (hSw.cell 79).trans (oc79 n); go_simp <;> with_reducible rfl)
    try simp only [Act.put, List.setIfInBounds_toArray, List.set_cons_zero, List.set_cons_succ]
    refine take_lit (i := 10) (v := ?_) rfl (by kernel_rfl) (by kernel_rfl) (by kernel_rfl) (fun _ _ _ h => h) (Or.inl ⟨by rfl, ?_⟩) (by assumption) ?_
    rotate_left
    · (intro w hSw; (try dsimp only at hSw); go_simp <;> with_reducible rfl)
    try simp only [Act.put, List.setIfInBounds_toArray, List.set_cons_zero, List.set_cons_succ]
    refine wpAnyH_ready (rs := [11]) (by kernel_rfl) (by simp) ?_
    refine cons_lit rfl (fun K hK => ?_) ?_
    · skip
      refine inS (by rfl) (wp_stRf (.tmp 23) (.tmp 14) rfl w.heap.size n.r old rfl rfl r0.drew ?_)
      intro W2 g2 q2
      have h2 := hHeld.keep g2 (by omega)
      refine hK.out _ _ ?_ (fun hHeld => ?_)
      · exact h2
      clear hK K
      try simp only [Act.put, List.setIfInBounds_toArray, List.set_cons_zero, List.set_cons_succ]
      refine take_lit (i := 12) (v := ?_) rfl (by kernel_rfl) (by kernel_rfl) (by kernel_rfl) (fun _ _ _ h => h) (Or.inl ⟨by rfl, ?_⟩) (by assumption) ?_
      rotate_left
      · (intro w hSw; (try dsimp only at hSw); go_simp <;> with_reducible rfl)
      try simp only [Act.put, List.setIfInBounds_toArray, List.set_cons_zero, List.set_cons_succ]
      refine wpAnyH_ready (rs := [13]) (by kernel_rfl) (by simp) ?_
      refine cons_lit rfl (fun K hK => ?_) ?_
      · skip
        refine inS (by rfl) (wp_stIf (.tmp 24) (.tmp 16) rfl w.heap.size n.id _ rfl rfl q2 ?_)
        intro W3 g3 q3
        have h3 := hHeld.keep g3 (by omega)
        refine hK.out _ _ ?_ (fun hHeld => ?_)
        · exact h3
        clear hK K
        try simp only [Act.put, List.setIfInBounds_toArray, List.set_cons_zero, List.set_cons_succ]
        refine take_lit (i := 14) (v := ?_) rfl (by kernel_rfl) (by kernel_rfl) (by kernel_rfl) (fun _ _ _ h => h) (Or.inl ⟨by rfl, ?_⟩) (by assumption) ?_
        rotate_left
        · (intro w hSw; (try dsimp only at hSw); go_simp <;> with_reducible rfl)
        try simp only [Act.put, List.setIfInBounds_toArray, List.set_cons_zero, List.set_cons_succ]
        refine wpAnyH_ready (rs := [15]) (by kernel_rfl) (by simp) ?_
        refine cons_lit rfl (fun K hK => ?_) ?_
        · skip
          refine inS (by rfl) (wp_stSq (.tmp 25) (.tmp 18) rfl w.heap.size n.q _ rfl rfl q3 ?_)
          intro W4 g4 q4
          have h4 := hHeld.keep g4 (by omega)
          refine hK.out _ _ ?_ (fun hHeld => ?_)
          · exact h4
          clear hK K
          try simp only [Act.put, List.setIfInBounds_toArray, List.set_cons_zero, List.set_cons_succ]
          refine take_lit (i := 16) (v := ?_) rfl (by kernel_rfl) (by kernel_rfl) (by kernel_rfl) (fun _ _ _ h => h) (Or.inl ⟨by rfl, ?_⟩) (by assumption) ?_
          rotate_left
          · (intro w hSw; (try dsimp only at hSw); go_simp <;> with_reducible rfl)
          try simp only [Act.put, List.setIfInBounds_toArray, List.set_cons_zero, List.set_cons_succ]
          refine wpAnyH_ready (rs := [17]) (by kernel_rfl) (by simp) ?_
          refine cons_lit rfl (fun K hK => ?_) ?_
          · skip
            refine inS (by rfl) (wp_stAf (.tmp 26) (.tmp 20) rfl w.heap.size n.h _ rfl rfl q4 ?_)
            intro W5 g5 q5
            have h5 := hHeld.keep g5 (by omega)
            refine hK.out _ _ ?_ (fun hHeld => ?_)
            · exact h5
            clear hK K
            try simp only [Act.put, List.setIfInBounds_toArray, List.set_cons_zero, List.set_cons_succ]
            refine take_lit (i := 18) (v := ?_) rfl (by kernel_rfl) (by kernel_rfl) (by kernel_rfl) (fun _ _ _ h => h) (Or.inl ⟨by rfl, ?_⟩) (by assumption) ?_
            rotate_left
            · (intro w hSw; (try dsimp only at hSw); go_simp <;> with_reducible rfl)
            try simp only [Act.put, List.setIfInBounds_toArray, List.set_cons_zero, List.set_cons_succ]
            refine wpAnyH_ready (rs := [19]) (by kernel_rfl) (by simp) ?_
            refine cons_lit rfl (fun K hK => ?_) ?_
            · skip
              refine inS (by rfl) (wp_stD (.tmp 27) (.tmp 22) rfl w.heap.size n.d _ rfl rfl q5 ?_)
              intro W6 g6 q6
              have h6 := hHeld.keep g6 (by omega)
              refine hK.out _ _ ?_ (fun hHeld => ?_)
              · exact h6
              clear hK K
              try simp only [Act.put, List.setIfInBounds_toArray, List.set_cons_zero, List.set_cons_succ]
              refine wpAnyH_done (by kernel_rfl) ?_ _
              refine NoPanic.normal ?_
              have gA := grownBy_trans (grownBy_trans (grownBy_trans (grownBy_trans g2 g3) g4) g5) g6
              have bA := grown_below gA (hB.trans ((Below.refl _ _).drew.mono hB.size)) (Nat.le_refl _) hB.size
              have k1 := (hr1.drew).keep gA hne
              clear g2 g3 g4 g5 g6 gA q2 q3 q4 q5 h2 h3 h4 h5 h6 r0 r1 hr1 hHeld
              have HR3 : Hid (R = (((((old.sR n.r).sId n.id).sQ n.q).sH n.h).sD n.d).sU (now + n.d)) := HR2.out
              have hO5 : ∃ O5, ((((old.sR n.r).sId n.id).sQ n.q).sH n.h).sD n.d = O5 := ⟨_, rfl⟩
              have c79 : W6.cell? ⟨w.heap.size, 79, none⟩ = some (.int .i64 n.d) := (q6.cell 79).trans (oc79 _)
              generalize hz : now + n.d = z at *
              clear hO5 HR2
              generalize ((((old.sR n.r).sId n.id).sQ n.q).sH n.h).sD n.d = O5 at *
              go_wp2_with (first
                | (have kk := k2; refine stS (.tmp 6) (.tmp 33) rfl rfl g1 R _ rfl rfl k2 ?_; intro W8 g8 q8; clear k2)
                | (have kk := q7; refine ldS (.tmp 3) rfl rfl _ _ R rfl (by rw [HR3.out]; exact q7.ro) ?_)
                | (have kk := q6; (with_reducible refine inL ?_ fun K hK => ?_); (focus rfl); refine wp_stU (.tmp 32) (.tmp 31) rfl w.heap.size z O5 rfl (by first | rfl | exact congrArg (Value.int .i64) hw) q6 ?_; intro W7 g7 q7; refine hK _ _ ?_; have k2 := k1.keep g7 hne; have b7 := grown_below g7 bA (Nat.le_refl _) bA.size; clear q6))
              exact bodyPost_ret (retC rfl _ _ 0 rfl (lvS q8)) rfl ⟨rfl, grown_below g8 b7 (by omega) b7.size⟩
            exact AllReadyH.nil
          exact AllReadyH.nil
        exact AllReadyH.nil
      exact AllReadyH.nil
    exact AllReadyH.nil
end Go.Proofs.Ythofoocknmkdjaa
