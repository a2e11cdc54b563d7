/-
  The walk of FibNil.
-/
import Derived.Test.YtiihlgcafppehaaFV
import Derived.Test.YtiihlgcafppehaaEv
namespace Go.Proofs.Ytiihlgcafppehaa
open Go.RowKit Go.Maps Go.Shelf
set_option linter.unusedSimpArgs false
set_option linter.unusedVariables false
set_option maxRecDepth 20000
theorem next_nil (now : Int) (w : World) : Calls Try.prog 18 #[.pointer none, .int .i64 now] w (Gives w (.tuple #[oV zeroO, .bool false])) := by
  go_enter Try.func18, Try.ntmps18
  go_wp2_with (first
    | ((with_reducible refine stO (.tmp 4) (.tmp 12) ?_ ?_ g4 zeroO zeroO ?_ ?_ ?_ ?_); (focus rfl); (focus rfl); (focus rfl); (focus rfl); (focus exact r4); intro W7 g7 r7)
    | ((with_reducible refine bdG [] ?_ ?_ ?_ ?_); (focus rfl); (focus rfl); (focus exact bdO0 _))
    | ((with_reducible refine alG infoOz ?_ ?_ ?_); (focus rfl); (focus rfl); intro g4 W4 h4 l4 b4 r4))
  exact bodyPost_ret (retCT rfl _ _ 0 rfl (lvO r7)) rfl ⟨rfl, grown_below g7 b4 h4 b4.size⟩
theorem reply_nil (now : Int) (ok : Bool) (w : World) : Calls Try.prog 19 #[.pointer none, .int .i64 now, .bool ok] w (Gives w (.int .i64 7)) := by
  go_enter Try.func19, Try.ntmps19
  go_wp2_with fail
  go_ret
  exact ⟨rfl, Below.refl _ _⟩
theorem has_nil (w : World) : Calls Try.prog 20 #[.pointer none] w (Gives w (.slice none 0 0)) := by
  go_enter Try.func20, Try.ntmps20
  go_wp2_with fail
  go_ret
  exact ⟨rfl, Below.refl _ _⟩
theorem wanted_nil (w : World) : Calls Try.prog 21 #[.pointer none] w (Gives w (.slice none 0 0)) := by
  go_enter Try.func21, Try.ntmps21
  go_wp2_with fail
  go_ret
  exact ⟨rfl, Below.refl _ _⟩
theorem at_nil (w : World) : Calls Try.prog 24 #[.pointer none] w (Gives w (.tuple #[.int .i64 0, .bool false])) := by
  go_enter Try.func24, Try.ntmps24
  go_wp2_with fail
  go_ret2
  exact ⟨rfl, Below.refl _ _⟩
theorem drained_nil (w : World) : Calls Try.prog 22 #[.pointer none] w (Gives w (.bool true)) := by
  go_enter Try.func22, Try.ntmps22
  go_upto_region 1 with fail
  refine wp_region_noPanic ?_
  refine wp_region_held_drew (S := fun V => Below w.heap.size w V) (by kernel_rfl) ((Below.refl _ _).drew) (fun hHeld => ?_)
  refine take_lit (i := 0) (v := ?_) rfl (by kernel_rfl) (by kernel_rfl) (by kernel_rfl) (fun _ _ _ h => h) (Or.inl ⟨by rfl, ?_⟩) (by assumption) ?_
  rotate_left
  · (intro w hSw; (try dsimp only at hSw); go_simp <;> with_reducible rfl)
  try simp only [Act.put, List.setIfInBounds_toArray, List.set_cons_zero, List.set_cons_succ]
  refine take_lit (i := 1) (v := ?_) rfl (by kernel_rfl) (by kernel_rfl) (by kernel_rfl) (fun _ _ _ h => h) (Or.inl ⟨by rfl, ?_⟩) (by assumption) ?_
  rotate_left
  · (intro w hSw; (try dsimp only at hSw); go_simp <;> with_reducible rfl)
  try simp only [Act.put, List.setIfInBounds_toArray, List.set_cons_zero, List.set_cons_succ]
  refine take_lit (i := 2) (v := ?_) rfl (by kernel_rfl) (by kernel_rfl) (by kernel_rfl) (fun _ _ _ h => h) (Or.inl ⟨by rfl, ?_⟩) (by assumption) ?_
  rotate_left
  · (intro w hSw; (try dsimp only at hSw); go_simp <;> with_reducible rfl)
  try simp only [Act.put, List.setIfInBounds_toArray, List.set_cons_zero, List.set_cons_succ]
  refine take_lit (i := 3) rfl (by kernel_rfl) (by kernel_rfl) (by kernel_rfl) (fun _ _ _ h => h) (Or.inr ⟨by rfl, rfl⟩) (by assumption) ?_
  try simp only [Act.put, List.setIfInBounds_toArray, List.set_cons_zero, List.set_cons_succ]
  refine take_lit (i := 4) rfl (by kernel_rfl) (by kernel_rfl) (by kernel_rfl) (fun _ _ _ h => h) (Or.inr ⟨by rfl, rfl⟩) (by assumption) ?_
  try simp only [Act.put, List.setIfInBounds_toArray, List.set_cons_zero, List.set_cons_succ]
  refine take_lit (i := 5) rfl (by kernel_rfl) (by kernel_rfl) (by kernel_rfl) (fun _ _ _ h => h) (Or.inr ⟨by rfl, rfl⟩) (by assumption) ?_
  try simp only [Act.put, List.setIfInBounds_toArray, List.set_cons_zero, List.set_cons_succ]
  refine take_lit (i := 6) rfl (by kernel_rfl) (by kernel_rfl) (by kernel_rfl) (fun _ _ _ h => h) (Or.inr ⟨by rfl, rfl⟩) (by assumption) ?_
  try simp only [Act.put, List.setIfInBounds_toArray, List.set_cons_zero, List.set_cons_succ]
  refine take_lit (i := 7) rfl (by kernel_rfl) (by kernel_rfl) (by kernel_rfl) (fun _ _ _ h => h) (Or.inr ⟨by rfl, rfl⟩) (by assumption) ?_
  try simp only [Act.put, List.setIfInBounds_toArray, List.set_cons_zero, List.set_cons_succ]
  refine take_lit (i := 8) rfl (by kernel_rfl) (by kernel_rfl) (by kernel_rfl) (fun _ _ _ h => h) (Or.inr ⟨by rfl, rfl⟩) (by assumption) ?_
  try simp only [Act.put, List.setIfInBounds_toArray, List.set_cons_zero, List.set_cons_succ]
  refine take_lit (i := 9) rfl (by kernel_rfl) (by kernel_rfl) (by kernel_rfl) (fun _ _ _ h => h) (Or.inr ⟨by rfl, rfl⟩) (by assumption) ?_
  try simp only [Act.put, List.setIfInBounds_toArray, List.set_cons_zero, List.set_cons_succ]
  refine take_lit (i := 10) rfl (by kernel_rfl) (by kernel_rfl) (by kernel_rfl) (fun _ _ _ h => h) (Or.inr ⟨by rfl, rfl⟩) (by assumption) ?_
  try simp only [Act.put, List.setIfInBounds_toArray, List.set_cons_zero, List.set_cons_succ]
  refine take_lit (i := 11) rfl (by kernel_rfl) (by kernel_rfl) (by kernel_rfl) (fun _ _ _ h => h) (Or.inr ⟨by rfl, rfl⟩) (by assumption) ?_
  try simp only [Act.put, List.setIfInBounds_toArray, List.set_cons_zero, List.set_cons_succ]
  refine take_lit (i := 12) rfl (by kernel_rfl) (by kernel_rfl) (by kernel_rfl) (fun _ _ _ h => h) (Or.inr ⟨by rfl, rfl⟩) (by assumption) ?_
  try simp only [Act.put, List.setIfInBounds_toArray, List.set_cons_zero, List.set_cons_succ]
  refine take_lit (i := 13) rfl (by kernel_rfl) (by kernel_rfl) (by kernel_rfl) (fun _ _ _ h => h) (Or.inr ⟨by rfl, rfl⟩) (by assumption) ?_
  try simp only [Act.put, List.setIfInBounds_toArray, List.set_cons_zero, List.set_cons_succ]
  refine take_lit (i := 14) rfl (by kernel_rfl) (by kernel_rfl) (by kernel_rfl) (fun _ _ _ h => h) (Or.inr ⟨by rfl, rfl⟩) (by assumption) ?_
  try simp only [Act.put, List.setIfInBounds_toArray, List.set_cons_zero, List.set_cons_succ]
  refine take_lit (i := 15) rfl (by kernel_rfl) (by kernel_rfl) (by kernel_rfl) (fun _ _ _ h => h) (Or.inr ⟨by rfl, rfl⟩) (by assumption) ?_
  try simp only [Act.put, List.setIfInBounds_toArray, List.set_cons_zero, List.set_cons_succ]
  refine take_lit (i := 16) rfl (by kernel_rfl) (by kernel_rfl) (by kernel_rfl) (fun _ _ _ h => h) (Or.inr ⟨by rfl, rfl⟩) (by assumption) ?_
  try simp only [Act.put, List.setIfInBounds_toArray, List.set_cons_zero, List.set_cons_succ]
  refine take_lit (i := 17) (v := ?_) rfl (by kernel_rfl) (by kernel_rfl) (by kernel_rfl) (fun _ _ _ h => h) (Or.inl ⟨by rfl, ?_⟩) (by assumption) ?_
  rotate_left
  · (intro w hSw; (try dsimp only at hSw); go_simp <;> with_reducible rfl)
  try simp only [Act.put, List.setIfInBounds_toArray, List.set_cons_zero, List.set_cons_succ]
  refine take_lit (i := 18) (v := ?_) rfl (by kernel_rfl) (by kernel_rfl) (by kernel_rfl) (fun _ _ _ h => h) (Or.inl ⟨by rfl, ?_⟩) (by assumption) ?_
  rotate_left
  · (intro w hSw; (try dsimp only at hSw); go_simp <;> with_reducible rfl)
  try simp only [Act.put, List.setIfInBounds_toArray, List.set_cons_zero, List.set_cons_succ]
  refine wpAnyH_done (by kernel_rfl) ?_ _
  refine NoPanic.normal ?_
  go_wp2_with fail
  go_ret
  exact ⟨rfl, hHeld⟩
set_option maxHeartbeats 4000000 in
theorem nil_walk (e : En) (w : World) : Calls Try.prog 5 #[eV e] w (Gives w (.bool true)) := by
  have hB := ba w (.cells (ecs e).toArray 36)
  have r0 := Row.new w 36 (ecs e)
  go_enter Try.func5, Try.ntmps5
  go_upto_region 1 with fail
  refine name_world (R := fun W => Code.wp _ _ _ _ W) (P := fun W => Below w.heap.size w W ∧ Row W w.heap.size 36 (ecs e)) _ ⟨hB, r0⟩ ?_
  clear hB r0
  rintro X ⟨bX, r0⟩
  go_upto_region 3 with (first
    | (have kk := b5; go_at_call 17; refine (want_nil _ _).mono ?_; rintro e' w3 ⟨rfl, k3⟩; replace bX := bt bX (bt b5 k3))
    | ((with_reducible refine bsG (T := 22) (U := 36) (n := 1) [(0, .tmp 9)] (ecs e) ?_ ?_ ?_ ?_); (focus rfl); (focus rfl); (focus exact (fun w => bsE1 e w)); intro W5 r5 b5)
    | ((with_reducible refine ldE (.tmp 1) ?_ ?_ w.heap.size 0 e ?_ ?_ ?_); (focus rfl); (focus rfl); (focus (repeat (first | with_reducible refine ev_ne ?_ rfl | with_reducible refine ev_no ?_ | (with_reducible refine ev_eq (n := 51) ?_ rfl; repeat (first | with_reducible refine sz_put ?_ | with_reducible refine sz_no ?_ | rfl)) | rfl))); (focus exact r0.en)))
  clear r0 r5 b5 k3
  go_upto_region 4 with (first
    | (have kk := q4; (with_reducible refine stO (.tmp 4) (.tmp 15) ?_ ?_ g4 zeroO zeroO ?_ ?_ ?_ ?_); (focus rfl); (focus rfl); (focus (repeat (first | with_reducible refine ev_ne ?_ rfl | with_reducible refine ev_no ?_ | (with_reducible refine ev_eq (n := 51) ?_ rfl; repeat (first | with_reducible refine sz_put ?_ | with_reducible refine sz_no ?_ | rfl)) | rfl))); (focus (repeat (first | with_reducible refine ev_ne ?_ rfl | with_reducible refine ev_no ?_ | (with_reducible refine ev_eq (n := 51) ?_ rfl; repeat (first | with_reducible refine sz_put ?_ | with_reducible refine sz_no ?_ | rfl)) | rfl))); (focus exact q4); intro W7 gr7 r7; replace bX := bt bX (grown_below gr7 b4 h4 b4.size); clear q4)
    | (have kk := k2; (with_reducible refine alG infoOz ?_ ?_ ?_); (focus rfl); (focus rfl); intro g4 W4 h4 l4 b4 q4)
    | (go_at_call 18; refine (next_nil _ _).mono ?_; rintro e' w2 ⟨rfl, k2⟩; replace bX := bt bX k2))
  clear r7 gr7 b4 h4 l4 k2
  go_upto_region 5 with (go_at_call 24; refine (at_nil _).mono ?_; rintro e' w4 ⟨rfl, k⟩; replace bX := bt bX k)
  go_wp2_with (first
    | (go_at_call 7; refine (live_any _).mono ?_; rintro e' w9 ⟨rfl, k⟩; replace bX := bt bX k)
    | (go_at_call 21; refine (wanted_nil _).mono ?_; rintro e' w8 ⟨rfl, k⟩; replace bX := bt bX k)
    | (go_at_call 20; refine (has_nil _).mono ?_; rintro e' w7 ⟨rfl, k⟩; replace bX := bt bX k)
    | (go_at_call 22; refine (drained_nil _).mono ?_; rintro e' w6 ⟨rfl, k⟩; replace bX := bt bX k)
    | (go_at_call 8; refine (num_any _ _).mono ?_; rintro e' w' ⟨rfl, rfl⟩)
    | (go_at_call 19; refine (reply_nil _ _ _).mono ?_; rintro e' w5 ⟨rfl, k⟩; replace bX := bt bX k))
  go_ret
  exact ⟨rfl, bX⟩
end Go.Proofs.Ytiihlgcafppehaa
