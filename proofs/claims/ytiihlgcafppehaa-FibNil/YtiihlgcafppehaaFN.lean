/-
  The small parts of Expand: of one entry.
-/
import Derived.Test.YtiihlgcafppehaaFM
namespace Go.Proofs.Ytiihlgcafppehaa
open Go.RowKit Go.Maps Go.Shelf
set_option linter.unusedSimpArgs false
set_option linter.unusedVariables false
set_option maxRecDepth 20000
theorem infoPz0 : (Try.prog.info? 32).map (·.zero) = some (some (.agg (pcells ⟨zeroA, 0⟩).toArray)) := by kernel_rfl
theorem lvP0 {w : World} {g : Nat} {n : Pf} (h : Row w g 32 (pcells n)) : (loadVar 32 ⟨g, 0, none⟩).run Try.prog w = .ok (Value.agg (pcells n).toArray) w := lvP h.range
theorem dstOf_any {w : World} {g o n c : Nat} {e : En} (hn : 0 < n) (h : LE w g o e) (hg : g < w.heap.size) : Calls Try.prog 33 #[.slice (some ⟨g, o, none⟩) n c] w (Gives w (Value.agg (pcells e.p.d).toArray)) := by
  have hn0 : (0 : Int) < (n : Int) := by omega
  go_enter Try.func33, Try.ntmps33
  go_wp2_with (first
    | ((with_reducible refine stP0 (.tmp 2) (.tmp 7) ?_ ?_ g2 e.p.d ⟨zeroA, 0⟩ ?_ ?_ ?_ ?_); (focus rfl); (focus rfl); (focus rfl); (focus rfl); (focus exact r2); intro W3 g3 r3)
    | (have kk := r2; (with_reducible refine ldP (.tmp 6) ?_ ?_ g o e.p.d ?_ ?_ ?_); (focus rfl); (focus rfl); (focus rfl); (focus exact (h.below b2 hg).d))
    | ((with_reducible refine alG infoPz0 ?_ ?_ ?_); (focus rfl); (focus rfl); intro g2 W2 h2 l2 b2 r2))
  exact bodyPost_ret (retC rfl _ _ 0 rfl (lvP0 r3)) rfl ⟨rfl, grown_below g3 b2 h2 b2.size⟩
theorem lastS_nil (w : World) : Calls Try.prog 36 #[.slice none 0 0] w (Gives w (.slice none 0 0)) := by
  go_enter Try.func36, Try.ntmps36
  go_wp2
  go_ret
  exact ⟨rfl, Below.refl _ _⟩
theorem lastE_one {w : World} {g o c : Nat} {e : En} (h : LE w g o e) (hg : g < w.heap.size) : Calls Try.prog 56 #[.slice (some ⟨g, o, none⟩) 1 c] w (Gives w (eV e)) := by
  go_enter Try.func56, Try.ntmps56
  go_wp2_with (first
    | ((with_reducible refine stE (.tmp 2) (.tmp 13) ?_ ?_ g2 e zeroE ?_ ?_ ?_ ?_); (focus rfl); (focus rfl); (focus rfl); (focus rfl); (focus exact r2); intro W3 g3 r3)
    | (have kk := r2; (with_reducible refine ldE (.tmp 12) ?_ ?_ g o e ?_ ?_ ?_); (focus rfl); (focus rfl); (focus rfl); (focus exact (h.below b2 hg)))
    | ((with_reducible refine alG infoEz ?_ ?_ ?_); (focus rfl); (focus rfl); intro g2 W2 h2 l2 b2 r2))
  exact bodyPost_ret (retC rfl _ _ 0 rfl (lvE r3)) rfl ⟨rfl, grown_below g3 b2 h2 b2.size⟩
theorem covS_nil (fv : Value) (p : Pf) (w : World) : Calls Try.prog 34 #[.slice none 0 0, fv, (Value.agg (pcells p).toArray)] w (Gives w (.slice none 0 0)) := by
  have b0 := ba w (.cells (pcells p).toArray 32)
  go_enter Try.func34, Try.ntmps34
  go_wp2_with fail
  go_loopw [0] (fun v wr => v = .slice none 0 0 ∧ Below w.heap.size w wr) (fun _ _ => 0)
  case atStart => exact ⟨rfl, b0⟩
  case round =>
    obtain ⟨rfl, hb⟩ := hrel
    go_upto_region 1 with fail
    refine wp_region_noPanic ?_
    refine wp_region_held_drew (S := fun V => Below wr.heap.size wr V) (by kernel_rfl) ((Below.refl _ _).drew) (fun hHeld => ?_)
    refine take_lit (i := 0) (v := ?_) rfl (by kernel_rfl) (by kernel_rfl) (by kernel_rfl) (fun _ _ _ h => h) (Or.inl ⟨by rfl, ?_⟩) (by assumption) ?_
    rotate_left
    · (intro w hSw; (try dsimp only at hSw); go_simp <;> with_reducible rfl)
    try simp only [Act.put, List.setIfInBounds_toArray, List.set_cons_zero, List.set_cons_succ]
    refine take_lit (i := 1) (v := ?_) rfl (by kernel_rfl) (by kernel_rfl) (by kernel_rfl) (fun _ _ _ h => h) (Or.inl ⟨by rfl, ?_⟩) (by assumption) ?_
    rotate_left
    · (intro w hSw; (try dsimp only at hSw); go_simp <;> with_reducible rfl)
    try simp only [Act.put, List.setIfInBounds_toArray, List.set_cons_zero, List.set_cons_succ]
    refine take_lit (i := 2) (v := ?_) rfl (by kernel_rfl) (by kernel_rfl) (by kernel_rfl) (fun _ _ _ h => h) (Or.inl ⟨by rfl, ?_⟩) (by assumption) ?_
    rotate_left
    · (intro w hSw; (try dsimp only at hSw); go_simp <;> with_reducible rfl)
    try simp only [Act.put, List.setIfInBounds_toArray, List.set_cons_zero, List.set_cons_succ]
    refine take_lit (i := 3) (v := ?_) rfl (by kernel_rfl) (by kernel_rfl) (by kernel_rfl) (fun _ _ _ h => h) (Or.inl ⟨by rfl, ?_⟩) (by assumption) ?_
    rotate_left
    · (intro w hSw; (try dsimp only at hSw); go_simp <;> with_reducible rfl)
    try simp only [Act.put, List.setIfInBounds_toArray, List.set_cons_zero, List.set_cons_succ]
    refine take_lit (i := 4) rfl (by kernel_rfl) (by kernel_rfl) (by kernel_rfl) (fun _ _ _ h => h) (Or.inr ⟨by rfl, rfl⟩) (by assumption) ?_
    try simp only [Act.put, List.setIfInBounds_toArray, List.set_cons_zero, List.set_cons_succ]
    refine take_lit (i := 5) rfl (by kernel_rfl) (by kernel_rfl) (by kernel_rfl) (fun _ _ _ h => h) (Or.inr ⟨by rfl, rfl⟩) (by assumption) ?_
    try simp only [Act.put, List.setIfInBounds_toArray, List.set_cons_zero, List.set_cons_succ]
    refine take_lit (i := 6) rfl (by kernel_rfl) (by kernel_rfl) (by kernel_rfl) (fun _ _ _ h => h) (Or.inr ⟨by rfl, rfl⟩) (by assumption) ?_
    try simp only [Act.put, List.setIfInBounds_toArray, List.set_cons_zero, List.set_cons_succ]
    refine take_lit (i := 7) rfl (by kernel_rfl) (by kernel_rfl) (by kernel_rfl) (fun _ _ _ h => h) (Or.inr ⟨by rfl, rfl⟩) (by assumption) ?_
    try simp only [Act.put, List.setIfInBounds_toArray, List.set_cons_zero, List.set_cons_succ]
    refine take_lit (i := 8) rfl (by kernel_rfl) (by kernel_rfl) (by kernel_rfl) (fun _ _ _ h => h) (Or.inr ⟨by rfl, rfl⟩) (by assumption) ?_
    try simp only [Act.put, List.setIfInBounds_toArray, List.set_cons_zero, List.set_cons_succ]
    refine take_lit (i := 9) rfl (by kernel_rfl) (by kernel_rfl) (by kernel_rfl) (fun _ _ _ h => h) (Or.inr ⟨by rfl, rfl⟩) (by assumption) ?_
    try simp only [Act.put, List.setIfInBounds_toArray, List.set_cons_zero, List.set_cons_succ]
    refine take_lit (i := 10) rfl (by kernel_rfl) (by kernel_rfl) (by kernel_rfl) (fun _ _ _ h => h) (Or.inr ⟨by rfl, rfl⟩) (by assumption) ?_
    try simp only [Act.put, List.setIfInBounds_toArray, List.set_cons_zero, List.set_cons_succ]
    refine take_lit (i := 11) (v := ?_) rfl (by kernel_rfl) (by kernel_rfl) (by kernel_rfl) (fun _ _ _ h => h) (Or.inl ⟨by rfl, ?_⟩) (by assumption) ?_
    rotate_left
    · (intro w hSw; (try dsimp only at hSw); go_simp <;> with_reducible rfl)
    try simp only [Act.put, List.setIfInBounds_toArray, List.set_cons_zero, List.set_cons_succ]
    refine wpAnyH_done (by kernel_rfl) ?_ _
    refine NoPanic.normal ?_
    have hb2 := bt hb hHeld
    go_wp2_with fail
    go_ret
    exact ⟨rfl, hb2⟩
theorem covE_nil (fv : Value) (p : Pf) (w : World) : Calls Try.prog 54 #[.slice none 0 0, fv, (Value.agg (pcells p).toArray)] w (Gives w (.slice none 0 0)) := by
  have b0 := ba w (.cells (pcells p).toArray 32)
  go_enter Try.func54, Try.ntmps54
  go_wp2_with fail
  go_loopw [0] (fun v wr => v = .slice none 0 0 ∧ Below w.heap.size w wr) (fun _ _ => 0)
  case atStart => exact ⟨rfl, b0⟩
  case round =>
    obtain ⟨rfl, hb⟩ := hrel
    go_upto_region 1 with fail
    refine wp_region_noPanic ?_
    refine wp_region_held_drew (S := fun V => Below wr.heap.size wr V) (by kernel_rfl) ((Below.refl _ _).drew) (fun hHeld => ?_)
    refine take_lit (i := 0) (v := ?_) rfl (by kernel_rfl) (by kernel_rfl) (by kernel_rfl) (fun _ _ _ h => h) (Or.inl ⟨by rfl, ?_⟩) (by assumption) ?_
    rotate_left
    · (intro w hSw; (try dsimp only at hSw); go_simp <;> with_reducible rfl)
    try simp only [Act.put, List.setIfInBounds_toArray, List.set_cons_zero, List.set_cons_succ]
    refine take_lit (i := 1) (v := ?_) rfl (by kernel_rfl) (by kernel_rfl) (by kernel_rfl) (fun _ _ _ h => h) (Or.inl ⟨by rfl, ?_⟩) (by assumption) ?_
    rotate_left
    · (intro w hSw; (try dsimp only at hSw); go_simp <;> with_reducible rfl)
    try simp only [Act.put, List.setIfInBounds_toArray, List.set_cons_zero, List.set_cons_succ]
    refine take_lit (i := 2) (v := ?_) rfl (by kernel_rfl) (by kernel_rfl) (by kernel_rfl) (fun _ _ _ h => h) (Or.inl ⟨by rfl, ?_⟩) (by assumption) ?_
    rotate_left
    · (intro w hSw; (try dsimp only at hSw); go_simp <;> with_reducible rfl)
    try simp only [Act.put, List.setIfInBounds_toArray, List.set_cons_zero, List.set_cons_succ]
    refine take_lit (i := 3) (v := ?_) rfl (by kernel_rfl) (by kernel_rfl) (by kernel_rfl) (fun _ _ _ h => h) (Or.inl ⟨by rfl, ?_⟩) (by assumption) ?_
    rotate_left
    · (intro w hSw; (try dsimp only at hSw); go_simp <;> with_reducible rfl)
    try simp only [Act.put, List.setIfInBounds_toArray, List.set_cons_zero, List.set_cons_succ]
    refine take_lit (i := 4) rfl (by kernel_rfl) (by kernel_rfl) (by kernel_rfl) (fun _ _ _ h => h) (Or.inr ⟨by rfl, rfl⟩) (by assumption) ?_
    try simp only [Act.put, List.setIfInBounds_toArray, List.set_cons_zero, List.set_cons_succ]
    refine take_lit (i := 5) rfl (by kernel_rfl) (by kernel_rfl) (by kernel_rfl) (fun _ _ _ h => h) (Or.inr ⟨by rfl, rfl⟩) (by assumption) ?_
    try simp only [Act.put, List.setIfInBounds_toArray, List.set_cons_zero, List.set_cons_succ]
    refine take_lit (i := 6) rfl (by kernel_rfl) (by kernel_rfl) (by kernel_rfl) (fun _ _ _ h => h) (Or.inr ⟨by rfl, rfl⟩) (by assumption) ?_
    try simp only [Act.put, List.setIfInBounds_toArray, List.set_cons_zero, List.set_cons_succ]
    refine take_lit (i := 7) rfl (by kernel_rfl) (by kernel_rfl) (by kernel_rfl) (fun _ _ _ h => h) (Or.inr ⟨by rfl, rfl⟩) (by assumption) ?_
    try simp only [Act.put, List.setIfInBounds_toArray, List.set_cons_zero, List.set_cons_succ]
    refine take_lit (i := 8) rfl (by kernel_rfl) (by kernel_rfl) (by kernel_rfl) (fun _ _ _ h => h) (Or.inr ⟨by rfl, rfl⟩) (by assumption) ?_
    try simp only [Act.put, List.setIfInBounds_toArray, List.set_cons_zero, List.set_cons_succ]
    refine take_lit (i := 9) rfl (by kernel_rfl) (by kernel_rfl) (by kernel_rfl) (fun _ _ _ h => h) (Or.inr ⟨by rfl, rfl⟩) (by assumption) ?_
    try simp only [Act.put, List.setIfInBounds_toArray, List.set_cons_zero, List.set_cons_succ]
    refine take_lit (i := 10) rfl (by kernel_rfl) (by kernel_rfl) (by kernel_rfl) (fun _ _ _ h => h) (Or.inr ⟨by rfl, rfl⟩) (by assumption) ?_
    try simp only [Act.put, List.setIfInBounds_toArray, List.set_cons_zero, List.set_cons_succ]
    refine take_lit (i := 11) (v := ?_) rfl (by kernel_rfl) (by kernel_rfl) (by kernel_rfl) (fun _ _ _ h => h) (Or.inl ⟨by rfl, ?_⟩) (by assumption) ?_
    rotate_left
    · (intro w hSw; (try dsimp only at hSw); go_simp <;> with_reducible rfl)
    try simp only [Act.put, List.setIfInBounds_toArray, List.set_cons_zero, List.set_cons_succ]
    refine wpAnyH_done (by kernel_rfl) ?_ _
    refine NoPanic.normal ?_
    have hb2 := bt hb hHeld
    go_wp2_with fail
    go_ret
    exact ⟨rfl, hb2⟩
theorem sortS_one (g c : Nat) (fv : Value) (w : World) : Calls Try.prog 50 #[.slice (some ⟨g, 0, none⟩) 1 c, fv] w (Gives w (.tuple #[])) := by
  have hI := fun V => insert_one (some ⟨g, 0, none⟩) 1 c fv V (by omega)
  have hS : ∀ V, Calls Try.prog 66 #[.slice (some ⟨g, 0, none⟩) 1 c, .int .i64 1, fv] V (Gives V (.tuple #[])) := fun V => by
    go_enter Try.func66, Try.ntmps66
    go_wp2_with fail
    go_loopw [7, 8] (fun a b wr => a = .int .i64 0 ∧ b = .int .i64 20 ∧ V = wr) (fun _ _ _ => 0)
    case atStart => exact ⟨rfl, rfl, rfl⟩
    case round =>
      obtain ⟨rfl, rfl, rfl⟩ := hrel
      go_wp2_with (go_at_call 73; refine (hI _).mono ?_; rintro e w1 ⟨rfl, rfl⟩)
      go_loopw [6, 7, 8, 9] (fun a b c d wr => a = .int .i64 20 ∧ V = wr) (fun _ _ _ _ _ => 0)
      case atStart => exact ⟨rfl, rfl⟩
      case round =>
        obtain ⟨rfl, rfl⟩ := hrel
        go_wp2_with fail
        go_end0
        exact ⟨rfl, Below.refl _ _⟩
  go_enter Try.func50, Try.ntmps50
  go_wp2_with (go_at_call 66; refine (hS _).mono ?_; rintro e w1 ⟨rfl, k⟩)
  go_end0
  exact ⟨rfl, k⟩
theorem compact_one (g c : Nat) (fv : Value) (w : World) : Calls Try.prog 52 #[.slice (some ⟨g, 0, none⟩) 1 c, fv] w (Gives w (.slice (some ⟨g, 0, none⟩) 1 c)) := by
  go_enter Try.func52, Try.ntmps52
  go_wp2_with fail
  go_ret
  exact ⟨rfl, Below.refl _ _⟩
theorem own_grown (w : World) (Z : Array Value) (hZ : Z.size = 51) : kE.Own ((w.alloc (.cells (Builtin.zeroCells Z 1 ++ Builtin.zeroCells Z (grownCap w 1 0 36 - 1)) 36)).drew) w.heap.size (.slice (some ⟨w.heap.size, 0, none⟩) 0 (grownCap w 1 0 36)) [] ∧ Below w.heap.size w ((w.alloc (.cells (Builtin.zeroCells Z 1 ++ Builtin.zeroCells Z (grownCap w 1 0 36 - 1)) 36)).drew) := by
  have h1 := grownCap_ge w 1 0 36
  have h2 := grownCap_le_maxLen w 1 0 36 (by unfold maxLen; omega)
  have hr := Row.new w 36 (Builtin.zeroCells Z 1 ++ Builtin.zeroCells Z (grownCap w 1 0 36 - 1)).toList
  refine ⟨⟨by simp [Kd.cs], .inr ⟨w.heap.size, _, _, rfl, Nat.le_refl _, hr, Nat.zero_le _, h2, ?_, by simp [Kd.cs]⟩⟩, ((Below.refl _ _).alloc (Nat.le_refl _) _).drew⟩
  show (Builtin.zeroCells Z 1 ++ Builtin.zeroCells Z (grownCap w 1 0 36 - 1)).size = grownCap w 1 0 36 * 51
  rw [Array.size_append, size_zeroCells, size_zeroCells, hZ]
  omega
theorem grow_one (w : World) : Calls Try.prog 65 #[.slice none 0 0, .int .i64 1] w fun e w' => ∃ g c, e = .returned (.slice (some ⟨g, 0, none⟩) 0 c) ∧ kE.Own w' w.heap.size (.slice (some ⟨g, 0, none⟩) 0 c) [] ∧ Below w.heap.size w w' := by
  go_enter Try.func65, Try.ntmps65
  go_wp2_with fail
  go_ret
  exact ⟨_, _, rfl, (own_grown w _ rfl).1, (own_grown w _ rfl).2⟩
end Go.Proofs.Ytiihlgcafppehaa
