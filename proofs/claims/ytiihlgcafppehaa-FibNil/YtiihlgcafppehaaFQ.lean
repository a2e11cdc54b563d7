/-
  The entries of one Dst, where there is one entry; what Expand makes of one and of none.
-/
import Derived.Test.YtiihlgcafppehaaFP
namespace Go.Proofs.Ytiihlgcafppehaa
open Go.RowKit Go.Maps Go.Shelf
set_option linter.unusedSimpArgs false
set_option linter.unusedVariables false
set_option maxRecDepth 20000
set_option maxHeartbeats 4000000 in
theorem sameDst_one {w : World} {g c : Nat} {e : En} (hl : LE w g 0 e) (hg : g < w.heap.size) : Calls Try.prog 32 #[.slice (some ⟨g, 0, none⟩) 1 c] w (Gives w (.slice (some ⟨g, 0, none⟩) 1 c)) := by
  go_enter Try.func32, Try.ntmps32
  go_wp2_with fail
  go_loopw [7] (fun v wr => ∃ j : Int, v = .int .i64 j ∧ (j = 0 ∨ j = 1) ∧ Below w.heap.size w wr) (fun v _ => 1 - (intOf v).toNat)
  case atStart => exact ⟨0, rfl, .inl rfl, Below.refl _ _⟩
  case round =>
    obtain ⟨j, rfl, hj, hb⟩ := hrel
    rcases hj with rfl | rfl
    · have hE := hl.below hb hg
      have hgl : g < wr.heap.size := Nat.lt_of_lt_of_le hg hb.size
      go_upto_region 4 with (first
        | (have kk := q4; (with_reducible refine stE (.tmp 4) (.tmp 11) ?_ ?_ g4 e zeroE ?_ ?_ ?_ ?_); (focus rfl); (focus rfl); (focus rfl); (focus rfl); (focus exact q4); intro W2 gr4 r4; have b4 := grown_below gr4 b4' h4 b4'.size; clear q4)
        | (have kk := hE; (with_reducible refine alG infoEz ?_ ?_ ?_); (focus rfl); (focus rfl); intro g4 W1 h4 l4 b4' q4)
        | ((with_reducible refine ldE (.tmp 10) ?_ ?_ g 0 e ?_ ?_ ?_); (focus rfl); (focus rfl); (focus rfl); (focus exact hE)))
      have hE2 := hE.below b4 hgl
      have hg2 : g < W2.heap.size := Nat.lt_of_lt_of_le hgl b4.size
      have hg4 := r4.lt
      have hEQ : ∀ V, (binOp .neq 32 (Value.agg (pcells e.p.d).toArray) (Value.agg (pcells e.p.d).toArray)).run Try.prog V = .ok (.bool false) V := fun V => by rw [run_neqP]; simp
      have gEQ := fun op a b V => guardP' op a b e.p.d e.p.d V
      have b24 := bt hb b4
      clear hb b4 b4' gr4 hE
      refine wp_region_noPanic ?_
      refine wp_region_held_drew (S := fun V => Below W2.heap.size W2 V) (by kernel_rfl) ((Below.refl _ _).drew) (fun hHeld => ?_)
      refine take_lit (i := 0) (v := ?_) rfl (by kernel_rfl) (by kernel_rfl) (by kernel_rfl) (fun _ _ _ h => h) (Or.inl ⟨by rfl, ?_⟩) (by assumption) ?_
      rotate_left
      · (intro w hSw; (try dsimp only at hSw); go_simp <;> with_reducible rfl)
      try simp only [Act.put, List.setIfInBounds_toArray, List.set_cons_zero, List.set_cons_succ]
      refine take_lit (i := 1) (v := ?_) rfl (by kernel_rfl) (by kernel_rfl) (by kernel_rfl) (fun _ _ _ h => h) (Or.inl ⟨by rfl, ?_⟩) (by assumption) ?_
      rotate_left
      · (intro w hSw; (try dsimp only at hSw); go_simp <;> with_reducible rfl)
      try simp only [Act.put, List.setIfInBounds_toArray, List.set_cons_zero, List.set_cons_succ]
      refine take_lit (i := 2) rfl (by kernel_rfl) (by kernel_rfl) (by kernel_rfl) (fun _ _ _ h => h) (yP e.p.d (fun V h => (r4.below h hg4).en.d) (by rfl) rfl rfl) (by assumption) ?_
      try simp only [Act.put, List.setIfInBounds_toArray, List.set_cons_zero, List.set_cons_succ]
      refine take_lit (i := 3) (v := ?_) rfl (by kernel_rfl) (by kernel_rfl) (by kernel_rfl) (fun _ _ _ h => h) (Or.inl ⟨by rfl, ?_⟩) (by assumption) ?_
      rotate_left
      · (intro w hSw; (try dsimp only at hSw); go_simp <;> with_reducible rfl)
      try simp only [Act.put, List.setIfInBounds_toArray, List.set_cons_zero, List.set_cons_succ]
      refine take_lit (i := 4) (v := ?_) rfl (by kernel_rfl) (by kernel_rfl) (by kernel_rfl) (fun _ _ _ h => h) (Or.inl ⟨by rfl, ?_⟩) (by assumption) ?_
      rotate_left
      · (intro w hSw; (try dsimp only at hSw); go_simp <;> with_reducible rfl)
      try simp only [Act.put, List.setIfInBounds_toArray, List.set_cons_zero, List.set_cons_succ]
      refine take_lit (i := 5) (v := ?_) rfl (by kernel_rfl) (by kernel_rfl) (by kernel_rfl) (fun _ _ _ h => h) (Or.inl ⟨by rfl, ?_⟩) (by assumption) ?_
      rotate_left
      · (intro w hSw; (try dsimp only at hSw); go_simp <;> with_reducible rfl)
      try simp only [Act.put, List.setIfInBounds_toArray, List.set_cons_zero, List.set_cons_succ]
      refine take_lit (i := 6) (v := ?_) rfl (by kernel_rfl) (by kernel_rfl) (by kernel_rfl) (fun _ _ _ h => h) (Or.inl ⟨by rfl, ?_⟩) (by assumption) ?_
      rotate_left
      · (intro w hSw; (try dsimp only at hSw); go_simp <;> with_reducible rfl)
      try simp only [Act.put, List.setIfInBounds_toArray, List.set_cons_zero, List.set_cons_succ]
      refine take_lit (i := 7) rfl (by kernel_rfl) (by kernel_rfl) (by kernel_rfl) (fun _ _ _ h => h) (yP e.p.d (fun V h => (hE2.below h hg2).d) (by rfl) rfl rfl) (by assumption) ?_
      try simp only [Act.put, List.setIfInBounds_toArray, List.set_cons_zero, List.set_cons_succ]
      refine take_lit (i := 8) (v := ?_) rfl (by kernel_rfl) (by kernel_rfl) (by kernel_rfl) (fun _ _ _ h => h) (Or.inl ⟨by rfl, ?_⟩) (by assumption) ?_
      rotate_left
      · (intro w hSw; (try dsimp only at hSw); have z := hEQ w; have z2 := fun op x y => gEQ op x y w; go_simp <;> with_reducible rfl)
      try simp only [Act.put, List.setIfInBounds_toArray, List.set_cons_zero, List.set_cons_succ]
      refine wpAnyH_done (by kernel_rfl) ?_ _
      refine NoPanic.normal ?_
      have hb2 := bt b24 hHeld
      clear hHeld hEQ gEQ hE2 r4
      go_wp2_with fail
      go_roundw
      case rel => exact ⟨1, rfl, .inr rfl, hb2⟩
      case measure => simp [intOf]
    · go_wp2_with fail
      go_ret
      exact ⟨rfl, hb⟩
theorem sorted_fib1 {w : World} {mb : Nat} {e : En} (h : Mp mE w mb [e]) : Calls Try.prog 30 #[.map (some mb)] w fun e' w' => ∃ g c, e' = .returned (.slice (some ⟨g, 0, none⟩) 1 c) ∧ kE.Own w' w.heap.size (.slice (some ⟨g, 0, none⟩) 1 c) [e] ∧ Below w.heap.size w w' := by
  refine (sorted_fib h (by simp)).mono ?_
  rintro e' w' ⟨a, c, K, rfl, hp, _, ho, hb⟩
  obtain rfl := List.perm_singleton.1 hp
  obtain ⟨a7, c7, e7, hat7⟩ := Kd.own_at ho
  obtain ⟨g7, e8, _⟩ := hat7 (by simp)
  simp only [Value.slice.injEq] at e7
  obtain ⟨rfl, _, rfl⟩ := e7
  subst e8
  exact ⟨g7, c, rfl, ho, hb⟩
theorem sorted_fib0 {w : World} {mb : Nat} (h : Mp mE w mb []) : Calls Try.prog 30 #[.map (some mb)] w fun e' w' => ∃ a c, e' = .returned (.slice a 0 c) ∧ Below w.heap.size w w' := by
  refine (sorted_fib h (by simp)).mono ?_
  rintro e' w' ⟨a, c, K, rfl, hp, _, ho, hb⟩
  obtain rfl := List.perm_nil.1 hp
  exact ⟨a, c, rfl, hb⟩
theorem run_mkI (w : World) : (Instr.makeMap 65 none).run Try.prog w = .ok (.map (some w.heap.size)) (w.alloc (.map #[] 0)) := by kernel_rfl
theorem bsS1 (s : Option Addr) (n c : Nat) (w : World) : (Instr.buildSlice 71 1 #[(0, .slice s n c)]).run Try.prog w = .ok (.slice (some ⟨w.heap.size, 0, none⟩) 1 1) (w.alloc (.cells #[.slice s n c] 22)) := by kernel_rfl
theorem famP_key (p : Pf) : keyOf Try.prog 3 (.int .i64 (Fa.famP p)) = some (.int .i64 (Fa.famP p)) := keyOf_int_mk Try.underlying3 (by unfold Fa.famP; split <;> decide)
abbrev MpI (w : World) (mb : Nat) : Prop := w.ownsMap Try.prog 3 elV mb 0 (.map [])
theorem MpI.below {w w' : World} {mb : Nat} (h : MpI w mb) (hb : Below w.heap.size w w') : MpI w' mb :=
  World.ownsMap.kept h (row := none) ⟨hb.os, hb.tape, hb.output, hb.size, fun i hi _ => hb.block i hi⟩ (by simp)
theorem MpI.look {w : World} {mb : Nat} (h : MpI w mb) (p : Pf) : (Instr.lookup 65 (.map (some mb)) (.int .i64 (Fa.famP p)) false).run Try.prog w = .ok (.slice none 0 0) w := by
  obtain ⟨v, ps, hr, hv⟩ := World.ownsMap.lookup h (int_keyed Try.underlying3) Try.underlying65 (z := .slice none 0 0) (by kernel_rfl) rfl (famP_key p)
  have e1 := elV_inv hv
  rw [hr, e1]
theorem MpI.put {w : World} {mb : Nat} (h : MpI w mb) (p : Pf) (s : Value) : ∃ w', (Instr.mapUpdate 65 (.map (some mb)) (.int .i64 (Fa.famP p)) s).run Try.prog w = .ok () w' ∧ w.grownBy w' (some mb) := by
  obtain ⟨w', h1, _, h3⟩ := World.ownsMap.update h (int_keyed Try.underlying3) Try.underlying65 (by unfold maxLen; omega) (famP_key p) (val := s) (d := .held s) (ps := []) rfl
  exact ⟨w', h1, h3⟩
theorem infoSl : (Try.prog.info? 22).map (fun i => (i.zero, i.size, i.bytes)) = some (some (.slice none 0 0), 1, 24) := by kernel_rfl
section
variable {ops : Array Oper} {rest : List Oper} {o : Oper} {a : Act} {w w' : World} {Q : Exit → Act → World → Prop}
theorem apS (s x : Operand) (hw : Region.wanted o (yielded ops a.tmps) = true) (ho : o.op = .call { callee := .builtin .append, args := #[s, x], argTypes := #[71, 71] })
    (hs : a.eval s = .slice none 0 0) (g c : Nat) (v : Value) (hv : v.oneCell' = true) (hx : a.eval x = .slice (some ⟨g, 0, none⟩) 1 c) (hr : Row w g 22 [v])
    (h : ∀ v' w', Below w.heap.size w w' → wpList Try.prog ops Q rest (a.put o.dst v') w') : wpList Try.prog ops Q (o :: rest) a w :=
  wpList_step fun K hK => by
    rw [if_pos hw]
    obtain ⟨i0, hi, hz0, hz1, hz2⟩ := info_parts infoSl
    refine wp_append_own w s x 71 ho w.heap.size 22 i0 (.slice none 0 0) 1 24 Try.underlying71 hi hz0 hz1 hz2 (by rfl) (by decide) _ 0 [] hs (World.ownsRow_nil _ _ _ _) ⟨g, 0, none⟩ 1 c [v] hx rfl (fun j u hu => ?_) (by simpa using hv) (by unfold maxLen; omega) (by omega) (Nat.le_refl _) (fun v' w' h1 h2 _ => hK _ _ (h v' w' ?_))
    · rw [Addr.add_mid]
      exact hr.range j u hu
    · exact ⟨h2.os, h2.tape, h2.output, h2.size, fun i hi => h2.block i hi (by simp [Value.ownBlock])⟩
end
end Go.Proofs.Ytiihlgcafppehaa
