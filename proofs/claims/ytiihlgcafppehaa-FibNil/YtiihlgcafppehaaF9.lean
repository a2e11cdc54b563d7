/-
  todo: what is to be done about a pair.
-/
import Derived.Test.YtiihlgcafppehaaF8
import Derived.Test.YtiihlgcafppehaaFE
import Derived.Test.YtiihlgcafppehaaEv
namespace Go.Proofs.Ytiihlgcafppehaa
open Go.RowKit Go.Maps Go.Shelf
set_option linter.unusedSimpArgs false
set_option linter.unusedVariables false
set_option maxRecDepth 20000
theorem sStE {ops : Array Oper} {op : Oper} {a : Act} {w : World} {Q : Exit → Act → World → Prop} {K : Act → World → Prop} {E : Prop} (x y : Operand) (hw : Region.wanted op (yielded ops a.tmps) = true) (ho : op.op = .store 36 x y) (b : Nat) (n u : En) (hx : a.eval x = .pointer (some ⟨b, 0, none⟩)) (hy : a.eval y = eV n) (hr : Row w b 36 (ecs u))
    (h : ∀ W, w.grownBy W (some b) → Row W b 36 (ecs n) → K (a.put op.dst undef) W) : if Region.wanted op (yielded ops a.tmps) = true then Oper.wp Try.prog op a w K Q else E := by
  rw [if_pos hw]
  refine wp_store_mid _ x y ho b 0 _ hx hy (by simpa [ecs_len] using hr.there (n := 51) (by rw [ecs_len]; omega)) (by rw [infoEs]; simp [ecs_len]) (all_oneCell_toArray (ecs_one n)) (h _ (grownBy_setCells b _ _ _) ?_)
  have := Row.setCells (ecs n) [] w (ecs u) hr (by rw [ecs_len, ecs_len])
  simpa using this
section
variable {ops : Array Oper} {rest : List Oper} {op : Oper} {a : Act} {w : World} {Q : Exit → Act → World → Prop}
theorem bdOp (i : Int) (y : Operand) (n : En) (hw : Region.wanted op (yielded ops a.tmps) = true) (ho : op.op = .build 52 #[(0, .const (.int .i64 i)), (1, y)]) (hy : a.eval y = eV n)
    (h : wpList Try.prog ops Q rest (a.put op.dst (oV ⟨i, n⟩)) w) : wpList Try.prog ops Q (op :: rest) a w :=
  wpList_step fun K hK => by
    rw [if_pos hw]
    have e1 : a.eval (.const (.int .i64 i)) = .int .i64 i := rfl
    unfold Oper.wp execOp
    simp only [ho, List.map_toArray, List.map_cons, List.map_nil, e1, hy, Sem.run_bind, bdO, Result.andThen_ok, Sem.run_pure]
    exact hK _ _ h
end
/-- What is to be done about a pair: the kernel's entry, the entry that is wanted. -/
def todO (h e : Option En) : Option Oq := match h, e with
  | some o, none => some ⟨3, o⟩
  | none, some e => some ⟨1, e⟩
  | some o, some e => if eqEn o e = true then none else some ⟨2, e⟩
  | none, none => none
def todR (W H : List En) (p : Pr) : Option Oq := todO (getN mE H p) (getN mE W p)
set_option maxHeartbeats 8000000 in
theorem todo_any {w : World} {f : Nat} {x : Fv} {W H : List En} {A : List (Pr × Int)} (h : Fb w f x W H A) (p : Pr) (hi : wfQ p) : Calls Try.prog 41 #[.pointer (some ⟨f, 0, none⟩), (Value.agg (qcells p).toArray)] w (Gives w (.tuple #[oV ((todR W H p).getD zeroO), .bool (todR W H p).isSome])) := by
  have hlH : ∀ V, Below w.heap.size w V → (Instr.lookup 67 (.map (some x.mH)) (Value.agg (qcells p).toArray) true).run Try.prog V = .ok (.tuple #[eV ((getN mE H p).getD zeroE), .bool (getN mE H p).isSome]) V := fun V hV => (h.mh.below hV h.mh.lt).look hi
  have hlW : ∀ V, Below w.heap.size w V → (Instr.lookup 67 (.map (some x.mW)) (Value.agg (qcells p).toArray) true).run Try.prog V = .ok (.tuple #[eV ((getN mE W p).getD zeroE), .bool (getN mE W p).isSome]) V := fun V hV => (h.mw.below hV h.mw.lt).look hi
  have HR : Hid (todR W H p = todO (getN mE H p) (getN mE W p)) := rfl
  have hr := h.row
  have ht := hr.lt
  generalize todR W H p = R at *
  generalize getN mE H p = oh at *
  generalize getN mE W p = oe at *
  clear h hi
  have r0 := Row.new w 34 (qcells p)
  have bA := ba w (.cells (qcells p).toArray 34)
  go_enter Try.func41, Try.ntmps41
  go_upto_region 1 with (first
    | (refine alG infoOz rfl rfl ?_; intro g4 W1 hge hgl hB1 r4))
  have hB : Below w.heap.size w W1 := bt bA hB1
  have rp : Row W1 w.heap.size 34 (qcells p) := r0.below hB1 r0.lt
  have hg4 : w.heap.size < g4 := by simp at hge; omega
  clear r0 bA hB1 hge
  have HK : Hid (∀ V, Below W1.heap.size W1 V → V.cell? ⟨f, 0, none⟩ = some (.map (some x.mW)) ∧ V.cell? ⟨f, 1, none⟩ = some (.map (some x.mH))) := fun V hV => ⟨(hr.below (bt hB hV) ht).f0, (hr.below (bt hB hV) ht).f1⟩
  have hlH1 : ∀ V, Below W1.heap.size W1 V → _ := fun V hV => hlH V (bt hB hV)
  have hlW1 : ∀ V, Below W1.heap.size W1 V → _ := fun V hV => hlW V (bt hB hV)
  have hrpl := rp.lt
  have hr4l := r4.lt
  clear hlH hlW hr ht
  refine wp_region_noPanic ?_
  refine wp_region_held_drew (S := fun V => Below W1.heap.size W1 V) (by kernel_rfl) ((Below.refl _ _).drew) (fun hHeld => ?_)
  refine take_lit (i := 0) (v := ?_) rfl (by kernel_rfl) (by kernel_rfl) (by kernel_rfl) (fun _ _ _ h => h) (Or.inl ⟨by rfl, ?_⟩) (by assumption) ?_
  rotate_left
  · (intro w hSw; (try dsimp only at hSw); go_simp <;> with_reducible rfl)
  try simp only [Act.put, List.setIfInBounds_toArray, List.set_cons_zero, List.set_cons_succ]
  refine take_lit (i := 1) (v := ?_) rfl (by kernel_rfl) (by kernel_rfl) (by kernel_rfl) (fun _ _ _ h => h) (Or.inl ⟨by rfl, ?_⟩) (by assumption) ?_
  rotate_left
  · (intro w hSw; (try dsimp only at hSw); go_simp <;> with_reducible rfl)
  try simp only [Act.put, List.setIfInBounds_toArray, List.set_cons_zero, List.set_cons_succ]
  refine take_lit (i := 2) (v := ?_) rfl (by kernel_rfl) (by kernel_rfl) (by kernel_rfl) (fun _ _ _ h => h) (Or.inl ⟨by rfl, ?_⟩) (by assumption) ?_
  rotate_left
  · (intro w hSw; (try dsimp only at hSw); go_simp <;> with_reducible rfl)
  try simp only [Act.put, List.setIfInBounds_toArray, List.set_cons_zero, List.set_cons_succ]
  refine take_lit (i := 3) (v := ?_) rfl (by kernel_rfl) (by kernel_rfl) (by kernel_rfl) (fun _ _ _ h => h) (Or.inl ⟨by rfl, ?_⟩) (by assumption) ?_
  rotate_left
  · (intro w hSw; (try dsimp only at hSw); have z := (HK.out _ hSw).2; go_simp <;> with_reducible rfl)
  try simp only [Act.put, List.setIfInBounds_toArray, List.set_cons_zero, List.set_cons_succ]
  refine take_lit (i := 4) rfl (by kernel_rfl) (by kernel_rfl) (by kernel_rfl) (fun _ _ _ h => h) (yQ p (fun w h => (rp.below h hrpl).range) (by rfl) rfl rfl) (by assumption) ?_
  try simp only [Act.put, List.setIfInBounds_toArray, List.set_cons_zero, List.set_cons_succ]
  refine take_lit (i := 5) (v := ?_) rfl (by kernel_rfl) (by kernel_rfl) (by kernel_rfl) (fun _ _ _ h => h) (Or.inl ⟨by rfl, ?_⟩) (by assumption) ?_
  rotate_left
  · (intro w hSw; (try dsimp only at hSw); have z := hlH1 _ hSw; go_simp <;> with_reducible rfl)
  try simp only [Act.put, List.setIfInBounds_toArray, List.set_cons_zero, List.set_cons_succ]
  refine take_lit (i := 6) (v := ?_) rfl (by kernel_rfl) (by kernel_rfl) (by kernel_rfl) (fun _ _ _ h => h) (Or.inl ⟨by rfl, ?_⟩) (by assumption) ?_
  rotate_left
  · (intro w hSw; (try dsimp only at hSw); go_simp <;> with_reducible rfl)
  try simp only [Act.put, List.setIfInBounds_toArray, List.set_cons_zero, List.set_cons_succ]
  refine take_lit (i := 7) (v := ?_) rfl (by kernel_rfl) (by kernel_rfl) (by kernel_rfl) (fun _ _ _ h => h) (Or.inl ⟨by rfl, ?_⟩) (by assumption) ?_
  rotate_left
  · (intro w hSw; (try dsimp only at hSw); go_simp <;> with_reducible rfl)
  try simp only [Act.put, List.setIfInBounds_toArray, List.set_cons_zero, List.set_cons_succ]
  refine take_lit (i := 8) (v := ?_) rfl (by kernel_rfl) (by kernel_rfl) (by kernel_rfl) (fun _ _ _ h => h) (Or.inl ⟨by rfl, ?_⟩) (by assumption) ?_
  rotate_left
  · (intro w hSw; (try dsimp only at hSw); go_simp <;> with_reducible rfl)
  try simp only [Act.put, List.setIfInBounds_toArray, List.set_cons_zero, List.set_cons_succ]
  refine wpAnyH_ready (rs := [9]) (by kernel_rfl) (by simp) ?_
  refine cons_lit rfl (fun K hK => ?_) ?_
  · skip
    refine sAlG infoEz (by rfl) rfl ?_
    intro g6 W2 hge2 hgl2 hB2 r6
    refine hK.out _ _ ?_ (fun hHeld => ?_)
    · exact bt hHeld hB2
    clear hK K
    try simp only [Act.put, List.setIfInBounds_toArray, List.set_cons_zero, List.set_cons_succ]
    refine wpAnyH_ready (rs := [10]) (by kernel_rfl) (by simp) ?_
    refine cons_lit rfl (fun K hK => ?_) ?_
    · skip
      refine sStE (.tmp 6) (.tmp 17) (by rfl) rfl g6 (oh.getD zeroE) _ rfl rfl r6 ?_
      intro W3 hg3 q6
      refine hK.out _ _ ?_ (fun hHeld => ?_)
      · exact grown_below hg3 hHeld (show W1.heap.size ≤ g6 from hge2) hHeld.size
      clear hK K
      try simp only [Act.put, List.setIfInBounds_toArray, List.set_cons_zero, List.set_cons_succ]
      refine take_lit (i := 11) (v := ?_) rfl (by kernel_rfl) (by kernel_rfl) (by kernel_rfl) (fun _ _ _ h => h) (Or.inl ⟨by rfl, ?_⟩) (by assumption) ?_
      rotate_left
      · (intro w hSw; (try dsimp only at hSw); go_simp <;> with_reducible rfl)
      try simp only [Act.put, List.setIfInBounds_toArray, List.set_cons_zero, List.set_cons_succ]
      refine wpAnyH_done (by kernel_rfl) ?_ _
      refine NoPanic.normal ?_
      have HE : Hid (∀ V, Below W3.heap.size W3 V → Below W1.heap.size W1 V) := fun V hV => bt hHeld hV
      have hq6 := q6.lt
      have h16 : W1.heap.size ≤ g6 := hge2
      clear hlH1 hge2 r6 hB2 hg3 hgl2
      go_upto_region 2 with fail
      refine wp_region_noPanic ?_
      refine wp_region_held_drew (S := fun V => Below W3.heap.size W3 V) (by kernel_rfl) ((Below.refl _ _).drew) (fun hHeld => ?_)
      refine take_lit (i := 0) (v := ?_) rfl (by kernel_rfl) (by kernel_rfl) (by kernel_rfl) (fun _ _ _ h => h) (Or.inl ⟨by rfl, ?_⟩) (by assumption) ?_
      rotate_left
      · (intro w hSw; (try dsimp only at hSw); go_simp <;> with_reducible rfl)
      try simp only [Act.put, List.setIfInBounds_toArray, List.set_cons_zero, List.set_cons_succ]
      refine take_lit (i := 1) (v := ?_) rfl (by kernel_rfl) (by kernel_rfl) (by kernel_rfl) (fun _ _ _ h => h) (Or.inl ⟨by rfl, ?_⟩) (by assumption) ?_
      rotate_left
      · (intro w hSw; (try dsimp only at hSw); go_simp <;> with_reducible rfl)
      try simp only [Act.put, List.setIfInBounds_toArray, List.set_cons_zero, List.set_cons_succ]
      refine take_lit (i := 2) (v := ?_) rfl (by kernel_rfl) (by kernel_rfl) (by kernel_rfl) (fun _ _ _ h => h) (Or.inl ⟨by rfl, ?_⟩) (by assumption) ?_
      rotate_left
      · (intro w hSw; (try dsimp only at hSw); go_simp <;> with_reducible rfl)
      try simp only [Act.put, List.setIfInBounds_toArray, List.set_cons_zero, List.set_cons_succ]
      refine take_lit (i := 3) (v := ?_) rfl (by kernel_rfl) (by kernel_rfl) (by kernel_rfl) (fun _ _ _ h => h) (Or.inl ⟨by rfl, ?_⟩) (by assumption) ?_
      rotate_left
      · (intro w hSw; (try dsimp only at hSw); have z := (HK.out _ (HE.out _ hSw)).1; go_simp <;> with_reducible rfl)
      try simp only [Act.put, List.setIfInBounds_toArray, List.set_cons_zero, List.set_cons_succ]
      refine take_lit (i := 4) rfl (by kernel_rfl) (by kernel_rfl) (by kernel_rfl) (fun _ _ _ h => h) (yQ p (fun w h => (rp.below (HE.out _ h) hrpl).range) (by rfl) rfl rfl) (by assumption) ?_
      try simp only [Act.put, List.setIfInBounds_toArray, List.set_cons_zero, List.set_cons_succ]
      refine take_lit (i := 5) (v := ?_) rfl (by kernel_rfl) (by kernel_rfl) (by kernel_rfl) (fun _ _ _ h => h) (Or.inl ⟨by rfl, ?_⟩) (by assumption) ?_
      rotate_left
      · (intro w hSw; (try dsimp only at hSw); have z := hlW1 _ (HE.out _ hSw); go_simp <;> with_reducible rfl)
      try simp only [Act.put, List.setIfInBounds_toArray, List.set_cons_zero, List.set_cons_succ]
      refine take_lit (i := 6) (v := ?_) rfl (by kernel_rfl) (by kernel_rfl) (by kernel_rfl) (fun _ _ _ h => h) (Or.inl ⟨by rfl, ?_⟩) (by assumption) ?_
      rotate_left
      · (intro w hSw; (try dsimp only at hSw); go_simp <;> with_reducible rfl)
      try simp only [Act.put, List.setIfInBounds_toArray, List.set_cons_zero, List.set_cons_succ]
      refine take_lit (i := 7) (v := ?_) rfl (by kernel_rfl) (by kernel_rfl) (by kernel_rfl) (fun _ _ _ h => h) (Or.inl ⟨by rfl, ?_⟩) (by assumption) ?_
      rotate_left
      · (intro w hSw; (try dsimp only at hSw); go_simp <;> with_reducible rfl)
      try simp only [Act.put, List.setIfInBounds_toArray, List.set_cons_zero, List.set_cons_succ]
      refine take_lit (i := 8) (v := ?_) rfl (by kernel_rfl) (by kernel_rfl) (by kernel_rfl) (fun _ _ _ h => h) (Or.inl ⟨by rfl, ?_⟩) (by assumption) ?_
      rotate_left
      · (intro w hSw; (try dsimp only at hSw); go_simp <;> with_reducible rfl)
      try simp only [Act.put, List.setIfInBounds_toArray, List.set_cons_zero, List.set_cons_succ]
      refine wpAnyH_ready (rs := [9]) (by kernel_rfl) (by simp) ?_
      refine cons_lit rfl (fun K hK => ?_) ?_
      · skip
        refine sAlG infoEz (by rfl) rfl ?_
        intro g8 W4 hge4 hgl4 hB4 r8
        refine hK.out _ _ ?_ (fun hHeld => ?_)
        · exact bt hHeld hB4
        clear hK K
        try simp only [Act.put, List.setIfInBounds_toArray, List.set_cons_zero, List.set_cons_succ]
        refine wpAnyH_ready (rs := [10]) (by kernel_rfl) (by simp) ?_
        refine cons_lit rfl (fun K hK => ?_) ?_
        · skip
          refine sStE (.tmp 8) (.tmp 26) (by rfl) rfl g8 (oe.getD zeroE) _ rfl rfl r8 ?_
          intro W5 hg5 q8
          refine hK.out _ _ ?_ (fun hHeld => ?_)
          · exact grown_below hg5 hHeld (show W3.heap.size ≤ g8 from hge4) hHeld.size
          clear hK K
          try simp only [Act.put, List.setIfInBounds_toArray, List.set_cons_zero, List.set_cons_succ]
          refine take_lit (i := 11) (v := ?_) rfl (by kernel_rfl) (by kernel_rfl) (by kernel_rfl) (fun _ _ _ h => h) (Or.inl ⟨by rfl, ?_⟩) (by assumption) ?_
          rotate_left
          · (intro w hSw; (try dsimp only at hSw); go_simp <;> with_reducible rfl)
          try simp only [Act.put, List.setIfInBounds_toArray, List.set_cons_zero, List.set_cons_succ]
          refine wpAnyH_done (by kernel_rfl) ?_ _
          refine NoPanic.normal ?_
          have k5 : Below W1.heap.size W1 W5 := HE.out _ hHeld
          have q65 := q6.below hHeld hq6
          have q45 := r4.below k5 hr4l
          have kw : Below w.heap.size w W5 := bt hB k5
          have n48 : w.heap.size ≤ g4 := Nat.le_of_lt hg4
          clear hHeld HE hlW1 HK rp r4 r8 hB4 hg5 hge4 hgl4 hB k5 q6
          cases oh with
          | none =>
            cases oe with
            | none =>
              have hEQ : ∀ V, (binOp .neq 36 (eV zeroE) (eV zeroE)).run Try.prog V = .ok (.bool false) V := fun V => by rw [run_neqE, eqEn_self]; rfl
              have gEQ := fun op a b V => guardE op a b zeroE zeroE V
              go_wp2_with (first
                | ((with_reducible refine stO (.tmp 4) (.tmp 50) ?_ ?_ g4 zeroO zeroO ?_ ?_ ?_ ?_); (focus rfl); (focus rfl); (focus rfl); (focus rfl); (focus exact q45); intro W7 g7 r7)
                | ((with_reducible refine bdG [] ?_ ?_ ?_ ?_); (focus rfl); (focus rfl); (focus exact bdO0 _))
                | ((with_reducible refine ldE (.tmp 6) ?_ ?_ g6 0 zeroE ?_ ?_ ?_); (focus rfl); (focus rfl); (focus rfl); (focus exact q65.en))
                | ((with_reducible refine ldE (.tmp 8) ?_ ?_ g8 0 zeroE ?_ ?_ ?_); (focus rfl); (focus rfl); (focus rfl); (focus exact q8.en)))
              exact bodyPost_ret (retCT rfl _ _ 0 rfl (lvO r7)) rfl ⟨by rw [HR.out]; rfl, grown_below g7 kw n48 kw.size⟩
            | some e =>
              go_wp2_with (first
                | ((with_reducible refine stO (.tmp 4) (.tmp 43) ?_ ?_ g4 ⟨1, e⟩ zeroO ?_ ?_ ?_ ?_); (focus rfl); (focus rfl); (focus rfl); (focus rfl); (focus exact q45); intro W7 g7 r7)
                | ((with_reducible refine bdOp 1 (.tmp 42) e ?_ ?_ ?_ ?_); (focus rfl); (focus rfl); (focus (repeat (first | with_reducible refine ev_ne ?_ rfl | with_reducible refine ev_no ?_ | (with_reducible refine ev_eq (n := 51) ?_ rfl; repeat (first | with_reducible refine sz_put ?_ | with_reducible refine sz_no ?_ | rfl)) | rfl))))
                | ((with_reducible refine ldE (.tmp 8) ?_ ?_ g8 0 e ?_ ?_ ?_); (focus rfl); (focus rfl); (focus rfl); (focus exact q8.en)))
              exact bodyPost_ret (retCT rfl _ _ 0 rfl (lvO r7)) rfl ⟨by rw [HR.out]; rfl, grown_below g7 kw n48 kw.size⟩
          | some o =>
            cases oe with
            | none =>
              go_wp2_with (first
                | ((with_reducible refine stO (.tmp 4) (.tmp 35) ?_ ?_ g4 ⟨3, o⟩ zeroO ?_ ?_ ?_ ?_); (focus rfl); (focus rfl); (focus rfl); (focus rfl); (focus exact q45); intro W7 g7 r7)
                | ((with_reducible refine bdOp 3 (.tmp 34) o ?_ ?_ ?_ ?_); (focus rfl); (focus rfl); (focus (repeat (first | with_reducible refine ev_ne ?_ rfl | with_reducible refine ev_no ?_ | (with_reducible refine ev_eq (n := 51) ?_ rfl; repeat (first | with_reducible refine sz_put ?_ | with_reducible refine sz_no ?_ | rfl)) | rfl))))
                | ((with_reducible refine ldE (.tmp 6) ?_ ?_ g6 0 o ?_ ?_ ?_); (focus rfl); (focus rfl); (focus rfl); (focus exact q65.en)))
              exact bodyPost_ret (retCT rfl _ _ 0 rfl (lvO r7)) rfl ⟨by rw [HR.out]; rfl, grown_below g7 kw n48 kw.size⟩
            | some e =>
              have hEQ : ∀ V, (binOp .neq 36 (eV o) (eV e)).run Try.prog V = .ok (.bool (!eqEn o e)) V := fun V => run_neqE o e V
              have gEQ := fun op a b V => guardE op a b o e V
              cases hb : eqEn o e with
              | true =>
                have HR2 : Hid (todO (some o) (some e) = none) := by show (if eqEn o e = true then none else some (⟨2, e⟩ : Oq)) = none; rw [if_pos hb]
                rw [hb] at hEQ
                go_wp2_with (first
                  | ((with_reducible refine stO (.tmp 4) (.tmp 50) ?_ ?_ g4 zeroO zeroO ?_ ?_ ?_ ?_); (focus rfl); (focus rfl); (focus rfl); (focus rfl); (focus exact q45); intro W7 g7 r7)
                  | ((with_reducible refine bdG [] ?_ ?_ ?_ ?_); (focus rfl); (focus rfl); (focus exact bdO0 _))
                  | ((with_reducible refine ldE (.tmp 6) ?_ ?_ g6 0 o ?_ ?_ ?_); (focus rfl); (focus rfl); (focus rfl); (focus exact q65.en))
                  | ((with_reducible refine ldE (.tmp 8) ?_ ?_ g8 0 e ?_ ?_ ?_); (focus rfl); (focus rfl); (focus rfl); (focus exact q8.en)))
                exact bodyPost_ret (retCT rfl _ _ 0 rfl (lvO r7)) rfl ⟨by rw [HR.out, HR2.out]; rfl, grown_below g7 kw n48 kw.size⟩
              | false =>
                have HR2 : Hid (todO (some o) (some e) = some ⟨2, e⟩) := by show (if eqEn o e = true then none else some (⟨2, e⟩ : Oq)) = _; rw [hb]; rfl
                rw [hb] at hEQ
                go_wp2_with (first
                  | ((with_reducible refine stO (.tmp 4) (.tmp 49) ?_ ?_ g4 ⟨2, e⟩ zeroO ?_ ?_ ?_ ?_); (focus rfl); (focus rfl); (focus rfl); (focus rfl); (focus exact q45); intro W7 g7 r7)
                  | ((with_reducible refine bdOp 2 (.tmp 48) e ?_ ?_ ?_ ?_); (focus rfl); (focus rfl); (focus (repeat (first | with_reducible refine ev_ne ?_ rfl | with_reducible refine ev_no ?_ | (with_reducible refine ev_eq (n := 51) ?_ rfl; repeat (first | with_reducible refine sz_put ?_ | with_reducible refine sz_no ?_ | rfl)) | rfl))))
                  | ((with_reducible refine ldE (.tmp 6) ?_ ?_ g6 0 o ?_ ?_ ?_); (focus rfl); (focus rfl); (focus rfl); (focus exact q65.en))
                  | ((with_reducible refine ldE (.tmp 8) ?_ ?_ g8 0 e ?_ ?_ ?_); (focus rfl); (focus rfl); (focus rfl); (focus exact q8.en)))
                exact bodyPost_ret (retCT rfl _ _ 0 rfl (lvO r7)) rfl ⟨by rw [HR.out, HR2.out]; rfl, grown_below g7 kw n48 kw.size⟩
        exact AllReadyH.nil
      exact AllReadyH.nil
    exact AllReadyH.nil
  exact AllReadyH.nil
end Go.Proofs.Ytiihlgcafppehaa
