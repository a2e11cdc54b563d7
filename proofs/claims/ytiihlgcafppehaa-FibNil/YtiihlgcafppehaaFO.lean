/-
  Expand of one entry.
-/
import Derived.Test.YtiihlgcafppehaaFN
namespace Go.Proofs.Ytiihlgcafppehaa
open Go.RowKit Go.Maps Go.Shelf
set_option linter.unusedSimpArgs false
set_option linter.unusedVariables false
set_option maxRecDepth 20000
section
variable {ops : Array Oper} {rest : List Oper} {o : Oper} {a : Act} {w w' : World} {Q : Exit → Act → World → Prop}
theorem apE (s x : Operand) (hw : Region.wanted o (yielded ops a.tmps) = true) (ho : o.op = .call { callee := .builtin .append, args := #[s, x], argTypes := #[22, 22] })
    (B : Nat) (v : Value) (l : List En) (hs : a.eval s = v) (hown : kE.Own w B v l) (g k c : Nat) (p : En) (hx : a.eval x = .slice (some ⟨g, k, none⟩) 1 c) (hr : LE w g k p) (hl : l.length ≤ 10000000) (hB : B ≤ w.heap.size)
    (h : ∀ v' w', kE.Own w' B v' (l ++ [p]) → w.grownBy w' v.ownBlock → wpList Try.prog ops Q rest (a.put o.dst v') w') : wpList Try.prog ops Q (o :: rest) a w :=
  wpList_step fun K hK => by
    rw [if_pos hw]
    obtain ⟨i0, hi, hz0, hz1, hz2⟩ := info_parts kE.info
    refine wp_append_own w s x 22 ho B 36 i0 (.agg (ecs zeroE).toArray) 51 72 Try.underlying22 hi hz0 hz1 hz2 (by simp [Value.cells, ecs_len]) (by decide) v l.length (kE.cs l) hs hown ⟨g, k, none⟩ 1 c (ecs p) hx (by rw [ecs_len]) (fun j u hu => ?_) (ecs_one p) (by unfold maxLen; omega) (by omega) hB (fun v' w' h1 h2 _ => hK _ _ (h v' w' ?_ h2))
    · rw [Addr.add_mid]
      exact hr j u hu
    · unfold Kd.Own
      rw [kE.cs_append, List.length_append, show kE.cs [p] = ecs p by simp [Kd.cs, kE]]
      exact h1
theorem apE0 (s x : Operand) (hw : Region.wanted o (yielded ops a.tmps) = true) (ho : o.op = .call { callee := .builtin .append, args := #[s, x], argTypes := #[22, 22] })
    (B : Nat) (v : Value) (l : List En) (hs : a.eval s = v) (hown : kE.Own w B v l) (hx : a.eval x = .slice none 0 0)
    (h : wpList Try.prog ops Q rest (a.put o.dst v) w) : wpList Try.prog ops Q (o :: rest) a w :=
  wpList_step fun K hK => by
    rw [if_pos hw]
    obtain ⟨i0, hi, hz0, hz1, hz2⟩ := info_parts kE.info
    have hrun := run_append_owned_none (P := Try.prog) (w := w) B 22 o.type 36 i0 51 Try.underlying22 hi v l.length (kE.cs l) hown
    have h2 := hK _ _ h
    unfold Oper.wp execOp
    simp only [ho, resolve, invoke, builtin, Sem.run_bind, Sem.run_pure, Result.andThen_ok, List.map_toArray, List.map_cons, List.map_nil, hs, hx, hrun]
    exact h2
end
set_option maxHeartbeats 8000000 in
theorem concat_one {w : World} {g c gs : Nat} {e : En} (hs : Row w gs 22 [.slice (some ⟨g, 0, none⟩) 1 c, .slice none 0 0]) (hl : LE w g 0 e) (hg : g < w.heap.size) : Calls Try.prog 49 #[.slice (some ⟨gs, 0, none⟩) 2 2] w fun e' w' => ∃ g' c', e' = .returned (.slice (some ⟨g', 0, none⟩) 1 c') ∧ kE.Own w' w.heap.size (.slice (some ⟨g', 0, none⟩) 1 c') [e] ∧ Below w.heap.size w w' := by
  have hG := grow_one w
  have c0 := hs.cell 0
  have c1 := hs.cell 1
  have hsl := hs.lt
  go_enter Try.func49, Try.ntmps49
  go_wp2
  go_rounds 3
  refine name_world (R := fun V => Code.wp _ _ _ _ V) (P := fun V => kE.Own V w.heap.size (.slice (some ⟨w.heap.size, 0, none⟩) 0 (grownCap w 1 0 36)) [] ∧ Below w.heap.size w V) _ ⟨(own_grown w _ rfl).1, (own_grown w _ rfl).2⟩ ?_
  rintro V ⟨oV, bV⟩
  have hcap : (Question.appendCap 1 0 36).cut (w.tape w.drawn (Question.appendCap 1 0 36)) = grownCap w 1 0 36 := rfl
  rw [hcap]
  clear hcap
  go_wp2_with fail
  go_loopw [6, 27] (fun v u wr => ∃ (g' c' j n : Nat) (l : List En), u = .int .i64 j ∧ v = .slice (some ⟨g', 0, none⟩) n c' ∧ ((j = 0 ∧ n = 0 ∧ l = []) ∨ (j = 1 ∧ n = 1 ∧ l = [e]) ∨ (j = 2 ∧ n = 1 ∧ l = [e])) ∧ Below w.heap.size w wr ∧ kE.Own wr w.heap.size (.slice (some ⟨g', 0, none⟩) n c') l) (fun _ u _ => 2 - (intOf u).toNat)
  case atStart => exact ⟨_, _, 0, 0, [], rfl, rfl, .inl ⟨rfl, rfl, rfl⟩, bV, oV⟩
  case round =>
    clear oV bV
    obtain ⟨g', c', j, n, l, rfl, rfl, ⟨rfl, rfl, rfl⟩ | ⟨rfl, rfl, rfl⟩ | ⟨rfl, rfl, rfl⟩, bX, oX⟩ := hrel
    · have d0 := (hs.below bX hsl).cell 0
      have hlX := hl.below bX hg
      go_wp2_with (at_builtin; refine apE (.tmp 31) (.tmp 32) (by rfl) rfl w.heap.size (.slice (some ⟨g', 0, none⟩) 0 c') [] rfl oX g 0 _ e rfl hlX (by simp) bX.size ?_; intro v7 W7 o7 g7; have b7 : Below w.heap.size w W7 := below_keepO bX g7 (fun g hg' ee => own_ne_lt oX hg' ee) bX.size; obtain ⟨a7, c7, rfl, hat7⟩ := Kd.own_at o7; obtain ⟨gg7, rfl, _⟩ := hat7 (by simp))
      go_roundw
      case rel => exact ⟨gg7, c7, 1, 1, [e], rfl, rfl, .inr (.inl ⟨rfl, rfl, rfl⟩), b7, o7⟩
      case measure => simp [intOf]
    · have d1 := (hs.below bX hsl).cell 1
      go_wp2_with (at_builtin; refine apE0 (.tmp 31) (.tmp 32) (by rfl) rfl w.heap.size (.slice (some ⟨g', 0, none⟩) 1 c') [e] rfl oX rfl ?_)
      go_roundw
      case rel => exact ⟨g', c', 2, 1, [e], rfl, rfl, .inr (.inr ⟨rfl, rfl, rfl⟩), bX, oX⟩
      case measure => simp [intOf]
    · go_wp2_with fail
      go_ret
      exact ⟨_, _, rfl, oX, bX⟩
end Go.Proofs.Ytiihlgcafppehaa
