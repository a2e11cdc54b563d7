/-
  What is held of a pair: at.
-/
import Derived.Test.YtadnnjngflphjaaTLast
import Derived.Test.YtadnnjngflphjaaPair
import Derived.Deep.QuietTactic
import Derived.BigQuiet
import Derived.Deep.CutBlock
import Derived.Handy
import Derived.Test.YtadnnjngflphjaaEv
namespace Go.Proofs.Ytadnnjngflphjaa
open Go.RowKit Go.Maps
set_option linter.unusedSimpArgs false
set_option linter.unusedVariables false
set_option maxRecDepth 20000
section
variable {ops : Array Oper} {rest : List Oper} {op : Oper} {a : Act} {w w' : World} {Q : Exit → Act → World → Prop} {K : Act → World → Prop} {E : Prop} {S : World → Prop}
theorem sStH (x y : Operand) (hw : Region.wanted op (yielded ops a.tmps) = true) (ho : op.op = .store 67 x y) (b : Nat) (n u : Hd) (hx : a.eval x = .pointer (some ⟨b, 0, none⟩)) (hy : a.eval y = hV n) (hr : Row w b 67 (hcs u))
    (h : ∀ W, w.grownBy W (some b) → Row W b 67 (hcs n) → K (a.put op.dst undef) W) : if Region.wanted op (yielded ops a.tmps) = true then Oper.wp Try.prog op a w K Q else E := by
  rw [if_pos hw]
  refine wp_store_mid _ x y ho b 0 _ hx hy (by simpa [hcs_len] using hr.there (n := 52) (by rw [hcs_len]; omega)) (by rw [infoHs]; simp [hcs_len]) (all_oneCell_toArray (hcs_one n)) (h _ (grownBy_setCells b _ _ _) ?_)
  have := Row.setCells (hcs n) [] w (hcs u) hr (by rw [hcs_len, hcs_len])
  simpa using this
theorem lkG {T : TypeId} {b : Bool} (m k : Operand) {mv kv v : Value} (hw : Region.wanted op (yielded ops a.tmps) = true) (ho : op.op = .lookup T m k b) (hm : a.eval m = mv) (hk : a.eval k = kv)
    (hr : (Instr.lookup T mv kv b).run Try.prog w = .ok v w) (h : wpList Try.prog ops Q rest (a.put op.dst v) w) : wpList Try.prog ops Q (op :: rest) a w :=
  wpList_step fun K hK => by
    rw [if_pos hw]
    unfold Oper.wp
    simp [execOp, ho, hm, hk, hr, Result.andThen]
    exact hK _ _ h
theorem sMu {T : TypeId} (m k v : Operand) {mv kv vv : Value} (hw : Region.wanted op (yielded ops a.tmps) = true) (ho : op.op = .mapUpdate T m k v) (hm : a.eval m = mv) (hk : a.eval k = kv) (hv : a.eval v = vv)
    (hr : (Instr.mapUpdate T mv kv vv).run Try.prog w = .ok () w') (h : K (a.put op.dst undef) w') : if Region.wanted op (yielded ops a.tmps) = true then Oper.wp Try.prog op a w K Q else E := by
  rw [if_pos hw]
  unfold Oper.wp
  simp [execOp, ho, hm, hk, hv, hr, Result.andThen]
  exact h
theorem sDel {T U : TypeId} (m k : Operand) {mv kv : Value} (hw : Region.wanted op (yielded ops a.tmps) = true) (ho : op.op = .call { callee := .builtin .delete, args := #[m, k], argTypes := #[T, U] }) (hm : a.eval m = mv) (hk : a.eval k = kv)
    (hr : (Builtin.delete_ #[T, U] op.type #[mv, kv]).run Try.prog w = .ok (.tuple #[]) w') (h : K (a.put op.dst (.tuple #[])) w') : if Region.wanted op (yielded ops a.tmps) = true then Oper.wp Try.prog op a w K Q else E := by
  rw [if_pos hw]
  unfold Oper.wp
  simp [execOp, ho, resolve, invoke, builtin, hm, hk, hr, Result.andThen]
  exact h
theorem sMk {T : TypeId} (hw : Region.wanted op (yielded ops a.tmps) = true) (ho : op.op = .makeMap T none) (hr : ∀ w, (Instr.makeMap T none).run Try.prog w = .ok (.map (some w.heap.size)) (w.alloc (.map #[] 0)))
    (h : ∀ r W, w.heap.size ≤ r → Below w.heap.size w W → Mp mI W r [] → K (a.put op.dst (.map (some r))) W) : if Region.wanted op (yielded ops a.tmps) = true then Oper.wp Try.prog op a w K Q else E := by
  rw [if_pos hw]
  have h1 := h _ _ (Nat.le_refl _) (ba w _) (Mp.new mI w)
  unfold Oper.wp
  simp [execOp, ho, hr, Result.andThen]
  exact h1
end
set_option maxHeartbeats 8000000 in
theorem at_any {w : World} {b k : Nat} {n : Int} {F : List Hd} (h : Kn w b k n F) (p : Pr) (hi : wfQ p) : Calls Try.prog 30 #[.pointer (some ⟨k, 0, none⟩), (Value.agg (qcells p).toArray)] w (Gives w (.tuple #[hV ((fnd F p).getD zeroH), .bool (fnd F p).isSome])) := by
  have hnd := h.nd
  obtain ⟨mb, L, T, hne, hpm⟩ := h
  rw [fnd_perm hnd hpm, ← at_fnd T.tw.good]
  clear hnd hpm hne
  have hl1 : ∀ V, Below w.heap.size w V → (Instr.lookup 61 (.map (some mb)) (Value.agg (pcells p.d).toArray) false).run Try.prog V = .ok (.map ((getN mO L p.d).getD zeroOb).r) V := fun V hY => (T.tw.below hY).out.look1 hi.1
  have hl2 : ∀ V, Below w.heap.size w V → (Instr.lookup 74 (.map ((getN mO L p.d).getD zeroOb).r) (Value.agg (pcells p.s).toArray) true).run Try.prog V = .ok (.tuple #[hV ((atR L p).getD zeroH), .bool (atR L p).isSome]) V := fun V hY => by
    unfold atR
    cases hg : getN mO L p.d with
    | none => exact look_nil mI p.s hi.2 V
    | some o =>
      obtain ⟨_, _, r, e, m, _⟩ := (T.tw.below hY).get hg
      show (Instr.lookup _ (.map o.r) _ true).run _ _ = .ok (.tuple #[hV ((getN mI o.S p.s).getD zeroH), .bool (getN mI o.S p.s).isSome]) V
      rw [e]
      exact m.look hi.2
  have hr : KRow w k n mb := T.row
  have ht := hr.lt
  generalize atR L p = x at *
  generalize ((getN mO L p.d).getD zeroOb).r = ro at *
  clear T hi
  have r0 := Row.new w 35 (qcells p)
  have bA := ba w (.cells (qcells p).toArray 35)
  go_enter Try.func30, Try.ntmps30
  go_upto_region 1 with (first
    | (refine alG infoHz rfl rfl ?_; intro g4 W1 hge hgl hB1 r4))
  have hB : Below w.heap.size w W1 := bt bA hB1
  have rp : Row W1 w.heap.size 35 (qcells p) := r0.below hB1 r0.lt
  have hg4 : w.heap.size < g4 := by simp at hge; omega
  clear r0 bA hB1 hge
  have HK : Hid (∀ V, Below W1.heap.size W1 V → V.cell? ⟨k, 1, none⟩ = some (.map (some mb))) := fun V hY => KRow.c1 (n := n) (Row.below hr (bt hB hY) ht)
  have hlO : ∀ V, Below W1.heap.size W1 V → _ := fun V hY => hl1 V (bt hB hY)
  have hlI : ∀ V, Below W1.heap.size W1 V → _ := fun V hY => hl2 V (bt hB hY)
  have hrpl := rp.lt
  have hr4l := r4.lt
  clear hl1 hl2 hr ht
  refine wp_region_noPanic ?_
  refine wp_region_held_drew (S := fun V => Below W1.heap.size W1 V) (by kernel_rfl) ((Below.refl _ _).drew) (fun hHeld => ?_)
  refine take_lit (i := 0) (v := ?_) rfl (by kernel_rfl) (by kernel_rfl) (by kernel_rfl) (fun _ _ _ h => h) (Or.inl ⟨by rfl, ?_⟩) (by assumption) ?_
  rotate_left
  · (intro w hSw; (try dsimp only at hSw); go_simp <;> with_reducible rfl)
  try simp only [Act.put, List.setIfInBounds_toArray, List.set_cons_zero, List.set_cons_succ]
  refine take_lit (i := 1) (v := ?_) rfl (by kernel_rfl) (by kernel_rfl) (by kernel_rfl) (fun _ _ _ h => h) (Or.inl ⟨by rfl, ?_⟩) (by assumption) ?_
  rotate_left
  · (intro w hSw; (try dsimp only at hSw); go_simp <;> with_reducible rfl)
  try simp only [Act.put, List.setIfInBounds_toArray, List.set_cons_zero, List.set_cons_succ]
  refine take_lit (i := 2) (v := ?_) rfl (by kernel_rfl) (by kernel_rfl) (by kernel_rfl) (fun _ _ _ h => h) (Or.inl ⟨by rfl, ?_⟩) (by assumption) ?_
  rotate_left
  · (intro w hSw; (try dsimp only at hSw); go_simp <;> with_reducible rfl)
  try simp only [Act.put, List.setIfInBounds_toArray, List.set_cons_zero, List.set_cons_succ]
  refine take_lit (i := 3) (v := ?_) rfl (by kernel_rfl) (by kernel_rfl) (by kernel_rfl) (fun _ _ _ h => h) (Or.inl ⟨by rfl, ?_⟩) (by assumption) ?_
  rotate_left
  · (intro w hSw; (try dsimp only at hSw); have z := HK.out _ hSw; go_simp <;> with_reducible rfl)
  try simp only [Act.put, List.setIfInBounds_toArray, List.set_cons_zero, List.set_cons_succ]
  refine take_lit (i := 4) (v := ?_) rfl (by kernel_rfl) (by kernel_rfl) (by kernel_rfl) (fun _ _ _ h => h) (Or.inl ⟨by rfl, ?_⟩) (by assumption) ?_
  rotate_left
  · (intro w hSw; (try dsimp only at hSw); go_simp <;> with_reducible rfl)
  try simp only [Act.put, List.setIfInBounds_toArray, List.set_cons_zero, List.set_cons_succ]
  refine take_lit (i := 5) rfl (by kernel_rfl) (by kernel_rfl) (by kernel_rfl) (fun _ _ _ h => h) (yP p.d (fun w h => (LQ.d (rp.below h hrpl).range)) (by rfl) rfl rfl) (by assumption) ?_
  try simp only [Act.put, List.setIfInBounds_toArray, List.set_cons_zero, List.set_cons_succ]
  refine take_lit (i := 6) (v := ?_) rfl (by kernel_rfl) (by kernel_rfl) (by kernel_rfl) (fun _ _ _ h => h) (Or.inl ⟨by rfl, ?_⟩) (by assumption) ?_
  rotate_left
  · (intro w hSw; (try dsimp only at hSw); have z := hlO _ hSw; go_simp <;> with_reducible rfl)
  try simp only [Act.put, List.setIfInBounds_toArray, List.set_cons_zero, List.set_cons_succ]
  refine take_lit (i := 7) (v := ?_) rfl (by kernel_rfl) (by kernel_rfl) (by kernel_rfl) (fun _ _ _ h => h) (Or.inl ⟨by rfl, ?_⟩) (by assumption) ?_
  rotate_left
  · (intro w hSw; (try dsimp only at hSw); go_simp <;> with_reducible rfl)
  try simp only [Act.put, List.setIfInBounds_toArray, List.set_cons_zero, List.set_cons_succ]
  refine take_lit (i := 8) rfl (by kernel_rfl) (by kernel_rfl) (by kernel_rfl) (fun _ _ _ h => h) (yP p.s (fun w h => (LQ.s (rp.below h hrpl).range)) (by rfl) rfl rfl) (by assumption) ?_
  try simp only [Act.put, List.setIfInBounds_toArray, List.set_cons_zero, List.set_cons_succ]
  refine take_lit (i := 9) (v := ?_) rfl (by kernel_rfl) (by kernel_rfl) (by kernel_rfl) (fun _ _ _ h => h) (Or.inl ⟨by rfl, ?_⟩) (by assumption) ?_
  rotate_left
  · (intro w hSw; (try dsimp only at hSw); have z := hlI _ hSw; go_simp <;> with_reducible rfl)
  try simp only [Act.put, List.setIfInBounds_toArray, List.set_cons_zero, List.set_cons_succ]
  refine take_lit (i := 10) (v := ?_) rfl (by kernel_rfl) (by kernel_rfl) (by kernel_rfl) (fun _ _ _ h => h) (Or.inl ⟨by rfl, ?_⟩) (by assumption) ?_
  rotate_left
  · (intro w hSw; (try dsimp only at hSw); go_simp <;> with_reducible rfl)
  try simp only [Act.put, List.setIfInBounds_toArray, List.set_cons_zero, List.set_cons_succ]
  refine take_lit (i := 11) (v := ?_) rfl (by kernel_rfl) (by kernel_rfl) (by kernel_rfl) (fun _ _ _ h => h) (Or.inl ⟨by rfl, ?_⟩) (by assumption) ?_
  rotate_left
  · (intro w hSw; (try dsimp only at hSw); go_simp <;> with_reducible rfl)
  try simp only [Act.put, List.setIfInBounds_toArray, List.set_cons_zero, List.set_cons_succ]
  refine take_lit (i := 12) (v := ?_) rfl (by kernel_rfl) (by kernel_rfl) (by kernel_rfl) (fun _ _ _ h => h) (Or.inl ⟨by rfl, ?_⟩) (by assumption) ?_
  rotate_left
  · (intro w hSw; (try dsimp only at hSw); go_simp <;> with_reducible rfl)
  try simp only [Act.put, List.setIfInBounds_toArray, List.set_cons_zero, List.set_cons_succ]
  refine wpAnyH_ready (rs := [13]) (by kernel_rfl) (by simp) ?_
  refine cons_lit rfl (fun K hK => ?_) ?_
  · skip
    refine sAlG infoHz (by rfl) rfl ?_
    intro g6 W2 hge2 hgl2 hB2 r6
    refine hK.out _ _ ?_ (fun hHeld => ?_)
    · exact bt hHeld hB2
    clear hK K
    try simp only [Act.put, List.setIfInBounds_toArray, List.set_cons_zero, List.set_cons_succ]
    refine wpAnyH_ready (rs := [14]) (by kernel_rfl) (by simp) ?_
    refine cons_lit rfl (fun K hK => ?_) ?_
    · skip
      refine sStH (.tmp 6) (.tmp 19) (by rfl) rfl g6 (x.getD zeroH) _ rfl rfl r6 ?_
      intro W3 hg3 q6
      refine hK.out _ _ ?_ (fun hHeld => ?_)
      · exact grown_below hg3 hHeld (show W1.heap.size ≤ g6 from hge2) hHeld.size
      clear hK K
      try simp only [Act.put, List.setIfInBounds_toArray, List.set_cons_zero, List.set_cons_succ]
      refine take_lit (i := 15) (v := ?_) rfl (by kernel_rfl) (by kernel_rfl) (by kernel_rfl) (fun _ _ _ h => h) (Or.inl ⟨by rfl, ?_⟩) (by assumption) ?_
      rotate_left
      · (intro w hSw; (try dsimp only at hSw); go_simp <;> with_reducible rfl)
      try simp only [Act.put, List.setIfInBounds_toArray, List.set_cons_zero, List.set_cons_succ]
      refine wpAnyH_done (by kernel_rfl) ?_ _
      refine NoPanic.normal ?_
      have q4 := r4.below hHeld hr4l
      have kw : Below w.heap.size w W3 := bt hB hHeld
      clear hlO hlI HK rp r4 r6 hB2 hg3 hgl2 hge2 hB hHeld
      go_wp2_with (first
        | ((with_reducible refine stH (.tmp 4) (.tmp 21) ?_ ?_ g4 (x.getD zeroH) zeroH ?_ ?_ ?_ ?_); (focus rfl); (focus rfl); (focus rfl); (focus rfl); (focus exact q4); intro W7 g7 r7)
        | ((with_reducible refine ldH (.tmp 6) ?_ ?_ g6 0 (x.getD zeroH) ?_ ?_ ?_); (focus rfl); (focus rfl); (focus rfl); (focus exact q6.hd)))
      exact bodyPost_ret (retCT rfl _ _ 0 rfl (lvH r7)) rfl ⟨rfl, grown_below g7 kw (Nat.le_of_lt hg4) kw.size⟩
    exact AllReadyH.nil
  exact AllReadyH.nil
end Go.Proofs.Ytadnnjngflphjaa
