/-
  put of the table.
-/
import Derived.Test.YtacadlbhgelncaaTLast
namespace Go.Proofs.Ytacadlbhgelncaa
open Lk (Hi hcs hcs_one)
open Rk (Rt rcs rtV)
open Go.RowKit Go.Maps
set_option linter.unusedSimpArgs false
set_option linter.unusedVariables false
set_option maxRecDepth 20000
section
variable {ops : Array Oper} {rest : List Oper} {op : Oper} {a : Act} {w w' : World} {Q : Exit → Act → World → Prop} {K : Act → World → Prop} {E : Prop} {S : World → Prop}
theorem sMu {T : TypeId} (m k v : Operand) {mv kv vv : Value} (hw : Region.wanted op (yielded ops a.tmps) = true) (ho : op.op = .mapUpdate T m k v) (hm : a.eval m = mv) (hk : a.eval k = kv) (hv : a.eval v = vv)
    (hr : (Instr.mapUpdate T mv kv vv).run Try.prog w = .ok () w') (h : K (a.put op.dst undef) w') : if Region.wanted op (yielded ops a.tmps) = true then Oper.wp Try.prog op a w K Q else E := by
  rw [if_pos hw]
  unfold Oper.wp
  simp [execOp, ho, hm, hk, hv, hr, Result.andThen]
  exact h
end
/-- The table behind an act: its neighbours are others; nothing else has turned but its map. -/
structure Turn (w w' : World) (t mb : Nat) (most : Int) (F : List Fc) (L : List Ng) : Prop where
  tb : Tb w' t mb most F L
  os : w'.os = w.os
  tape : w'.tape = w.tape
  out : w'.output = w.output
  size : w.heap.size ≤ w'.heap.size
  block : ∀ i, i < w.heap.size → i ≠ mb → w'.heap[i]? = w.heap[i]?
theorem Turn.below {w w' : World} {t mb : Nat} {most : Int} {F : List Fc} {L : List Ng} (h : Turn w w' t mb most F L) {B : Nat} {w0 : World} (hb : Below B w0 w) (hB : B ≤ mb) (hs : B ≤ w.heap.size) : Below B w0 w' :=
  ⟨h.os.trans hb.os, h.tape.trans hb.tape, h.out.trans hb.output, Nat.le_trans hb.size h.size, fun k hk => (h.block k (by omega) (by omega)).trans (hb.block k hk)⟩
theorem Turn.row {w w' : World} {t mb g : Nat} {most : Int} {F : List Fc} {L : List Ng} {T : TypeId} {cs : List Value} (h : Turn w w' t mb most F L) (hr : Row w g T cs) (hne : g ≠ mb) : Row w' g T cs := (h.block g hr.lt hne).trans hr
set_option maxHeartbeats 2000000 in
theorem put_any {w : World} {t mb : Nat} {most : Int} {F : List Fc} {L : List Ng} (h : Tb w t mb most F L) (n : Ng) (hi : wfI n.i) (hn : n.ok ∧ 0 ≤ n.i ∧ n.i < F.length ∧ (n.hr = true → ∀ f, F[n.i.toNat]? = some f → f.r.on = true)) (hl : (putN L n).length ≤ 1000000) :
    Calls Try.prog 25 #[.pointer (some ⟨t, 0, none⟩), nV n] w fun e w' => e = .returned (.tuple #[]) ∧ Turn w w' t mb most F (putN L n) := by
  have hP : ∀ W, Below w.heap.size w W → ∃ W', (Instr.mapUpdate 74 (.map (some mb)) (.agg (kcs n.i n.a).toArray) (.agg (ncs n).toArray)).run Try.prog W = .ok () W' ∧ Turn w W' t mb most F (putN L n) := fun W hW => by
    have h' := h.below hW
    obtain ⟨W', h1, h2, h3⟩ := h'.map.put n hi (by have := h.ll; unfold maxLen; omega)
    refine ⟨W', h1, h'.turn h2 h3 (fun x hx => ?_) hl, h3.os.trans hW.os, h3.tape.trans hW.tape, h3.output.trans hW.output, Nat.le_trans hW.size h3.size, fun i hi hne => (h3.block i (Nat.lt_of_lt_of_le hi hW.size) (fun e => hne (by cases e; rfl))).trans (hW.block i hi)⟩
    rcases mem_putN.1 hx with rfl | ⟨hx, _⟩
    · exact hn
    · exact h.nok x hx
  obtain ⟨fa, fc, hr, _⟩ := h.ex
  have ht := hr.lt
  have HK : ∀ W, Below w.heap.size w W → W.cell? ⟨t, 2, none⟩ = some (.map (some mb)) := fun W hW => (hr.below hW ht).cell 2
  have hKO := keyOf_any n
  clear h hr hi hn hl
  go_enter Try.func25, Try.ntmps25
  go_upto_region 1 with fail
  have r0 := Row.new w 55 (ncs n)
  refine name_world (R := fun W => Code.wp _ _ _ _ W) (P := fun W => Below w.heap.size w W ∧ Row W w.heap.size 55 (ncs n)) _ ⟨ba _ _, r0⟩ ?_
  clear r0
  rintro X ⟨hB, r0⟩
  have hs := r0.lt
  refine wp_region_noPanic ?_
  refine wp_region_N (S := fun W => Below X.heap.size X W) 7 (by kernel_rfl) ((Below.refl _ _).drew) (fun hHeld => ?_)
  refine takeN_lit (i := 0) (v := ?_) (F := #[false, false, false, false, true, true, true, false]) rfl (by kernel_rfl) (by kernel_rfl) (by kernel_rfl) (by kernel_rfl) (fun _ _ _ h => h) (Or.inl ⟨by rfl, ?_⟩) (by assumption) ?_
  rotate_left
  · (intro w hSw; (try dsimp only at hSw); go_simp <;> with_reducible rfl)
  try simp only [Act.put, List.setIfInBounds_toArray, List.set_cons_zero, List.set_cons_succ]
  refine takeN_lit (i := 1) (v := ?_) (F := #[true, false, false, false, true, true, true, false]) rfl (by kernel_rfl) (by kernel_rfl) (by kernel_rfl) (by kernel_rfl) (fun _ _ _ h => h) (Or.inl ⟨by rfl, ?_⟩) (by assumption) ?_
  rotate_left
  · (intro w hSw; (try dsimp only at hSw); go_simp <;> with_reducible rfl)
  try simp only [Act.put, List.setIfInBounds_toArray, List.set_cons_zero, List.set_cons_succ]
  refine takeN_lit (i := 2) (v := ?_) (F := #[true, true, false, false, true, true, true, false]) rfl (by kernel_rfl) (by kernel_rfl) (by kernel_rfl) (by kernel_rfl) (fun _ _ _ h => h) (Or.inl ⟨by rfl, ?_⟩) (by assumption) ?_
  rotate_left
  · (intro w hSw; (try dsimp only at hSw); go_simp <;> with_reducible rfl)
  try simp only [Act.put, List.setIfInBounds_toArray, List.set_cons_zero, List.set_cons_succ]
  refine takeN_lit (i := 3) (v := ?_) (F := #[true, true, true, false, true, true, true, false]) rfl (by kernel_rfl) (by kernel_rfl) (by kernel_rfl) (by kernel_rfl) (fun _ _ _ h => h) (Or.inl ⟨by rfl, ?_⟩) (by assumption) ?_
  rotate_left
  · (intro w hSw; (try dsimp only at hSw); have z := HK _ (bt hB hSw); go_simp <;> with_reducible rfl)
  try simp only [Act.put, List.setIfInBounds_toArray, List.set_cons_zero, List.set_cons_succ]
  refine takeN_lit (i := 4) (F := #[true, true, true, true, false, false, true, false]) rfl (by kernel_rfl) (by kernel_rfl) (by kernel_rfl) (by kernel_rfl) (fun _ _ _ h => h) (yN n (fun w h => (r0.below h hs).range) (by rfl) rfl rfl) (by assumption) ?_
  try simp only [Act.put, List.setIfInBounds_toArray, List.set_cons_zero, List.set_cons_succ]
  refine takeN_lit (i := 6) (F := #[true, true, true, true, true, true, false, false]) rfl (by kernel_rfl) (by kernel_rfl) (by kernel_rfl) (by kernel_rfl) (fun _ _ _ h => h) (yN n (fun w h => (r0.below h hs).range) (by rfl) rfl rfl) (by assumption) ?_
  try simp only [Act.put, List.setIfInBounds_toArray, List.set_cons_zero, List.set_cons_succ]
  refine wpAnyN_ready (rs := [5]) (by kernel_rfl) (by simp) ?_
  refine consN_lit rfl (fun K hK => ?_) ?_
  · go_simp
    refine (hKO _).mono ?_
    rintro e w1 ⟨rfl, hB1⟩
    refine hK.out _ _ (Or.inr ?_) (fun hHeld => ?_)
    · exact bt hHeld hB1
    replace hHeld := hHeld.resolve_left (by decide)
    clear hK K
    try simp only [Act.put, List.setIfInBounds_toArray, List.set_cons_zero, List.set_cons_succ]
    refine wpAnyN_ready (rs := [7]) (by kernel_rfl) (by simp) ?_
    refine consN_lit rfl (fun K hK => ?_) ?_
    · skip
      obtain ⟨W', hrun, hT⟩ := hP _ (bt hB hHeld)
      refine sMu (.tmp 7) (.tmp 9) (.tmp 10) (by rfl) rfl rfl rfl rfl hrun ?_
      refine hK.out _ _ (Or.inl rfl) (fun _ => ?_)
      clear hK K
      try simp only [Act.put, List.setIfInBounds_toArray, List.set_cons_zero, List.set_cons_succ]
      refine wpAnyN_done (by kernel_rfl) ?_ _
      refine NoPanic.normal ?_
      go_wp2
      go_end0
      exact ⟨rfl, hT⟩
    exact AllReadyN.nil
  exact AllReadyN.nil
end Go.Proofs.Ytacadlbhgelncaa
