/-
  slices.AppendSeq, slices.Collect of maps.Values of the neighbours: all of them, in some order, in memory of the call's own.
-/
import Derived.Test.YtacadlbhgelncaaN13
import Derived.Maps.AppendAt
namespace Go.Proofs.Ytacadlbhgelncaa
open Lk (Hi hcs hcs_one)
open Rk (Rt rcs rtV)
open Go.RowKit Go.Maps Go.Shelf
set_option linter.unusedSimpArgs false
set_option linter.unusedVariables false
attribute [local go_sem] Oper.semAt_some
section
variable {F : Fence} {k : Nat} {ops : Array Oper} {rest : List Oper} {op : Oper} {a : Act} {w : World} {Q : Exit → Act → World → Prop}
theorem bsNi (x : Operand) (n : Ng) (hg : op.guard = none) (ho : op.op = .buildSlice 44 1 #[(0, x)]) (hx : a.eval x = nV n)
    (h : ∀ W, Row W w.heap.size 55 (ncs n) → Below w.heap.size w W → w.grownBy W none → wpListIn F k Try.prog ops Q rest (a.put op.dst (.slice (some ⟨w.heap.size, 0, none⟩) 1 1)) W) : wpListIn F k Try.prog ops Q (op :: rest) a w := by
  refine wpListIn_plain hg fun K' hK' => ?_
  unfold Oper.wpIn
  refine ⟨by simp [Oper.about, ho], ?_⟩
  rw [Oper.semAt_plain F _ _ (by rw [ho]; intro c hc'; cases hc')]
  unfold execOp
  simp only [ho, List.map_toArray, List.map_cons, List.map_nil, hx, Sem.run_bind, bsN1, Result.andThen_ok, Sem.run_pure]
  exact hK' _ _ (h _ (Row.new w _ _) (ba w _) (World.grownBy_alloc w _ none))
end
theorem kept_rowN {W W' : World} {B : Nat} {t : TypeId} {cs : List Value} {row : Option Nat} (h : Row W B t cs) (hg : W.grownBy W' row) (hr : ∀ r, row = some r → ∃ o : Obj, W.heap[r]? = some o ∧ o.isCells = false) : Row W' B t cs := by
  refine (hg.block B h.lt ?_).trans h
  intro e
  obtain ⟨o, h1, h2⟩ := hr B e.symm
  have h3 : some o = some (Obj.cells cs.toArray t (0, 0)) := h1.symm.trans h
  cases h3
  cases h2
theorem own_keptN {α : Type} {kd : Kd α} {W W' : World} {B : Nat} {v : Value} {l : List α} {row : Option Nat} (ho : kd.Own W B v l) (hg : W.grownBy W' row) (hr : ∀ r, row = some r → ∃ o : Obj, W.heap[r]? = some o ∧ o.isCells = false) : kd.Own W' B v l := by
  refine World.ownsRow.kept ho hg ?_
  rcases ho.2 with ⟨rfl, _⟩ | ⟨g, cap, cur, rfl, _, hgb, _⟩
  · exact .inl rfl
  · refine .inr fun e => ?_
    obtain ⟨o, h1, h2⟩ := hr g e.symm
    rw [hgb] at h1
    cases h1
    cases h2
/-- What the rounds keep. -/
def SeqI (w : World) (pre : List Ng) (W : World) : Prop := ∃ v, Row W w.heap.size 44 [v] ∧ kN.Own W (w.heap.size + 1) v pre ∧ Below w.heap.size w W ∧ w.heap.size + 1 ≤ W.heap.size
theorem SeqI.kept {w W W' : World} {pre : List Ng} {row : Option Nat} (h : SeqI w pre W) (hg : W.grownBy W' row) (hr : ∀ r, row = some r → w.heap.size ≤ r ∧ ∃ o : Obj, W.heap[r]? = some o ∧ o.isCells = false) : SeqI w pre W' := by
  obtain ⟨v, i5, i6, i8, i9⟩ := h
  have k : ∀ r, row = some r → ∃ o : Obj, W.heap[r]? = some o ∧ o.isCells = false := fun r e => (hr r e).2
  exact ⟨v, kept_rowN i5 hg k, own_keptN i6 hg k, below_keepO i8 hg (fun g hgl e => by have := (hr g e).1; omega) i8.size, Nat.le_trans i9 hg.size⟩
def actN (w : World) (Bm g : Nat) (x : Ng) : Act := { tmps := #[.slice none 0 0, .func (.func 52) #[] #[.pointer (some ⟨Bm, 0, none⟩)], .pointer (some ⟨w.heap.size, 0, none⟩), undef, .slice none 0 0, .pointer (some ⟨g, 0, none⟩), .func (.func 52) #[] #[.pointer (some ⟨Bm, 0, none⟩)], nV x, undef, undef, undef, undef, undef], defers := [] }
set_option maxRecDepth 100000 in
set_option maxHeartbeats 4000000 in
theorem appseq_any (Bm mb : Nat) (L : List Ng) (w : World) (hL : L.length ≤ 1000000) (h1 : Bm < w.heap.size) (c1 : w.cell? ⟨Bm, 0, none⟩ = some (.map (some mb))) (hm : Mp w mb L) :
    Calls Try.prog 69 #[.slice none 0 0, .func (.func 52) #[] #[.pointer (some ⟨Bm, 0, none⟩)]] w fun e w' => ∃ r xs, e = .returned r ∧ xs.Perm L ∧ kN.Own w' (w.heap.size + 1) r xs ∧ Below w.heap.size w w' := by
  refine (callsIn_wide (n := 9)).1 ?_
  refine callsIn_of_wp_marks Try.func69 rfl trivial ?_ rfl
  simp only [Try.ntmps69, List.size_toArray, List.length_cons, List.length_nil, Nat.reduceAdd, Nat.reduceSub, Array.replicate_succ, Array.replicate_zero, List.push_toArray, List.append_toArray, List.nil_append, List.cons_append]
  gi_wp2
  refine name_world (R := fun W => Code.wpIn _ _ _ _ _ _ W) (P := fun W => Row W w.heap.size 44 [.slice none 0 0] ∧ Below w.heap.size w W) _ ⟨Row.new w 44 [.slice none 0 0], ba _ _⟩ ?_
  rintro W0 ⟨r0, hB0⟩
  have k1 : W0.cell? ⟨Bm, 0, none⟩ = some (.map (some mb)) := (hB0.cell (p := ⟨Bm, 0, none⟩) h1).trans c1
  have kv : Mp W0 mb L := hm.below hB0 hm.lt
  have z0 := hB0.size
  have z1 := r0.lt
  refine wpIn_rangeFunc_ownH (F := Fence.wide) rfl (by decide) (gf := 52) (lb := #[.pointer (some ⟨Bm, 0, none⟩)]) rfl trivial (enters_of Try.func52 (by kernel_rfl) rfl)
    (vals_stops 8 (by decide) Bm mb L W0 (by omega) k1 kv) (fun h k => h.trans k) (fun W l o o' _ h _ hw => KeepsWalks.putObj o' h hw) (Below.refl _ _) (fun _ => rfl)
    (SeqI w)
    (fun _ _ _ => False)
    (fun pre A B row hs hg hr => hs.kept hg (fun r e => ⟨Nat.le_trans hB0.size (hr r e).1, (hr r e).2⟩))
    (fun c pre A B row hs hg hr => hs)
    ⟨.slice none 0 0, r0, World.ownsRow_nil _ _ _ _, hB0, z1⟩
    (fun x a' W => ∃ g, Row W g 55 (ncs x) ∧ a' = actN w Bm g x)
    (fun x a' _ A B row hs hg hr => by
      obtain ⟨g, hr0, e⟩ := hs
      exact ⟨g, kept_rowN hr0 hg (fun r e => (hr r e).2), e⟩) ?assign ?body ?done ?stop
  case assign =>
    intro l pre x W K hI hK
    unfold encN
    simp only [List.zip_toArray, List.zip_cons_cons, List.zip_nil_right, List.zip_nil_left, List.size_toArray, List.length_cons, List.length_nil, List.foldl_toArray', List.foldl_toArray, List.foldl_cons, List.foldl_nil, List.setIfInBounds_toArray, List.set_cons_succ, List.set_cons_zero]
    gi_wp2_with (first
      | (have kk := r3; refine stNi (.tmp 5) (.tmp 7) rfl rfl _ x _ rfl rfl r3 ?_; intro W4 g4 r4)
      | (refine alNi rfl rfl ?_; intro W3 g3 r3)
      | gi_in)
    have g24 := grown_new g3 g4
    exact hK _ _ (KeepsFrom.of_grownBy g24 (fun j e => by cases e)) (KeepsWalks.of_grownBy g24 (fun j o e => by cases e)) (hI.kept g24 (fun r e => by cases e)) ⟨_, r4, rfl⟩
  case body =>
    rintro l pre x a' W hll hlr ⟨v, i5, i6, i8, i9⟩ ⟨g, rg, rfl⟩ hlen
    obtain ⟨va, vc, rfl, _⟩ := Kd.own_at i6
    have c5 : W.cell? ⟨w.heap.size, 0, none⟩ = some (.slice va pre.length vc) := i5.cell 0
    obtain ⟨i0, hi, hz0, hz1, hz2⟩ := info_parts kN.info
    unfold actN
    clear c1 hm k1 kv r0 hlr
    gi_wp2_with (first
      | (have kk := r9; gi_at_builtin; (refine wpListIn_append_own _ rfl _ _ 44 rfl (w.heap.size + 1) 55 i0 (.agg (ncs zeroN).toArray) 34 128 Try.underlying44 hi hz0 hz1 hz2 (by simp [Value.cells, ncs_len]) (by decide) _ _ _ rfl o9 ⟨W.heap.size, 0, none⟩ 1 1 (ncs x) rfl (by rw [ncs_len]) (fun j u hj => by rw [Addr.add_mid, Nat.zero_add]; exact (r9.cell j).trans hj) (ncs_one x) (by unfold maxLen; omega) (by omega) (Nat.le_trans i9 b9.size) ?_); intro v' w3 hown' hgrow _; obtain ⟨g', cap', rfl⟩ := ownsRow_succ hown'; have m5 := (i5.below b9 i5.lt).keepO hgrow (own_ne_lt o9 (by omega)); have c5' : w3.cell? ⟨w.heap.size, 0, none⟩ = some (.slice va pre.length vc) := m5.cell 0; have f5' := m5.frozen 0)
      | (refine bsNi (.tmp 9) x rfl rfl rfl ?_; intro W9 r9 b9 g9; have o9 : W9.ownsRow (w.heap.size + 1) 55 34 (.slice va pre.length vc) pre.length (kN.cs pre) := own_below i6 b9)
      | (refine ldNi (.tmp 5) rfl rfl _ _ x rfl rg.range ?_)
      | gi_in)
    have hKO : ∀ (j : Nat) (o : Obj), (Value.slice va pre.length vc).ownBlock = some j → W9.heap[j]? = some o → o.isCells = true ∧ o.isWalk = false := fun j o ej hj => by
      rcases o9.2 with ⟨e, _⟩ | ⟨g0, cap, cur, e, _, hgb, _⟩
      · rw [e] at ej; cases ej
      · rw [e] at ej
        simp only [Value.ownBlock, Option.some.injEq] at ej
        subst ej
        rw [hgb] at hj
        cases hj
        exact ⟨rfl, rfl⟩
    have bw : Below w.heap.size W w3 := below_keepO (b9.mono (by omega)) hgrow (fun g hg => own_ne_lt o9 (by omega)) (by have := b9.size; omega)
    refine ⟨((KeepsOthers.of_grownBy g9 (fun j o e => by cases e)).trans ((KeepsOthers.of_grownBy hgrow (fun j o e h => (hKO j o e h).1)).trans (KeepsOthers.setCell _ _ _))).from _, (KeepsWalks.of_grownBy g9 (fun j o e => by cases e)).trans ((KeepsWalks.of_grownBy hgrow (fun j o e h => (hKO j o e h).2)).trans (KeepsWalks.setCell _ _ _)), _, m5.set 0 _, ?_, ?_, ?_⟩
    · have h4 : kN.Own w3 (w.heap.size + 1) (.slice (some ⟨g', 0, none⟩) (pre.length + 1) cap') (pre ++ [x]) := by
        unfold Kd.Own
        rw [kN.cs_append, List.length_append, show kN.cs [x] = ncs x by simp [Kd.cs, kN]]
        exact hown'
      exact World.ownsRow.kept h4 (grownBy_setCell w3 w.heap.size 0 _) (Or.inr (own_ne_lt h4 (by omega)))
    · exact grown_below (grownBy_setCell w3 w.heap.size 0 _) (i8.trans bw) (Nat.le_refl _) (by have := i8.size; have := bw.size; omega)
    · have := (grownBy_setCell w3 w.heap.size 0 (.slice (some ⟨g', 0, none⟩) (pre.length + 1) cap')).size
      have := bw.size
      omega
  case done =>
    rintro D xs W hD hS ⟨v, i5, i6, i8, i9⟩ hK
    obtain ⟨va, vc, rfl, _⟩ := Kd.own_at i6
    have c5 : W.cell? ⟨w.heap.size, 0, none⟩ = some (.slice va xs.length vc) := i5.cell 0
    gi_wp2
    have kk := grownBy_putObj' W D (.deferred none)
    have k : ∀ r, some D = some r → ∃ o : Obj, W.heap[r]? = some o ∧ o.isCells = false := fun r e => by cases e; exact ⟨_, hK, rfl⟩
    refine ⟨by simp, .inl ⟨_, _, rfl, run_takeDeferred hK, ?_⟩⟩
    exact ⟨_, results_tmp rfl _ _ _, _, xs, rfl, hS, own_keptN i6 kk k, grown_below kk i8 (by omega) i8.size⟩
  case stop =>
    rintro D c pre W hD hpre hf hK
    exact hf.elim
end Go.Proofs.Ytacadlbhgelncaa
