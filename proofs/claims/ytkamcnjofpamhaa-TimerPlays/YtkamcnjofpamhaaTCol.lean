/-
  slices.AppendSeq, slices.Collect of slices.Values of a line: the same timers, in memory of the call's own.
-/
import Derived.Test.YtkamcnjofpamhaaTVal
import Derived.Maps.AppendAt
namespace Go.Proofs.Ytkamcnjofpamhaa
open Go.RowKit Go.Shelf
set_option linter.unusedSimpArgs false
attribute [local go_sem] Oper.semAt_some
section
variable {W W' : World} {n0 k : Nat} {T : TypeId} {xs : List Value} {v : Value}
theorem kept_row {B : Nat} {t : TypeId} {cs : List Value} {row : Option Nat} (h : Row W B t cs) (hg : W.grownBy W' row) (hr : ∀ r, row = some r → ∃ o : Obj, W.heap[r]? = some o ∧ o.isCells = false) : Row W' B t cs := by
  refine (hg.block B h.lt ?_).trans h
  intro e
  obtain ⟨o, h1, h2⟩ := hr B e.symm
  have h3 : some o = some (Obj.cells cs.toArray t (0, 0)) := h1.symm.trans h
  cases h3
  cases h2
theorem keptOwnT {B : Nat} {t : TypeId} {cs : List Value} (h : Row W B t cs) (ho : W.ownsRow n0 T 1 v k xs) (ht : t ≠ T) (hg : W.grownBy W' v.ownBlock) : Row W' B t cs := by
  refine (hg.block B h.lt ?_).trans h
  intro e
  rcases ho.2 with ⟨rfl, _⟩ | ⟨g, cap, cur, rfl, _, hgb, _⟩
  · simp [Value.ownBlock] at e
  · simp only [Value.ownBlock, Option.some.injEq] at e
    subst e
    rw [h] at hgb
    cases hgb
    exact ht rfl
theorem ownT_below (ho : W.ownsRow n0 T 1 v k xs) (hb : Below W.heap.size W W') : W'.ownsRow n0 T 1 v k xs :=
  ho.kept (row := none) ⟨hb.os, hb.tape, hb.output, hb.size, fun i hi _ => hb.block i hi⟩ (by cases v.ownBlock <;> simp)
theorem ownT_keptN {row : Option Nat} (ho : W.ownsRow n0 T 1 v k xs) (hg : W.grownBy W' row) (hr : ∀ r, row = some r → ∃ o : Obj, W.heap[r]? = some o ∧ o.isCells = false) : W'.ownsRow n0 T 1 v k xs := by
  refine ho.kept hg ?_
  rcases ho.2 with ⟨rfl, _⟩ | ⟨g, cap, cur, rfl, _, hgb, _⟩
  · exact .inl rfl
  · refine .inr fun e => ?_
    obtain ⟨o, h1, h2⟩ := hr g e.symm
    rw [hgb] at h1
    cases h1
    cases h2
theorem ownT_setCell {B : Nat} {t : TypeId} {cs : List Value} (ho : W.ownsRow n0 T 1 v k xs) (h : Row W B t cs) (ht : t ≠ T) (u : Value) : (W.setCell ⟨B, 0, none⟩ u).ownsRow n0 T 1 v k xs := by
  refine ho.kept (grownBy_setCell' W B u) ?_
  rcases ho.2 with ⟨rfl, _⟩ | ⟨g, cap, cur, rfl, _, hgb, _⟩
  · exact .inl rfl
  · refine .inr fun e => ?_
    simp only [Value.ownBlock, Option.some.injEq] at e
    subst e
    rw [h] at hgb
    cases hgb
    exact ht rfl
theorem ownT_base (ho : W.ownsRow n0 T 1 v k xs) : ∀ j, v.ownBlock = some j → n0 ≤ j := fun j e => by
  rcases ho.2 with ⟨rfl, _⟩ | ⟨g, cap, cur, rfl, hb, _⟩
  · cases e
  · simp only [Value.ownBlock, Option.some.injEq] at e; omega
theorem keepsT_own (ho : W.ownsRow n0 T 1 v k xs) (hg : W.grownBy W' v.ownBlock) : KeepsOthers W W' :=
  KeepsOthers.of_grownBy hg fun j o ej hj => by
    rcases ho.2 with ⟨rfl, _⟩ | ⟨g, cap, cur, rfl, _, hgb, _⟩
    · cases ej
    · simp only [Value.ownBlock, Option.some.injEq] at ej
      subst ej
      rw [hgb] at hj
      cases hj
      rfl
theorem ownT_slice (ho : W.ownsRow n0 T 1 v k xs) : ∃ a c, v = .slice a k c := by
  rcases ho.2 with ⟨rfl, rfl⟩ | ⟨g, cap, cur, rfl, _⟩
  · exact ⟨none, 0, rfl⟩
  · exact ⟨_, _, rfl⟩
end
theorem info_ptr : (Try.prog.info? 64).map (fun i => (i.zero, i.size, i.bytes)) = some (some (.pointer none), 1, 8) := by kernel_rfl
set_option maxRecDepth 100000 in
set_option maxHeartbeats 4000000 in
theorem appseq_any (Bs cap : Nat) (L : List Tm) (a : Option Addr) (w : World) (hL : L.length ≤ 10000) (h1 : Bs < w.heap.size) (c1 : w.cell? ⟨Bs, 0, none⟩ = some (.slice a L.length cap)) (hv : LineAt w w.heap.size a L) :
    Calls Try.prog 46 #[.slice none 0 0, .func (.func 42) #[] #[.pointer (some ⟨Bs, 0, none⟩)]] w fun e w' => ∃ r, e = .returned r ∧ w'.ownsRow w.heap.size 64 1 r L.length (ptrs L) ∧ Below w.heap.size w w' := by
  refine (callsIn_wide (n := 9)).1 ?_
  refine callsIn_of_wp_marks Try.func46 rfl trivial ?_ rfl
  simp only [Try.ntmps46, List.size_toArray, List.length_cons, List.length_nil, Nat.reduceAdd, Nat.reduceSub, Array.replicate_succ, Array.replicate_zero, List.push_toArray, List.append_toArray, List.nil_append, List.cons_append]
  gi_wp2
  refine name_world (R := fun W => Code.wpIn _ _ _ _ _ _ W) (P := fun W => Row W w.heap.size 60 [.slice none 0 0] ∧ Below w.heap.size w W) _ ⟨Row.new w 60 [.slice none 0 0], (Below.refl _ _).alloc (Nat.le_refl _) _⟩ ?_
  rintro W0 ⟨r0, hB0⟩
  have k1 : W0.cell? ⟨Bs, 0, none⟩ = some (.slice a L.length cap) := (hB0.cell (p := ⟨Bs, 0, none⟩) h1).trans c1
  have kv : LineAt W0 w.heap.size a L := hv.below hB0
  have z0 := hB0.size
  refine wpIn_rangeFunc_ownF (F := Fence.wide) rfl (by decide) (gf := 42) (lb := #[.pointer (some ⟨Bs, 0, none⟩)]) rfl trivial (enters_of Try.func42 (by kernel_rfl) rfl)
    (vals_stops 8 (by decide) Bs w.heap.size cap L a W0 hL (by omega) hB0.size k1 kv) (fun h k => h.trans k) (belowK_b hB0.size) (Below.refl _ _) (fun _ => rfl)
    (fun pre W => ∃ v, Row W w.heap.size 60 [v] ∧ W.ownsRow w.heap.size 64 1 v pre.length (ptrs pre) ∧ Below w.heap.size w W)
    (fun _ _ _ => False)
    (fun pre A B row hs hg hr => by
      obtain ⟨v, i5, i6, i8⟩ := hs
      have k : ∀ r, row = some r → ∃ o : Obj, A.heap[r]? = some o ∧ o.isCells = false := fun r e => (hr r e).2
      exact ⟨v, kept_row i5 hg k, ownT_keptN i6 hg k, i8.grown hg i8.size (fun r e => Nat.le_trans hB0.size (hr r e).1)⟩)
    (fun c pre A B row hs hg hr => hs)
    ⟨.slice none 0 0, r0, World.ownsRow_nil _ _ _ _, hB0⟩
    (fun x => { tmps := #[.slice none 0 0, .func (.func 42) #[] #[.pointer (some ⟨Bs, 0, none⟩)], .pointer (some ⟨w.heap.size, 0, none⟩), undef, .slice none 0 0, .pointer (some ⟨x.b, 0, none⟩), .func (.func 42) #[] #[.pointer (some ⟨Bs, 0, none⟩)], .pointer (some ⟨x.b, 0, none⟩), undef, undef, undef, undef, undef], defers := [] }) ?assign ?body ?done ?stop
  case assign =>
    intro l x W K hK
    unfold encA encT
    gi_wp2
    exact hK
  case body =>
    rintro l pre x W ⟨v, i5, i6, i8⟩ hlen
    obtain ⟨va, vc, rfl⟩ := ownT_slice i6
    have c5 := i5.cell 0
    simp only [List.getElem?_cons_zero] at c5
    obtain ⟨i0', hi, hz0, hz1, hz2⟩ := info_parts info_ptr
    have z5 := i5.lt
    have z8 := i8.size
    gi_wp2_with (gi_at_builtin; (refine wpListIn_append_own _ rfl _ _ 60 rfl w.heap.size 64 i0' (.pointer none) 1 8 Try.underlying60 hi hz0 hz1 hz2 rfl (by decide) _ _ _ rfl (i6.alloc _) ⟨W.heap.size, 0, none⟩ 1 1 [.pointer (some ⟨x.b, 0, none⟩)] rfl rfl (fun j u hj => by rw [Addr.add_mid]; simpa using (Row.new W 64 [.pointer (some ⟨x.b, 0, none⟩)]).range j u hj) (by simp [Value.oneCell']) (by unfold maxLen; omega) (by omega) (by simp; omega) ?_); intro v' w3 hown' hgrow _; obtain ⟨g', cap', rfl⟩ := ownsRow_succ hown'; have m5 := keptOwnT (i5.alloc (.cells #[.pointer (some ⟨x.b, 0, none⟩)] 64)) (i6.alloc _) (by decide) hgrow; have c6 := m5.cell 0; have f6 := m5.frozen 0; simp only [List.getElem?_cons_zero] at c6)
    have bW : Below w.heap.size W w3 := ((Below.refl _ _).alloc (by omega) _).grown hgrow (by simp; omega) (fun k e => ownT_base i6 k e)
    refine ⟨(KeepsOthers.alloc _ _).trans ((keepsT_own (i6.alloc _) hgrow).trans (KeepsOthers.setCell _ _ _)), bW.setCell (p := ⟨w.heap.size, 0, none⟩) (Nat.le_refl _) _, _, m5.set 0 _, ?_, (i8.trans bW).setCell (p := ⟨w.heap.size, 0, none⟩) (Nat.le_refl _) _⟩
    have := ownT_setCell hown' m5 (by decide) (.slice (some ⟨g', 0, none⟩) (pre.length + 1) cap')
    simpa [ptrs] using this
  case done =>
    rintro D xs W hD rfl ⟨v, i5, i6, i8⟩ hK
    obtain ⟨va, vc, rfl⟩ := ownT_slice i6
    have c5 := i5.cell 0
    simp only [List.getElem?_cons_zero] at c5
    gi_wp2
    have kk := grownBy_putObj' W D (.deferred none)
    have k : ∀ r, some D = some r → ∃ o : Obj, W.heap[r]? = some o ∧ o.isCells = false := fun r e => by cases e; exact ⟨_, hK, rfl⟩
    refine ⟨by simp, .inl ⟨_, _, rfl, run_takeDeferred hK, ?_⟩⟩
    exact ⟨_, results_tmp rfl _ _ _, _, rfl, ownT_keptN i6 kk k, i8.trans (belowK_b (w := w) (Nat.le_refl _) W D _ _ (by omega) hK rfl rfl)⟩
  case stop =>
    rintro D c pre W hD hpre hf hK
    exact hf.elim
theorem collect_any (Bs cap : Nat) (L : List Tm) (a : Option Addr) (w : World) (hL : L.length ≤ 10000) (h1 : Bs < w.heap.size) (c1 : w.cell? ⟨Bs, 0, none⟩ = some (.slice a L.length cap)) (hv : LineAt w w.heap.size a L) :
    Calls Try.prog 40 #[.func (.func 42) #[] #[.pointer (some ⟨Bs, 0, none⟩)]] w fun e w' => ∃ r, e = .returned r ∧ w'.ownsRow w.heap.size 64 1 r L.length (ptrs L) ∧ Below w.heap.size w w' := by
  have hA := appseq_any Bs cap L a w hL h1 c1 hv
  clear hv c1 h1
  go_enter Try.func40, Try.ntmps40
  go_wp2_with (go_at_call 46; refine hA.mono ?_; rintro e w1 ⟨r, rfl, hO, hB⟩; obtain ⟨va, vc, rfl⟩ := ownT_slice hO)
  go_ret
  exact ⟨_, rfl, hO, hB⟩
end Go.Proofs.Ytkamcnjofpamhaa
