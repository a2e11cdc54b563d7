/-
  Rules laid behind rules in a region that draws its order; what stands behind the first rule that matches.
-/
import Derived.Test.YtfohknbgfpbmiaaAp
namespace Go.Proofs.Ytfohknbgfpbmiaa
open Go.RowKit
set_option linter.unusedSimpArgs false
set_option maxRecDepth 20000
section
variable {w : World} {ops : Array Oper} {o : Oper} {a : Act} {Q : Exit → Act → World → Prop} {K : Act → World → Prop} {E : Prop}
theorem sBsG {T U : TypeId} {n : Nat} (parts : List (Nat × Operand)) (Z : List Value) (hw : Region.wanted o (yielded ops a.tmps) = true) (ho : o.op = .buildSlice T n parts.toArray)
    (hrun : ∀ w, (Instr.buildSlice T n (parts.map fun p => (p.1, a.eval p.2)).toArray).run Try.prog w = .ok (.slice (some ⟨w.heap.size, 0, none⟩) n n) (w.alloc (.cells Z.toArray U)))
    (h : ∀ W, Row W w.heap.size U Z → Below w.heap.size w W → K (a.put o.dst (.slice (some ⟨w.heap.size, 0, none⟩) n n)) W) : if Region.wanted o (yielded ops a.tmps) = true then Oper.wp Try.prog o a w K Q else E := by
  rw [if_pos hw]
  exact wp_bsG parts Z ho hrun h
theorem bsR0 (w : World) : (Instr.buildSlice 22 0 #[]).run Try.prog w = .ok (.slice (some ⟨w.heap.size, 0, none⟩) 0 0) (w.alloc (.cells #[] 41)) := by kernel_rfl
theorem own_zero {W : World} {g B : Nat} (h : Row W g 41 []) (hB : B ≤ g) : W.ownsRow B 41 50 (.slice (some ⟨g, 0, none⟩) 0 0) 0 (rcs []) :=
  ⟨rfl, .inr ⟨g, 0, #[], rfl, hB, h, Nat.le_refl _, by unfold maxLen; omega, rfl, rfl⟩⟩
theorem sAppend (s x : Operand) (hw : Region.wanted o (yielded ops a.tmps) = true)
    (ho : o.op = .call { callee := .builtin .append, args := #[s, x], argTypes := #[22, 22] })
    (base : Nat) (v : Value) (n : Nat) (ps : List Ru) (hs : a.eval s = v) (hown : w.ownsRow base 41 50 v n (rcs ps))
    (ad : Option Addr) (m c : Nat) (qs : List Ru) (hx : a.eval x = .slice ad m c) (hq : RlW w ad m qs) (h0 : ad = none → c = 0)
    (hbytes : n + m ≤ 1000000000) (hbase : base ≤ w.heap.size)
    (h : ∀ v' w', w'.ownsRow base 41 50 v' (n + m) (rcs (ps ++ qs)) → w.grownBy w' v.ownBlock → K (a.put o.dst v') w') : if Region.wanted o (yielded ops a.tmps) = true then Oper.wp Try.prog o a w K Q else E := by
  rw [if_pos hw]
  obtain ⟨i0, hi, hz0, hz1, hz2⟩ := info_parts infoR
  cases ad with
  | none =>
    have hm : m = 0 := by
      by_cases e : m = 0
      · exact e
      · obtain ⟨g, o, e1, _⟩ := hq.mem e
        cases e1
    subst hm
    have hc := h0 rfl
    subst hc
    have hz : qs = [] := List.eq_nil_of_length_eq_zero hq.len
    subst hz
    have hrun := run_append_owned_none (P := Try.prog) (w := w) base 22 o.type 41 i0 50 Try.underlying22 hi v n (rcs ps) hown
    have h2 := h v w (by simpa using hown) (World.grownBy.refl _ _)
    unfold Oper.wp execOp
    simp only [ho, resolve, invoke, builtin, Sem.run_bind, Sem.run_pure, Result.andThen_ok, List.map_toArray, List.map_cons, List.map_nil, hs, hx, hrun]
    exact h2
  | some ad =>
    refine wp_append_own w s x 22 ho base 41 i0 (.agg (rcells zeroR).toArray) 50 120 Try.underlying22 hi hz0 hz1 hz2 (by simp [Value.cells, rcells_len]) (by decide) v n (rcs ps) hs hown ad m c (rcs qs) hx (by rw [rcs_len, hq.len]) (fun j u hu => ?_) (rcs_one qs) (by unfold maxLen; omega) (by omega) hbase (fun v' w' h1 h2 _ => h v' w' (by rw [rcs_append]; exact h1) h2)
    have hj : j < qs.length * 50 := by have := (List.getElem?_eq_some_iff.1 hu).1; rwa [rcs_len] at this
    have hm : m ≠ 0 := by have := hq.len; omega
    obtain ⟨g, o, e, _, hcell⟩ := hq.mem hm
    cases e
    have hjq : j / 50 < qs.length := by omega
    have h3 := hcell (j / 50) qs[j / 50] (List.getElem?_eq_getElem hjq) (j % 50) u (by rw [← rcs_get qs (j / 50) _ (List.getElem?_eq_getElem hjq) (j % 50) (by omega), show j / 50 * 50 + j % 50 = j by omega]; exact hu)
    rw [Addr.add_mid]
    rw [show o + j / 50 * 50 + j % 50 = o + j by omega] at h3
    exact h3
end
theorem RlW.take {w : World} {g o n k : Nat} {l : List Ru} (h : RlW w (some ⟨g, o, none⟩) n l) (hk : k ≤ n) : RlW w (some ⟨g, o, none⟩) k (l.take k) :=
  ⟨by rw [List.length_take, h.len]; omega, fun h0 => by
    obtain ⟨g', o', e, h1, h2⟩ := h.mem (by omega)
    cases e
    exact ⟨g, o, rfl, h1, fun j q hq => h2 j q (by
      rw [List.getElem?_take] at hq
      split at hq
      · exact hq
      · cases hq)⟩⟩
theorem cap_ge (m x : Nat) (hm : m < 65536) : m ≤ capS [m, x] := by
  simp [capS]; omega
theorem one_ge (m : Nat) (r : Ru) (hm : m < 65536) : m ≤ oneN m r ∧ oneN m r < 65536 := by
  unfold oneN
  split
  · omega
  · refine ⟨cap_ge m _ hm, ?_⟩
    unfold capS
    omega
theorem met_front {m : Nat} {f : Ru → Bool} {l more : List Ru} {k : Nat} (h : l.findIdx? f = some k) : metN m f (l.take (k + 1) ++ more) = metN m f l := by
  have h1 := h
  rw [List.findIdx?_eq_some_iff_getElem] at h1
  obtain ⟨hk, hf, hb⟩ := h1
  have e1 : l.find? f = some l[k] := by
    rw [List.find?_eq_some_iff_getElem]
    exact ⟨hf, k, hk, rfl, fun j hj => by simpa using hb j hj⟩
  have e2 : (l.take (k + 1)).find? f = some l[k] := by
    rw [List.find?_eq_some_iff_getElem]
    refine ⟨hf, k, by rw [List.length_take]; omega, by simp, fun j hj => ?_⟩
    have := hb j hj
    simpa using this
  unfold metN
  rw [List.find?_append, e1, e2]
  rfl
theorem find_hit {f : Ru → Bool} {l : List Ru} {k : Nat} (h : l.findIdx? f = some k) : ∃ hk : k < l.length, f l[k] = true := by
  rw [List.findIdx?_eq_some_iff_getElem] at h
  obtain ⟨hk, hf, _⟩ := h
  exact ⟨hk, hf⟩
end Go.Proofs.Ytfohknbgfpbmiaa
