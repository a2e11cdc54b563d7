/-
  A request that is sent one time more.
-/
import Derived.Test.YtbjclphgabpgoaaR3
namespace Go.Proofs.Ytbjclphgabpgoaa
open Go.RowKit Go.Maps
set_option linter.unusedSimpArgs false
set_option linter.unusedVariables false
set_option maxRecDepth 20000
theorem gb_set (w : World) (g o : Nat) (v : Value) : w.grownBy (w.setCell ⟨g, o, none⟩ v) (some g) := grownBy_setCell w g o v
def Sr.sM (n : Sr) (x : Int) : Sr := { n with m := x }
def Sr.sT (n : Sr) (x : Int) : Sr := { n with t := x }
section
variable {ops : Array Oper} {rest : List Oper} {op : Oper} {a : Act} {w : World} {Q : Exit → Act → World → Prop} {K : Act → World → Prop} {E : Prop} {S : World → Prop}
theorem wp_st64 (x y : Operand) (ho : op.op = .store 3 x y) (b c : Nat) {U : TypeId} (cs : List Value) (n : Int) (hx : a.eval x = .pointer (some ⟨b, c, none⟩)) (hy : a.eval y = .int .i64 n) (hr : Row w b U cs) (hc : c < cs.length)
    (h : ∀ W, w.grownBy W (some b) → Row W b U (cs.set c (.int .i64 n)) → K (a.put op.dst undef) W) : Oper.wp Try.prog op a w K Q := by
  have c1 : w.cell? ⟨b, c, none⟩ = some cs[c] := by rw [hr.cell]; exact List.getElem?_eq_getElem hc
  have c2 := hr.frozen c
  have h1 := h _ (gb_set w b c (.int .i64 n)) (hr.set c (.int .i64 n))
  unfold Oper.wp execOp
  simp only [ho, hx, hy]
  go_simp
  exact h1
theorem wp_stM (x y : Operand) (ho : op.op = .store 3 x y) (b : Nat) (n : Int) (u : Sr) {U : TypeId} (hx : a.eval x = .pointer (some ⟨b, 43, none⟩)) (hy : a.eval y = .int .i64 n) (hr : Row w b U (scs u))
    (h : ∀ W, w.grownBy W (some b) → Row W b U (scs (u.sM n)) → K (a.put op.dst undef) W) : Oper.wp Try.prog op a w K Q :=
  wp_st64 x y ho b 43 _ n hx hy hr (by rw [scs_len]; omega) fun W h1 h2 => h W h1 (by rwa [scs_m] at h2)
theorem wp_stT (x y : Operand) (ho : op.op = .store 3 x y) (b : Nat) (n : Int) (u : Sr) {U : TypeId} (hx : a.eval x = .pointer (some ⟨b, 44, none⟩)) (hy : a.eval y = .int .i64 n) (hr : Row w b U (scs u))
    (h : ∀ W, w.grownBy W (some b) → Row W b U (scs (u.sT n)) → K (a.put op.dst undef) W) : Oper.wp Try.prog op a w K Q :=
  wp_st64 x y ho b 44 _ n hx hy hr (by rw [scs_len]; omega) fun W h1 h2 => h W h1 (by rwa [scs_t] at h2)
theorem inL (hw : Region.wanted op (yielded ops a.tmps) = true) (h : ∀ K : Act → World → Prop, (∀ a' w', wpList Try.prog ops Q rest a' w' → K a' w') → Oper.wp Try.prog op a w K Q) : wpList Try.prog ops Q (op :: rest) a w :=
  wpList_step fun K hK => by
    rw [if_pos hw]
    exact h K hK
theorem inS (hw : Region.wanted op (yielded ops a.tmps) = true) (h : Oper.wp Try.prog op a w K Q) : if Region.wanted op (yielded ops a.tmps) = true then Oper.wp Try.prog op a w K Q else E := by
  rw [if_pos hw]
  exact h
end
theorem sent_is (n : Sr) (now k : Int) (h : n.m = k) : sentR n now = (n.sT (now + 2000 * 2 ^ k.toNat)).sM (k + 1) := by subst h; rfl
theorem sent_any (n : Sr) (now : Int) (w : World) (ha : 0 ≤ now) (hb : now ≤ 1125899906842624) (m0 : 0 ≤ n.m) (m1 : n.m < 4) : Calls Try.prog 30 #[sV n, .int .i64 now] w (Gives w (sV (sentR n now))) := by
  have hm : n.m = 0 ∨ n.m = 1 ∨ n.m = 2 ∨ n.m = 3 := by omega
  clear m0 m1
  rcases hm with h | h | h | h
  · skip
    rw [sent_is n now 0 h]
    have hw : wrap64 (now + 2000) = now + 2000 := by unfold wrap64; omega
    have e2 : now + 2000 * 2 ^ (0 : Int).toNat = now + 2000 := rfl
    rw [e2]
    clear ha hb e2
    go_enter Try.func30, Try.ntmps30
    go_upto_region 1 with (first
      | (refine alG infoSz rfl rfl ?_; intro g1 W1 hge hgl hB1 hr1))
    obtain ⟨hB, r0, hs⟩ := stepRow hB1
    have hg : w.heap.size < g1 := by simp at hge; omega
    have c43 : W1.cell? ⟨w.heap.size, 43, none⟩ = some (.int .i64 0) := by rw [← h]; exact (r0.cell 43).trans (sc43 n)
    clear hB1 hge
    have hne : g1 ≠ w.heap.size := by omega
    generalize hz : now + 2000 = z at *
    have HC : Hid (∀ W, Row W w.heap.size 67 (scs (n.sT z)) → W.cell? ⟨w.heap.size, 43, none⟩ = some (.int .i64 0)) := fun W hW => by rw [← h]; exact (hW.cell 43).trans (sc43 (n.sT z))
    go_wp2_with (first
      | (have kk := q2; refine stS (.tmp 4) (.tmp 15) rfl rfl g1 ((n.sT z).sM 1) _ rfl rfl q2 ?_; intro W5 g5 q5; clear q2)
      | (have kk := r2; refine ldS (.tmp 2) rfl rfl _ _ ((n.sT z).sM 1) rfl r2.sr ?_)
      | (have kk := r1; (with_reducible refine inL ?_ fun K hK => ?_); (focus rfl); refine wp_stM (.tmp 14) (.tmp 13) rfl w.heap.size 1 (n.sT z) rfl rfl r1 ?_; intro W3 g3 r2; refine hK _ _ ?_; have q2 := q1.keep g3 hne; have b3 := grown_below g3 b2 (Nat.le_refl _) b2.size; clear r1)
      | (have kk := r0; (with_reducible refine inL ?_ fun K hK => ?_); (focus rfl); refine wp_stT (.tmp 10) (.tmp 9) rfl w.heap.size z n rfl (by first | rfl | exact congrArg (Value.int .i64) hw) r0 ?_; intro W2 g2 r1; refine hK _ _ ?_; have q1 := hr1.keep g2 hne; have b2 := grown_below g2 hB (Nat.le_refl _) hB.size; have c43' := HC.out _ r1; clear r0))
    exact bodyPost_ret (retC rfl _ _ 0 rfl (lvS q5)) rfl ⟨rfl, grown_below g5 b3 (by omega) b3.size⟩
  · skip
    rw [sent_is n now 1 h]
    have hw : wrap64 (now + 4000) = now + 4000 := by unfold wrap64; omega
    have e2 : now + 2000 * 2 ^ (1 : Int).toNat = now + 4000 := rfl
    rw [e2]
    clear ha hb e2
    go_enter Try.func30, Try.ntmps30
    go_upto_region 1 with (first
      | (refine alG infoSz rfl rfl ?_; intro g1 W1 hge hgl hB1 hr1))
    obtain ⟨hB, r0, hs⟩ := stepRow hB1
    have hg : w.heap.size < g1 := by simp at hge; omega
    have c43 : W1.cell? ⟨w.heap.size, 43, none⟩ = some (.int .i64 1) := by rw [← h]; exact (r0.cell 43).trans (sc43 n)
    clear hB1 hge
    have hne : g1 ≠ w.heap.size := by omega
    generalize hz : now + 4000 = z at *
    have HC : Hid (∀ W, Row W w.heap.size 67 (scs (n.sT z)) → W.cell? ⟨w.heap.size, 43, none⟩ = some (.int .i64 1)) := fun W hW => by rw [← h]; exact (hW.cell 43).trans (sc43 (n.sT z))
    go_wp2_with (first
      | (have kk := q2; refine stS (.tmp 4) (.tmp 15) rfl rfl g1 ((n.sT z).sM 2) _ rfl rfl q2 ?_; intro W5 g5 q5; clear q2)
      | (have kk := r2; refine ldS (.tmp 2) rfl rfl _ _ ((n.sT z).sM 2) rfl r2.sr ?_)
      | (have kk := r1; (with_reducible refine inL ?_ fun K hK => ?_); (focus rfl); refine wp_stM (.tmp 14) (.tmp 13) rfl w.heap.size 2 (n.sT z) rfl rfl r1 ?_; intro W3 g3 r2; refine hK _ _ ?_; have q2 := q1.keep g3 hne; have b3 := grown_below g3 b2 (Nat.le_refl _) b2.size; clear r1)
      | (have kk := r0; (with_reducible refine inL ?_ fun K hK => ?_); (focus rfl); refine wp_stT (.tmp 10) (.tmp 9) rfl w.heap.size z n rfl (by first | rfl | exact congrArg (Value.int .i64) hw) r0 ?_; intro W2 g2 r1; refine hK _ _ ?_; have q1 := hr1.keep g2 hne; have b2 := grown_below g2 hB (Nat.le_refl _) hB.size; have c43' := HC.out _ r1; clear r0))
    exact bodyPost_ret (retC rfl _ _ 0 rfl (lvS q5)) rfl ⟨rfl, grown_below g5 b3 (by omega) b3.size⟩
  · skip
    rw [sent_is n now 2 h]
    have hw : wrap64 (now + 8000) = now + 8000 := by unfold wrap64; omega
    have e2 : now + 2000 * 2 ^ (2 : Int).toNat = now + 8000 := rfl
    rw [e2]
    clear ha hb e2
    go_enter Try.func30, Try.ntmps30
    go_upto_region 1 with (first
      | (refine alG infoSz rfl rfl ?_; intro g1 W1 hge hgl hB1 hr1))
    obtain ⟨hB, r0, hs⟩ := stepRow hB1
    have hg : w.heap.size < g1 := by simp at hge; omega
    have c43 : W1.cell? ⟨w.heap.size, 43, none⟩ = some (.int .i64 2) := by rw [← h]; exact (r0.cell 43).trans (sc43 n)
    clear hB1 hge
    have hne : g1 ≠ w.heap.size := by omega
    generalize hz : now + 8000 = z at *
    have HC : Hid (∀ W, Row W w.heap.size 67 (scs (n.sT z)) → W.cell? ⟨w.heap.size, 43, none⟩ = some (.int .i64 2)) := fun W hW => by rw [← h]; exact (hW.cell 43).trans (sc43 (n.sT z))
    go_wp2_with (first
      | (have kk := q2; refine stS (.tmp 4) (.tmp 15) rfl rfl g1 ((n.sT z).sM 3) _ rfl rfl q2 ?_; intro W5 g5 q5; clear q2)
      | (have kk := r2; refine ldS (.tmp 2) rfl rfl _ _ ((n.sT z).sM 3) rfl r2.sr ?_)
      | (have kk := r1; (with_reducible refine inL ?_ fun K hK => ?_); (focus rfl); refine wp_stM (.tmp 14) (.tmp 13) rfl w.heap.size 3 (n.sT z) rfl rfl r1 ?_; intro W3 g3 r2; refine hK _ _ ?_; have q2 := q1.keep g3 hne; have b3 := grown_below g3 b2 (Nat.le_refl _) b2.size; clear r1)
      | (have kk := r0; (with_reducible refine inL ?_ fun K hK => ?_); (focus rfl); refine wp_stT (.tmp 10) (.tmp 9) rfl w.heap.size z n rfl (by first | rfl | exact congrArg (Value.int .i64) hw) r0 ?_; intro W2 g2 r1; refine hK _ _ ?_; have q1 := hr1.keep g2 hne; have b2 := grown_below g2 hB (Nat.le_refl _) hB.size; have c43' := HC.out _ r1; clear r0))
    exact bodyPost_ret (retC rfl _ _ 0 rfl (lvS q5)) rfl ⟨rfl, grown_below g5 b3 (by omega) b3.size⟩
  · skip
    rw [sent_is n now 3 h]
    have hw : wrap64 (now + 16000) = now + 16000 := by unfold wrap64; omega
    have e2 : now + 2000 * 2 ^ (3 : Int).toNat = now + 16000 := rfl
    rw [e2]
    clear ha hb e2
    go_enter Try.func30, Try.ntmps30
    go_upto_region 1 with (first
      | (refine alG infoSz rfl rfl ?_; intro g1 W1 hge hgl hB1 hr1))
    obtain ⟨hB, r0, hs⟩ := stepRow hB1
    have hg : w.heap.size < g1 := by simp at hge; omega
    have c43 : W1.cell? ⟨w.heap.size, 43, none⟩ = some (.int .i64 3) := by rw [← h]; exact (r0.cell 43).trans (sc43 n)
    clear hB1 hge
    have hne : g1 ≠ w.heap.size := by omega
    generalize hz : now + 16000 = z at *
    have HC : Hid (∀ W, Row W w.heap.size 67 (scs (n.sT z)) → W.cell? ⟨w.heap.size, 43, none⟩ = some (.int .i64 3)) := fun W hW => by rw [← h]; exact (hW.cell 43).trans (sc43 (n.sT z))
    go_wp2_with (first
      | (have kk := q2; refine stS (.tmp 4) (.tmp 15) rfl rfl g1 ((n.sT z).sM 4) _ rfl rfl q2 ?_; intro W5 g5 q5; clear q2)
      | (have kk := r2; refine ldS (.tmp 2) rfl rfl _ _ ((n.sT z).sM 4) rfl r2.sr ?_)
      | (have kk := r1; (with_reducible refine inL ?_ fun K hK => ?_); (focus rfl); refine wp_stM (.tmp 14) (.tmp 13) rfl w.heap.size 4 (n.sT z) rfl rfl r1 ?_; intro W3 g3 r2; refine hK _ _ ?_; have q2 := q1.keep g3 hne; have b3 := grown_below g3 b2 (Nat.le_refl _) b2.size; clear r1)
      | (have kk := r0; (with_reducible refine inL ?_ fun K hK => ?_); (focus rfl); refine wp_stT (.tmp 10) (.tmp 9) rfl w.heap.size z n rfl (by first | rfl | exact congrArg (Value.int .i64) hw) r0 ?_; intro W2 g2 r1; refine hK _ _ ?_; have q1 := hr1.keep g2 hne; have b2 := grown_below g2 hB (Nat.le_refl _) hB.size; have c43' := HC.out _ r1; clear r0))
    exact bodyPost_ret (retC rfl _ _ 0 rfl (lvS q5)) rfl ⟨rfl, grown_below g5 b3 (by omega) b3.size⟩
end Go.Proofs.Ytbjclphgabpgoaa
