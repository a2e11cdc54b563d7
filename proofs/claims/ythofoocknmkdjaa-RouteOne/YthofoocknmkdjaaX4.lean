/-
  Tell: what a neighbour tells.
-/
import Derived.Test.YthofoocknmkdjaaX3
namespace Go.Proofs.Ythofoocknmkdjaa
open Go.RowKit Go.Maps
set_option linter.unusedSimpArgs false
set_option linter.unusedVariables false
set_option maxRecDepth 20000
theorem Turn.of {w w' : World} {t mb : Nat} {most : Int} {L : List Ro} (h : Tb w t mb most L) (hb : Below w.heap.size w w') : Turn w w' t mb most L :=
  ⟨h.below hb, hb.os, hb.tape, hb.output, hb.size, fun i hi _ => hb.block i hi⟩
theorem putN_le {L : List Ro} {n : Ro} : (putN L n).length ≤ L.length + 1 := by
  rw [putN_len]
  split <;> omega
theorem putN_in {L : List Ro} {n : Ro} (h : (getN L n.k).isSome = true) : (putN L n).length = L.length := by
  cases hg : getN L n.k with
  | none => rw [hg] at h; cases h
  | some m =>
    obtain ⟨h1, h2⟩ := getN_some hg
    rw [putN_len, if_pos (List.any_eq_true.2 ⟨m, h1, keyB_iff.2 h2⟩)]
theorem gb_set (w : World) (g o : Nat) (v : Value) : w.grownBy (w.setCell ⟨g, o, none⟩ v) (some g) := grownBy_setCell w g o v
/-! ### Fields of a route are written -/
def Ro.sQ (n : Ro) (x : Int) : Ro := { n with q := x }
def Ro.sR (n : Ro) (x : Int) : Ro := { n with r := x }
def Ro.sM (n : Ro) (x : Int) : Ro := { n with m := x }
def Ro.sU (n : Ro) (x : Int) : Ro := { n with u := x }
def Ro.sD (n : Ro) (x : Int) : Ro := { n with d := x }
def Ro.sS (n : Ro) (x : Bool) : Ro := { n with s := x }
def Ro.sId (n : Ro) (x : Id8) : Ro := { n with id := x }
def Ro.sH (n : Ro) (x : Ad) : Ro := { n with h := x }
section
variable {ops : Array Oper} {rest : List Oper} {op : Oper} {a : Act} {w : World} {Q : Exit → Act → World → Prop} {K : Act → World → Prop} {E : Prop} {S : World → Prop}
theorem wp_st64 (x y : Operand) (ho : op.op = .store 3 x y) (b c : Nat) {U : TypeId} (cs : List Value) (n : Int) (hx : a.eval x = .pointer (some ⟨b, c, none⟩)) (hy : a.eval y = .int .i64 n) (hr : Row w b U cs) (hc : c < cs.length)
    (h : ∀ W, w.grownBy W (some b) → Row W b U (cs.set c (.int .i64 n)) → K (a.put op.dst undef) W) : Oper.wp Try.prog op a w K Q := by
  have c1 : w.cell? ⟨b, c, none⟩ = some cs[c] := by rw [hr.cell]; exact List.getElem?_eq_getElem hc
  have c2 := hr.frozen c
  have h1 := h _ (gb_set w b c (.int .i64 n)) (hr.set c (.int .i64 n))
  unfold Oper.wp execOp
  simp only [ho, hx, hy]
  go_simp
  exact h1
theorem wp_st16 (x y : Operand) (ho : op.op = .store 39 x y) (b c : Nat) {U : TypeId} (cs : List Value) (n : Int) (hx : a.eval x = .pointer (some ⟨b, c, none⟩)) (hy : a.eval y = .int .u16 n) (hr : Row w b U cs) (hc : c < cs.length)
    (h : ∀ W, w.grownBy W (some b) → Row W b U (cs.set c (.int .u16 n)) → K (a.put op.dst undef) W) : Oper.wp Try.prog op a w K Q := by
  have c1 : w.cell? ⟨b, c, none⟩ = some cs[c] := by rw [hr.cell]; exact List.getElem?_eq_getElem hc
  have c2 := hr.frozen c
  have h1 := h _ (gb_set w b c (.int .u16 n)) (hr.set c (.int .u16 n))
  unfold Oper.wp execOp
  simp only [ho, hx, hy]
  go_simp
  exact h1
theorem wp_stB (x y : Operand) (ho : op.op = .store 4 x y) (b c : Nat) {U : TypeId} (cs : List Value) (n : Bool) (hx : a.eval x = .pointer (some ⟨b, c, none⟩)) (hy : a.eval y = .bool n) (hr : Row w b U cs) (hc : c < cs.length)
    (h : ∀ W, w.grownBy W (some b) → Row W b U (cs.set c (.bool n)) → K (a.put op.dst undef) W) : Oper.wp Try.prog op a w K Q := by
  have c1 : w.cell? ⟨b, c, none⟩ = some cs[c] := by rw [hr.cell]; exact List.getElem?_eq_getElem hc
  have c2 := hr.frozen c
  have h1 := h _ (gb_set w b c (.bool n)) (hr.set c (.bool n))
  unfold Oper.wp execOp
  simp only [ho, hx, hy]
  go_simp
  exact h1
theorem wp_stIf (x y : Operand) (ho : op.op = .store 38 x y) (b : Nat) (i : Id8) (u : Ro) {U : TypeId} (hx : a.eval x = .pointer (some ⟨b, 51, none⟩)) (hy : a.eval y = idV i) (hr : Row w b U (ocs u))
    (h : ∀ W, w.grownBy W (some b) → Row W b U (ocs (u.sId i)) → K (a.put op.dst undef) W) : Oper.wp Try.prog op a w K Q := by
  refine wp_store_mid _ x y ho b 51 _ hx hy (by simpa [icells_len] using hr.thereMid (o := 51) (n := 8) (by rw [ocs_len]; omega)) (by rw [infoI]; simp [icells_len]) (all_oneCell_toArray (icells_one i)) (h _ (grownBy_setCells b _ _ _) ?_)
  have e : ocs u = (qcells u.p ++ (.int .i64 u.i :: acells u.a)) ++ (icells u.id ++ (omd u ++ (acells u.h ++ otl u))) := by simp [ocs]
  rw [e] at hr
  have := Row.setMid (icells i) (qcells u.p ++ (.int .i64 u.i :: acells u.a)) (icells u.id) (omd u ++ (acells u.h ++ otl u)) w hr (by rw [icells_len, icells_len])
  have el : (qcells u.p ++ (.int .i64 u.i :: acells u.a)).length = 51 := by simp [qcells_len, acells_len]
  rw [el] at this
  simpa [ocs, omd, otl, Ro.sId, Ro.sH] using this
theorem wp_stAf (x y : Operand) (ho : op.op = .store 32 x y) (b : Nat) (i : Ad) (u : Ro) {U : TypeId} (hx : a.eval x = .pointer (some ⟨b, 62, none⟩)) (hy : a.eval y = (Value.agg (acells i).toArray)) (hr : Row w b U (ocs u))
    (h : ∀ W, w.grownBy W (some b) → Row W b U (ocs (u.sH i)) → K (a.put op.dst undef) W) : Oper.wp Try.prog op a w K Q := by
  refine wp_store_mid _ x y ho b 62 _ hx hy (by simpa [acells_len] using hr.thereMid (o := 62) (n := 16) (by rw [ocs_len]; omega)) (by rw [infoA]; simp [acells_len]) (all_oneCell_toArray (acells_one i)) (h _ (grownBy_setCells b _ _ _) ?_)
  have e : ocs u = (qcells u.p ++ (.int .i64 u.i :: (acells u.a ++ (icells u.id ++ omd u)))) ++ (acells u.h ++ otl u) := by simp [ocs]
  rw [e] at hr
  have := Row.setMid (acells i) (qcells u.p ++ (.int .i64 u.i :: (acells u.a ++ (icells u.id ++ omd u)))) (acells u.h) (otl u) w hr (by rw [acells_len, acells_len])
  have el : (qcells u.p ++ (.int .i64 u.i :: (acells u.a ++ (icells u.id ++ omd u)))).length = 62 := by simp [qcells_len, acells_len, icells_len, omd]
  rw [el] at this
  simpa [ocs, omd, otl, Ro.sId, Ro.sH] using this
/-- A number of a route is written. -/
theorem wp_stU (x y : Operand) (ho : op.op = .store 3 x y) (b : Nat) (n : Int) (u : Ro) {U : TypeId} (hx : a.eval x = .pointer (some ⟨b, 78, none⟩)) (hy : a.eval y = .int .i64 n) (hr : Row w b U (ocs u))
    (h : ∀ W, w.grownBy W (some b) → Row W b U (ocs (u.sU n)) → K (a.put op.dst undef) W) : Oper.wp Try.prog op a w K Q :=
  wp_st64 x y ho b 78 _ n hx hy hr (by rw [ocs_len]; omega) fun W h1 h2 => h W h1 (by rwa [os78] at h2)
theorem wp_stD (x y : Operand) (ho : op.op = .store 3 x y) (b : Nat) (n : Int) (u : Ro) {U : TypeId} (hx : a.eval x = .pointer (some ⟨b, 79, none⟩)) (hy : a.eval y = .int .i64 n) (hr : Row w b U (ocs u))
    (h : ∀ W, w.grownBy W (some b) → Row W b U (ocs (u.sD n)) → K (a.put op.dst undef) W) : Oper.wp Try.prog op a w K Q :=
  wp_st64 x y ho b 79 _ n hx hy hr (by rw [ocs_len]; omega) fun W h1 h2 => h W h1 (by rwa [os79] at h2)
theorem wp_stSq (x y : Operand) (ho : op.op = .store 39 x y) (b : Nat) (n : Int) (u : Ro) {U : TypeId} (hx : a.eval x = .pointer (some ⟨b, 59, none⟩)) (hy : a.eval y = .int .u16 n) (hr : Row w b U (ocs u))
    (h : ∀ W, w.grownBy W (some b) → Row W b U (ocs (u.sQ n)) → K (a.put op.dst undef) W) : Oper.wp Try.prog op a w K Q :=
  wp_st16 x y ho b 59 _ n hx hy hr (by rw [ocs_len]; omega) fun W h1 h2 => h W h1 (by rwa [os59] at h2)
theorem wp_stRf (x y : Operand) (ho : op.op = .store 39 x y) (b : Nat) (n : Int) (u : Ro) {U : TypeId} (hx : a.eval x = .pointer (some ⟨b, 60, none⟩)) (hy : a.eval y = .int .u16 n) (hr : Row w b U (ocs u))
    (h : ∀ W, w.grownBy W (some b) → Row W b U (ocs (u.sR n)) → K (a.put op.dst undef) W) : Oper.wp Try.prog op a w K Q :=
  wp_st16 x y ho b 60 _ n hx hy hr (by rw [ocs_len]; omega) fun W h1 h2 => h W h1 (by rwa [os60] at h2)
theorem wp_stMe (x y : Operand) (ho : op.op = .store 39 x y) (b : Nat) (n : Int) (u : Ro) {U : TypeId} (hx : a.eval x = .pointer (some ⟨b, 61, none⟩)) (hy : a.eval y = .int .u16 n) (hr : Row w b U (ocs u))
    (h : ∀ W, w.grownBy W (some b) → Row W b U (ocs (u.sM n)) → K (a.put op.dst undef) W) : Oper.wp Try.prog op a w K Q :=
  wp_st16 x y ho b 61 _ n hx hy hr (by rw [ocs_len]; omega) fun W h1 h2 => h W h1 (by rwa [os61] at h2)
theorem wp_stSe (x y : Operand) (ho : op.op = .store 4 x y) (b : Nat) (n : Bool) (u : Ro) {U : TypeId} (hx : a.eval x = .pointer (some ⟨b, 80, none⟩)) (hy : a.eval y = .bool n) (hr : Row w b U (ocs u))
    (h : ∀ W, w.grownBy W (some b) → Row W b U (ocs (u.sS n)) → K (a.put op.dst undef) W) : Oper.wp Try.prog op a w K Q :=
  wp_stB x y ho b 80 _ n hx hy hr (by rw [ocs_len]; omega) fun W h1 h2 => h W h1 (by rwa [os80] at h2)
theorem inL (hw : Region.wanted op (yielded ops a.tmps) = true) (h : ∀ K : Act → World → Prop, (∀ a' w', wpList Try.prog ops Q rest a' w' → K a' w') → Oper.wp Try.prog op a w K Q) : wpList Try.prog ops Q (op :: rest) a w :=
  wpList_step fun K hK => by
    rw [if_pos hw]
    exact h K hK
theorem inS (hw : Region.wanted op (yielded ops a.tmps) = true) (h : Oper.wp Try.prog op a w K Q) : if Region.wanted op (yielded ops a.tmps) = true then Oper.wp Try.prog op a w K Q else E := by
  rw [if_pos hw]
  exact h
end
/-! ### What is taken back, what is told again -/
def retr (n : Ro) (at_ : Int) : Ro := { n with r := 65535, u := at_ + n.d }
def retold (old : Ro) (now : Int) (n : Ro) : Ro := if n.r = 65535 then retr old now else { old with r := n.r, id := n.id, q := n.q, h := n.h, d := n.d, u := now + n.d }
theorem retr_any (n : Ro) (at_ : Int) (w : World) (ha : 0 ≤ at_) (hb : at_ ≤ 17592186044416) (d0 : 1 ≤ n.d) (d1 : n.d ≤ 2147483648) : Calls Try.prog 50 #[rV n, .int .i64 at_] w (Gives w (rV (retr n at_))) := by
  have hw : wrap64 (at_ + n.d) = at_ + n.d := by unfold wrap64; omega
  clear d0 d1 ha hb
  go_enter Try.func50, Try.ntmps50
  go_upto_region 1 with (first
    | (refine alG infoRz rfl rfl ?_; intro g1 W1 hge hgl hB1 hr1))
  obtain ⟨hB, r0, hs⟩ := stepRow hB1
  have hg : w.heap.size < g1 := by simp at hge; omega
  have c79 : W1.cell? ⟨w.heap.size, 79, none⟩ = some (.int .i64 n.d) := (r0.cell 79).trans (oc79 n)
  clear hB1 hge
  have hne : g1 ≠ w.heap.size := by omega
  generalize hz : at_ + n.d = z at *
  go_wp2_with (first
    | (have kk := q2; refine stS (.tmp 4) (.tmp 11) rfl rfl g1 (retr n at_) _ rfl rfl q2 ?_; intro W5 g5 q5; clear q2)
    | (have kk := r2; refine ldS (.tmp 2) rfl rfl _ _ (retr n at_) rfl (show LS _ w.heap.size 0 (retr n at_) by have := r2.ro; unfold retr; rw [hz]; exact this) ?_)
    | (have kk := r1; (with_reducible refine inL ?_ fun K hK => ?_); (focus rfl); refine wp_stU (.tmp 10) (.tmp 8) rfl w.heap.size z (n.sR 65535) rfl (by rw [← hw]; rfl) r1 ?_; intro W3 g3 r2; refine hK _ _ ?_; have q2 := q1.keep g3 hne; have b3 := grown_below g3 b2 (Nat.le_refl _) b2.size; clear r1)
    | (have kk := r0; (with_reducible refine inL ?_ fun K hK => ?_); (focus rfl); refine wp_stRf (.tmp 9) (.const (.int .u16 65535)) rfl w.heap.size 65535 n rfl rfl r0 ?_; intro W2 g2 r1; refine hK _ _ ?_; have q1 := hr1.keep g2 hne; have b2 := grown_below g2 hB (Nat.le_refl _) hB.size; clear r0))
  exact bodyPost_ret (retC rfl _ _ 0 rfl (lvS q5)) rfl ⟨rfl, grown_below g5 b3 (by omega) b3.size⟩
end Go.Proofs.Ythofoocknmkdjaa
