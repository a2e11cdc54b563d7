/-
  What a neighbour is by a time; its key.
-/
import Derived.Test.YtacadlbhgelncaaN3
namespace Go.Proofs.Ytacadlbhgelncaa
open Lk (Hi hcs hcs_one)
open Rk (Rt rcs rtV)
open Go.RowKit Go.Maps
set_option linter.unusedSimpArgs false
set_option linter.unusedVariables false
set_option maxRecDepth 20000
theorem nc0 (n : Ng) : (ncs n)[0]? = some (.int .i64 n.i) := (ncs_at n).1
theorem nc17 (n : Ng) : (ncs n)[17]? = some (.int .u16 n.m.b) := (ncs_at n).2.1
theorem nc20 (n : Ng) : (ncs n)[20]? = some (.int .u16 n.u.b) := (ncs_at n).2.2.1
theorem nc23 (n : Ng) : (ncs n)[23]? = some (.int .i64 n.mg) := (ncs_at n).2.2.2.1
theorem nc24 (n : Ng) : (ncs n)[24]? = some (.int .i64 n.ug) := (ncs_at n).2.2.2.2.1
theorem nc25 (n : Ng) : (ncs n)[25]? = some (.int .i64 n.ma) := (ncs_at n).2.2.2.2.2.1
theorem nc26 (n : Ng) : (ncs n)[26]? = some (.int .i64 n.ua) := (ncs_at n).2.2.2.2.2.2.1
theorem nc27 (n : Ng) : (ncs n)[27]? = some (.int .u16 n.tx) := (ncs_at n).2.2.2.2.2.2.2.1
theorem nc28 (n : Ng) : (ncs n)[28]? = some (.int .i64 n.ta) := (ncs_at n).2.2.2.2.2.2.2.2.1
theorem nc29 (n : Ng) : (ncs n)[29]? = some (.int .u32 n.se) := (ncs_at n).2.2.2.2.2.2.2.2.2.1
theorem nc30 (n : Ng) : (ncs n)[30]? = some (.int .i64 n.he) := (ncs_at n).2.2.2.2.2.2.2.2.2.2.1
theorem nc31 (n : Ng) : (ncs n)[31]? = some (.bool n.hs) := (ncs_at n).2.2.2.2.2.2.2.2.2.2.2.1
theorem nc32 (n : Ng) : (ncs n)[32]? = some (.int .i64 n.rt) := (ncs_at n).2.2.2.2.2.2.2.2.2.2.2.2.1
theorem nc33 (n : Ng) : (ncs n)[33]? = some (.bool n.hr) := (ncs_at n).2.2.2.2.2.2.2.2.2.2.2.2.2
theorem Row.s23 {w : World} {g : Nat} {t : TypeId} {n : Ng} (h : Row w g t (ncs n)) (v : Int) : Row (w.setCell ⟨g, 23, none⟩ (.int .i64 v)) g t (ncs { n with mg := v }) := (ncs_set n).1 v ▸ h.set 23 _
theorem Row.s24 {w : World} {g : Nat} {t : TypeId} {n : Ng} (h : Row w g t (ncs n)) (v : Int) : Row (w.setCell ⟨g, 24, none⟩ (.int .i64 v)) g t (ncs { n with ug := v }) := (ncs_set n).2.1 v ▸ h.set 24 _
theorem Row.s25 {w : World} {g : Nat} {t : TypeId} {n : Ng} (h : Row w g t (ncs n)) (v : Int) : Row (w.setCell ⟨g, 25, none⟩ (.int .i64 v)) g t (ncs { n with ma := v }) := (ncs_set n).2.2.1 v ▸ h.set 25 _
theorem Row.s26 {w : World} {g : Nat} {t : TypeId} {n : Ng} (h : Row w g t (ncs n)) (v : Int) : Row (w.setCell ⟨g, 26, none⟩ (.int .i64 v)) g t (ncs { n with ua := v }) := (ncs_set n).2.2.2.1 v ▸ h.set 26 _
theorem Row.s27 {w : World} {g : Nat} {t : TypeId} {n : Ng} (h : Row w g t (ncs n)) (v : Int) : Row (w.setCell ⟨g, 27, none⟩ (.int .u16 v)) g t (ncs { n with tx := v }) := (ncs_set n).2.2.2.2.1 v ▸ h.set 27 _
theorem Row.s28 {w : World} {g : Nat} {t : TypeId} {n : Ng} (h : Row w g t (ncs n)) (v : Int) : Row (w.setCell ⟨g, 28, none⟩ (.int .i64 v)) g t (ncs { n with ta := v }) := (ncs_set n).2.2.2.2.2.1 v ▸ h.set 28 _
theorem Row.s29 {w : World} {g : Nat} {t : TypeId} {n : Ng} (h : Row w g t (ncs n)) (v : Int) : Row (w.setCell ⟨g, 29, none⟩ (.int .u32 v)) g t (ncs { n with se := v }) := (ncs_set n).2.2.2.2.2.2.1 v ▸ h.set 29 _
theorem Row.s30 {w : World} {g : Nat} {t : TypeId} {n : Ng} (h : Row w g t (ncs n)) (v : Int) : Row (w.setCell ⟨g, 30, none⟩ (.int .i64 v)) g t (ncs { n with he := v }) := (ncs_set n).2.2.2.2.2.2.2.1 v ▸ h.set 30 _
theorem Row.s31 {w : World} {g : Nat} {t : TypeId} {n : Ng} (h : Row w g t (ncs n)) (v : Bool) : Row (w.setCell ⟨g, 31, none⟩ (.bool v)) g t (ncs { n with hs := v }) := (ncs_set n).2.2.2.2.2.2.2.2.1 v ▸ h.set 31 _
theorem Row.s32 {w : World} {g : Nat} {t : TypeId} {n : Ng} (h : Row w g t (ncs n)) (v : Int) : Row (w.setCell ⟨g, 32, none⟩ (.int .i64 v)) g t (ncs { n with rt := v }) := (ncs_set n).2.2.2.2.2.2.2.2.2.1 v ▸ h.set 32 _
theorem Row.s33 {w : World} {g : Nat} {t : TypeId} {n : Ng} (h : Row w g t (ncs n)) (v : Bool) : Row (w.setCell ⟨g, 33, none⟩ (.bool v)) g t (ncs { n with hr := v }) := (ncs_set n).2.2.2.2.2.2.2.2.2.2 v ▸ h.set 33 _
theorem stepRow {w W1 : World} {cs : List Value} {t : TypeId} (h : Below (w.alloc (.cells cs.toArray t)).heap.size (w.alloc (.cells cs.toArray t)) W1) : Below w.heap.size w W1 ∧ Row W1 w.heap.size t cs ∧ w.heap.size < W1.heap.size :=
  ⟨bt (ba _ _) h, (Row.new w t cs).below h (by simp), by have := h.size; simp at this; omega⟩
theorem keyOf_any (n : Ng) (w : World) : Calls Try.prog 28 #[nV n] w (Gives w (.agg (kcs n.i n.a).toArray)) := by
  go_enter Try.func28, Try.ntmps28
  go_upto_region 1 with (first
    | (refine alG infoKz rfl rfl ?_; intro g1 W1 hge hgl hB1 hr1))
  obtain ⟨hB, r0, hs⟩ := stepRow hB1
  have c0 := (r0.cell 0).trans (ncs_at n).1
  have hg : w.heap.size < g1 := by simp at hge; omega
  clear hB1 hge
  go_wp2_with (first
    | (refine ldA (.tmp 5) rfl rfl _ _ n.a rfl r0.nA ?_)
    | ((with_reducible refine bdG (T := 85) (v := .agg (kcs n.i n.a).toArray) [(0, .tmp 4), (1, .tmp 6)] ?_ ?_ ?_ ?_); (focus rfl); (focus rfl); (focus exact bdK n.i n.a _))
    | (refine stK (.tmp 2) (.tmp 7) rfl rfl g1 n.i n.a _ _ rfl rfl hr1 ?_; intro W2 hg2 hr2))
  exact bodyPost_ret (retC rfl _ _ 0 rfl (lvK hr2)) rfl ⟨rfl, grown_below hg2 hB (by omega) (by omega)⟩
/-- What may be of a neighbour. -/
structure Ng.ok (n : Ng) : Prop where
  mo : n.m.ok
  mj : n.m.b ≠ 0 → n.m.k = true
  uo : n.u.ok
  uj : n.u.b ≠ 0 → n.u.k = true
  mg0 : 0 ≤ n.mg
  mg1 : n.mg ≤ 655350
  ug0 : 0 ≤ n.ug
  ug1 : n.ug ≤ 655350
  ma0 : -1125899906842624 ≤ n.ma
  ma1 : n.ma ≤ 2251799813685248
  ua0 : -1125899906842624 ≤ n.ua
  ua1 : n.ua ≤ 2251799813685248
  tx0 : 0 ≤ n.tx
  tx1 : n.tx < 65536
  rt0 : 0 ≤ n.rt
  rt1 : n.rt ≤ 2147483648
def agedN (n : Ng) (t : Int) : Ng := { n with m := (late 16 n.m n.mg n.ma t).1, ma := (late 16 n.m n.mg n.ma t).2, u := (late 16 n.u n.ug n.ua t).1, ua := (late 16 n.u n.ug n.ua t).2, tx := if n.tx ≠ 65535 ∧ n.ta ≤ t then 65535 else n.tx }
set_option maxHeartbeats 2000000 in
theorem aged_any (n : Ng) (t : Int) (w : World) (ok : n.ok) (t1 : t ≤ 1125899906842624) : Calls Try.prog 27 #[nV n, .int .i64 t] w (Gives w (nV (agedN n t))) := by
  have HM := fun W => missed_any n.m n.mg n.ma t W ok.mo ok.mj ok.mg0 ok.mg1 ok.ma0 ok.ma1 t1
  have HU := fun W => missed_any n.u n.ug n.ua t W ok.uo ok.uj ok.ug0 ok.ug1 ok.ua0 ok.ua1 t1
  have HX : Hid (agedN n t = { n with m := (late 16 n.m n.mg n.ma t).1, ma := (late 16 n.m n.mg n.ma t).2, u := (late 16 n.u n.ug n.ua t).1, ua := (late 16 n.u n.ug n.ua t).2, tx := if n.tx ≠ 65535 ∧ n.ta ≤ t then 65535 else n.tx }) := rfl
  generalize agedN n t = X at *
  generalize late 16 n.m n.mg n.ma t = a at *
  generalize late 16 n.u n.ug n.ua t = b at *
  obtain ⟨a1, a2⟩ := a
  obtain ⟨b1, b2⟩ := b
  dsimp only at HM HU HX
  clear ok t1
  go_enter Try.func27, Try.ntmps27
  go_upto_region 1 with (first
    | (refine alG infoNz rfl rfl ?_; intro g1 W1 hge hgl hB1 hr1))
  obtain ⟨hB, r0, hs⟩ := stepRow hB1
  have hg : w.heap.size < g1 := by simp at hge; omega
  have hd : Hid (w.heap.size < g1) := hg
  clear hB1 hge
  have c23 := (r0.cell 23).trans (nc23 n)
  have c25 := (r0.cell 25).trans (nc25 n)
  go_upto_region 2 with (first
    | (have kk := hBm; refine stH (.tmp 16) (.tmp 14) rfl rfl _ _ a1 rfl rfl (r2.thereMid (by rw [ncs_len]; omega)) ?_; have r3 := r2.sM a1; have gb := grownBy_setCells w.heap.size (hcs a1) 17 wm; generalize hW3 : wm.setCells w.heap.size 17 (hcs a1) = W3 at *; clear hW3; have f25 := r3.frozen 25; have c25' := (r3.cell 25).trans (nc25 _))
    | (go_at_call 49; refine (HM _).mono ?_; rintro e wm ⟨rfl, hBm⟩; have r2 := r0.below hBm hs)
    | (refine ldH (.tmp 6) rfl rfl _ _ n.m rfl r0.nM ?_))
  have r4 := r3.s25 a2
  have gc := grownBy_setCell W3 w.heap.size 25 (.int .i64 a2)
  have gd := grownBy_trans gb gc
  have hr4 := (hr1.below hBm hgl).keep gd (by omega)
  have hB4 := grown_below gd (hB.trans (hBm.mono (by omega))) (Nat.le_refl _) (by have := hBm.size; omega)
  refine name_world (R := fun W => Code.wp _ _ _ _ W) (P := fun W => Row W w.heap.size 55 (ncs { n with m := a1, ma := a2 }) ∧ Row W g1 55 (ncs zeroN) ∧ Below w.heap.size w W) _ ⟨r4, hr4, hB4⟩ ?_
  clear r4 hr4 hB4 gd gc c25' f25 gb r3 r2 hBm c23 c25 r0 hB hr1 hs hgl
  rintro W5 ⟨r0, hr1, hB⟩
  have hs := r0.lt
  have hgl := hr1.lt
  have c24 := (r0.cell 24).trans (nc24 _)
  have c26 := (r0.cell 26).trans (nc26 _)
  go_upto_region 3 with (first
    | (have kk := hBm; refine stH (.tmp 29) (.tmp 27) rfl rfl _ _ b1 rfl rfl (r2.thereMid (by rw [ncs_len]; omega)) ?_; have r3 := r2.sU b1; have gb := grownBy_setCells w.heap.size (hcs b1) 20 wm; generalize hW3 : wm.setCells w.heap.size 20 (hcs b1) = W3 at *; clear hW3; have f26 := r3.frozen 26; have c26' := (r3.cell 26).trans (nc26 _))
    | (go_at_call 49; refine (HU _).mono ?_; rintro e wm ⟨rfl, hBm⟩; have r2 := r0.below hBm hs)
    | (refine ldH (.tmp 19) rfl rfl _ _ n.u rfl r0.nU ?_))
  have r4 := r3.s26 b2
  have gc := grownBy_setCell W3 w.heap.size 26 (.int .i64 b2)
  have gd := grownBy_trans gb gc
  have hr4 := (hr1.below hBm hgl).keep gd (by omega)
  have hB4 := grown_below gd (hB.trans (hBm.mono (by omega))) (Nat.le_refl _) (by have := hBm.size; omega)
  refine name_world (R := fun W => Code.wp _ _ _ _ W) (P := fun W => Row W w.heap.size 55 (ncs { n with m := a1, ma := a2, u := b1, ua := b2 }) ∧ Row W g1 55 (ncs zeroN) ∧ Below w.heap.size w W) _ ⟨r4, hr4, hB4⟩ ?_
  clear r4 hr4 hB4 gd gc c26' f26 gb r3 r2 hBm c24 c26 r0 hB hr1 hs hgl HM HU
  rintro W6 ⟨r0, hr1, hB⟩
  have hs := r0.lt
  have hgl := hr1.lt
  have c27 := (r0.cell 27).trans (nc27 _)
  have c28 := (r0.cell 28).trans (nc28 _)
  have f27 := r0.frozen 27
  dsimp only at c27 c28
  by_cases hx : n.tx = 65535
  · have hx' : (n.tx != 65535) = false := by simp [hx]
    have hX := HX.out
    rw [if_neg (by simp [hx])] at hX
    subst hX
    clear hx HX
    go_wp2_with (first
      | (refine ldN (.tmp 2) rfl rfl _ _ _ rfl r0.range ?_)
      | (refine stN (.tmp 4) (.tmp 41) rfl rfl g1 _ _ rfl rfl hr1 ?_; intro W2 hg2 hr2))
    exact bodyPost_ret (retC rfl _ _ 0 rfl (lvN hr2)) rfl ⟨rfl, grown_below hg2 hB (by omega) (by omega)⟩
  have hx' : (n.tx != 65535) = true := by simp [hx]
  by_cases hy : n.ta ≤ t
  · have hX := HX.out
    rw [if_pos ⟨hx, hy⟩] at hX
    subst hX
    have r1 := r0.s27 65535
    have gc := grownBy_setCell W6 w.heap.size 27 (.int .u16 65535)
    have hr2 := hr1.keep gc (by omega)
    have hB2 := grown_below gc hB (Nat.le_refl _) (by omega)
    have hs2 := r1.lt
    clear hx HX
    go_wp2_with (first
      | (refine ldN (.tmp 2) rfl rfl _ _ _ rfl r1.range ?_)
      | (refine stN (.tmp 4) (.tmp 41) rfl rfl g1 _ _ rfl rfl hr2 ?_; intro W2 hg2 hr3))
    exact bodyPost_ret (retC rfl _ _ 0 rfl (lvN hr3)) rfl ⟨rfl, grown_below hg2 hB2 (by omega) (by omega)⟩
  · have hX := HX.out
    rw [if_neg (fun h => hy h.2)] at hX
    subst hX
    have hy' : t < n.ta := by omega
    clear hx HX hy
    go_wp2_with (first
      | (refine ldN (.tmp 2) rfl rfl _ _ _ rfl r0.range ?_)
      | (refine stN (.tmp 4) (.tmp 41) rfl rfl g1 _ _ rfl rfl hr1 ?_; intro W2 hg2 hr2))
    exact bodyPost_ret (retC rfl _ _ 0 rfl (lvN hr2)) rfl ⟨rfl, grown_below hg2 hB (by omega) (by omega)⟩
end Go.Proofs.Ytacadlbhgelncaa
