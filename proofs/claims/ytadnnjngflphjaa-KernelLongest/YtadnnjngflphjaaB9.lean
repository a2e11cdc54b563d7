/-
  Do: an operation on the kernel's table.
-/
import Derived.Test.YtadnnjngflphjaaB8
namespace Go.Proofs.Ytadnnjngflphjaa
open Go.RowKit Go.Maps
set_option linter.unusedSimpArgs false
set_option linter.unusedVariables false
set_option maxRecDepth 20000
/-- What an operation does: was it done, how many are to fail, what is held. -/
def doF (n : Int) (F : List Hd) (o : Oq) : Bool × Int × List Hd :=
  if n ≠ 0 then (false, n - 1, F)
  else if Fa.chkQ o.e.p ≠ 0 then (false, 0, F)
  else match fnd F o.e.p with
    | none => if o.k = 1 then (true, 0, putF F ⟨o.e, false⟩) else (false, 0, F)
    | some x => if x.b = true then (false, 0, F) else if o.k = 2 then (true, 0, putF F ⟨o.e, false⟩) else if o.k = 3 then (true, 0, delF F o.e.p) else (false, 0, F)
def DoE (n : Int) (F : List Hd) (o : Oq) (w : World) (b k : Nat) (e : Ending) (w' : World) : Prop := e = .returned (.bool (doF n F o).1) ∧ Kn w' b k (doF n F o).2.1 (doF n F o).2.2 ∧ KT w w' b k
theorem DoE.mk {n : Int} {F : List Hd} {o : Oq} {w w' : World} {b k : Nat} {r : Bool} {m : Int} {G : List Hd} (h : doF n F o = (r, m, G)) (hK : Kn w' b k m G) (hT : KT w w' b k) : DoE n F o w b k (.returned (.bool r)) w' := by
  unfold DoE
  rw [h]
  exact ⟨rfl, hK, hT⟩
theorem Kn.lb {w : World} {b k : Nat} {n : Int} {F : List Hd} (h : Kn w b k n F) : b ≤ w.heap.size := by
  obtain ⟨mb, L, T, _⟩ := h
  exact T.lb
theorem Kn.ne {w : World} {b k g : Nat} {n : Int} {F : List Hd} (h : Kn w b k n F) {t : TypeId} {cs : List Value} (hr : Row w g t cs) (ht : t ≠ 63) : g ≠ k := by
  obtain ⟨mb, L, T, _⟩ := h
  intro e
  subst e
  have := T.row
  unfold KRow Row at this
  unfold Row at hr
  rw [hr] at this
  cases this
  exact ht rfl
theorem Kn.lt {w : World} {b k : Nat} {n : Int} {F : List Hd} (h : Kn w b k n F) : k < w.heap.size := by
  obtain ⟨mb, L, T, _⟩ := h
  exact T.row.lt

theorem do_fail {w : World} {b k : Nat} {n : Int} {F : List Hd} (h : Kn w b k n F) (o : Oq) (hi : wfQ o.e.p) (n0 : 0 ≤ n) (n1 : n ≤ 9223372036854775807) (hn : n ≠ 0) : Calls Try.prog 10 #[.pointer (some ⟨k, 0, none⟩), oV o] w (DoE n F o w b k) := by
  have hlb := h.lb
  have r0 := Row.new w 39 (pcs o)
  have b0 := ba w (.cells (pcs o).toArray 39)
  have K0 := h.below b0
  have hFl := failing_any K0 n0 n1
  have hne := K0.ne r0 (by decide)
  have T0 : KT w _ b k := KT.of b0 hlb
  have hr0 := r0.lt
  have HR : Hid (doF n F o = (false, n - 1, F)) := if_pos hn
  have hz : (!(n == 0)) = true := by simpa using hn
  rw [hz, show lessN n = n - 1 from if_neg hn] at hFl
  clear h K0 r0 hi hn
  go_enter Try.func10, Try.ntmps10
  go_wp2_with (first
      | (go_at_call 28; refine hFl.mono ?_; rintro e W1 ⟨rfl, K1, T1⟩))
  go_ret
  exact DoE.mk HR.out K1 (T0.trans T1)

theorem do_bad {w : World} {b k : Nat} {F : List Hd} (h : Kn w b k 0 F) (o : Oq) (hi : wfQ o.e.p) (hc : Fa.chkQ o.e.p ≠ 0) : Calls Try.prog 10 #[.pointer (some ⟨k, 0, none⟩), oV o] w (DoE 0 F o w b k) := by
  have hlb := h.lb
  have r0 := Row.new w 39 (pcs o)
  have b0 := ba w (.cells (pcs o).toArray 39)
  have K0 := h.below b0
  have hFl := failing_any K0 (Int.le_refl _) (by omega)
  have hne := K0.ne r0 (by decide)
  have T0 : KT w _ b k := KT.of b0 hlb
  have hr0 := r0.lt
  have HR : Hid (doF 0 F o = (false, 0, F)) := by show (if (0 : Int) ≠ 0 then _ else if _ then _ else _) = _; rw [if_neg (by simp), if_pos hc]
  rw [show (!((0 : Int) == 0)) = false from rfl, show lessN 0 = 0 from rfl] at hFl
  have hC := Fa.checkQ_any o.e.p
  have hz : (Fa.chkQ o.e.p == 0) = false := by simpa using hc
  generalize Fa.chkQ o.e.p = ck at *
  clear h K0 hi hc
  go_enter Try.func10, Try.ntmps10
  go_wp2_with (first
      | (have kk := r1; go_at_call 29; refine (hC _).mono ?_; rintro e W2 ⟨rfl, b2⟩; have K2 := K1.below b2; have r2 := r1.below b2 r1.lt; have T2 := (T0.trans T1).trans (KT.of b2 K1.lb))
      | ((with_reducible refine ldQ (.tmp 16) ?_ ?_ w.heap.size 1 o.e.p ?_ ?_ ?_); (focus rfl); (focus rfl); (focus rfl); (focus exact r1.op.e.q))
      | (have kk := r0; go_at_call 28; refine hFl.mono ?_; rintro e W1 ⟨rfl, K1, T1⟩; have r1 := T1.keep _ _ _ r0 hne))
  go_ret
  exact DoE.mk HR.out K2 T2

set_option maxHeartbeats 4000000 in
theorem do_none1 {w : World} {b k : Nat} {F : List Hd} (h : Kn w b k 0 F) (o : Oq) (hi : wfQ o.e.p) (hc : Fa.chkQ o.e.p = 0) (hF : F.length < 1000000) (hfn : fnd F o.e.p = none) (hk : o.k = 1) : Calls Try.prog 10 #[.pointer (some ⟨k, 0, none⟩), oV o] w (DoE 0 F o w b k) := by
  have hlb := h.lb
  have r0 := Row.new w 39 (pcs o)
  have b0 := ba w (.cells (pcs o).toArray 39)
  have K0 := h.below b0
  have hFl := failing_any K0 (Int.le_refl _) (by omega)
  have hne := K0.ne r0 (by decide)
  have T0 : KT w _ b k := KT.of b0 hlb
  have hr0 := r0.lt
  have hr9 : doF 0 F o = (true, 0, putF F ⟨o.e, false⟩) := by unfold doF; rw [if_neg (by simp), if_neg (by simpa using hc), hfn]; simp [hk]
  have HR : Hid _ := hr9
  clear hr9
  rw [show (!((0 : Int) == 0)) = false from rfl, show lessN 0 = 0 from rfl] at hFl
  have hC := Fa.checkQ_any o.e.p
  rw [hc] at hC
  have d1 : (o.k == 1) = true := by rw [hk]; rfl
  have d2 : (o.k == 2) = false := by rw [hk]; rfl
  have d3 : (o.k == 3) = false := by rw [hk]; rfl
  have ck : ∀ {W : World} {g : Nat}, Row W g 39 (pcs o) → W.cell? ⟨g, 0, none⟩ = some (.int .i64 o.k) := fun h => h.op.k
  clear h K0 hc hk
  go_enter Try.func10, Try.ntmps10
  go_wp2_with (first
      | (have kk := r4; go_at_call 31; refine (put_any K4 ⟨o.e, false⟩ hi hF).mono ?_; rintro e W6 ⟨rfl, K6, T6⟩)
      | ((with_reducible refine bdG (T := 67) (v := hV ⟨o.e, false⟩) [(0, .tmp 51)] ?_ ?_ ?_ ?_); (focus rfl); (focus rfl); (focus exact bdH0 _ _))
      | ((with_reducible refine ldE (.tmp 50) ?_ ?_ w.heap.size 1 o.e ?_ ?_ ?_); (focus rfl); (focus rfl); (focus rfl); (focus exact r4.op.e))
      | (have kk := q5; (with_reducible refine stH (.tmp 5) (.tmp 27) ?_ ?_ g5 zeroH zeroH ?_ ?_ ?_ ?_); (focus rfl); (focus rfl); (focus rfl); (focus exact by first | rfl | (rw [hfn]; rfl)); (focus exact q5); intro W5 gr5 r5; have k5 := grown_below gr5 b5 h5 b5.size; have K4 := K3.below k5; have r4 := r3.below k5 r3.lt; have T4 := T3.trans (KT.of k5 K3.lb); have f5 := r5.hd.b_; have c4 := ck r4; clear q5)
      | (have kk := r3; (with_reducible refine alG infoHz ?_ ?_ ?_); (focus rfl); (focus rfl); intro g5 U5 h5 l5 b5 q5)
      | (have kk := r2; go_at_call 30; refine (at_any K2 o.e.p hi).mono ?_; rintro e W3 ⟨rfl, b3⟩; have K3 := K2.below b3; have r3 := r2.below b3 r2.lt; have T3 := T2.trans (KT.of b3 K2.lb))
      | ((with_reducible refine ldQ (.tmp 24) ?_ ?_ w.heap.size 1 o.e.p ?_ ?_ ?_); (focus rfl); (focus rfl); (focus rfl); (focus exact r2.op.e.q))
      | (have kk := r1; go_at_call 29; refine (hC _).mono ?_; rintro e W2 ⟨rfl, b2⟩; have K2 := K1.below b2; have r2 := r1.below b2 r1.lt; have T2 := (T0.trans T1).trans (KT.of b2 K1.lb))
      | ((with_reducible refine ldQ (.tmp 16) ?_ ?_ w.heap.size 1 o.e.p ?_ ?_ ?_); (focus rfl); (focus rfl); (focus rfl); (focus exact r1.op.e.q))
      | (have kk := r0; go_at_call 28; refine hFl.mono ?_; rintro e W1 ⟨rfl, K1, T1⟩; have r1 := T1.keep _ _ _ r0 hne))
  go_ret
  exact DoE.mk HR.out K6 (T4.trans T6)

set_option maxHeartbeats 4000000 in
theorem do_none2 {w : World} {b k : Nat} {F : List Hd} (h : Kn w b k 0 F) (o : Oq) (hi : wfQ o.e.p) (hc : Fa.chkQ o.e.p = 0) (hF : F.length < 1000000) (hfn : fnd F o.e.p = none) (hk : o.k = 2) : Calls Try.prog 10 #[.pointer (some ⟨k, 0, none⟩), oV o] w (DoE 0 F o w b k) := by
  have hlb := h.lb
  have r0 := Row.new w 39 (pcs o)
  have b0 := ba w (.cells (pcs o).toArray 39)
  have K0 := h.below b0
  have hFl := failing_any K0 (Int.le_refl _) (by omega)
  have hne := K0.ne r0 (by decide)
  have T0 : KT w _ b k := KT.of b0 hlb
  have hr0 := r0.lt
  have hr9 : doF 0 F o = (false, 0, F) := by unfold doF; rw [if_neg (by simp), if_neg (by simpa using hc), hfn]; simp [hk]
  have HR : Hid _ := hr9
  clear hr9
  rw [show (!((0 : Int) == 0)) = false from rfl, show lessN 0 = 0 from rfl] at hFl
  have hC := Fa.checkQ_any o.e.p
  rw [hc] at hC
  have d1 : (o.k == 1) = false := by rw [hk]; rfl
  have d2 : (o.k == 2) = true := by rw [hk]; rfl
  have d3 : (o.k == 3) = false := by rw [hk]; rfl
  have ck : ∀ {W : World} {g : Nat}, Row W g 39 (pcs o) → W.cell? ⟨g, 0, none⟩ = some (.int .i64 o.k) := fun h => h.op.k
  clear h K0 hc hk
  go_enter Try.func10, Try.ntmps10
  go_wp2_with (first
      | (have kk := q5; (with_reducible refine stH (.tmp 5) (.tmp 27) ?_ ?_ g5 zeroH zeroH ?_ ?_ ?_ ?_); (focus rfl); (focus rfl); (focus rfl); (focus exact by first | rfl | (rw [hfn]; rfl)); (focus exact q5); intro W5 gr5 r5; have k5 := grown_below gr5 b5 h5 b5.size; have K4 := K3.below k5; have r4 := r3.below k5 r3.lt; have T4 := T3.trans (KT.of k5 K3.lb); have f5 := r5.hd.b_; have c4 := ck r4; clear q5)
      | (have kk := r3; (with_reducible refine alG infoHz ?_ ?_ ?_); (focus rfl); (focus rfl); intro g5 U5 h5 l5 b5 q5)
      | (have kk := r2; go_at_call 30; refine (at_any K2 o.e.p hi).mono ?_; rintro e W3 ⟨rfl, b3⟩; have K3 := K2.below b3; have r3 := r2.below b3 r2.lt; have T3 := T2.trans (KT.of b3 K2.lb))
      | ((with_reducible refine ldQ (.tmp 24) ?_ ?_ w.heap.size 1 o.e.p ?_ ?_ ?_); (focus rfl); (focus rfl); (focus rfl); (focus exact r2.op.e.q))
      | (have kk := r1; go_at_call 29; refine (hC _).mono ?_; rintro e W2 ⟨rfl, b2⟩; have K2 := K1.below b2; have r2 := r1.below b2 r1.lt; have T2 := (T0.trans T1).trans (KT.of b2 K1.lb))
      | ((with_reducible refine ldQ (.tmp 16) ?_ ?_ w.heap.size 1 o.e.p ?_ ?_ ?_); (focus rfl); (focus rfl); (focus rfl); (focus exact r1.op.e.q))
      | (have kk := r0; go_at_call 28; refine hFl.mono ?_; rintro e W1 ⟨rfl, K1, T1⟩; have r1 := T1.keep _ _ _ r0 hne))
  go_ret
  exact DoE.mk HR.out K4 T4

set_option maxHeartbeats 4000000 in
theorem do_none3 {w : World} {b k : Nat} {F : List Hd} (h : Kn w b k 0 F) (o : Oq) (hi : wfQ o.e.p) (hc : Fa.chkQ o.e.p = 0) (hF : F.length < 1000000) (hfn : fnd F o.e.p = none) (hk : o.k = 3) : Calls Try.prog 10 #[.pointer (some ⟨k, 0, none⟩), oV o] w (DoE 0 F o w b k) := by
  have hlb := h.lb
  have r0 := Row.new w 39 (pcs o)
  have b0 := ba w (.cells (pcs o).toArray 39)
  have K0 := h.below b0
  have hFl := failing_any K0 (Int.le_refl _) (by omega)
  have hne := K0.ne r0 (by decide)
  have T0 : KT w _ b k := KT.of b0 hlb
  have hr0 := r0.lt
  have hr9 : doF 0 F o = (false, 0, F) := by unfold doF; rw [if_neg (by simp), if_neg (by simpa using hc), hfn]; simp [hk]
  have HR : Hid _ := hr9
  clear hr9
  rw [show (!((0 : Int) == 0)) = false from rfl, show lessN 0 = 0 from rfl] at hFl
  have hC := Fa.checkQ_any o.e.p
  rw [hc] at hC
  have d1 : (o.k == 1) = false := by rw [hk]; rfl
  have d2 : (o.k == 2) = false := by rw [hk]; rfl
  have d3 : (o.k == 3) = true := by rw [hk]; rfl
  have ck : ∀ {W : World} {g : Nat}, Row W g 39 (pcs o) → W.cell? ⟨g, 0, none⟩ = some (.int .i64 o.k) := fun h => h.op.k
  clear h K0 hc hk
  go_enter Try.func10, Try.ntmps10
  go_wp2_with (first
      | (have kk := q5; (with_reducible refine stH (.tmp 5) (.tmp 27) ?_ ?_ g5 zeroH zeroH ?_ ?_ ?_ ?_); (focus rfl); (focus rfl); (focus rfl); (focus exact by first | rfl | (rw [hfn]; rfl)); (focus exact q5); intro W5 gr5 r5; have k5 := grown_below gr5 b5 h5 b5.size; have K4 := K3.below k5; have r4 := r3.below k5 r3.lt; have T4 := T3.trans (KT.of k5 K3.lb); have f5 := r5.hd.b_; have c4 := ck r4; clear q5)
      | (have kk := r3; (with_reducible refine alG infoHz ?_ ?_ ?_); (focus rfl); (focus rfl); intro g5 U5 h5 l5 b5 q5)
      | (have kk := r2; go_at_call 30; refine (at_any K2 o.e.p hi).mono ?_; rintro e W3 ⟨rfl, b3⟩; have K3 := K2.below b3; have r3 := r2.below b3 r2.lt; have T3 := T2.trans (KT.of b3 K2.lb))
      | ((with_reducible refine ldQ (.tmp 24) ?_ ?_ w.heap.size 1 o.e.p ?_ ?_ ?_); (focus rfl); (focus rfl); (focus rfl); (focus exact r2.op.e.q))
      | (have kk := r1; go_at_call 29; refine (hC _).mono ?_; rintro e W2 ⟨rfl, b2⟩; have K2 := K1.below b2; have r2 := r1.below b2 r1.lt; have T2 := (T0.trans T1).trans (KT.of b2 K1.lb))
      | ((with_reducible refine ldQ (.tmp 16) ?_ ?_ w.heap.size 1 o.e.p ?_ ?_ ?_); (focus rfl); (focus rfl); (focus rfl); (focus exact r1.op.e.q))
      | (have kk := r0; go_at_call 28; refine hFl.mono ?_; rintro e W1 ⟨rfl, K1, T1⟩; have r1 := T1.keep _ _ _ r0 hne))
  go_ret
  exact DoE.mk HR.out K4 T4

set_option maxHeartbeats 4000000 in
theorem do_none0 {w : World} {b k : Nat} {F : List Hd} (h : Kn w b k 0 F) (o : Oq) (hi : wfQ o.e.p) (hc : Fa.chkQ o.e.p = 0) (hF : F.length < 1000000) (hfn : fnd F o.e.p = none) (h1 : o.k ≠ 1) (h2 : o.k ≠ 2) (h3 : o.k ≠ 3) : Calls Try.prog 10 #[.pointer (some ⟨k, 0, none⟩), oV o] w (DoE 0 F o w b k) := by
  have hlb := h.lb
  have r0 := Row.new w 39 (pcs o)
  have b0 := ba w (.cells (pcs o).toArray 39)
  have K0 := h.below b0
  have hFl := failing_any K0 (Int.le_refl _) (by omega)
  have hne := K0.ne r0 (by decide)
  have T0 : KT w _ b k := KT.of b0 hlb
  have hr0 := r0.lt
  have hr9 : doF 0 F o = (false, 0, F) := by unfold doF; rw [if_neg (by simp), if_neg (by simpa using hc), hfn]; simp [h1, h2, h3]
  have HR : Hid _ := hr9
  clear hr9
  rw [show (!((0 : Int) == 0)) = false from rfl, show lessN 0 = 0 from rfl] at hFl
  have hC := Fa.checkQ_any o.e.p
  rw [hc] at hC
  have d1 : (o.k == 1) = false := by simpa using h1
  have d2 : (o.k == 2) = false := by simpa using h2
  have d3 : (o.k == 3) = false := by simpa using h3
  have ck : ∀ {W : World} {g : Nat}, Row W g 39 (pcs o) → W.cell? ⟨g, 0, none⟩ = some (.int .i64 o.k) := fun h => h.op.k
  clear h K0 hc h1 h2 h3
  go_enter Try.func10, Try.ntmps10
  go_wp2_with (first
      | (have kk := q5; (with_reducible refine stH (.tmp 5) (.tmp 27) ?_ ?_ g5 zeroH zeroH ?_ ?_ ?_ ?_); (focus rfl); (focus rfl); (focus rfl); (focus exact by first | rfl | (rw [hfn]; rfl)); (focus exact q5); intro W5 gr5 r5; have k5 := grown_below gr5 b5 h5 b5.size; have K4 := K3.below k5; have r4 := r3.below k5 r3.lt; have T4 := T3.trans (KT.of k5 K3.lb); have f5 := r5.hd.b_; have c4 := ck r4; clear q5)
      | (have kk := r3; (with_reducible refine alG infoHz ?_ ?_ ?_); (focus rfl); (focus rfl); intro g5 U5 h5 l5 b5 q5)
      | (have kk := r2; go_at_call 30; refine (at_any K2 o.e.p hi).mono ?_; rintro e W3 ⟨rfl, b3⟩; have K3 := K2.below b3; have r3 := r2.below b3 r2.lt; have T3 := T2.trans (KT.of b3 K2.lb))
      | ((with_reducible refine ldQ (.tmp 24) ?_ ?_ w.heap.size 1 o.e.p ?_ ?_ ?_); (focus rfl); (focus rfl); (focus rfl); (focus exact r2.op.e.q))
      | (have kk := r1; go_at_call 29; refine (hC _).mono ?_; rintro e W2 ⟨rfl, b2⟩; have K2 := K1.below b2; have r2 := r1.below b2 r1.lt; have T2 := (T0.trans T1).trans (KT.of b2 K1.lb))
      | ((with_reducible refine ldQ (.tmp 16) ?_ ?_ w.heap.size 1 o.e.p ?_ ?_ ?_); (focus rfl); (focus rfl); (focus rfl); (focus exact r1.op.e.q))
      | (have kk := r0; go_at_call 28; refine hFl.mono ?_; rintro e W1 ⟨rfl, K1, T1⟩; have r1 := T1.keep _ _ _ r0 hne))
  go_ret
  exact DoE.mk HR.out K4 T4

set_option maxHeartbeats 4000000 in
theorem do_own1 {w : World} {b k : Nat} {F : List Hd} (h : Kn w b k 0 F) (o : Oq) (hi : wfQ o.e.p) (hc : Fa.chkQ o.e.p = 0) (hF : F.length < 1000000) {x : Hd} (hfn : fnd F o.e.p = some x) (hx : x.b = false) (hk : o.k = 1) : Calls Try.prog 10 #[.pointer (some ⟨k, 0, none⟩), oV o] w (DoE 0 F o w b k) := by
  have hlb := h.lb
  have r0 := Row.new w 39 (pcs o)
  have b0 := ba w (.cells (pcs o).toArray 39)
  have K0 := h.below b0
  have hFl := failing_any K0 (Int.le_refl _) (by omega)
  have hne := K0.ne r0 (by decide)
  have T0 : KT w _ b k := KT.of b0 hlb
  have hr0 := r0.lt
  have hr9 : doF 0 F o = (false, 0, F) := by unfold doF; rw [if_neg (by simp), if_neg (by simpa using hc), hfn]; simp [hk, hx]
  have HR : Hid _ := hr9
  clear hr9
  rw [show (!((0 : Int) == 0)) = false from rfl, show lessN 0 = 0 from rfl] at hFl
  have hC := Fa.checkQ_any o.e.p
  rw [hc] at hC
  have d1 : (o.k == 1) = true := by rw [hk]; rfl
  have d2 : (o.k == 2) = false := by rw [hk]; rfl
  have d3 : (o.k == 3) = false := by rw [hk]; rfl
  have ck : ∀ {W : World} {g : Nat}, Row W g 39 (pcs o) → W.cell? ⟨g, 0, none⟩ = some (.int .i64 o.k) := fun h => h.op.k
  clear h K0 hc hk
  go_enter Try.func10, Try.ntmps10
  go_wp2_with (first
      | (have kk := q5; (with_reducible refine stH (.tmp 5) (.tmp 27) ?_ ?_ g5 x zeroH ?_ ?_ ?_ ?_); (focus rfl); (focus rfl); (focus rfl); (focus exact by first | rfl | (rw [hfn]; rfl)); (focus exact q5); intro W5 gr5 r5; have k5 := grown_below gr5 b5 h5 b5.size; have K4 := K3.below k5; have r4 := r3.below k5 r3.lt; have T4 := T3.trans (KT.of k5 K3.lb); have f5 := r5.hd.b_; rw [hx] at f5; have c4 := ck r4; clear q5)
      | (have kk := r3; (with_reducible refine alG infoHz ?_ ?_ ?_); (focus rfl); (focus rfl); intro g5 U5 h5 l5 b5 q5)
      | (have kk := r2; go_at_call 30; refine (at_any K2 o.e.p hi).mono ?_; rintro e W3 ⟨rfl, b3⟩; have K3 := K2.below b3; have r3 := r2.below b3 r2.lt; have T3 := T2.trans (KT.of b3 K2.lb))
      | ((with_reducible refine ldQ (.tmp 24) ?_ ?_ w.heap.size 1 o.e.p ?_ ?_ ?_); (focus rfl); (focus rfl); (focus rfl); (focus exact r2.op.e.q))
      | (have kk := r1; go_at_call 29; refine (hC _).mono ?_; rintro e W2 ⟨rfl, b2⟩; have K2 := K1.below b2; have r2 := r1.below b2 r1.lt; have T2 := (T0.trans T1).trans (KT.of b2 K1.lb))
      | ((with_reducible refine ldQ (.tmp 16) ?_ ?_ w.heap.size 1 o.e.p ?_ ?_ ?_); (focus rfl); (focus rfl); (focus rfl); (focus exact r1.op.e.q))
      | (have kk := r0; go_at_call 28; refine hFl.mono ?_; rintro e W1 ⟨rfl, K1, T1⟩; have r1 := T1.keep _ _ _ r0 hne))
  go_ret
  exact DoE.mk HR.out K4 T4

set_option maxHeartbeats 4000000 in
theorem do_own2 {w : World} {b k : Nat} {F : List Hd} (h : Kn w b k 0 F) (o : Oq) (hi : wfQ o.e.p) (hc : Fa.chkQ o.e.p = 0) (hF : F.length < 1000000) {x : Hd} (hfn : fnd F o.e.p = some x) (hx : x.b = false) (hk : o.k = 2) : Calls Try.prog 10 #[.pointer (some ⟨k, 0, none⟩), oV o] w (DoE 0 F o w b k) := by
  have hlb := h.lb
  have r0 := Row.new w 39 (pcs o)
  have b0 := ba w (.cells (pcs o).toArray 39)
  have K0 := h.below b0
  have hFl := failing_any K0 (Int.le_refl _) (by omega)
  have hne := K0.ne r0 (by decide)
  have T0 : KT w _ b k := KT.of b0 hlb
  have hr0 := r0.lt
  have hr9 : doF 0 F o = (true, 0, putF F ⟨o.e, false⟩) := by unfold doF; rw [if_neg (by simp), if_neg (by simpa using hc), hfn]; simp [hk, hx]
  have HR : Hid _ := hr9
  clear hr9
  rw [show (!((0 : Int) == 0)) = false from rfl, show lessN 0 = 0 from rfl] at hFl
  have hC := Fa.checkQ_any o.e.p
  rw [hc] at hC
  have d1 : (o.k == 1) = false := by rw [hk]; rfl
  have d2 : (o.k == 2) = true := by rw [hk]; rfl
  have d3 : (o.k == 3) = false := by rw [hk]; rfl
  have ck : ∀ {W : World} {g : Nat}, Row W g 39 (pcs o) → W.cell? ⟨g, 0, none⟩ = some (.int .i64 o.k) := fun h => h.op.k
  clear h K0 hc hk
  go_enter Try.func10, Try.ntmps10
  go_wp2_with (first
      | (have kk := r4; go_at_call 31; refine (put_any K4 ⟨o.e, false⟩ hi hF).mono ?_; rintro e W6 ⟨rfl, K6, T6⟩)
      | ((with_reducible refine bdG (T := 67) (v := hV ⟨o.e, false⟩) [(0, .tmp 51)] ?_ ?_ ?_ ?_); (focus rfl); (focus rfl); (focus exact bdH0 _ _))
      | ((with_reducible refine ldE (.tmp 50) ?_ ?_ w.heap.size 1 o.e ?_ ?_ ?_); (focus rfl); (focus rfl); (focus rfl); (focus exact r4.op.e))
      | (have kk := q5; (with_reducible refine stH (.tmp 5) (.tmp 27) ?_ ?_ g5 x zeroH ?_ ?_ ?_ ?_); (focus rfl); (focus rfl); (focus rfl); (focus exact by first | rfl | (rw [hfn]; rfl)); (focus exact q5); intro W5 gr5 r5; have k5 := grown_below gr5 b5 h5 b5.size; have K4 := K3.below k5; have r4 := r3.below k5 r3.lt; have T4 := T3.trans (KT.of k5 K3.lb); have f5 := r5.hd.b_; rw [hx] at f5; have c4 := ck r4; clear q5)
      | (have kk := r3; (with_reducible refine alG infoHz ?_ ?_ ?_); (focus rfl); (focus rfl); intro g5 U5 h5 l5 b5 q5)
      | (have kk := r2; go_at_call 30; refine (at_any K2 o.e.p hi).mono ?_; rintro e W3 ⟨rfl, b3⟩; have K3 := K2.below b3; have r3 := r2.below b3 r2.lt; have T3 := T2.trans (KT.of b3 K2.lb))
      | ((with_reducible refine ldQ (.tmp 24) ?_ ?_ w.heap.size 1 o.e.p ?_ ?_ ?_); (focus rfl); (focus rfl); (focus rfl); (focus exact r2.op.e.q))
      | (have kk := r1; go_at_call 29; refine (hC _).mono ?_; rintro e W2 ⟨rfl, b2⟩; have K2 := K1.below b2; have r2 := r1.below b2 r1.lt; have T2 := (T0.trans T1).trans (KT.of b2 K1.lb))
      | ((with_reducible refine ldQ (.tmp 16) ?_ ?_ w.heap.size 1 o.e.p ?_ ?_ ?_); (focus rfl); (focus rfl); (focus rfl); (focus exact r1.op.e.q))
      | (have kk := r0; go_at_call 28; refine hFl.mono ?_; rintro e W1 ⟨rfl, K1, T1⟩; have r1 := T1.keep _ _ _ r0 hne))
  go_ret
  exact DoE.mk HR.out K6 (T4.trans T6)

set_option maxHeartbeats 4000000 in
theorem do_own3 {w : World} {b k : Nat} {F : List Hd} (h : Kn w b k 0 F) (o : Oq) (hi : wfQ o.e.p) (hc : Fa.chkQ o.e.p = 0) (hF : F.length < 1000000) {x : Hd} (hfn : fnd F o.e.p = some x) (hx : x.b = false) (hk : o.k = 3) : Calls Try.prog 10 #[.pointer (some ⟨k, 0, none⟩), oV o] w (DoE 0 F o w b k) := by
  have hlb := h.lb
  have r0 := Row.new w 39 (pcs o)
  have b0 := ba w (.cells (pcs o).toArray 39)
  have K0 := h.below b0
  have hFl := failing_any K0 (Int.le_refl _) (by omega)
  have hne := K0.ne r0 (by decide)
  have T0 : KT w _ b k := KT.of b0 hlb
  have hr0 := r0.lt
  have hr9 : doF 0 F o = (true, 0, delF F o.e.p) := by unfold doF; rw [if_neg (by simp), if_neg (by simpa using hc), hfn]; simp [hk, hx]
  have HR : Hid _ := hr9
  clear hr9
  rw [show (!((0 : Int) == 0)) = false from rfl, show lessN 0 = 0 from rfl] at hFl
  have hC := Fa.checkQ_any o.e.p
  rw [hc] at hC
  have d1 : (o.k == 1) = false := by rw [hk]; rfl
  have d2 : (o.k == 2) = false := by rw [hk]; rfl
  have d3 : (o.k == 3) = true := by rw [hk]; rfl
  have ck : ∀ {W : World} {g : Nat}, Row W g 39 (pcs o) → W.cell? ⟨g, 0, none⟩ = some (.int .i64 o.k) := fun h => h.op.k
  clear h K0 hc hk
  go_enter Try.func10, Try.ntmps10
  go_wp2_with (first
      | (have kk := r4; go_at_call 32; refine (remove_any K4 o.e.p hi (by rw [hfn]; rfl)).mono ?_; rintro e W6 ⟨rfl, K6, T6⟩)
      | ((with_reducible refine ldQ (.tmp 63) ?_ ?_ w.heap.size 1 o.e.p ?_ ?_ ?_); (focus rfl); (focus rfl); (focus rfl); (focus exact r4.op.e.q))
      | (have kk := q5; (with_reducible refine stH (.tmp 5) (.tmp 27) ?_ ?_ g5 x zeroH ?_ ?_ ?_ ?_); (focus rfl); (focus rfl); (focus rfl); (focus exact by first | rfl | (rw [hfn]; rfl)); (focus exact q5); intro W5 gr5 r5; have k5 := grown_below gr5 b5 h5 b5.size; have K4 := K3.below k5; have r4 := r3.below k5 r3.lt; have T4 := T3.trans (KT.of k5 K3.lb); have f5 := r5.hd.b_; rw [hx] at f5; have c4 := ck r4; clear q5)
      | (have kk := r3; (with_reducible refine alG infoHz ?_ ?_ ?_); (focus rfl); (focus rfl); intro g5 U5 h5 l5 b5 q5)
      | (have kk := r2; go_at_call 30; refine (at_any K2 o.e.p hi).mono ?_; rintro e W3 ⟨rfl, b3⟩; have K3 := K2.below b3; have r3 := r2.below b3 r2.lt; have T3 := T2.trans (KT.of b3 K2.lb))
      | ((with_reducible refine ldQ (.tmp 24) ?_ ?_ w.heap.size 1 o.e.p ?_ ?_ ?_); (focus rfl); (focus rfl); (focus rfl); (focus exact r2.op.e.q))
      | (have kk := r1; go_at_call 29; refine (hC _).mono ?_; rintro e W2 ⟨rfl, b2⟩; have K2 := K1.below b2; have r2 := r1.below b2 r1.lt; have T2 := (T0.trans T1).trans (KT.of b2 K1.lb))
      | ((with_reducible refine ldQ (.tmp 16) ?_ ?_ w.heap.size 1 o.e.p ?_ ?_ ?_); (focus rfl); (focus rfl); (focus rfl); (focus exact r1.op.e.q))
      | (have kk := r0; go_at_call 28; refine hFl.mono ?_; rintro e W1 ⟨rfl, K1, T1⟩; have r1 := T1.keep _ _ _ r0 hne))
  go_ret
  exact DoE.mk HR.out K6 (T4.trans T6)

set_option maxHeartbeats 4000000 in
theorem do_own0 {w : World} {b k : Nat} {F : List Hd} (h : Kn w b k 0 F) (o : Oq) (hi : wfQ o.e.p) (hc : Fa.chkQ o.e.p = 0) (hF : F.length < 1000000) {x : Hd} (hfn : fnd F o.e.p = some x) (hx : x.b = false) (h1 : o.k ≠ 1) (h2 : o.k ≠ 2) (h3 : o.k ≠ 3) : Calls Try.prog 10 #[.pointer (some ⟨k, 0, none⟩), oV o] w (DoE 0 F o w b k) := by
  have hlb := h.lb
  have r0 := Row.new w 39 (pcs o)
  have b0 := ba w (.cells (pcs o).toArray 39)
  have K0 := h.below b0
  have hFl := failing_any K0 (Int.le_refl _) (by omega)
  have hne := K0.ne r0 (by decide)
  have T0 : KT w _ b k := KT.of b0 hlb
  have hr0 := r0.lt
  have hr9 : doF 0 F o = (false, 0, F) := by unfold doF; rw [if_neg (by simp), if_neg (by simpa using hc), hfn]; simp [h1, h2, h3, hx]
  have HR : Hid _ := hr9
  clear hr9
  rw [show (!((0 : Int) == 0)) = false from rfl, show lessN 0 = 0 from rfl] at hFl
  have hC := Fa.checkQ_any o.e.p
  rw [hc] at hC
  have d1 : (o.k == 1) = false := by simpa using h1
  have d2 : (o.k == 2) = false := by simpa using h2
  have d3 : (o.k == 3) = false := by simpa using h3
  have ck : ∀ {W : World} {g : Nat}, Row W g 39 (pcs o) → W.cell? ⟨g, 0, none⟩ = some (.int .i64 o.k) := fun h => h.op.k
  clear h K0 hc h1 h2 h3
  go_enter Try.func10, Try.ntmps10
  go_wp2_with (first
      | (have kk := q5; (with_reducible refine stH (.tmp 5) (.tmp 27) ?_ ?_ g5 x zeroH ?_ ?_ ?_ ?_); (focus rfl); (focus rfl); (focus rfl); (focus exact by first | rfl | (rw [hfn]; rfl)); (focus exact q5); intro W5 gr5 r5; have k5 := grown_below gr5 b5 h5 b5.size; have K4 := K3.below k5; have r4 := r3.below k5 r3.lt; have T4 := T3.trans (KT.of k5 K3.lb); have f5 := r5.hd.b_; rw [hx] at f5; have c4 := ck r4; clear q5)
      | (have kk := r3; (with_reducible refine alG infoHz ?_ ?_ ?_); (focus rfl); (focus rfl); intro g5 U5 h5 l5 b5 q5)
      | (have kk := r2; go_at_call 30; refine (at_any K2 o.e.p hi).mono ?_; rintro e W3 ⟨rfl, b3⟩; have K3 := K2.below b3; have r3 := r2.below b3 r2.lt; have T3 := T2.trans (KT.of b3 K2.lb))
      | ((with_reducible refine ldQ (.tmp 24) ?_ ?_ w.heap.size 1 o.e.p ?_ ?_ ?_); (focus rfl); (focus rfl); (focus rfl); (focus exact r2.op.e.q))
      | (have kk := r1; go_at_call 29; refine (hC _).mono ?_; rintro e W2 ⟨rfl, b2⟩; have K2 := K1.below b2; have r2 := r1.below b2 r1.lt; have T2 := (T0.trans T1).trans (KT.of b2 K1.lb))
      | ((with_reducible refine ldQ (.tmp 16) ?_ ?_ w.heap.size 1 o.e.p ?_ ?_ ?_); (focus rfl); (focus rfl); (focus rfl); (focus exact r1.op.e.q))
      | (have kk := r0; go_at_call 28; refine hFl.mono ?_; rintro e W1 ⟨rfl, K1, T1⟩; have r1 := T1.keep _ _ _ r0 hne))
  go_ret
  exact DoE.mk HR.out K4 T4

set_option maxHeartbeats 4000000 in
theorem do_others1 {w : World} {b k : Nat} {F : List Hd} (h : Kn w b k 0 F) (o : Oq) (hi : wfQ o.e.p) (hc : Fa.chkQ o.e.p = 0) (hF : F.length < 1000000) {x : Hd} (hfn : fnd F o.e.p = some x) (hx : x.b = true) (hk : o.k = 1) : Calls Try.prog 10 #[.pointer (some ⟨k, 0, none⟩), oV o] w (DoE 0 F o w b k) := by
  have hlb := h.lb
  have r0 := Row.new w 39 (pcs o)
  have b0 := ba w (.cells (pcs o).toArray 39)
  have K0 := h.below b0
  have hFl := failing_any K0 (Int.le_refl _) (by omega)
  have hne := K0.ne r0 (by decide)
  have T0 : KT w _ b k := KT.of b0 hlb
  have hr0 := r0.lt
  have hr9 : doF 0 F o = (false, 0, F) := by unfold doF; rw [if_neg (by simp), if_neg (by simpa using hc), hfn]; simp [hk, hx]
  have HR : Hid _ := hr9
  clear hr9
  rw [show (!((0 : Int) == 0)) = false from rfl, show lessN 0 = 0 from rfl] at hFl
  have hC := Fa.checkQ_any o.e.p
  rw [hc] at hC
  have d1 : (o.k == 1) = true := by rw [hk]; rfl
  have d2 : (o.k == 2) = false := by rw [hk]; rfl
  have d3 : (o.k == 3) = false := by rw [hk]; rfl
  have ck : ∀ {W : World} {g : Nat}, Row W g 39 (pcs o) → W.cell? ⟨g, 0, none⟩ = some (.int .i64 o.k) := fun h => h.op.k
  clear h K0 hc hk
  go_enter Try.func10, Try.ntmps10
  go_wp2_with (first
      | (have kk := q5; (with_reducible refine stH (.tmp 5) (.tmp 27) ?_ ?_ g5 x zeroH ?_ ?_ ?_ ?_); (focus rfl); (focus rfl); (focus rfl); (focus exact by first | rfl | (rw [hfn]; rfl)); (focus exact q5); intro W5 gr5 r5; have k5 := grown_below gr5 b5 h5 b5.size; have K4 := K3.below k5; have r4 := r3.below k5 r3.lt; have T4 := T3.trans (KT.of k5 K3.lb); have f5 := r5.hd.b_; rw [hx] at f5; have c4 := ck r4; clear q5)
      | (have kk := r3; (with_reducible refine alG infoHz ?_ ?_ ?_); (focus rfl); (focus rfl); intro g5 U5 h5 l5 b5 q5)
      | (have kk := r2; go_at_call 30; refine (at_any K2 o.e.p hi).mono ?_; rintro e W3 ⟨rfl, b3⟩; have K3 := K2.below b3; have r3 := r2.below b3 r2.lt; have T3 := T2.trans (KT.of b3 K2.lb))
      | ((with_reducible refine ldQ (.tmp 24) ?_ ?_ w.heap.size 1 o.e.p ?_ ?_ ?_); (focus rfl); (focus rfl); (focus rfl); (focus exact r2.op.e.q))
      | (have kk := r1; go_at_call 29; refine (hC _).mono ?_; rintro e W2 ⟨rfl, b2⟩; have K2 := K1.below b2; have r2 := r1.below b2 r1.lt; have T2 := (T0.trans T1).trans (KT.of b2 K1.lb))
      | ((with_reducible refine ldQ (.tmp 16) ?_ ?_ w.heap.size 1 o.e.p ?_ ?_ ?_); (focus rfl); (focus rfl); (focus rfl); (focus exact r1.op.e.q))
      | (have kk := r0; go_at_call 28; refine hFl.mono ?_; rintro e W1 ⟨rfl, K1, T1⟩; have r1 := T1.keep _ _ _ r0 hne))
  go_ret
  exact DoE.mk HR.out K4 T4

set_option maxHeartbeats 4000000 in
theorem do_others2 {w : World} {b k : Nat} {F : List Hd} (h : Kn w b k 0 F) (o : Oq) (hi : wfQ o.e.p) (hc : Fa.chkQ o.e.p = 0) (hF : F.length < 1000000) {x : Hd} (hfn : fnd F o.e.p = some x) (hx : x.b = true) (hk : o.k = 2) : Calls Try.prog 10 #[.pointer (some ⟨k, 0, none⟩), oV o] w (DoE 0 F o w b k) := by
  have hlb := h.lb
  have r0 := Row.new w 39 (pcs o)
  have b0 := ba w (.cells (pcs o).toArray 39)
  have K0 := h.below b0
  have hFl := failing_any K0 (Int.le_refl _) (by omega)
  have hne := K0.ne r0 (by decide)
  have T0 : KT w _ b k := KT.of b0 hlb
  have hr0 := r0.lt
  have hr9 : doF 0 F o = (false, 0, F) := by unfold doF; rw [if_neg (by simp), if_neg (by simpa using hc), hfn]; simp [hk, hx]
  have HR : Hid _ := hr9
  clear hr9
  rw [show (!((0 : Int) == 0)) = false from rfl, show lessN 0 = 0 from rfl] at hFl
  have hC := Fa.checkQ_any o.e.p
  rw [hc] at hC
  have d1 : (o.k == 1) = false := by rw [hk]; rfl
  have d2 : (o.k == 2) = true := by rw [hk]; rfl
  have d3 : (o.k == 3) = false := by rw [hk]; rfl
  have ck : ∀ {W : World} {g : Nat}, Row W g 39 (pcs o) → W.cell? ⟨g, 0, none⟩ = some (.int .i64 o.k) := fun h => h.op.k
  clear h K0 hc hk
  go_enter Try.func10, Try.ntmps10
  go_wp2_with (first
      | (have kk := q5; (with_reducible refine stH (.tmp 5) (.tmp 27) ?_ ?_ g5 x zeroH ?_ ?_ ?_ ?_); (focus rfl); (focus rfl); (focus rfl); (focus exact by first | rfl | (rw [hfn]; rfl)); (focus exact q5); intro W5 gr5 r5; have k5 := grown_below gr5 b5 h5 b5.size; have K4 := K3.below k5; have r4 := r3.below k5 r3.lt; have T4 := T3.trans (KT.of k5 K3.lb); have f5 := r5.hd.b_; rw [hx] at f5; have c4 := ck r4; clear q5)
      | (have kk := r3; (with_reducible refine alG infoHz ?_ ?_ ?_); (focus rfl); (focus rfl); intro g5 U5 h5 l5 b5 q5)
      | (have kk := r2; go_at_call 30; refine (at_any K2 o.e.p hi).mono ?_; rintro e W3 ⟨rfl, b3⟩; have K3 := K2.below b3; have r3 := r2.below b3 r2.lt; have T3 := T2.trans (KT.of b3 K2.lb))
      | ((with_reducible refine ldQ (.tmp 24) ?_ ?_ w.heap.size 1 o.e.p ?_ ?_ ?_); (focus rfl); (focus rfl); (focus rfl); (focus exact r2.op.e.q))
      | (have kk := r1; go_at_call 29; refine (hC _).mono ?_; rintro e W2 ⟨rfl, b2⟩; have K2 := K1.below b2; have r2 := r1.below b2 r1.lt; have T2 := (T0.trans T1).trans (KT.of b2 K1.lb))
      | ((with_reducible refine ldQ (.tmp 16) ?_ ?_ w.heap.size 1 o.e.p ?_ ?_ ?_); (focus rfl); (focus rfl); (focus rfl); (focus exact r1.op.e.q))
      | (have kk := r0; go_at_call 28; refine hFl.mono ?_; rintro e W1 ⟨rfl, K1, T1⟩; have r1 := T1.keep _ _ _ r0 hne))
  go_ret
  exact DoE.mk HR.out K4 T4

set_option maxHeartbeats 4000000 in
theorem do_others3 {w : World} {b k : Nat} {F : List Hd} (h : Kn w b k 0 F) (o : Oq) (hi : wfQ o.e.p) (hc : Fa.chkQ o.e.p = 0) (hF : F.length < 1000000) {x : Hd} (hfn : fnd F o.e.p = some x) (hx : x.b = true) (hk : o.k = 3) : Calls Try.prog 10 #[.pointer (some ⟨k, 0, none⟩), oV o] w (DoE 0 F o w b k) := by
  have hlb := h.lb
  have r0 := Row.new w 39 (pcs o)
  have b0 := ba w (.cells (pcs o).toArray 39)
  have K0 := h.below b0
  have hFl := failing_any K0 (Int.le_refl _) (by omega)
  have hne := K0.ne r0 (by decide)
  have T0 : KT w _ b k := KT.of b0 hlb
  have hr0 := r0.lt
  have hr9 : doF 0 F o = (false, 0, F) := by unfold doF; rw [if_neg (by simp), if_neg (by simpa using hc), hfn]; simp [hk, hx]
  have HR : Hid _ := hr9
  clear hr9
  rw [show (!((0 : Int) == 0)) = false from rfl, show lessN 0 = 0 from rfl] at hFl
  have hC := Fa.checkQ_any o.e.p
  rw [hc] at hC
  have d1 : (o.k == 1) = false := by rw [hk]; rfl
  have d2 : (o.k == 2) = false := by rw [hk]; rfl
  have d3 : (o.k == 3) = true := by rw [hk]; rfl
  have ck : ∀ {W : World} {g : Nat}, Row W g 39 (pcs o) → W.cell? ⟨g, 0, none⟩ = some (.int .i64 o.k) := fun h => h.op.k
  clear h K0 hc hk
  go_enter Try.func10, Try.ntmps10
  go_wp2_with (first
      | (have kk := q5; (with_reducible refine stH (.tmp 5) (.tmp 27) ?_ ?_ g5 x zeroH ?_ ?_ ?_ ?_); (focus rfl); (focus rfl); (focus rfl); (focus exact by first | rfl | (rw [hfn]; rfl)); (focus exact q5); intro W5 gr5 r5; have k5 := grown_below gr5 b5 h5 b5.size; have K4 := K3.below k5; have r4 := r3.below k5 r3.lt; have T4 := T3.trans (KT.of k5 K3.lb); have f5 := r5.hd.b_; rw [hx] at f5; have c4 := ck r4; clear q5)
      | (have kk := r3; (with_reducible refine alG infoHz ?_ ?_ ?_); (focus rfl); (focus rfl); intro g5 U5 h5 l5 b5 q5)
      | (have kk := r2; go_at_call 30; refine (at_any K2 o.e.p hi).mono ?_; rintro e W3 ⟨rfl, b3⟩; have K3 := K2.below b3; have r3 := r2.below b3 r2.lt; have T3 := T2.trans (KT.of b3 K2.lb))
      | ((with_reducible refine ldQ (.tmp 24) ?_ ?_ w.heap.size 1 o.e.p ?_ ?_ ?_); (focus rfl); (focus rfl); (focus rfl); (focus exact r2.op.e.q))
      | (have kk := r1; go_at_call 29; refine (hC _).mono ?_; rintro e W2 ⟨rfl, b2⟩; have K2 := K1.below b2; have r2 := r1.below b2 r1.lt; have T2 := (T0.trans T1).trans (KT.of b2 K1.lb))
      | ((with_reducible refine ldQ (.tmp 16) ?_ ?_ w.heap.size 1 o.e.p ?_ ?_ ?_); (focus rfl); (focus rfl); (focus rfl); (focus exact r1.op.e.q))
      | (have kk := r0; go_at_call 28; refine hFl.mono ?_; rintro e W1 ⟨rfl, K1, T1⟩; have r1 := T1.keep _ _ _ r0 hne))
  go_ret
  exact DoE.mk HR.out K4 T4

set_option maxHeartbeats 4000000 in
theorem do_others0 {w : World} {b k : Nat} {F : List Hd} (h : Kn w b k 0 F) (o : Oq) (hi : wfQ o.e.p) (hc : Fa.chkQ o.e.p = 0) (hF : F.length < 1000000) {x : Hd} (hfn : fnd F o.e.p = some x) (hx : x.b = true) (h1 : o.k ≠ 1) (h2 : o.k ≠ 2) (h3 : o.k ≠ 3) : Calls Try.prog 10 #[.pointer (some ⟨k, 0, none⟩), oV o] w (DoE 0 F o w b k) := by
  have hlb := h.lb
  have r0 := Row.new w 39 (pcs o)
  have b0 := ba w (.cells (pcs o).toArray 39)
  have K0 := h.below b0
  have hFl := failing_any K0 (Int.le_refl _) (by omega)
  have hne := K0.ne r0 (by decide)
  have T0 : KT w _ b k := KT.of b0 hlb
  have hr0 := r0.lt
  have hr9 : doF 0 F o = (false, 0, F) := by unfold doF; rw [if_neg (by simp), if_neg (by simpa using hc), hfn]; simp [h1, h2, h3, hx]
  have HR : Hid _ := hr9
  clear hr9
  rw [show (!((0 : Int) == 0)) = false from rfl, show lessN 0 = 0 from rfl] at hFl
  have hC := Fa.checkQ_any o.e.p
  rw [hc] at hC
  have d1 : (o.k == 1) = false := by simpa using h1
  have d2 : (o.k == 2) = false := by simpa using h2
  have d3 : (o.k == 3) = false := by simpa using h3
  have ck : ∀ {W : World} {g : Nat}, Row W g 39 (pcs o) → W.cell? ⟨g, 0, none⟩ = some (.int .i64 o.k) := fun h => h.op.k
  clear h K0 hc h1 h2 h3
  go_enter Try.func10, Try.ntmps10
  go_wp2_with (first
      | (have kk := q5; (with_reducible refine stH (.tmp 5) (.tmp 27) ?_ ?_ g5 x zeroH ?_ ?_ ?_ ?_); (focus rfl); (focus rfl); (focus rfl); (focus exact by first | rfl | (rw [hfn]; rfl)); (focus exact q5); intro W5 gr5 r5; have k5 := grown_below gr5 b5 h5 b5.size; have K4 := K3.below k5; have r4 := r3.below k5 r3.lt; have T4 := T3.trans (KT.of k5 K3.lb); have f5 := r5.hd.b_; rw [hx] at f5; have c4 := ck r4; clear q5)
      | (have kk := r3; (with_reducible refine alG infoHz ?_ ?_ ?_); (focus rfl); (focus rfl); intro g5 U5 h5 l5 b5 q5)
      | (have kk := r2; go_at_call 30; refine (at_any K2 o.e.p hi).mono ?_; rintro e W3 ⟨rfl, b3⟩; have K3 := K2.below b3; have r3 := r2.below b3 r2.lt; have T3 := T2.trans (KT.of b3 K2.lb))
      | ((with_reducible refine ldQ (.tmp 24) ?_ ?_ w.heap.size 1 o.e.p ?_ ?_ ?_); (focus rfl); (focus rfl); (focus rfl); (focus exact r2.op.e.q))
      | (have kk := r1; go_at_call 29; refine (hC _).mono ?_; rintro e W2 ⟨rfl, b2⟩; have K2 := K1.below b2; have r2 := r1.below b2 r1.lt; have T2 := (T0.trans T1).trans (KT.of b2 K1.lb))
      | ((with_reducible refine ldQ (.tmp 16) ?_ ?_ w.heap.size 1 o.e.p ?_ ?_ ?_); (focus rfl); (focus rfl); (focus rfl); (focus exact r1.op.e.q))
      | (have kk := r0; go_at_call 28; refine hFl.mono ?_; rintro e W1 ⟨rfl, K1, T1⟩; have r1 := T1.keep _ _ _ r0 hne))
  go_ret
  exact DoE.mk HR.out K4 T4

theorem do_any {w : World} {b k : Nat} {n : Int} {F : List Hd} (h : Kn w b k n F) (o : Oq) (hi : wfQ o.e.p) (n0 : 0 ≤ n) (n1 : n ≤ 9223372036854775807) (hF : F.length < 1000000) : Calls Try.prog 10 #[.pointer (some ⟨k, 0, none⟩), oV o] w (DoE n F o w b k) := by
  by_cases hn : n = 0
  · subst hn
    by_cases hc : Fa.chkQ o.e.p = 0
    · cases hfn : fnd F o.e.p with
      | none =>
        by_cases h1 : o.k = 1
        · exact do_none1 h o hi hc hF hfn h1
        · by_cases h2 : o.k = 2
          · exact do_none2 h o hi hc hF hfn h2
          · by_cases h3 : o.k = 3
            · exact do_none3 h o hi hc hF hfn h3
            · exact do_none0 h o hi hc hF hfn h1 h2 h3
      | some x =>
        cases hx : x.b with
        | false =>
          by_cases h1 : o.k = 1
          · exact do_own1 h o hi hc hF hfn hx h1
          · by_cases h2 : o.k = 2
            · exact do_own2 h o hi hc hF hfn hx h2
            · by_cases h3 : o.k = 3
              · exact do_own3 h o hi hc hF hfn hx h3
              · exact do_own0 h o hi hc hF hfn hx h1 h2 h3
        | true =>
          by_cases h1 : o.k = 1
          · exact do_others1 h o hi hc hF hfn hx h1
          · by_cases h2 : o.k = 2
            · exact do_others2 h o hi hc hF hfn hx h2
            · by_cases h3 : o.k = 3
              · exact do_others3 h o hi hc hF hfn hx h3
              · exact do_others0 h o hi hc hF hfn hx h1 h2 h3
    · exact do_bad h o hi hc
  · exact do_fail h o hi n0 n1 hn
theorem do_nil (o : Oq) (w : World) : Calls Try.prog 10 #[.pointer none, oV o] w (Gives w (.bool false)) := by
  have b0 := ba w (.cells (pcs o).toArray 39)
  go_enter Try.func10, Try.ntmps10
  go_wp2_with fail
  go_ret
  exact ⟨rfl, b0⟩
end Go.Proofs.Ytadnnjngflphjaa
