/-
  A neighbour behind a hello.
-/
import Derived.Test.YtacadlbhgelncaaN6
namespace Go.Proofs.Ytacadlbhgelncaa
open Lk (Hi hcs hcs_one)
open Rk (Rt rcs rtV)
open Go.RowKit Go.Maps
set_option linter.unusedSimpArgs false
set_option linter.unusedVariables false
set_option maxRecDepth 20000
section
variable {ops : Array Oper} {rest : List Oper} {op : Oper} {a : Act} {w : World} {Q : Exit → Act → World → Prop}
theorem st64 (x y : Operand) (hw : Region.wanted op (yielded ops a.tmps) = true) (ho : op.op = .store 3 x y) (b c : Nat) {U : TypeId} (cs : List Value) (n : Int) (hx : a.eval x = .pointer (some ⟨b, c, none⟩)) (hy : a.eval y = .int .i64 n) (hr : Row w b U cs) (hc : c < cs.length)
    (h : ∀ W, w.grownBy W (some b) → Row W b U (cs.set c (.int .i64 n)) → wpList Try.prog ops Q rest (a.put op.dst undef) W) : wpList Try.prog ops Q (op :: rest) a w :=
  wpList_step fun K hK => by
    rw [if_pos hw]
    have c1 : w.cell? ⟨b, c, none⟩ = some cs[c] := by rw [hr.cell]; exact List.getElem?_eq_getElem hc
    have c2 := hr.frozen c
    unfold Oper.wp execOp
    simp only [ho, hx, hy]
    go_simp
    exact hK _ _ (h _ (grownBy_setCell w b c _) (hr.set c _))
theorem st32 (x y : Operand) (hw : Region.wanted op (yielded ops a.tmps) = true) (ho : op.op = .store 53 x y) (b c : Nat) {U : TypeId} (cs : List Value) (n : Int) (hx : a.eval x = .pointer (some ⟨b, c, none⟩)) (hy : a.eval y = .int .u32 n) (hr : Row w b U cs) (hc : c < cs.length)
    (h : ∀ W, w.grownBy W (some b) → Row W b U (cs.set c (.int .u32 n)) → wpList Try.prog ops Q rest (a.put op.dst undef) W) : wpList Try.prog ops Q (op :: rest) a w :=
  wpList_step fun K hK => by
    rw [if_pos hw]
    have c1 : w.cell? ⟨b, c, none⟩ = some cs[c] := by rw [hr.cell]; exact List.getElem?_eq_getElem hc
    have c2 := hr.frozen c
    unfold Oper.wp execOp
    simp only [ho, hx, hy]
    go_simp
    exact hK _ _ (h _ (grownBy_setCell w b c _) (hr.set c _))
theorem st16 (x y : Operand) (hw : Region.wanted op (yielded ops a.tmps) = true) (ho : op.op = .store 30 x y) (b c : Nat) {U : TypeId} (cs : List Value) (n : Int) (hx : a.eval x = .pointer (some ⟨b, c, none⟩)) (hy : a.eval y = .int .u16 n) (hr : Row w b U cs) (hc : c < cs.length)
    (h : ∀ W, w.grownBy W (some b) → Row W b U (cs.set c (.int .u16 n)) → wpList Try.prog ops Q rest (a.put op.dst undef) W) : wpList Try.prog ops Q (op :: rest) a w :=
  wpList_step fun K hK => by
    rw [if_pos hw]
    have c1 : w.cell? ⟨b, c, none⟩ = some cs[c] := by rw [hr.cell]; exact List.getElem?_eq_getElem hc
    have c2 := hr.frozen c
    unfold Oper.wp execOp
    simp only [ho, hx, hy]
    go_simp
    exact hK _ _ (h _ (grownBy_setCell w b c _) (hr.set c _))
theorem stBo (x y : Operand) (hw : Region.wanted op (yielded ops a.tmps) = true) (ho : op.op = .store 4 x y) (b c : Nat) {U : TypeId} (cs : List Value) (n : Bool) (hx : a.eval x = .pointer (some ⟨b, c, none⟩)) (hy : a.eval y = .bool n) (hr : Row w b U cs) (hc : c < cs.length)
    (h : ∀ W, w.grownBy W (some b) → Row W b U (cs.set c (.bool n)) → wpList Try.prog ops Q rest (a.put op.dst undef) W) : wpList Try.prog ops Q (op :: rest) a w :=
  wpList_step fun K hK => by
    rw [if_pos hw]
    have c1 : w.cell? ⟨b, c, none⟩ = some cs[c] := by rw [hr.cell]; exact List.getElem?_eq_getElem hc
    have c2 := hr.frozen c
    unfold Oper.wp execOp
    simp only [ho, hx, hy]
    go_simp
    exact hK _ _ (h _ (grownBy_setCell w b c _) (hr.set c _))
end
/-- The stamps of a Tlv lie in memory. -/
structure Sm (w : World) (h : Tl) : Prop where
  len : h.st.length = h.sn
  lies : h.sn = 0 ∨ ∃ g o, h.sa = some ⟨g, o, none⟩ ∧ g < w.heap.size ∧ ∀ (j : Nat) (x : UInt32), h.st[j]? = some x → w.cell? ⟨g, o + j, none⟩ = some (.int .u32 (x.toNat : Int))
theorem Sm.below {w w' : World} {B : Nat} {h : Tl} (hs : Sm w h) (hb : Below B w w') (hB : w.heap.size ≤ B) : Sm w' h :=
  ⟨hs.len, hs.lies.imp id fun ⟨g, o, e, hg, hl⟩ => ⟨g, o, e, Nat.lt_of_lt_of_le hg hb.size, fun j x hx => (hb.cell (p := ⟨g, o + j, none⟩) (Nat.lt_of_lt_of_le hg hB)).trans (hl j x hx)⟩⟩
/-- What may be of a hello. -/
structure Tl.fit (h : Tl) : Prop where
  i1 : h.intv < 65536
  s1 : h.seq < 65536
  r1 : h.rx < 65536
def gapAt (now iv : Int) : Int := if iv * 10 = 0 then 0 else now + iv * 10 + (iv * 10).tdiv 2
def heardN (n : Ng) (now : Int) (h : Tl) : Ng := if h.uni then { n with u := Lk.hearH n.u h.seq, ug := (h.intv : Int) * 10, ua := gapAt now h.intv } else { n with m := Lk.hearH n.m h.seq, mg := (h.intv : Int) * 10, ma := gapAt now h.intv }
def greetN (n : Ng) (now : Int) (h : Tl) : Ng := match h.st with | [] => heardN n now h | x :: _ => { heardN n now h with se := (x.toNat : Int), he := now, hs := true }
theorem row3 {w W1 : World} {cs ds : List Value} {t u : TypeId} (h : Below ((w.alloc (.cells cs.toArray t)).alloc (.cells ds.toArray u)).heap.size ((w.alloc (.cells cs.toArray t)).alloc (.cells ds.toArray u)) W1) : Below w.heap.size w W1 ∧ Row W1 w.heap.size t cs ∧ Row W1 (w.heap.size + 1) u ds := by
  obtain ⟨hB, r0, r1⟩ := low_rows w cs ds t u
  exact ⟨bt hB h, r0.below h (by simp; omega), r1.below h (by simp)⟩
set_option maxHeartbeats 8000000 in
theorem greeted_any (n : Ng) (now : Int) (h : Tl) (w : World) (ok : n.ok) (hf : h.fit) (t0 : 0 ≤ now) (t1 : now ≤ 1125899906842624) (hS : Sm w h) : Calls Try.prog 26 #[nV n, .int .i64 now, .agg (tcells h).toArray] w (Gives w (nV (greetN n now h))) := by
  have HU := fun W => Lk.hear_any n.u h.seq W ok.uo
  have HM := fun W => Lk.hear_any n.m h.seq W ok.mo
  have HX : Hid (greetN n now h = match h.st with | [] => heardN n now h | x :: _ => { heardN n now h with se := (x.toNat : Int), he := now, hs := true }) := rfl
  have HY : Hid (heardN n now h = if h.uni then { n with u := Lk.hearH n.u h.seq, ug := (h.intv : Int) * 10, ua := gapAt now h.intv } else { n with m := Lk.hearH n.m h.seq, mg := (h.intv : Int) * 10, ma := gapAt now h.intv }) := rfl
  have HG : Hid (gapAt now h.intv = if (h.intv : Int) * 10 = 0 then 0 else now + (h.intv : Int) * 10 + ((h.intv : Int) * 10).tdiv 2) := rfl
  have i0 : (0 : Int) ≤ h.intv := by omega
  have i1 : (h.intv : Int) < 65536 := by have := hf.i1; omega
  have hlen := hS.len
  have tc := tcells_get h
  generalize greetN n now h = X at *
  generalize heardN n now h = Y at *
  generalize gapAt now h.intv = A at *
  have k2 : (tcells h)[2]? = some (.int .u16 (h.intv : Int)) := rfl
  have k3 : (tcells h)[3]? = some (.int .u16 (h.seq : Int)) := rfl
  have k7 : (tcells h)[7]? = some (.bool h.uni) := rfl
  generalize (h.intv : Int) = iv at *
  generalize (h.seq : Int) = sq at *
  generalize Lk.hearH n.u sq = hu at *
  generalize Lk.hearH n.m sq = hm at *
  have Hd2 : (iv * 10).tdiv 2 = iv * 5 := by rw [Int.tdiv_eq_ediv_of_nonneg (by omega)]; omega
  rw [Hd2] at HG
  clear ok hf
  go_enter Try.func26, Try.ntmps26
  go_upto_region 1 with (first
    | (refine alG infoNz rfl rfl ?_; intro g1 W1 hge hgl hB1 hr1))
  obtain ⟨hB, r0, rT⟩ := row3 hB1
  have hg : w.heap.size + 1 < g1 := by simp at hge; omega
  clear hB1 hge
  have hs := r0.lt
  have hsT := rT.lt
  have cT2 := (rT.cell 2).trans k2
  have cT3 := (rT.cell 3).trans k3
  have cT7 := (rT.cell 7).trans k7
  have cT67 := (rT.cell 67).trans tc
  obtain ⟨un, hun⟩ : ∃ un, h.uni = un := ⟨_, rfl⟩
  rw [hun] at cT7 HY
  have hg2 : g1 ≠ w.heap.size := by omega
  have hgT : w.heap.size + 1 ≠ w.heap.size := by omega
  clear k2 k3 k7 hun
  by_cases hz : iv * 10 = 0
  · cases un with
    | true =>
      obtain ⟨ss, hss⟩ : ∃ ss, h.st = ss := ⟨_, rfl⟩
      rw [hss] at HX
      cases ss with
      | nil =>
        have hgz : iv * 10 = 0 := hz
        have hgb : (iv * 10 != 0) = false := by simpa using hz
        have hA := HG.out
        rw [if_pos hz] at hA
        have hY := HY.out
        simp only [if_true] at hY
        have hX := HX.out
        subst hA
        have hsn : h.sn = 0 := by rw [hss] at hlen; simpa using hlen.symm
        rw [hsn] at tc cT67
        clear hS HX HY HG hlen hss hz hgz hsn
        go_wp2_with (first
          | (have kk := r5; refine stN (.tmp 6) (.tmp 55) rfl rfl g1 _ _ rfl rfl q5 ?_; intro W9 g9 r9)
          | (have kk := r5; refine ldN (.tmp 3) rfl rfl _ _ _ rfl r5.range ?_)
          | (have kk := r4; refine st64 (.tmp 32) (.tmp 29) rfl rfl _ 26 _ _ rfl rfl r4 (by rw [ncs_len]; omega) ?_; intro W5 g5 r5; rw [(ncs_set _).2.2.2.1] at r5; have q5 := q4.keep g5 hg2; have T5 := T4.keep g5 hgT; have b5 := grown_below g5 b4 (Nat.le_refl _) b4.size; have c67 := (T5.cell 67).trans tc; clear r4 q4 T4)
          | (have kk := r3; refine st64 (.tmp 31) (.tmp 28) rfl rfl _ 24 _ _ rfl rfl r3 (by rw [ncs_len]; omega) ?_; intro W4 g4 r4; rw [(ncs_set _).2.1] at r4; have q4 := q3.keep g4 hg2; have T4 := T3.keep g4 hgT; have b4 := grown_below g4 b3 (Nat.le_refl _) b3.size; clear r3 q3 T3)
          | (have kk := r2; refine stH (.tmp 30) (.tmp 27) rfl rfl _ _ hu rfl rfl (r2.thereMid (by rw [ncs_len]; omega)) ?_; have r3 := r2.sU hu; have g3 := grownBy_setCells w.heap.size (hcs hu) 20 wm; generalize wm.setCells w.heap.size 20 (hcs hu) = W3 at *; have q3 := q2.keep g3 hg2; have T3 := T2.keep g3 hgT; have b3 := grown_below g3 b2 (Nat.le_refl _) b2.size; clear r2 q2 T2)
          | (go_at_call 48; refine (HU _).mono ?_; rintro e wm ⟨rfl, hBm⟩; have r2 := r0.below hBm hs; have q2 := hr1.below hBm hgl; have T2 := rT.below hBm hsT; have b2 : Below w.heap.size w wm := bt hB hBm)
          | (refine ldH (.tmp 23) rfl rfl _ _ n.u rfl r0.nU ?_))
        subst hY
        subst hX
        exact bodyPost_ret (retC rfl _ _ 0 rfl (lvN r9)) rfl ⟨rfl, grown_below g9 b5 (by omega) b5.size⟩
      | cons x xs =>
        have hgz : iv * 10 = 0 := hz
        have hgb : (iv * 10 != 0) = false := by simpa using hz
        have hA := HG.out
        rw [if_pos hz] at hA
        have hY := HY.out
        simp only [if_true] at hY
        have hX := HX.out
        subst hA
        rcases hS.lies with h0 | ⟨sg, so, hsa, hsg, hl⟩
        · rw [hss] at hlen; simp at hlen; omega
        have hcS := hl 0 x (by rw [hss]; rfl)
        have hsn : (0 : Int) < (h.sn : Int) := by rw [hss] at hlen; simp at hlen; omega
        rw [Nat.add_zero] at hcS
        have Hnb : Hid (sg ≠ w.heap.size ∨ True) := .inr trivial
        clear hl hS HX HY HG hlen hss hz hgz
        go_wp2_with (first
          | (have kk := r8; refine stN (.tmp 6) (.tmp 55) rfl rfl g1 _ _ rfl rfl q8 ?_; intro W9 g9 r9)
          | (have kk := r8; refine ldN (.tmp 3) rfl rfl _ _ _ rfl r8.range ?_)
          | (have kk := r7; refine stBo (.tmp 54) (.const (.bool true)) rfl rfl _ 31 _ true rfl rfl r7 (by rw [ncs_len]; omega) ?_; intro W8 g8 r8; rw [(ncs_set _).2.2.2.2.2.2.2.2.1] at r8; have q8 := q7.keep g8 hg2; have b8 := grown_below g8 b7 (Nat.le_refl _) b7.size; clear r7 q7)
          | (have kk := r6; refine st64 (.tmp 53) (.tmp 51) rfl rfl _ 30 _ now rfl rfl r6 (by rw [ncs_len]; omega) ?_; intro W7 g7 r7; rw [(ncs_set _).2.2.2.2.2.2.2.1] at r7; have q7 := q6.keep g7 hg2; have b7 := grown_below g7 b6 (Nat.le_refl _) b6.size; clear r6 q6)
          | (have kk := r5; refine st32 (.tmp 52) (.tmp 50) rfl rfl _ 29 _ (x.toNat : Int) rfl rfl r5 (by rw [ncs_len]; omega) ?_; intro W6 g6 r6; rw [(ncs_set _).2.2.2.2.2.2.1] at r6; have q6 := q5.keep g6 hg2; have b6 := grown_below g6 b5 (Nat.le_refl _) b5.size; clear r5 q5)
          | (have kk := r4; refine st64 (.tmp 32) (.tmp 29) rfl rfl _ 26 _ _ rfl rfl r4 (by rw [ncs_len]; omega) ?_; intro W5 g5 r5; rw [(ncs_set _).2.2.2.1] at r5; have q5 := q4.keep g5 hg2; have T5 := T4.keep g5 hgT; have b5 := grown_below g5 b4 (Nat.le_refl _) b4.size; have c67 := (T5.cell 67).trans tc; rw [hsa] at c67; have cS := (b5.cell (p := ⟨sg, so, none⟩) hsg).trans hcS; clear r4 q4 T4)
          | (have kk := r3; refine st64 (.tmp 31) (.tmp 28) rfl rfl _ 24 _ _ rfl rfl r3 (by rw [ncs_len]; omega) ?_; intro W4 g4 r4; rw [(ncs_set _).2.1] at r4; have q4 := q3.keep g4 hg2; have T4 := T3.keep g4 hgT; have b4 := grown_below g4 b3 (Nat.le_refl _) b3.size; clear r3 q3 T3)
          | (have kk := r2; refine stH (.tmp 30) (.tmp 27) rfl rfl _ _ hu rfl rfl (r2.thereMid (by rw [ncs_len]; omega)) ?_; have r3 := r2.sU hu; have g3 := grownBy_setCells w.heap.size (hcs hu) 20 wm; generalize wm.setCells w.heap.size 20 (hcs hu) = W3 at *; have q3 := q2.keep g3 hg2; have T3 := T2.keep g3 hgT; have b3 := grown_below g3 b2 (Nat.le_refl _) b2.size; clear r2 q2 T2)
          | (go_at_call 48; refine (HU _).mono ?_; rintro e wm ⟨rfl, hBm⟩; have r2 := r0.below hBm hs; have q2 := hr1.below hBm hgl; have T2 := rT.below hBm hsT; have b2 : Below w.heap.size w wm := bt hB hBm)
          | (refine ldH (.tmp 23) rfl rfl _ _ n.u rfl r0.nU ?_))
        subst hY
        subst hX
        exact bodyPost_ret (retC rfl _ _ 0 rfl (lvN r9)) rfl ⟨rfl, grown_below g9 b8 (by omega) b8.size⟩
    | false =>
      obtain ⟨ss, hss⟩ : ∃ ss, h.st = ss := ⟨_, rfl⟩
      rw [hss] at HX
      cases ss with
      | nil =>
        have hgz : iv * 10 = 0 := hz
        have hgb : (iv * 10 != 0) = false := by simpa using hz
        have hA := HG.out
        rw [if_pos hz] at hA
        have hY := HY.out
        simp only [Bool.false_eq_true, if_false] at hY
        have hX := HX.out
        subst hA
        have hsn : h.sn = 0 := by rw [hss] at hlen; simpa using hlen.symm
        rw [hsn] at tc cT67
        clear hS HX HY HG hlen hss hz hgz hsn
        go_wp2_with (first
          | (have kk := r5; refine stN (.tmp 6) (.tmp 55) rfl rfl g1 _ _ rfl rfl q5 ?_; intro W9 g9 r9)
          | (have kk := r5; refine ldN (.tmp 3) rfl rfl _ _ _ rfl r5.range ?_)
          | (have kk := r4; refine st64 (.tmp 42) (.tmp 39) rfl rfl _ 25 _ _ rfl rfl r4 (by rw [ncs_len]; omega) ?_; intro W5 g5 r5; rw [(ncs_set _).2.2.1] at r5; have q5 := q4.keep g5 hg2; have T5 := T4.keep g5 hgT; have b5 := grown_below g5 b4 (Nat.le_refl _) b4.size; have c67 := (T5.cell 67).trans tc; clear r4 q4 T4)
          | (have kk := r3; refine st64 (.tmp 41) (.tmp 38) rfl rfl _ 23 _ _ rfl rfl r3 (by rw [ncs_len]; omega) ?_; intro W4 g4 r4; rw [(ncs_set _).1] at r4; have q4 := q3.keep g4 hg2; have T4 := T3.keep g4 hgT; have b4 := grown_below g4 b3 (Nat.le_refl _) b3.size; clear r3 q3 T3)
          | (have kk := r2; refine stH (.tmp 40) (.tmp 37) rfl rfl _ _ hm rfl rfl (r2.thereMid (by rw [ncs_len]; omega)) ?_; have r3 := r2.sM hm; have g3 := grownBy_setCells w.heap.size (hcs hm) 17 wm; generalize wm.setCells w.heap.size 17 (hcs hm) = W3 at *; have q3 := q2.keep g3 hg2; have T3 := T2.keep g3 hgT; have b3 := grown_below g3 b2 (Nat.le_refl _) b2.size; clear r2 q2 T2)
          | (go_at_call 48; refine (HM _).mono ?_; rintro e wm ⟨rfl, hBm⟩; have r2 := r0.below hBm hs; have q2 := hr1.below hBm hgl; have T2 := rT.below hBm hsT; have b2 : Below w.heap.size w wm := bt hB hBm)
          | (refine ldH (.tmp 33) rfl rfl _ _ n.m rfl r0.nM ?_))
        subst hY
        subst hX
        exact bodyPost_ret (retC rfl _ _ 0 rfl (lvN r9)) rfl ⟨rfl, grown_below g9 b5 (by omega) b5.size⟩
      | cons x xs =>
        have hgz : iv * 10 = 0 := hz
        have hgb : (iv * 10 != 0) = false := by simpa using hz
        have hA := HG.out
        rw [if_pos hz] at hA
        have hY := HY.out
        simp only [Bool.false_eq_true, if_false] at hY
        have hX := HX.out
        subst hA
        rcases hS.lies with h0 | ⟨sg, so, hsa, hsg, hl⟩
        · rw [hss] at hlen; simp at hlen; omega
        have hcS := hl 0 x (by rw [hss]; rfl)
        have hsn : (0 : Int) < (h.sn : Int) := by rw [hss] at hlen; simp at hlen; omega
        rw [Nat.add_zero] at hcS
        have Hnb : Hid (sg ≠ w.heap.size ∨ True) := .inr trivial
        clear hl hS HX HY HG hlen hss hz hgz
        go_wp2_with (first
          | (have kk := r8; refine stN (.tmp 6) (.tmp 55) rfl rfl g1 _ _ rfl rfl q8 ?_; intro W9 g9 r9)
          | (have kk := r8; refine ldN (.tmp 3) rfl rfl _ _ _ rfl r8.range ?_)
          | (have kk := r7; refine stBo (.tmp 54) (.const (.bool true)) rfl rfl _ 31 _ true rfl rfl r7 (by rw [ncs_len]; omega) ?_; intro W8 g8 r8; rw [(ncs_set _).2.2.2.2.2.2.2.2.1] at r8; have q8 := q7.keep g8 hg2; have b8 := grown_below g8 b7 (Nat.le_refl _) b7.size; clear r7 q7)
          | (have kk := r6; refine st64 (.tmp 53) (.tmp 51) rfl rfl _ 30 _ now rfl rfl r6 (by rw [ncs_len]; omega) ?_; intro W7 g7 r7; rw [(ncs_set _).2.2.2.2.2.2.2.1] at r7; have q7 := q6.keep g7 hg2; have b7 := grown_below g7 b6 (Nat.le_refl _) b6.size; clear r6 q6)
          | (have kk := r5; refine st32 (.tmp 52) (.tmp 50) rfl rfl _ 29 _ (x.toNat : Int) rfl rfl r5 (by rw [ncs_len]; omega) ?_; intro W6 g6 r6; rw [(ncs_set _).2.2.2.2.2.2.1] at r6; have q6 := q5.keep g6 hg2; have b6 := grown_below g6 b5 (Nat.le_refl _) b5.size; clear r5 q5)
          | (have kk := r4; refine st64 (.tmp 42) (.tmp 39) rfl rfl _ 25 _ _ rfl rfl r4 (by rw [ncs_len]; omega) ?_; intro W5 g5 r5; rw [(ncs_set _).2.2.1] at r5; have q5 := q4.keep g5 hg2; have T5 := T4.keep g5 hgT; have b5 := grown_below g5 b4 (Nat.le_refl _) b4.size; have c67 := (T5.cell 67).trans tc; rw [hsa] at c67; have cS := (b5.cell (p := ⟨sg, so, none⟩) hsg).trans hcS; clear r4 q4 T4)
          | (have kk := r3; refine st64 (.tmp 41) (.tmp 38) rfl rfl _ 23 _ _ rfl rfl r3 (by rw [ncs_len]; omega) ?_; intro W4 g4 r4; rw [(ncs_set _).1] at r4; have q4 := q3.keep g4 hg2; have T4 := T3.keep g4 hgT; have b4 := grown_below g4 b3 (Nat.le_refl _) b3.size; clear r3 q3 T3)
          | (have kk := r2; refine stH (.tmp 40) (.tmp 37) rfl rfl _ _ hm rfl rfl (r2.thereMid (by rw [ncs_len]; omega)) ?_; have r3 := r2.sM hm; have g3 := grownBy_setCells w.heap.size (hcs hm) 17 wm; generalize wm.setCells w.heap.size 17 (hcs hm) = W3 at *; have q3 := q2.keep g3 hg2; have T3 := T2.keep g3 hgT; have b3 := grown_below g3 b2 (Nat.le_refl _) b2.size; clear r2 q2 T2)
          | (go_at_call 48; refine (HM _).mono ?_; rintro e wm ⟨rfl, hBm⟩; have r2 := r0.below hBm hs; have q2 := hr1.below hBm hgl; have T2 := rT.below hBm hsT; have b2 : Below w.heap.size w wm := bt hB hBm)
          | (refine ldH (.tmp 33) rfl rfl _ _ n.m rfl r0.nM ?_))
        subst hY
        subst hX
        exact bodyPost_ret (retC rfl _ _ 0 rfl (lvN r9)) rfl ⟨rfl, grown_below g9 b8 (by omega) b8.size⟩
  · cases un with
    | true =>
      obtain ⟨ss, hss⟩ : ∃ ss, h.st = ss := ⟨_, rfl⟩
      rw [hss] at HX
      cases ss with
      | nil =>
        have hgz : iv * 10 ≠ 0 := hz
        have hgb : (iv * 10 != 0) = true := by simpa using hz
        have hA := HG.out
        rw [if_neg hz] at hA
        have hY := HY.out
        simp only [if_true] at hY
        have hX := HX.out
        subst hA
        have hsn : h.sn = 0 := by rw [hss] at hlen; simpa using hlen.symm
        rw [hsn] at tc cT67
        clear hS HX HY HG hlen hss hz hgz hsn
        go_wp2_with (first
          | (have kk := r5; refine stN (.tmp 6) (.tmp 55) rfl rfl g1 _ _ rfl rfl q5 ?_; intro W9 g9 r9)
          | (have kk := r5; refine ldN (.tmp 3) rfl rfl _ _ _ rfl r5.range ?_)
          | (have kk := r4; refine st64 (.tmp 32) (.tmp 29) rfl rfl _ 26 _ _ rfl rfl r4 (by rw [ncs_len]; omega) ?_; intro W5 g5 r5; rw [(ncs_set _).2.2.2.1] at r5; have q5 := q4.keep g5 hg2; have T5 := T4.keep g5 hgT; have b5 := grown_below g5 b4 (Nat.le_refl _) b4.size; have c67 := (T5.cell 67).trans tc; clear r4 q4 T4)
          | (have kk := r3; refine st64 (.tmp 31) (.tmp 28) rfl rfl _ 24 _ _ rfl rfl r3 (by rw [ncs_len]; omega) ?_; intro W4 g4 r4; rw [(ncs_set _).2.1] at r4; have q4 := q3.keep g4 hg2; have T4 := T3.keep g4 hgT; have b4 := grown_below g4 b3 (Nat.le_refl _) b3.size; clear r3 q3 T3)
          | (have kk := r2; refine stH (.tmp 30) (.tmp 27) rfl rfl _ _ hu rfl rfl (r2.thereMid (by rw [ncs_len]; omega)) ?_; have r3 := r2.sU hu; have g3 := grownBy_setCells w.heap.size (hcs hu) 20 wm; generalize wm.setCells w.heap.size 20 (hcs hu) = W3 at *; have q3 := q2.keep g3 hg2; have T3 := T2.keep g3 hgT; have b3 := grown_below g3 b2 (Nat.le_refl _) b2.size; clear r2 q2 T2)
          | (go_at_call 48; refine (HU _).mono ?_; rintro e wm ⟨rfl, hBm⟩; have r2 := r0.below hBm hs; have q2 := hr1.below hBm hgl; have T2 := rT.below hBm hsT; have b2 : Below w.heap.size w wm := bt hB hBm)
          | (refine ldH (.tmp 23) rfl rfl _ _ n.u rfl r0.nU ?_))
        subst hY
        subst hX
        exact bodyPost_ret (retC rfl _ _ 0 rfl (lvN r9)) rfl ⟨rfl, grown_below g9 b5 (by omega) b5.size⟩
      | cons x xs =>
        have hgz : iv * 10 ≠ 0 := hz
        have hgb : (iv * 10 != 0) = true := by simpa using hz
        have hA := HG.out
        rw [if_neg hz] at hA
        have hY := HY.out
        simp only [if_true] at hY
        have hX := HX.out
        subst hA
        rcases hS.lies with h0 | ⟨sg, so, hsa, hsg, hl⟩
        · rw [hss] at hlen; simp at hlen; omega
        have hcS := hl 0 x (by rw [hss]; rfl)
        have hsn : (0 : Int) < (h.sn : Int) := by rw [hss] at hlen; simp at hlen; omega
        rw [Nat.add_zero] at hcS
        have Hnb : Hid (sg ≠ w.heap.size ∨ True) := .inr trivial
        clear hl hS HX HY HG hlen hss hz hgz
        go_wp2_with (first
          | (have kk := r8; refine stN (.tmp 6) (.tmp 55) rfl rfl g1 _ _ rfl rfl q8 ?_; intro W9 g9 r9)
          | (have kk := r8; refine ldN (.tmp 3) rfl rfl _ _ _ rfl r8.range ?_)
          | (have kk := r7; refine stBo (.tmp 54) (.const (.bool true)) rfl rfl _ 31 _ true rfl rfl r7 (by rw [ncs_len]; omega) ?_; intro W8 g8 r8; rw [(ncs_set _).2.2.2.2.2.2.2.2.1] at r8; have q8 := q7.keep g8 hg2; have b8 := grown_below g8 b7 (Nat.le_refl _) b7.size; clear r7 q7)
          | (have kk := r6; refine st64 (.tmp 53) (.tmp 51) rfl rfl _ 30 _ now rfl rfl r6 (by rw [ncs_len]; omega) ?_; intro W7 g7 r7; rw [(ncs_set _).2.2.2.2.2.2.2.1] at r7; have q7 := q6.keep g7 hg2; have b7 := grown_below g7 b6 (Nat.le_refl _) b6.size; clear r6 q6)
          | (have kk := r5; refine st32 (.tmp 52) (.tmp 50) rfl rfl _ 29 _ (x.toNat : Int) rfl rfl r5 (by rw [ncs_len]; omega) ?_; intro W6 g6 r6; rw [(ncs_set _).2.2.2.2.2.2.1] at r6; have q6 := q5.keep g6 hg2; have b6 := grown_below g6 b5 (Nat.le_refl _) b5.size; clear r5 q5)
          | (have kk := r4; refine st64 (.tmp 32) (.tmp 29) rfl rfl _ 26 _ _ rfl rfl r4 (by rw [ncs_len]; omega) ?_; intro W5 g5 r5; rw [(ncs_set _).2.2.2.1] at r5; have q5 := q4.keep g5 hg2; have T5 := T4.keep g5 hgT; have b5 := grown_below g5 b4 (Nat.le_refl _) b4.size; have c67 := (T5.cell 67).trans tc; rw [hsa] at c67; have cS := (b5.cell (p := ⟨sg, so, none⟩) hsg).trans hcS; clear r4 q4 T4)
          | (have kk := r3; refine st64 (.tmp 31) (.tmp 28) rfl rfl _ 24 _ _ rfl rfl r3 (by rw [ncs_len]; omega) ?_; intro W4 g4 r4; rw [(ncs_set _).2.1] at r4; have q4 := q3.keep g4 hg2; have T4 := T3.keep g4 hgT; have b4 := grown_below g4 b3 (Nat.le_refl _) b3.size; clear r3 q3 T3)
          | (have kk := r2; refine stH (.tmp 30) (.tmp 27) rfl rfl _ _ hu rfl rfl (r2.thereMid (by rw [ncs_len]; omega)) ?_; have r3 := r2.sU hu; have g3 := grownBy_setCells w.heap.size (hcs hu) 20 wm; generalize wm.setCells w.heap.size 20 (hcs hu) = W3 at *; have q3 := q2.keep g3 hg2; have T3 := T2.keep g3 hgT; have b3 := grown_below g3 b2 (Nat.le_refl _) b2.size; clear r2 q2 T2)
          | (go_at_call 48; refine (HU _).mono ?_; rintro e wm ⟨rfl, hBm⟩; have r2 := r0.below hBm hs; have q2 := hr1.below hBm hgl; have T2 := rT.below hBm hsT; have b2 : Below w.heap.size w wm := bt hB hBm)
          | (refine ldH (.tmp 23) rfl rfl _ _ n.u rfl r0.nU ?_))
        subst hY
        subst hX
        exact bodyPost_ret (retC rfl _ _ 0 rfl (lvN r9)) rfl ⟨rfl, grown_below g9 b8 (by omega) b8.size⟩
    | false =>
      obtain ⟨ss, hss⟩ : ∃ ss, h.st = ss := ⟨_, rfl⟩
      rw [hss] at HX
      cases ss with
      | nil =>
        have hgz : iv * 10 ≠ 0 := hz
        have hgb : (iv * 10 != 0) = true := by simpa using hz
        have hA := HG.out
        rw [if_neg hz] at hA
        have hY := HY.out
        simp only [Bool.false_eq_true, if_false] at hY
        have hX := HX.out
        subst hA
        have hsn : h.sn = 0 := by rw [hss] at hlen; simpa using hlen.symm
        rw [hsn] at tc cT67
        clear hS HX HY HG hlen hss hz hgz hsn
        go_wp2_with (first
          | (have kk := r5; refine stN (.tmp 6) (.tmp 55) rfl rfl g1 _ _ rfl rfl q5 ?_; intro W9 g9 r9)
          | (have kk := r5; refine ldN (.tmp 3) rfl rfl _ _ _ rfl r5.range ?_)
          | (have kk := r4; refine st64 (.tmp 42) (.tmp 39) rfl rfl _ 25 _ _ rfl rfl r4 (by rw [ncs_len]; omega) ?_; intro W5 g5 r5; rw [(ncs_set _).2.2.1] at r5; have q5 := q4.keep g5 hg2; have T5 := T4.keep g5 hgT; have b5 := grown_below g5 b4 (Nat.le_refl _) b4.size; have c67 := (T5.cell 67).trans tc; clear r4 q4 T4)
          | (have kk := r3; refine st64 (.tmp 41) (.tmp 38) rfl rfl _ 23 _ _ rfl rfl r3 (by rw [ncs_len]; omega) ?_; intro W4 g4 r4; rw [(ncs_set _).1] at r4; have q4 := q3.keep g4 hg2; have T4 := T3.keep g4 hgT; have b4 := grown_below g4 b3 (Nat.le_refl _) b3.size; clear r3 q3 T3)
          | (have kk := r2; refine stH (.tmp 40) (.tmp 37) rfl rfl _ _ hm rfl rfl (r2.thereMid (by rw [ncs_len]; omega)) ?_; have r3 := r2.sM hm; have g3 := grownBy_setCells w.heap.size (hcs hm) 17 wm; generalize wm.setCells w.heap.size 17 (hcs hm) = W3 at *; have q3 := q2.keep g3 hg2; have T3 := T2.keep g3 hgT; have b3 := grown_below g3 b2 (Nat.le_refl _) b2.size; clear r2 q2 T2)
          | (go_at_call 48; refine (HM _).mono ?_; rintro e wm ⟨rfl, hBm⟩; have r2 := r0.below hBm hs; have q2 := hr1.below hBm hgl; have T2 := rT.below hBm hsT; have b2 : Below w.heap.size w wm := bt hB hBm)
          | (refine ldH (.tmp 33) rfl rfl _ _ n.m rfl r0.nM ?_))
        subst hY
        subst hX
        exact bodyPost_ret (retC rfl _ _ 0 rfl (lvN r9)) rfl ⟨rfl, grown_below g9 b5 (by omega) b5.size⟩
      | cons x xs =>
        have hgz : iv * 10 ≠ 0 := hz
        have hgb : (iv * 10 != 0) = true := by simpa using hz
        have hA := HG.out
        rw [if_neg hz] at hA
        have hY := HY.out
        simp only [Bool.false_eq_true, if_false] at hY
        have hX := HX.out
        subst hA
        rcases hS.lies with h0 | ⟨sg, so, hsa, hsg, hl⟩
        · rw [hss] at hlen; simp at hlen; omega
        have hcS := hl 0 x (by rw [hss]; rfl)
        have hsn : (0 : Int) < (h.sn : Int) := by rw [hss] at hlen; simp at hlen; omega
        rw [Nat.add_zero] at hcS
        have Hnb : Hid (sg ≠ w.heap.size ∨ True) := .inr trivial
        clear hl hS HX HY HG hlen hss hz hgz
        go_wp2_with (first
          | (have kk := r8; refine stN (.tmp 6) (.tmp 55) rfl rfl g1 _ _ rfl rfl q8 ?_; intro W9 g9 r9)
          | (have kk := r8; refine ldN (.tmp 3) rfl rfl _ _ _ rfl r8.range ?_)
          | (have kk := r7; refine stBo (.tmp 54) (.const (.bool true)) rfl rfl _ 31 _ true rfl rfl r7 (by rw [ncs_len]; omega) ?_; intro W8 g8 r8; rw [(ncs_set _).2.2.2.2.2.2.2.2.1] at r8; have q8 := q7.keep g8 hg2; have b8 := grown_below g8 b7 (Nat.le_refl _) b7.size; clear r7 q7)
          | (have kk := r6; refine st64 (.tmp 53) (.tmp 51) rfl rfl _ 30 _ now rfl rfl r6 (by rw [ncs_len]; omega) ?_; intro W7 g7 r7; rw [(ncs_set _).2.2.2.2.2.2.2.1] at r7; have q7 := q6.keep g7 hg2; have b7 := grown_below g7 b6 (Nat.le_refl _) b6.size; clear r6 q6)
          | (have kk := r5; refine st32 (.tmp 52) (.tmp 50) rfl rfl _ 29 _ (x.toNat : Int) rfl rfl r5 (by rw [ncs_len]; omega) ?_; intro W6 g6 r6; rw [(ncs_set _).2.2.2.2.2.2.1] at r6; have q6 := q5.keep g6 hg2; have b6 := grown_below g6 b5 (Nat.le_refl _) b5.size; clear r5 q5)
          | (have kk := r4; refine st64 (.tmp 42) (.tmp 39) rfl rfl _ 25 _ _ rfl rfl r4 (by rw [ncs_len]; omega) ?_; intro W5 g5 r5; rw [(ncs_set _).2.2.1] at r5; have q5 := q4.keep g5 hg2; have T5 := T4.keep g5 hgT; have b5 := grown_below g5 b4 (Nat.le_refl _) b4.size; have c67 := (T5.cell 67).trans tc; rw [hsa] at c67; have cS := (b5.cell (p := ⟨sg, so, none⟩) hsg).trans hcS; clear r4 q4 T4)
          | (have kk := r3; refine st64 (.tmp 41) (.tmp 38) rfl rfl _ 23 _ _ rfl rfl r3 (by rw [ncs_len]; omega) ?_; intro W4 g4 r4; rw [(ncs_set _).1] at r4; have q4 := q3.keep g4 hg2; have T4 := T3.keep g4 hgT; have b4 := grown_below g4 b3 (Nat.le_refl _) b3.size; clear r3 q3 T3)
          | (have kk := r2; refine stH (.tmp 40) (.tmp 37) rfl rfl _ _ hm rfl rfl (r2.thereMid (by rw [ncs_len]; omega)) ?_; have r3 := r2.sM hm; have g3 := grownBy_setCells w.heap.size (hcs hm) 17 wm; generalize wm.setCells w.heap.size 17 (hcs hm) = W3 at *; have q3 := q2.keep g3 hg2; have T3 := T2.keep g3 hgT; have b3 := grown_below g3 b2 (Nat.le_refl _) b2.size; clear r2 q2 T2)
          | (go_at_call 48; refine (HM _).mono ?_; rintro e wm ⟨rfl, hBm⟩; have r2 := r0.below hBm hs; have q2 := hr1.below hBm hgl; have T2 := rT.below hBm hsT; have b2 : Below w.heap.size w wm := bt hB hBm)
          | (refine ldH (.tmp 33) rfl rfl _ _ n.m rfl r0.nM ?_))
        subst hY
        subst hX
        exact bodyPost_ret (retC rfl _ _ 0 rfl (lvN r9)) rfl ⟨rfl, grown_below g9 b8 (by omega) b8.size⟩
end Go.Proofs.Ytacadlbhgelncaa
