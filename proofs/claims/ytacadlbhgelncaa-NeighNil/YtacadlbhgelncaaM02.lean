/-
  A neighbour behind a hello.
-/
import Derived.Test.YtacadlbhgelncaaM01
import Derived.Laws.AppendOwnNone
import Derived.RangeFuncNested
import Derived.RangeFuncBound
import Derived.RangeFuncCalls
import Derived.RangeFuncLeaves
import Derived.RangeFuncKeeps
import Derived.RangeFuncSeq
import Derived.Shelf.Abstract
import Derived.Shelf.AbstractIn
import Derived.Shelf.RegionOpen
import Derived.Sort.MapsRangeIn
import Derived.WalkKit
import Derived.OwnWalkIn
import Derived.TacticsInMore
import Derived.RegionIn
import Derived.LoopNIn
import Derived.LoopIn
import Derived.Maps.AppendAt
namespace Go.Proofs.Ytacadlbhgelncaa
open Go.RowKit Go.Maps
set_option linter.unusedSimpArgs false
set_option linter.unusedVariables false
set_option maxRecDepth 20000
section
variable {ops : Array Oper} {rest : List Oper} {op : Oper} {a : Act} {w : World} {Q : Exit → Act → World → Prop}
theorem st64 (x y : Operand) (hw : Region.wanted op (yielded ops a.tmps) = true) (ho : op.op = .store 3 x y) (b c : Nat) {U : TypeId} (cs : List Value) (n : Int) (hx : a.eval x = .pointer (some ⟨b, c, none⟩)) (hy : a.eval y = .int .i64 n) (hr : Row w b U cs) (hc : c < cs.length)
    (h : ∀ W, w.grownBy W (some b) → Row W b U (cs.set c (.int .i64 n)) → wpList Try.prog ops Q rest (a.put op.dst undef) W) : wpList Try.prog ops Q (op :: rest) a w :=
  wpList_step fun K hK => by
    rw [if_pos hw]
    have c1 : w.cell? ⟨b, c, none⟩ = some cs[c] := by rw [hr.cell]; exact List.getElem?_eq_getElem hc
    have c2 := hr.frozen c
    unfold Oper.wp execOp
    simp only [ho, hx, hy]
    go_simp
    exact hK _ _ (h _ (grownBy_setCell w b c _) (hr.set c _))
theorem st32 (x y : Operand) (hw : Region.wanted op (yielded ops a.tmps) = true) (ho : op.op = .store 53 x y) (b c : Nat) {U : TypeId} (cs : List Value) (n : Int) (hx : a.eval x = .pointer (some ⟨b, c, none⟩)) (hy : a.eval y = .int .u32 n) (hr : Row w b U cs) (hc : c < cs.length)
    (h : ∀ W, w.grownBy W (some b) → Row W b U (cs.set c (.int .u32 n)) → wpList Try.prog ops Q rest (a.put op.dst undef) W) : wpList Try.prog ops Q (op :: rest) a w :=
  wpList_step fun K hK => by
    rw [if_pos hw]
    have c1 : w.cell? ⟨b, c, none⟩ = some cs[c] := by rw [hr.cell]; exact List.getElem?_eq_getElem hc
    have c2 := hr.frozen c
    unfold Oper.wp execOp
    simp only [ho, hx, hy]
    go_simp
    exact hK _ _ (h _ (grownBy_setCell w b c _) (hr.set c _))
theorem stBo (x y : Operand) (hw : Region.wanted op (yielded ops a.tmps) = true) (ho : op.op = .store 4 x y) (b c : Nat) {U : TypeId} (cs : List Value) (n : Bool) (hx : a.eval x = .pointer (some ⟨b, c, none⟩)) (hy : a.eval y = .bool n) (hr : Row w b U cs) (hc : c < cs.length)
    (h : ∀ W, w.grownBy W (some b) → Row W b U (cs.set c (.bool n)) → wpList Try.prog ops Q rest (a.put op.dst undef) W) : wpList Try.prog ops Q (op :: rest) a w :=
  wpList_step fun K hK => by
    rw [if_pos hw]
    have c1 : w.cell? ⟨b, c, none⟩ = some cs[c] := by rw [hr.cell]; exact List.getElem?_eq_getElem hc
    have c2 := hr.frozen c
    unfold Oper.wp execOp
    simp only [ho, hx, hy]
    go_simp
    exact hK _ _ (h _ (grownBy_setCell w b c _) (hr.set c _))
end
/-- The stamps of a Tlv lie in memory. -/
structure Sm (w : World) (h : Tl) : Prop where
  len : h.st.length = h.sn
  lies : h.sn = 0 ∨ ∃ g o, h.sa = some ⟨g, o, none⟩ ∧ g < w.heap.size ∧ ∀ (j : Nat) (x : UInt32), h.st[j]? = some x → w.cell? ⟨g, o + j, none⟩ = some (.int .u32 (x.toNat : Int))
theorem Sm.below {w w' : World} {B : Nat} {h : Tl} (hs : Sm w h) (hb : Below B w w') (hB : w.heap.size ≤ B) : Sm w' h :=
  ⟨hs.len, hs.lies.imp id fun ⟨g, o, e, hg, hl⟩ => ⟨g, o, e, Nat.lt_of_lt_of_le hg hb.size, fun j x hx => (hb.cell (p := ⟨g, o + j, none⟩) (Nat.lt_of_lt_of_le hg hB)).trans (hl j x hx)⟩⟩
/-- What may be of a hello. -/
structure Tl.fit (h : Tl) : Prop where
  i1 : h.intv < 65536
  s1 : h.seq < 65536
  r1 : h.rx < 65536
def gapAt (now iv : Int) : Int := if iv * 10 = 0 then 0 else now + iv * 10 + (iv * 10).tdiv 2
def heardN (n : Ng) (now : Int) (h : Tl) : Ng := if h.uni then { n with u := Lk.hearH n.u h.seq, ug := (h.intv : Int) * 10, ua := gapAt now h.intv } else { n with m := Lk.hearH n.m h.seq, mg := (h.intv : Int) * 10, ma := gapAt now h.intv }
def greetN (n : Ng) (now : Int) (h : Tl) : Ng := match h.st with | [] => heardN n now h | x :: _ => { heardN n now h with se := (x.toNat : Int), he := now, hs := true }
theorem row3 {w W1 : World} {cs ds : List Value} {t u : TypeId} (h : Below ((w.alloc (.cells cs.toArray t)).alloc (.cells ds.toArray u)).heap.size ((w.alloc (.cells cs.toArray t)).alloc (.cells ds.toArray u)) W1) : Below w.heap.size w W1 ∧ Row W1 w.heap.size t cs ∧ Row W1 (w.heap.size + 1) u ds := by
  obtain ⟨hB, r0, r1⟩ := low_rows w cs ds t u
  exact ⟨bt hB h, r0.below h (by simp; omega), r1.below h (by simp)⟩
set_option maxHeartbeats 8000000 in
theorem greeted_any (n : Ng) (now : Int) (h : Tl) (w : World) (ok : n.ok) (hf : h.fit) (t0 : 0 ≤ now) (t1 : now ≤ 1125899906842624) (hS : Sm w h) : Calls Try.prog 26 #[nV n, .int .i64 now, .agg (tcells h).toArray] w (Gives w (nV (greetN n now h))) := by
  have HU := fun W => Lk.hear_any n.u h.seq W ok.uo
  have HM := fun W => Lk.hear_any n.m h.seq W ok.mo
  have HX : Hid (greetN n now h = match h.st with | [] => heardN n now h | x :: _ => { heardN n now h with se := (x.toNat : Int), he := now, hs := true }) := rfl
  have HY : Hid (heardN n now h = if h.uni then { n with u := Lk.hearH n.u h.seq, ug := (h.intv : Int) * 10, ua := gapAt now h.intv } else { n with m := Lk.hearH n.m h.seq, mg := (h.intv : Int) * 10, ma := gapAt now h.intv }) := rfl
  have HG : Hid (gapAt now h.intv = if (h.intv : Int) * 10 = 0 then 0 else now + (h.intv : Int) * 10 + ((h.intv : Int) * 10).tdiv 2) := rfl
  have i0 : (0 : Int) ≤ h.intv := by omega
  have i1 : (h.intv : Int) < 65536 := by have := hf.i1; omega
  have hlen := hS.len
  have tc := tcells_get h
  generalize greetN n now h = X at *
  generalize heardN n now h = Y at *
  generalize gapAt now h.intv = A at *
  have k2 : (tcells h)[2]? = some (.int .u16 (h.intv : Int)) := rfl
  have k3 : (tcells h)[3]? = some (.int .u16 (h.seq : Int)) := rfl
  have k7 : (tcells h)[7]? = some (.bool h.uni) := rfl
  generalize (h.intv : Int) = iv at *
  generalize (h.seq : Int) = sq at *
  generalize Lk.hearH n.u sq = hu at *
  generalize Lk.hearH n.m sq = hm at *
  have Hd2 : (iv * 10).tdiv 2 = iv * 5 := by rw [Int.tdiv_eq_ediv_of_nonneg (by omega)]; omega
  rw [Hd2] at HG
  clear ok hf
  go_enter Try.func26, Try.ntmps26
  go_upto_region 1 with (first
    | (refine alG infoNz rfl rfl ?_; intro g1 W1 hge hgl hB1 hr1))
  obtain ⟨hB, r0, rT⟩ := row3 hB1
  have hg : w.heap.size + 1 < g1 := by simp at hge; omega
  clear hB1 hge
  have hs := r0.lt
  have hsT := rT.lt
  have cT2 := (rT.cell 2).trans k2
  have cT3 := (rT.cell 3).trans k3
  have cT7 := (rT.cell 7).trans k7
  have cT67 := (rT.cell 67).trans tc
  obtain ⟨un, hun⟩ : ∃ un, h.uni = un := ⟨_, rfl⟩
  rw [hun] at cT7 HY
  have hg2 : g1 ≠ w.heap.size := by omega
  have hgT : w.heap.size + 1 ≠ w.heap.size := by omega
  clear k2 k3 k7 hun
  by_cases hz : iv * 10 = 0
  · cases un with
    | true =>
      obtain ⟨ss, hss⟩ : ∃ ss, h.st = ss := ⟨_, rfl⟩
      rw [hss] at HX
      cases ss with
      | nil =>
        have hgz : iv * 10 = 0 := hz
        have hgb : (iv * 10 != 0) = false := by simpa using hz
        have hA := HG.out
        rw [if_pos hz] at hA
        have hY := HY.out
        simp only [if_true] at hY
        have hX := HX.out
        subst hA
        have hsn : h.sn = 0 := by rw [hss] at hlen; simpa using hlen.symm
        rw [hsn] at tc cT67
        clear hS HX HY HG hlen hss hz hgz hsn
        go_wp2_with (first
          | (have kk := r5; refine stN (.tmp 6) (.tmp 55) rfl rfl g1 _ _ rfl rfl q5 ?_; intro W9 g9 r9)
          | (have kk := r5; refine ldN (.tmp 3) rfl rfl _ _ _ rfl r5.range ?_)
          | (have kk := r4; refine st64 (.tmp 32) (.tmp 29) rfl rfl _ 26 _ _ rfl rfl r4 (by rw [ncs_len]; omega) ?_; intro W5 g5 r5; rw [(ncs_set _).2.2.2.1] at r5; have q5 := q4.keep g5 hg2; have T5 := T4.keep g5 hgT; have b5 := grown_below g5 b4 (Nat.le_refl _) b4.size; have c67 := (T5.cell 67).trans tc; clear r4 q4 T4)
          | (have kk := r3; refine st64 (.tmp 31) (.tmp 28) rfl rfl _ 24 _ _ rfl rfl r3 (by rw [ncs_len]; omega) ?_; intro W4 g4 r4; rw [(ncs_set _).2.1] at r4; have q4 := q3.keep g4 hg2; have T4 := T3.keep g4 hgT; have b4 := grown_below g4 b3 (Nat.le_refl _) b3.size; clear r3 q3 T3)
          | (have kk := r2; refine stH (.tmp 30) (.tmp 27) rfl rfl _ _ hu rfl rfl (r2.thereMid (by rw [ncs_len]; omega)) ?_; have r3 := r2.sU hu; have g3 := grownBy_setCells w.heap.size (hcs hu) 20 wm; generalize wm.setCells w.heap.size 20 (hcs hu) = W3 at *; have q3 := q2.keep g3 hg2; have T3 := T2.keep g3 hgT; have b3 := grown_below g3 b2 (Nat.le_refl _) b2.size; clear r2 q2 T2)
          | (go_at_call 48; refine (HU _).mono ?_; rintro e wm ⟨rfl, hBm⟩; have r2 := r0.below hBm hs; have q2 := hr1.below hBm hgl; have T2 := rT.below hBm hsT; have b2 : Below w.heap.size w wm := bt hB hBm)
          | (refine ldH (.tmp 23) rfl rfl _ _ n.u rfl r0.nU ?_))
        subst hY
        subst hX
        exact bodyPost_ret (retC rfl _ _ 0 rfl (lvN r9)) rfl ⟨rfl, grown_below g9 b5 (by omega) b5.size⟩
      | cons x xs =>
        have hgz : iv * 10 = 0 := hz
        have hgb : (iv * 10 != 0) = false := by simpa using hz
        have hA := HG.out
        rw [if_pos hz] at hA
        have hY := HY.out
        simp only [if_true] at hY
        have hX := HX.out
        subst hA
        rcases hS.lies with h0 | ⟨sg, so, hsa, hsg, hl⟩
        · rw [hss] at hlen; simp at hlen; omega
        have hcS := hl 0 x (by rw [hss]; rfl)
        have hsn : (0 : Int) < (h.sn : Int) := by rw [hss] at hlen; simp at hlen; omega
        rw [Nat.add_zero] at hcS
        have Hnb : Hid (sg ≠ w.heap.size ∨ True) := .inr trivial
        clear hl hS HX HY HG hlen hss hz hgz
        go_wp2_with (first
          | (have kk := r8; refine stN (.tmp 6) (.tmp 55) rfl rfl g1 _ _ rfl rfl q8 ?_; intro W9 g9 r9)
          | (have kk := r8; refine ldN (.tmp 3) rfl rfl _ _ _ rfl r8.range ?_)
          | (have kk := r7; refine stBo (.tmp 54) (.const (.bool true)) rfl rfl _ 31 _ true rfl rfl r7 (by rw [ncs_len]; omega) ?_; intro W8 g8 r8; rw [(ncs_set _).2.2.2.2.2.2.2.2.1] at r8; have q8 := q7.keep g8 hg2; have b8 := grown_below g8 b7 (Nat.le_refl _) b7.size; clear r7 q7)
          | (have kk := r6; refine st64 (.tmp 53) (.tmp 51) rfl rfl _ 30 _ now rfl rfl r6 (by rw [ncs_len]; omega) ?_; intro W7 g7 r7; rw [(ncs_set _).2.2.2.2.2.2.2.1] at r7; have q7 := q6.keep g7 hg2; have b7 := grown_below g7 b6 (Nat.le_refl _) b6.size; clear r6 q6)
          | (have kk := r5; refine st32 (.tmp 52) (.tmp 50) rfl rfl _ 29 _ (x.toNat : Int) rfl rfl r5 (by rw [ncs_len]; omega) ?_; intro W6 g6 r6; rw [(ncs_set _).2.2.2.2.2.2.1] at r6; have q6 := q5.keep g6 hg2; have b6 := grown_below g6 b5 (Nat.le_refl _) b5.size; clear r5 q5)
          | (have kk := r4; refine st64 (.tmp 32) (.tmp 29) rfl rfl _ 26 _ _ rfl rfl r4 (by rw [ncs_len]; omega) ?_; intro W5 g5 r5; rw [(ncs_set _).2.2.2.1] at r5; have q5 := q4.keep g5 hg2; have T5 := T4.keep g5 hgT; have b5 := grown_below g5 b4 (Nat.le_refl _) b4.size; have c67 := (T5.cell 67).trans tc; rw [hsa] at c67; have cS := (b5.cell (p := ⟨sg, so, none⟩) hsg).trans hcS; clear r4 q4 T4)
          | (have kk := r3; refine st64 (.tmp 31) (.tmp 28) rfl rfl _ 24 _ _ rfl rfl r3 (by rw [ncs_len]; omega) ?_; intro W4 g4 r4; rw [(ncs_set _).2.1] at r4; have q4 := q3.keep g4 hg2; have T4 := T3.keep g4 hgT; have b4 := grown_below g4 b3 (Nat.le_refl _) b3.size; clear r3 q3 T3)
          | (have kk := r2; refine stH (.tmp 30) (.tmp 27) rfl rfl _ _ hu rfl rfl (r2.thereMid (by rw [ncs_len]; omega)) ?_; have r3 := r2.sU hu; have g3 := grownBy_setCells w.heap.size (hcs hu) 20 wm; generalize wm.setCells w.heap.size 20 (hcs hu) = W3 at *; have q3 := q2.keep g3 hg2; have T3 := T2.keep g3 hgT; have b3 := grown_below g3 b2 (Nat.le_refl _) b2.size; clear r2 q2 T2)
          | (go_at_call 48; refine (HU _).mono ?_; rintro e wm ⟨rfl, hBm⟩; have r2 := r0.below hBm hs; have q2 := hr1.below hBm hgl; have T2 := rT.below hBm hsT; have b2 : Below w.heap.size w wm := bt hB hBm)
          | (refine ldH (.tmp 23) rfl rfl _ _ n.u rfl r0.nU ?_))
        subst hY
        subst hX
        exact bodyPost_ret (retC rfl _ _ 0 rfl (lvN r9)) rfl ⟨rfl, grown_below g9 b8 (by omega) b8.size⟩
    | false =>
      obtain ⟨ss, hss⟩ : ∃ ss, h.st = ss := ⟨_, rfl⟩
      rw [hss] at HX
      cases ss with
      | nil =>
        have hgz : iv * 10 = 0 := hz
        have hgb : (iv * 10 != 0) = false := by simpa using hz
        have hA := HG.out
        rw [if_pos hz] at hA
        have hY := HY.out
        simp only [Bool.false_eq_true, if_false] at hY
        have hX := HX.out
        subst hA
        have hsn : h.sn = 0 := by rw [hss] at hlen; simpa using hlen.symm
        rw [hsn] at tc cT67
        clear hS HX HY HG hlen hss hz hgz hsn
        go_wp2_with (first
          | (have kk := r5; refine stN (.tmp 6) (.tmp 55) rfl rfl g1 _ _ rfl rfl q5 ?_; intro W9 g9 r9)
          | (have kk := r5; refine ldN (.tmp 3) rfl rfl _ _ _ rfl r5.range ?_)
          | (have kk := r4; refine st64 (.tmp 42) (.tmp 39) rfl rfl _ 25 _ _ rfl rfl r4 (by rw [ncs_len]; omega) ?_; intro W5 g5 r5; rw [(ncs_set _).2.2.1] at r5; have q5 := q4.keep g5 hg2; have T5 := T4.keep g5 hgT; have b5 := grown_below g5 b4 (Nat.le_refl _) b4.size; have c67 := (T5.cell 67).trans tc; clear r4 q4 T4)
          | (have kk := r3; refine st64 (.tmp 41) (.tmp 38) rfl rfl _ 23 _ _ rfl rfl r3 (by rw [ncs_len]; omega) ?_; intro W4 g4 r4; rw [(ncs_set _).1] at r4; have q4 := q3.keep g4 hg2; have T4 := T3.keep g4 hgT; have b4 := grown_below g4 b3 (Nat.le_refl _) b3.size; clear r3 q3 T3)
          | (have kk := r2; refine stH (.tmp 40) (.tmp 37) rfl rfl _ _ hm rfl rfl (r2.thereMid (by rw [ncs_len]; omega)) ?_; have r3 := r2.sM hm; have g3 := grownBy_setCells w.heap.size (hcs hm) 17 wm; generalize wm.setCells w.heap.size 17 (hcs hm) = W3 at *; have q3 := q2.keep g3 hg2; have T3 := T2.keep g3 hgT; have b3 := grown_below g3 b2 (Nat.le_refl _) b2.size; clear r2 q2 T2)
          | (go_at_call 48; refine (HM _).mono ?_; rintro e wm ⟨rfl, hBm⟩; have r2 := r0.below hBm hs; have q2 := hr1.below hBm hgl; have T2 := rT.below hBm hsT; have b2 : Below w.heap.size w wm := bt hB hBm)
          | (refine ldH (.tmp 33) rfl rfl _ _ n.m rfl r0.nM ?_))
        subst hY
        subst hX
        exact bodyPost_ret (retC rfl _ _ 0 rfl (lvN r9)) rfl ⟨rfl, grown_below g9 b5 (by omega) b5.size⟩
      | cons x xs =>
        have hgz : iv * 10 = 0 := hz
        have hgb : (iv * 10 != 0) = false := by simpa using hz
        have hA := HG.out
        rw [if_pos hz] at hA
        have hY := HY.out
        simp only [Bool.false_eq_true, if_false] at hY
        have hX := HX.out
        subst hA
        rcases hS.lies with h0 | ⟨sg, so, hsa, hsg, hl⟩
        · rw [hss] at hlen; simp at hlen; omega
        have hcS := hl 0 x (by rw [hss]; rfl)
        have hsn : (0 : Int) < (h.sn : Int) := by rw [hss] at hlen; simp at hlen; omega
        rw [Nat.add_zero] at hcS
        have Hnb : Hid (sg ≠ w.heap.size ∨ True) := .inr trivial
        clear hl hS HX HY HG hlen hss hz hgz
        go_wp2_with (first
          | (have kk := r8; refine stN (.tmp 6) (.tmp 55) rfl rfl g1 _ _ rfl rfl q8 ?_; intro W9 g9 r9)
          | (have kk := r8; refine ldN (.tmp 3) rfl rfl _ _ _ rfl r8.range ?_)
          | (have kk := r7; refine stBo (.tmp 54) (.const (.bool true)) rfl rfl _ 31 _ true rfl rfl r7 (by rw [ncs_len]; omega) ?_; intro W8 g8 r8; rw [(ncs_set _).2.2.2.2.2.2.2.2.1] at r8; have q8 := q7.keep g8 hg2; have b8 := grown_below g8 b7 (Nat.le_refl _) b7.size; clear r7 q7)
          | (have kk := r6; refine st64 (.tmp 53) (.tmp 51) rfl rfl _ 30 _ now rfl rfl r6 (by rw [ncs_len]; omega) ?_; intro W7 g7 r7; rw [(ncs_set _).2.2.2.2.2.2.2.1] at r7; have q7 := q6.keep g7 hg2; have b7 := grown_below g7 b6 (Nat.le_refl _) b6.size; clear r6 q6)
          | (have kk := r5; refine st32 (.tmp 52) (.tmp 50) rfl rfl _ 29 _ (x.toNat : Int) rfl rfl r5 (by rw [ncs_len]; omega) ?_; intro W6 g6 r6; rw [(ncs_set _).2.2.2.2.2.2.1] at r6; have q6 := q5.keep g6 hg2; have b6 := grown_below g6 b5 (Nat.le_refl _) b5.size; clear r5 q5)
          | (have kk := r4; refine st64 (.tmp 42) (.tmp 39) rfl rfl _ 25 _ _ rfl rfl r4 (by rw [ncs_len]; omega) ?_; intro W5 g5 r5; rw [(ncs_set _).2.2.1] at r5; have q5 := q4.keep g5 hg2; have T5 := T4.keep g5 hgT; have b5 := grown_below g5 b4 (Nat.le_refl _) b4.size; have c67 := (T5.cell 67).trans tc; rw [hsa] at c67; have cS := (b5.cell (p := ⟨sg, so, none⟩) hsg).trans hcS; clear r4 q4 T4)
          | (have kk := r3; refine st64 (.tmp 41) (.tmp 38) rfl rfl _ 23 _ _ rfl rfl r3 (by rw [ncs_len]; omega) ?_; intro W4 g4 r4; rw [(ncs_set _).1] at r4; have q4 := q3.keep g4 hg2; have T4 := T3.keep g4 hgT; have b4 := grown_below g4 b3 (Nat.le_refl _) b3.size; clear r3 q3 T3)
          | (have kk := r2; refine stH (.tmp 40) (.tmp 37) rfl rfl _ _ hm rfl rfl (r2.thereMid (by rw [ncs_len]; omega)) ?_; have r3 := r2.sM hm; have g3 := grownBy_setCells w.heap.size (hcs hm) 17 wm; generalize wm.setCells w.heap.size 17 (hcs hm) = W3 at *; have q3 := q2.keep g3 hg2; have T3 := T2.keep g3 hgT; have b3 := grown_below g3 b2 (Nat.le_refl _) b2.size; clear r2 q2 T2)
          | (go_at_call 48; refine (HM _).mono ?_; rintro e wm ⟨rfl, hBm⟩; have r2 := r0.below hBm hs; have q2 := hr1.below hBm hgl; have T2 := rT.below hBm hsT; have b2 : Below w.heap.size w wm := bt hB hBm)
          | (refine ldH (.tmp 33) rfl rfl _ _ n.m rfl r0.nM ?_))
        subst hY
        subst hX
        exact bodyPost_ret (retC rfl _ _ 0 rfl (lvN r9)) rfl ⟨rfl, grown_below g9 b8 (by omega) b8.size⟩
  · cases un with
    | true =>
      obtain ⟨ss, hss⟩ : ∃ ss, h.st = ss := ⟨_, rfl⟩
      rw [hss] at HX
      cases ss with
      | nil =>
        have hgz : iv * 10 ≠ 0 := hz
        have hgb : (iv * 10 != 0) = true := by simpa using hz
        have hA := HG.out
        rw [if_neg hz] at hA
        have hY := HY.out
        simp only [if_true] at hY
        have hX := HX.out
        subst hA
        have hsn : h.sn = 0 := by rw [hss] at hlen; simpa using hlen.symm
        rw [hsn] at tc cT67
        clear hS HX HY HG hlen hss hz hgz hsn
        go_wp2_with (first
          | (have kk := r5; refine stN (.tmp 6) (.tmp 55) rfl rfl g1 _ _ rfl rfl q5 ?_; intro W9 g9 r9)
          | (have kk := r5; refine ldN (.tmp 3) rfl rfl _ _ _ rfl r5.range ?_)
          | (have kk := r4; refine st64 (.tmp 32) (.tmp 29) rfl rfl _ 26 _ _ rfl rfl r4 (by rw [ncs_len]; omega) ?_; intro W5 g5 r5; rw [(ncs_set _).2.2.2.1] at r5; have q5 := q4.keep g5 hg2; have T5 := T4.keep g5 hgT; have b5 := grown_below g5 b4 (Nat.le_refl _) b4.size; have c67 := (T5.cell 67).trans tc; clear r4 q4 T4)
          | (have kk := r3; refine st64 (.tmp 31) (.tmp 28) rfl rfl _ 24 _ _ rfl rfl r3 (by rw [ncs_len]; omega) ?_; intro W4 g4 r4; rw [(ncs_set _).2.1] at r4; have q4 := q3.keep g4 hg2; have T4 := T3.keep g4 hgT; have b4 := grown_below g4 b3 (Nat.le_refl _) b3.size; clear r3 q3 T3)
          | (have kk := r2; refine stH (.tmp 30) (.tmp 27) rfl rfl _ _ hu rfl rfl (r2.thereMid (by rw [ncs_len]; omega)) ?_; have r3 := r2.sU hu; have g3 := grownBy_setCells w.heap.size (hcs hu) 20 wm; generalize wm.setCells w.heap.size 20 (hcs hu) = W3 at *; have q3 := q2.keep g3 hg2; have T3 := T2.keep g3 hgT; have b3 := grown_below g3 b2 (Nat.le_refl _) b2.size; clear r2 q2 T2)
          | (go_at_call 48; refine (HU _).mono ?_; rintro e wm ⟨rfl, hBm⟩; have r2 := r0.below hBm hs; have q2 := hr1.below hBm hgl; have T2 := rT.below hBm hsT; have b2 : Below w.heap.size w wm := bt hB hBm)
          | (refine ldH (.tmp 23) rfl rfl _ _ n.u rfl r0.nU ?_))
        subst hY
        subst hX
        exact bodyPost_ret (retC rfl _ _ 0 rfl (lvN r9)) rfl ⟨rfl, grown_below g9 b5 (by omega) b5.size⟩
      | cons x xs =>
        have hgz : iv * 10 ≠ 0 := hz
        have hgb : (iv * 10 != 0) = true := by simpa using hz
        have hA := HG.out
        rw [if_neg hz] at hA
        have hY := HY.out
        simp only [if_true] at hY
        have hX := HX.out
        subst hA
        rcases hS.lies with h0 | ⟨sg, so, hsa, hsg, hl⟩
        · rw [hss] at hlen; simp at hlen; omega
        have hcS := hl 0 x (by rw [hss]; rfl)
        have hsn : (0 : Int) < (h.sn : Int) := by rw [hss] at hlen; simp at hlen; omega
        rw [Nat.add_zero] at hcS
        have Hnb : Hid (sg ≠ w.heap.size ∨ True) := .inr trivial
        clear hl hS HX HY HG hlen hss hz hgz
        go_wp2_with (first
          | (have kk := r8; refine stN (.tmp 6) (.tmp 55) rfl rfl g1 _ _ rfl rfl q8 ?_; intro W9 g9 r9)
          | (have kk := r8; refine ldN (.tmp 3) rfl rfl _ _ _ rfl r8.range ?_)
          | (have kk := r7; refine stBo (.tmp 54) (.const (.bool true)) rfl rfl _ 31 _ true rfl rfl r7 (by rw [ncs_len]; omega) ?_; intro W8 g8 r8; rw [(ncs_set _).2.2.2.2.2.2.2.2.1] at r8; have q8 := q7.keep g8 hg2; have b8 := grown_below g8 b7 (Nat.le_refl _) b7.size; clear r7 q7)
          | (have kk := r6; refine st64 (.tmp 53) (.tmp 51) rfl rfl _ 30 _ now rfl rfl r6 (by rw [ncs_len]; omega) ?_; intro W7 g7 r7; rw [(ncs_set _).2.2.2.2.2.2.2.1] at r7; have q7 := q6.keep g7 hg2; have b7 := grown_below g7 b6 (Nat.le_refl _) b6.size; clear r6 q6)
          | (have kk := r5; refine st32 (.tmp 52) (.tmp 50) rfl rfl _ 29 _ (x.toNat : Int) rfl rfl r5 (by rw [ncs_len]; omega) ?_; intro W6 g6 r6; rw [(ncs_set _).2.2.2.2.2.2.1] at r6; have q6 := q5.keep g6 hg2; have b6 := grown_below g6 b5 (Nat.le_refl _) b5.size; clear r5 q5)
          | (have kk := r4; refine st64 (.tmp 32) (.tmp 29) rfl rfl _ 26 _ _ rfl rfl r4 (by rw [ncs_len]; omega) ?_; intro W5 g5 r5; rw [(ncs_set _).2.2.2.1] at r5; have q5 := q4.keep g5 hg2; have T5 := T4.keep g5 hgT; have b5 := grown_below g5 b4 (Nat.le_refl _) b4.size; have c67 := (T5.cell 67).trans tc; rw [hsa] at c67; have cS := (b5.cell (p := ⟨sg, so, none⟩) hsg).trans hcS; clear r4 q4 T4)
          | (have kk := r3; refine st64 (.tmp 31) (.tmp 28) rfl rfl _ 24 _ _ rfl rfl r3 (by rw [ncs_len]; omega) ?_; intro W4 g4 r4; rw [(ncs_set _).2.1] at r4; have q4 := q3.keep g4 hg2; have T4 := T3.keep g4 hgT; have b4 := grown_below g4 b3 (Nat.le_refl _) b3.size; clear r3 q3 T3)
          | (have kk := r2; refine stH (.tmp 30) (.tmp 27) rfl rfl _ _ hu rfl rfl (r2.thereMid (by rw [ncs_len]; omega)) ?_; have r3 := r2.sU hu; have g3 := grownBy_setCells w.heap.size (hcs hu) 20 wm; generalize wm.setCells w.heap.size 20 (hcs hu) = W3 at *; have q3 := q2.keep g3 hg2; have T3 := T2.keep g3 hgT; have b3 := grown_below g3 b2 (Nat.le_refl _) b2.size; clear r2 q2 T2)
          | (go_at_call 48; refine (HU _).mono ?_; rintro e wm ⟨rfl, hBm⟩; have r2 := r0.below hBm hs; have q2 := hr1.below hBm hgl; have T2 := rT.below hBm hsT; have b2 : Below w.heap.size w wm := bt hB hBm)
          | (refine ldH (.tmp 23) rfl rfl _ _ n.u rfl r0.nU ?_))
        subst hY
        subst hX
        exact bodyPost_ret (retC rfl _ _ 0 rfl (lvN r9)) rfl ⟨rfl, grown_below g9 b8 (by omega) b8.size⟩
    | false =>
      obtain ⟨ss, hss⟩ : ∃ ss, h.st = ss := ⟨_, rfl⟩
      rw [hss] at HX
      cases ss with
      | nil =>
        have hgz : iv * 10 ≠ 0 := hz
        have hgb : (iv * 10 != 0) = true := by simpa using hz
        have hA := HG.out
        rw [if_neg hz] at hA
        have hY := HY.out
        simp only [Bool.false_eq_true, if_false] at hY
        have hX := HX.out
        subst hA
        have hsn : h.sn = 0 := by rw [hss] at hlen; simpa using hlen.symm
        rw [hsn] at tc cT67
        clear hS HX HY HG hlen hss hz hgz hsn
        go_wp2_with (first
          | (have kk := r5; refine stN (.tmp 6) (.tmp 55) rfl rfl g1 _ _ rfl rfl q5 ?_; intro W9 g9 r9)
          | (have kk := r5; refine ldN (.tmp 3) rfl rfl _ _ _ rfl r5.range ?_)
          | (have kk := r4; refine st64 (.tmp 42) (.tmp 39) rfl rfl _ 25 _ _ rfl rfl r4 (by rw [ncs_len]; omega) ?_; intro W5 g5 r5; rw [(ncs_set _).2.2.1] at r5; have q5 := q4.keep g5 hg2; have T5 := T4.keep g5 hgT; have b5 := grown_below g5 b4 (Nat.le_refl _) b4.size; have c67 := (T5.cell 67).trans tc; clear r4 q4 T4)
          | (have kk := r3; refine st64 (.tmp 41) (.tmp 38) rfl rfl _ 23 _ _ rfl rfl r3 (by rw [ncs_len]; omega) ?_; intro W4 g4 r4; rw [(ncs_set _).1] at r4; have q4 := q3.keep g4 hg2; have T4 := T3.keep g4 hgT; have b4 := grown_below g4 b3 (Nat.le_refl _) b3.size; clear r3 q3 T3)
          | (have kk := r2; refine stH (.tmp 40) (.tmp 37) rfl rfl _ _ hm rfl rfl (r2.thereMid (by rw [ncs_len]; omega)) ?_; have r3 := r2.sM hm; have g3 := grownBy_setCells w.heap.size (hcs hm) 17 wm; generalize wm.setCells w.heap.size 17 (hcs hm) = W3 at *; have q3 := q2.keep g3 hg2; have T3 := T2.keep g3 hgT; have b3 := grown_below g3 b2 (Nat.le_refl _) b2.size; clear r2 q2 T2)
          | (go_at_call 48; refine (HM _).mono ?_; rintro e wm ⟨rfl, hBm⟩; have r2 := r0.below hBm hs; have q2 := hr1.below hBm hgl; have T2 := rT.below hBm hsT; have b2 : Below w.heap.size w wm := bt hB hBm)
          | (refine ldH (.tmp 33) rfl rfl _ _ n.m rfl r0.nM ?_))
        subst hY
        subst hX
        exact bodyPost_ret (retC rfl _ _ 0 rfl (lvN r9)) rfl ⟨rfl, grown_below g9 b5 (by omega) b5.size⟩
      | cons x xs =>
        have hgz : iv * 10 ≠ 0 := hz
        have hgb : (iv * 10 != 0) = true := by simpa using hz
        have hA := HG.out
        rw [if_neg hz] at hA
        have hY := HY.out
        simp only [Bool.false_eq_true, if_false] at hY
        have hX := HX.out
        subst hA
        rcases hS.lies with h0 | ⟨sg, so, hsa, hsg, hl⟩
        · rw [hss] at hlen; simp at hlen; omega
        have hcS := hl 0 x (by rw [hss]; rfl)
        have hsn : (0 : Int) < (h.sn : Int) := by rw [hss] at hlen; simp at hlen; omega
        rw [Nat.add_zero] at hcS
        have Hnb : Hid (sg ≠ w.heap.size ∨ True) := .inr trivial
        clear hl hS HX HY HG hlen hss hz hgz
        go_wp2_with (first
          | (have kk := r8; refine stN (.tmp 6) (.tmp 55) rfl rfl g1 _ _ rfl rfl q8 ?_; intro W9 g9 r9)
          | (have kk := r8; refine ldN (.tmp 3) rfl rfl _ _ _ rfl r8.range ?_)
          | (have kk := r7; refine stBo (.tmp 54) (.const (.bool true)) rfl rfl _ 31 _ true rfl rfl r7 (by rw [ncs_len]; omega) ?_; intro W8 g8 r8; rw [(ncs_set _).2.2.2.2.2.2.2.2.1] at r8; have q8 := q7.keep g8 hg2; have b8 := grown_below g8 b7 (Nat.le_refl _) b7.size; clear r7 q7)
          | (have kk := r6; refine st64 (.tmp 53) (.tmp 51) rfl rfl _ 30 _ now rfl rfl r6 (by rw [ncs_len]; omega) ?_; intro W7 g7 r7; rw [(ncs_set _).2.2.2.2.2.2.2.1] at r7; have q7 := q6.keep g7 hg2; have b7 := grown_below g7 b6 (Nat.le_refl _) b6.size; clear r6 q6)
          | (have kk := r5; refine st32 (.tmp 52) (.tmp 50) rfl rfl _ 29 _ (x.toNat : Int) rfl rfl r5 (by rw [ncs_len]; omega) ?_; intro W6 g6 r6; rw [(ncs_set _).2.2.2.2.2.2.1] at r6; have q6 := q5.keep g6 hg2; have b6 := grown_below g6 b5 (Nat.le_refl _) b5.size; clear r5 q5)
          | (have kk := r4; refine st64 (.tmp 42) (.tmp 39) rfl rfl _ 25 _ _ rfl rfl r4 (by rw [ncs_len]; omega) ?_; intro W5 g5 r5; rw [(ncs_set _).2.2.1] at r5; have q5 := q4.keep g5 hg2; have T5 := T4.keep g5 hgT; have b5 := grown_below g5 b4 (Nat.le_refl _) b4.size; have c67 := (T5.cell 67).trans tc; rw [hsa] at c67; have cS := (b5.cell (p := ⟨sg, so, none⟩) hsg).trans hcS; clear r4 q4 T4)
          | (have kk := r3; refine st64 (.tmp 41) (.tmp 38) rfl rfl _ 23 _ _ rfl rfl r3 (by rw [ncs_len]; omega) ?_; intro W4 g4 r4; rw [(ncs_set _).1] at r4; have q4 := q3.keep g4 hg2; have T4 := T3.keep g4 hgT; have b4 := grown_below g4 b3 (Nat.le_refl _) b3.size; clear r3 q3 T3)
          | (have kk := r2; refine stH (.tmp 40) (.tmp 37) rfl rfl _ _ hm rfl rfl (r2.thereMid (by rw [ncs_len]; omega)) ?_; have r3 := r2.sM hm; have g3 := grownBy_setCells w.heap.size (hcs hm) 17 wm; generalize wm.setCells w.heap.size 17 (hcs hm) = W3 at *; have q3 := q2.keep g3 hg2; have T3 := T2.keep g3 hgT; have b3 := grown_below g3 b2 (Nat.le_refl _) b2.size; clear r2 q2 T2)
          | (go_at_call 48; refine (HM _).mono ?_; rintro e wm ⟨rfl, hBm⟩; have r2 := r0.below hBm hs; have q2 := hr1.below hBm hgl; have T2 := rT.below hBm hsT; have b2 : Below w.heap.size w wm := bt hB hBm)
          | (refine ldH (.tmp 33) rfl rfl _ _ n.m rfl r0.nM ?_))
        subst hY
        subst hX
        exact bodyPost_ret (retC rfl _ _ 0 rfl (lvN r9)) rfl ⟨rfl, grown_below g9 b8 (by omega) b8.size⟩
end Go.Proofs.Ytacadlbhgelncaa

namespace Go.Proofs.Ytacadlbhgelncaa
open Go.RowKit Go.Maps
set_option linter.unusedSimpArgs false
set_option linter.unusedVariables false
set_option maxRecDepth 20000
theorem Turn.of {w w' : World} {t mb : Nat} {most : Int} {F : List Fc} {L : List Ng} (h : Tb w t mb most F L) (hb : Below w.heap.size w w') : Turn w w' t mb most F L :=
  ⟨h.below hb, hb.os, hb.tape, hb.output, hb.size, fun i hi _ => hb.block i hi⟩
theorem Turn.pre {w w1 w' : World} {t mb : Nat} {most : Int} {F : List Fc} {L : List Ng} (hb : Below w.heap.size w w1) (h : Turn w1 w' t mb most F L) : Turn w w' t mb most F L :=
  ⟨h.tb, h.os.trans hb.os, h.tape.trans hb.tape, h.out.trans hb.output, Nat.le_trans hb.size h.size, fun i hi hne => (h.block i (Nat.lt_of_lt_of_le hi hb.size) hne).trans (hb.block i hi)⟩
theorem heard_ok {n : Ng} {now : Int} {h : Tl} (ok : n.ok) (hf : h.fit) (t0 : 0 ≤ now) (t1 : now ≤ 1125899906842624) : (heardN n now h).ok := by
  have i1 := hf.i1
  have ga : 0 ≤ gapAt now h.intv ∧ gapAt now h.intv ≤ 2251799813685248 := by
    unfold gapAt
    split
    · omega
    · rw [Int.tdiv_eq_ediv_of_nonneg (by omega)]; omega
  unfold heardN
  split
  · exact ⟨ok.mo, ok.mj, Lk.hear_ok _ ok.uo, fun _ => rfl, ok.mg0, ok.mg1, by dsimp only; omega, by dsimp only; omega, ok.ma0, ok.ma1, by dsimp only; omega, by dsimp only; omega, ok.tx0, ok.tx1, ok.rt0, ok.rt1⟩
  · exact ⟨Lk.hear_ok _ ok.mo, fun _ => rfl, ok.uo, ok.uj, by dsimp only; omega, by dsimp only; omega, ok.ug0, ok.ug1, by dsimp only; omega, by dsimp only; omega, ok.ua0, ok.ua1, ok.tx0, ok.tx1, ok.rt0, ok.rt1⟩
theorem greet_ok {n : Ng} {now : Int} {h : Tl} (ok : n.ok) (hf : h.fit) (t0 : 0 ≤ now) (t1 : now ≤ 1125899906842624) : (greetN n now h).ok := by
  have k := heard_ok (h := h) ok hf t0 t1
  unfold greetN
  split
  · exact k
  · exact ⟨k.mo, k.mj, k.uo, k.uj, k.mg0, k.mg1, k.ug0, k.ug1, k.ma0, k.ma1, k.ua0, k.ua1, k.tx0, k.tx1, k.rt0, k.rt1⟩
theorem greet_key (n : Ng) (now : Int) (h : Tl) : (greetN n now h).i = n.i ∧ (greetN n now h).a = n.a ∧ (greetN n now h).hr = n.hr := by
  unfold greetN heardN
  split <;> split <;> exact ⟨rfl, rfl, rfl⟩
theorem new_ok (i : Int) (c : Ad) : (newN i c).ok := ⟨⟨by simp [newN], by simp [newN], by simp [newN], by simp [newN]⟩, fun h => absurd rfl h, ⟨by simp [newN], by simp [newN], by simp [newN], by simp [newN]⟩, fun h => absurd rfl h, by simp [newN], by simp [newN], by simp [newN], by simp [newN], by simp [newN], by simp [newN], by simp [newN], by simp [newN], by simp [newN], by simp [newN], by simp [newN], by simp [newN]⟩
/-- What Hello answers, and who is there then. -/
def helloR (most : Int) (F : List Fc) (L : List Ng) (now i : Int) (c : Ad) (h : Tl) : Int × List Ng :=
  if (decide (0 ≤ i) && decide (i < F.length)) = false ∨ h.ty ≠ 4 then (2, L) else
  match getN L i c with
  | some n => (0, putN L (greetN n now h))
  | none => if most ≤ L.length then (6, L) else (0, putN L (greetN (newN i c) now h))
theorem putN_le (L : List Ng) (n : Ng) : (putN L n).length ≤ L.length + 1 := by rw [putN_len]; split <;> omega
set_option maxHeartbeats 8000000 in
theorem hello_any {w : World} {t mb : Nat} {most : Int} {F : List Fc} {L : List Ng} (h : Tb w t mb most F L) (now i : Int) (c : Ad) (hl : Tl) (hi : wfI i) (hf : hl.fit) (t0 : 0 ≤ now) (t1 : now ≤ 1125899906842624) (hS : Sm w hl) (hL : L.length < 1000000) :
    Calls Try.prog 11 #[.pointer (some ⟨t, 0, none⟩), .int .i64 now, .int .i64 i, (Value.agg (acells c).toArray), .agg (tcells hl).toArray] w fun e w' => e = .returned (.int .i64 (helloR most F L now i c hl).1) ∧ Turn w w' t mb most F (helloR most F L now i c hl).2 := by
  have hT : ∀ W, Below w.heap.size w W → Tb W t mb most F L := fun W hW => h.below hW
  have hHas := fun W hW => hasIf_any (hT W hW) i
  have hGet := fun W hW => get_any (hT W hW) i c hi
  have k0 : (tcells hl)[0]? = some (.int .u8 (hl.ty : Int)) := rfl
  have HR : Hid (helloR most F L now i c hl = if (decide (0 ≤ i) && decide (i < F.length)) = false ∨ hl.ty ≠ 4 then ((2 : Int), L) else match getN L i c with | some n => ((0 : Int), putN L (greetN n now hl)) | none => if most ≤ L.length then ((6 : Int), L) else ((0 : Int), putN L (greetN (newN i c) now hl))) := rfl
  have HI : Hid ((decide (0 ≤ i) && decide (i < F.length)) = true → 0 ≤ i ∧ i < F.length) := fun h => by simpa using h
  generalize helloR most F L now i c hl = R at *
  generalize (decide (0 ≤ i) && decide (i < F.length)) = hb at *
  go_enter Try.func11, Try.ntmps11
  go_upto_region 3 with fail
  obtain ⟨hB, r0, rT⟩ := low_rows w (acells c) (tcells hl) 29 39
  refine name_world (R := fun W => Code.wp _ _ _ _ W) (P := fun W => Below w.heap.size w W ∧ Row W w.heap.size 29 (acells c) ∧ Row W (w.heap.size + 1) 39 (tcells hl)) _ ⟨hB, r0, rT⟩ ?_
  clear hB r0 rT
  rintro X ⟨hB, r0, rT⟩
  have hs := r0.lt
  have hsT := rT.lt
  have cT0 := (rT.cell 0).trans k0
  replace hHas := hHas X hB
  cases hb with
  | false =>
    obtain rfl : R = (2, L) := by rw [HR.out, if_pos (.inl rfl)]
    clear HR HI k0
    go_wp2_with (first
      | (go_at_call 24; refine hHas.mono ?_; rintro e w1 ⟨rfl, rfl⟩))
    go_ret
    exact ⟨rfl, Turn.of h hB⟩
  | true =>
  by_cases hty : hl.ty = 4
  · have hIF := HI.out rfl
    have hty' : ((hl.ty : Int) != 4) = false := by simp; omega
    have hR := HR.out
    rw [if_neg (by simp [hty])] at hR
    clear HR HI k0
    go_upto_region 5 with (first
      | (go_at_call 24; refine hHas.mono ?_; rintro e w1 ⟨rfl, rfl⟩))
    obtain ⟨G, hG⟩ : ∃ G, getN L i c = G := ⟨_, rfl⟩
    rw [hG] at hR
    replace hGet := hGet X hB
    rw [hG] at hGet
    have hgv : getV G = .tuple #[nV (G.getD zeroN), .bool G.isSome] := rfl
    rw [hgv] at hGet
    clear hgv
    have hX : ∀ W, Below X.heap.size X W → Tb W t mb most F L := fun W hW => hT W (bt hB hW)
    have hSX := hS.below hB (Nat.le_refl _)
    have hfin : ∀ (n : Ng) (W : World), Below X.heap.size X W → n.ok → n.i = i → n.a = c → (n.hr = true → ∀ f, F[i.toNat]? = some f → f.r.on = true) → Calls Try.prog 25 #[.pointer (some ⟨t, 0, none⟩), nV (greetN n now hl)] W fun e w' => e = .returned (.tuple #[]) ∧ Turn w w' t mb most F (putN L (greetN n now hl)) := fun n W hW ok e1 e2 e3 => by
      obtain ⟨q1, q2, q3⟩ := greet_key n now hl
      refine (put_any (hX W hW) (greetN n now hl) (by rw [q1, e1]; exact hi) ⟨greet_ok ok hf t0 t1, by rw [q1, e1]; exact hIF.1, by rw [q1, e1]; exact hIF.2, by rw [q1, q3, e1]; exact e3⟩ (by have := putN_le L (greetN n now hl); omega)).mono ?_
      rintro e w' ⟨rfl, hh⟩
      exact ⟨rfl, hh.pre (bt hB hW)⟩
    have hgr : ∀ (n : Ng) (W : World), Below X.heap.size X W → n.ok → Calls Try.prog 26 #[nV n, .int .i64 now, .agg (tcells hl).toArray] W (Gives W (nV (greetN n now hl))) := fun n W hW ok => greeted_any n now hl W ok hf t0 t1 (hSX.below hW (Nat.le_refl _))
    cases G with
    | some n =>
      have hno := (getN_some hG)
      have hnk := h.nok n hno.1
      obtain rfl : R = (0, putN L (greetN n now hl)) := hR
      have hgr1 := fun W hW => hgr n W hW hnk.1
      have hfin1 := fun W hW => hfin n W hW hnk.1 hno.2.1 hno.2.2 (hno.2.1 ▸ hnk.2.2.2)
      clear hgr hfin hnk hno hG hT hX hSX hS hf
      dsimp only [Option.getD_some, Option.isSome_some] at hGet
      go_wp2_with (first
        | (have kk := bG; go_at_call 25; refine (hfin1 _ (bt b3 bG)).mono ?_; rintro e w5 ⟨rfl, hh⟩)
        | (have kk := r3; go_at_call 26; refine (hgr1 _ b3).mono ?_; rintro e w4 ⟨rfl, bG⟩)
        | (have kk := r3; refine ldT (.tmp 9) rfl rfl _ hl rfl (rT.below b3 hsT) ?_)
        | (have kk := r3; refine ldN (.tmp 11) rfl rfl _ _ _ rfl r3.range ?_)
        | (have kk := r2; refine stN (.tmp 11) (.tmp 29) rfl rfl g2 n _ rfl rfl r2 ?_; intro W3 g3 r3; have b3 := grown_below g3 b2 (Nat.le_trans b1.size hge2) b2.size; clear r2)
        | (have kk := b1; refine alG infoNz rfl rfl ?_; intro g2 W2 hge2 hgl2 hB2 r2; have b2 := bt b1 hB2)
        | (go_at_call 17; refine hGet.mono ?_; rintro e w1 ⟨rfl, b1⟩)
        | (refine ldA (.tmp 8) rfl rfl _ _ c rfl r0.range ?_))
      go_ret
      exact ⟨rfl, hh⟩
    | none =>
      replace hR : R = if most ≤ L.length then ((6 : Int), L) else (0, putN L (greetN (newN i c) now hl)) := hR
      have hgr1 := fun W hW => hgr (newN i c) W hW (new_ok i c)
      have hfin1 := fun W hW => hfin (newN i c) W hW (new_ok i c) rfl rfl (fun h => by cases h)
      dsimp only [Option.getD_none, Option.isSome_none] at hGet
      have HK : Hid (∀ W, Below X.heap.size X W → W.cell? ⟨t, 2, none⟩ = some (.map (some mb)) ∧ W.cell? ⟨t, 0, none⟩ = some (.int .i64 most) ∧ ∀ ty, (Builtin.len_ #[74] ty #[.map (some mb)]).run Try.prog W = .ok (.int .i64 (L.length : Nat)) W) := fun W hW => by
        obtain ⟨fa, fc, hr, _⟩ := (hX W hW).ex
        exact ⟨hr.cell 2, hr.cell 0, fun ty => (hX W hW).map.len ty⟩
      clear hgr hfin hG hT hX hSX hS hf
      generalize L.length = N at *
      go_upto_region 7 with (first
        | (have kk := r2; refine stN (.tmp 11) (.tmp 29) rfl rfl g2 zeroN _ rfl rfl r2 ?_; intro W3 g3 r3; have b3 := grown_below g3 b2 (Nat.le_trans b1.size hge2) b2.size; clear r2)
        | (have kk := b1; refine alG infoNz rfl rfl ?_; intro g2 W2 hge2 hgl2 hB2 r2; have b2 := bt b1 hB2)
        | (go_at_call 17; refine hGet.mono ?_; rintro e w1 ⟨rfl, b1⟩)
        | (refine ldA (.tmp 8) rfl rfl _ _ c rfl r0.range ?_))
      have HW : ∀ W, Below W3.heap.size W3 W → W.cell? ⟨t, 2, none⟩ = some (.map (some mb)) ∧ W.cell? ⟨t, 0, none⟩ = some (.int .i64 most) ∧ ∀ ty, (Builtin.len_ #[74] ty #[.map (some mb)]).run Try.prog W = .ok (.int .i64 (N : Nat)) W := fun W hW => HK.out W (bt b3 hW)
      refine wp_region_noPanic ?_
      refine wp_region_held_drew (S := fun W => Below W3.heap.size W3 W) (by kernel_rfl) ((Below.refl _ _).drew) (fun hHeld => ?_)
      refine take_lit (i := 0) (v := ?_) rfl (by kernel_rfl) (by kernel_rfl) (by kernel_rfl) (fun _ _ _ h => h) (Or.inl ⟨by rfl, ?_⟩) (by assumption) ?_
      rotate_left
      · (intro w hSw; (try dsimp only at hSw); go_simp <;> with_reducible rfl)
      try simp only [Act.put, List.setIfInBounds_toArray, List.set_cons_zero, List.set_cons_succ]
      refine take_lit (i := 1) (v := ?_) rfl (by kernel_rfl) (by kernel_rfl) (by kernel_rfl) (fun _ _ _ h => h) (Or.inl ⟨by rfl, ?_⟩) (by assumption) ?_
      rotate_left
      · (intro w hSw; (try dsimp only at hSw); go_simp <;> with_reducible rfl)
      try simp only [Act.put, List.setIfInBounds_toArray, List.set_cons_zero, List.set_cons_succ]
      refine take_lit (i := 2) (v := ?_) rfl (by kernel_rfl) (by kernel_rfl) (by kernel_rfl) (fun _ _ _ h => h) (Or.inl ⟨by rfl, ?_⟩) (by assumption) ?_
      rotate_left
      · (intro w hSw; (try dsimp only at hSw); go_simp <;> with_reducible rfl)
      try simp only [Act.put, List.setIfInBounds_toArray, List.set_cons_zero, List.set_cons_succ]
      refine take_lit (i := 3) (v := ?_) rfl (by kernel_rfl) (by kernel_rfl) (by kernel_rfl) (fun _ _ _ h => h) (Or.inl ⟨by rfl, ?_⟩) (by assumption) ?_
      rotate_left
      · (intro w hSw; (try dsimp only at hSw); have z := (HW _ hSw).1; go_simp <;> with_reducible rfl)
      try simp only [Act.put, List.setIfInBounds_toArray, List.set_cons_zero, List.set_cons_succ]
      refine take_lit (i := 4) (v := ?_) rfl (by kernel_rfl) (by kernel_rfl) (by kernel_rfl) (fun _ _ _ h => h) (Or.inl ⟨by rfl, ?_⟩) (by assumption) ?_
      rotate_left
      · (intro w hSw; (try dsimp only at hSw); have z := (HW _ hSw).2.2; go_simp <;> with_reducible rfl)
      try simp only [Act.put, List.setIfInBounds_toArray, List.set_cons_zero, List.set_cons_succ]
      refine take_lit (i := 5) (v := ?_) rfl (by kernel_rfl) (by kernel_rfl) (by kernel_rfl) (fun _ _ _ h => h) (Or.inl ⟨by rfl, ?_⟩) (by assumption) ?_
      rotate_left
      · (intro w hSw; (try dsimp only at hSw); go_simp <;> with_reducible rfl)
      try simp only [Act.put, List.setIfInBounds_toArray, List.set_cons_zero, List.set_cons_succ]
      refine take_lit (i := 6) (v := ?_) rfl (by kernel_rfl) (by kernel_rfl) (by kernel_rfl) (fun _ _ _ h => h) (Or.inl ⟨by rfl, ?_⟩) (by assumption) ?_
      rotate_left
      · (intro w hSw; (try dsimp only at hSw); go_simp <;> with_reducible rfl)
      try simp only [Act.put, List.setIfInBounds_toArray, List.set_cons_zero, List.set_cons_succ]
      refine take_lit (i := 7) (v := ?_) rfl (by kernel_rfl) (by kernel_rfl) (by kernel_rfl) (fun _ _ _ h => h) (Or.inl ⟨by rfl, ?_⟩) (by assumption) ?_
      rotate_left
      · (intro w hSw; (try dsimp only at hSw); go_simp <;> with_reducible rfl)
      try simp only [Act.put, List.setIfInBounds_toArray, List.set_cons_zero, List.set_cons_succ]
      refine take_lit (i := 8) (v := ?_) rfl (by kernel_rfl) (by kernel_rfl) (by kernel_rfl) (fun _ _ _ h => h) (Or.inl ⟨by rfl, ?_⟩) (by assumption) ?_
      rotate_left
      · (intro w hSw; (try dsimp only at hSw); have z := (HW _ hSw).2.1; go_simp <;> with_reducible rfl)
      try simp only [Act.put, List.setIfInBounds_toArray, List.set_cons_zero, List.set_cons_succ]
      refine take_lit (i := 9) (v := ?_) rfl (by kernel_rfl) (by kernel_rfl) (by kernel_rfl) (fun _ _ _ h => h) (Or.inl ⟨by rfl, ?_⟩) (by assumption) ?_
      rotate_left
      · (intro w hSw; (try dsimp only at hSw); go_simp <;> with_reducible rfl)
      try simp only [Act.put, List.setIfInBounds_toArray, List.set_cons_zero, List.set_cons_succ]
      refine wpAnyH_done (by kernel_rfl) ?_ _
      refine NoPanic.normal ?_
      have b4 := bt b3 hHeld
      have r4 := r3.below hHeld r3.lt
      have hge4 : X.heap.size ≤ g2 := Nat.le_trans b1.size hge2
      have r04 := r0.below b4 hs
      have rT4 := rT.below b4 hsT
      have hsT4 := rT4.lt
      clear HK HW r3 hGet cT0 hHas hB2 g3
      by_cases hm : most ≤ (N : Int)
      · rw [if_pos hm] at hR
        subst hR
        go_wp2_with fail
        go_ret
        exact ⟨rfl, Turn.of h (bt hB b4)⟩
      · rw [if_neg hm] at hR
        subst hR
        have hm' : (N : Int) < most := by omega
        clear hm
        go_wp2_with (first
          | (have kk := bG; go_at_call 25; refine (hfin1 _ (bt b5 bG)).mono ?_; rintro e w5 ⟨rfl, hh⟩)
          | (have kk := r5; go_at_call 26; refine (hgr1 _ b5).mono ?_; rintro e w4 ⟨rfl, bG⟩)
          | (have kk := r5; refine ldT (.tmp 9) rfl rfl _ hl rfl (rT.below b5 hsT) ?_)
          | (have kk := r5; refine ldN (.tmp 11) rfl rfl _ _ _ rfl r5.range ?_)
          | (refine ldA (.tmp 8) rfl rfl _ _ c rfl r04.range ?_)
          | ((with_reducible refine bdG (T := 55) (v := nV (newN i c)) [(0, .tmp 43), (1, .tmp 44), (8, .const (.int .u16 65535))] ?_ ?_ ?_ ?_); (focus rfl); (focus rfl); (focus exact bdNn i c _))
          | (refine stN (.tmp 11) (.tmp 45) rfl rfl g2 (newN i c) _ rfl rfl r4 ?_; intro W5 g5 r5; have b5 := grown_below g5 b4 hge4 b4.size))
        go_ret
        exact ⟨rfl, hh⟩
  · obtain rfl : R = (2, L) := by rw [HR.out, if_pos (.inr hty)]
    have hty' : ((hl.ty : Int) != 4) = true := by simp; omega
    clear HR HI k0
    go_wp2_with (first
      | (go_at_call 24; refine hHas.mono ?_; rintro e w1 ⟨rfl, rfl⟩))
    go_ret
    exact ⟨rfl, Turn.of h hB⟩
end Go.Proofs.Ytacadlbhgelncaa

namespace Go.Proofs.Ytacadlbhgelncaa
open Go.RowKit Go.Maps
set_option linter.unusedSimpArgs false
set_option linter.unusedVariables false
set_option maxRecDepth 20000
theorem wrapI (z : Int) (h : -9223372036854775808 ≤ z) (h' : z ≤ 9223372036854775807) : IntKind.i64.wrap z = z := by
  simp [IntKind.wrap, IntKind.signed, IntKind.bits]
  omega
theorem timed_off (n : Ng) (now : Int) (r : Rt) (sv : Value) (w : World) (hon : r.on = false) : Calls Try.prog 35 #[nV n, .int .i64 now, rtV r, sv] w (Gives w (nV n)) := by
  obtain ⟨on, mi, ma, co, de⟩ := r
  dsimp only at hon
  subst hon
  go_enter Try.func35, Try.ntmps35
  go_upto_region 1 with (first
    | (refine alG infoNz rfl rfl ?_; intro g1 W1 hge hgl hB1 hr1))
  obtain ⟨hB, r0, rR⟩ := row3 (cs := ncs n) (ds := rcs ⟨false, mi, ma, co, de⟩) hB1
  have hg : w.heap.size + 1 < g1 := by simp at hge; omega
  have c0 : W1.cell? ⟨w.heap.size + 1, 0, none⟩ = some (.bool false) := rR.cell 0
  clear hB1 hge
  go_wp2_with (first
    | (refine ldN (.tmp 4) rfl rfl _ _ _ rfl r0.range ?_)
    | (refine stN (.tmp 8) (.tmp 31) rfl rfl g1 n _ rfl rfl hr1 ?_; intro W2 hg2 hr2))
  exact bodyPost_ret (retC rfl _ _ 0 rfl (lvN hr2)) rfl ⟨rfl, grown_below hg2 hB (by omega) hB.size⟩
theorem infoRt : (Try.prog.info? 64).map (·.size) = some 5 := by kernel_rfl
section
variable {ops : Array Oper} {rest : List Oper} {op : Oper} {a : Act} {w : World} {Q : Exit → Act → World → Prop} {K : Act → World → Prop} {E : Prop} {S : World → Prop}
theorem yRt {b o : Nat} {x : Operand} (r : Rt) (hS : ∀ w, S w → w.rangeAt b o (rcs r)) (hw : Region.wanted op (yielded ops a.tmps) = true) (ho : op.op = .load 64 x) (hx : a.eval x = .pointer (some ⟨b, o, none⟩)) : YieldsIf Try.prog ops S op (rtV r) a :=
  yieldsIf_load_mid hw _ x ho b o hx (rcs r) _ hS Try.underlying64 rfl (by rw [infoRt]; rfl)
theorem sSt16 (x y : Operand) (hw : Region.wanted op (yielded ops a.tmps) = true) (ho : op.op = .store 30 x y) (b c : Nat) {U : TypeId} (cs : List Value) (n : Int) (hx : a.eval x = .pointer (some ⟨b, c, none⟩)) (hy : a.eval y = .int .u16 n) (hr : Row w b U cs) (hc : c < cs.length)
    (h : ∀ W, w.grownBy W (some b) → Row W b U (cs.set c (.int .u16 n)) → K (a.put op.dst undef) W) : if Region.wanted op (yielded ops a.tmps) = true then Oper.wp Try.prog op a w K Q else E := by
  rw [if_pos hw]
  have c1 : w.cell? ⟨b, c, none⟩ = some cs[c] := by rw [hr.cell]; exact List.getElem?_eq_getElem hc
  have c2 := hr.frozen c
  have h1 := h _ (grownBy_setCell w b c (.int .u16 n)) (hr.set c (.int .u16 n))
  unfold Oper.wp execOp
  simp only [ho, hx, hy]
  go_simp
  exact h1
theorem sSt64 (x y : Operand) (hw : Region.wanted op (yielded ops a.tmps) = true) (ho : op.op = .store 3 x y) (b c : Nat) {U : TypeId} (cs : List Value) (n : Int) (hx : a.eval x = .pointer (some ⟨b, c, none⟩)) (hy : a.eval y = .int .i64 n) (hr : Row w b U cs) (hc : c < cs.length)
    (h : ∀ W, w.grownBy W (some b) → Row W b U (cs.set c (.int .i64 n)) → K (a.put op.dst undef) W) : if Region.wanted op (yielded ops a.tmps) = true then Oper.wp Try.prog op a w K Q else E := by
  rw [if_pos hw]
  have c1 : w.cell? ⟨b, c, none⟩ = some cs[c] := by rw [hr.cell]; exact List.getElem?_eq_getElem hc
  have c2 := hr.frozen c
  have h1 := h _ (grownBy_setCell w b c (.int .i64 n)) (hr.set c (.int .i64 n))
  unfold Oper.wp execOp
  simp only [ho, hx, hy]
  go_simp
  exact h1
end
theorem Fs.rtt {w : World} {ad : Option Addr} {l : List Fc} (h : Fs w ad l) {j : Nat} {f : Fc} (hf : l[j]? = some f) : ∃ g o, ad = some ⟨g, o, none⟩ ∧ g < w.heap.size ∧ w.rangeAt g (o + j * 7) (fcs f) := by
  rcases h.lies with rfl | ⟨g, o, e, hg, hl⟩
  · simp at hf
  · exact ⟨g, o, e, hg, hl j f hf⟩
theorem fcs_rtt {w : World} {g o : Nat} {f : Fc} (h : w.rangeAt g o (fcs f)) : w.rangeAt g (o + 2) (rcs f.r) := rangeAt_right (cs := [.int .i64 f.k, .int .u16 f.c]) (ds := rcs f.r) h rfl
/-- A neighbour that tells what it costs to reach it. -/
def toldN (n : Ng) (now : Int) (h : Tl) : Ng := { n with tx := (h.rx : Int), ta := now + (h.intv : Int) * 35 }
def ihuR (F : List Fc) (L : List Ng) (i : Int) (c : Ad) (h : Tl) (m : Ng) : Int × List Ng :=
  if (decide (0 ≤ i) && decide (i < F.length)) = false ∨ h.ty ≠ 5 then (2, L) else
  match getN L i c with
  | some _ => (0, putN L m)
  | none => (7, L)
set_option maxHeartbeats 8000000 in
theorem ihu_any {w : World} {t mb : Nat} {most : Int} {F : List Fc} {L : List Ng} (h : Tb w t mb most F L) (now : Int) (i : Int) (c : Ad) (hl : Tl) (m : Ng) (hi : wfI i) (hf : hl.fit) (t0 : 0 ≤ now) (t1 : now ≤ 1125899906842624) (hS : Sm w hl) (hL : L.length < 1000000)
    (hM : ∀ n, getN L i c = some n → ∀ f, F[i.toNat]? = some f → (∀ W, Below w.heap.size w W → Calls Try.prog 35 #[nV (toldN n now hl), .int .i64 now, rtV f.r, .slice hl.sa hl.sn hl.sc] W (Gives W (nV m))) ∧ m.ok ∧ m.i = i ∧ m.a = c ∧ (m.hr = true → f.r.on = true)) :
    Calls Try.prog 14 #[.pointer (some ⟨t, 0, none⟩), .int .i64 now, .int .i64 i, (Value.agg (acells c).toArray), .agg (tcells hl).toArray] w fun e w' => e = .returned (.int .i64 (ihuR F L i c hl m).1) ∧ Turn w w' t mb most F (ihuR F L i c hl m).2 := by
  have hT : ∀ W, Below w.heap.size w W → Tb W t mb most F L := fun W hW => h.below hW
  have hHas := fun W hW => hasIf_any (hT W hW) i
  have hGet := fun W hW => get_any (hT W hW) i c hi
  have k0 : (tcells hl)[0]? = some (.int .u8 (hl.ty : Int)) := rfl
  have HR : Hid (ihuR F L i c hl m = if (decide (0 ≤ i) && decide (i < F.length)) = false ∨ hl.ty ≠ 5 then ((2 : Int), L) else match getN L i c with | some _ => ((0 : Int), putN L m) | none => ((7 : Int), L)) := rfl
  have HI : Hid ((decide (0 ≤ i) && decide (i < F.length)) = true → 0 ≤ i ∧ i < F.length) := fun h => by simpa using h
  generalize ihuR F L i c hl m = R at *
  generalize (decide (0 ≤ i) && decide (i < F.length)) = hb at *
  go_enter Try.func14, Try.ntmps14
  go_upto_region 3 with fail
  obtain ⟨hB, r0, rT⟩ := low_rows w (acells c) (tcells hl) 29 39
  refine name_world (R := fun W => Code.wp _ _ _ _ W) (P := fun W => Below w.heap.size w W ∧ Row W w.heap.size 29 (acells c) ∧ Row W (w.heap.size + 1) 39 (tcells hl)) _ ⟨hB, r0, rT⟩ ?_
  clear hB r0 rT
  rintro X ⟨hB, r0, rT⟩
  have hs := r0.lt
  have hsT := rT.lt
  have cT0 := (rT.cell 0).trans k0
  replace hHas := hHas X hB
  cases hb with
  | false =>
    obtain rfl : R = (2, L) := by rw [HR.out, if_pos (.inl rfl)]
    clear HR HI k0
    go_wp2_with (first
      | (go_at_call 24; refine hHas.mono ?_; rintro e w1 ⟨rfl, rfl⟩))
    go_ret
    exact ⟨rfl, Turn.of h hB⟩
  | true =>
  by_cases hty : hl.ty = 5
  · have hIF := HI.out rfl
    have hty' : ((hl.ty : Int) != 5) = false := by simp; omega
    have hR := HR.out
    rw [if_neg (by simp [hty])] at hR
    clear HR HI k0
    obtain ⟨G, hG⟩ : ∃ G, getN L i c = G := ⟨_, rfl⟩
    rw [hG] at hR
    replace hGet := hGet X hB
    rw [hG] at hGet
    have hgv : getV G = .tuple #[nV (G.getD zeroN), .bool G.isSome] := rfl
    rw [hgv] at hGet
    clear hgv
    go_upto_region 5 with (first
      | (go_at_call 24; refine hHas.mono ?_; rintro e w1 ⟨rfl, rfl⟩))
    cases G with
    | none =>
      obtain rfl : R = (7, L) := hR
      dsimp only [Option.getD_none, Option.isSome_none] at hGet
      clear hM hS hf hT
      go_wp2_with (first
        | (have kk := r2; refine stN (.tmp 11) (.tmp 29) rfl rfl g2 zeroN _ rfl rfl r2 ?_; intro W3 g3 r3; have b3 := grown_below g3 b2 (Nat.le_trans b1.size hge2) b2.size; clear r2)
        | (have kk := b1; refine alG infoNz rfl rfl ?_; intro g2 W2 hge2 hgl2 hB2 r2; have b2 := bt b1 hB2)
        | (go_at_call 17; refine hGet.mono ?_; rintro e w1 ⟨rfl, b1⟩)
        | (refine ldA (.tmp 8) rfl rfl _ _ c rfl r0.range ?_))
      go_ret
      exact ⟨rfl, Turn.of h (bt hB b3)⟩
    | some n =>
      obtain rfl : R = (0, putN L m) := hR
      dsimp only [Option.getD_some, Option.isSome_some] at hGet
      obtain ⟨j, rfl⟩ := Int.eq_ofNat_of_zero_le hIF.1
      have hjF : j < F.length := by have := hIF.2; omega
      have hFj : F[j]? = some F[j] := List.getElem?_eq_getElem hjF
      obtain ⟨hM1, hM2, hM3, hM4, hM5⟩ := hM n hG F[j] (by simp)
      have hPut : ∀ W, Below w.heap.size w W → Calls Try.prog 25 #[.pointer (some ⟨t, 0, none⟩), nV m] W fun e w' => e = .returned (.tuple #[]) ∧ Turn w w' t mb most F (putN L m) := fun W hW => by
        refine (put_any (hT W hW) m (by rw [hM3]; exact hi) ⟨hM2, by rw [hM3]; exact hIF.1, by rw [hM3]; exact hIF.2, by rw [hM3]; intro h f hf; simp only [Int.toNat_natCast] at hf; rw [hFj] at hf; cases hf; exact hM5 h⟩ (by have := putN_le L m; omega)).mono ?_
        rintro e w' ⟨rfl, hh⟩
        exact ⟨rfl, hh.pre hW⟩
      obtain ⟨fa, fc, hr, hfs⟩ := h.ex
      obtain ⟨fg, fo, rfl, hfg, hfr⟩ := hfs.rtt hFj
      have ht := hr.lt
      have HK : Hid (∀ W, Below w.heap.size w W → W.cell? ⟨t, 1, none⟩ = some (.slice (some ⟨fg, fo, none⟩) F.length fc) ∧ W.rangeAt fg (fo + j * 7 + 2) (rcs F[j].r)) := fun W hW => ⟨(hr.below hW ht).cell 1, fcs_rtt (rangeAt_below hfr hW hfg)⟩
      have iv1 := hf.i1
      clear hM hT hS hf hM2 hM3 hM4 hM5 hHas hG hr hfs hfr hFj
      go_upto_region 8 with (first
        | (have kk := r2; refine stN (.tmp 11) (.tmp 29) rfl rfl g2 n _ rfl rfl r2 ?_; intro W3 g3 r3; have b3 := grown_below g3 b2 (Nat.le_trans b1.size hge2) b2.size; clear r2)
        | (have kk := b1; refine alG infoNz rfl rfl ?_; intro g2 W2 hge2 hgl2 hB2 r2; have b2 := bt b1 hB2)
        | (go_at_call 17; refine hGet.mono ?_; rintro e w1 ⟨rfl, b1⟩)
        | (refine ldA (.tmp 8) rfl rfl _ _ c rfl r0.range ?_))
      have hgX : X.heap.size ≤ g2 := Nat.le_trans b1.size hge2
      have k4 : (tcells hl)[4]? = some (.int .u16 (hl.rx : Int)) := rfl
      have k2 : (tcells hl)[2]? = some (.int .u16 (hl.intv : Int)) := rfl
      have k67 := tcells_get hl
      have HT : Hid (∀ W, Below X.heap.size X W → W.cell? ⟨w.heap.size + 1, 4, none⟩ = some (.int .u16 (hl.rx : Int)) ∧ W.cell? ⟨w.heap.size + 1, 2, none⟩ = some (.int .u16 (hl.intv : Int)) ∧ W.cell? ⟨w.heap.size + 1, 67, none⟩ = some (.slice hl.sa hl.sn hl.sc)) := fun W hW =>
        ⟨((rT.below hW hsT).cell 4).trans k4, ((rT.below hW hsT).cell 2).trans k2, ((rT.below hW hsT).cell 67).trans k67⟩
      have HN : Hid (((ncs n).set 27 (.int .u16 (hl.rx : Int))).set 28 (.int .i64 (now + (hl.intv : Int) * 35)) = ncs (toldN n now hl)) := by
        show _ = _
        rw [(ncs_set n).2.2.2.2.1, (ncs_set _).2.2.2.2.2.1]
        rfl
      have e5 : IntKind.i64.wrap (hl.intv : Int) = hl.intv := wrapI _ (by omega) (by omega)
      have e6 : IntKind.i64.wrap ((hl.intv : Int) * 35) = (hl.intv : Int) * 35 := wrapI _ (by omega) (by omega)
      have e7 : IntKind.i64.wrap (now + (hl.intv : Int) * 35) = now + (hl.intv : Int) * 35 := wrapI _ (by omega) (by omega)
      clear k4 k2 k67 iv1
      generalize (hl.rx : Int) = rx at *
      generalize (hl.intv : Int) = iv at *
      generalize toldN n now hl = N at *
      refine wp_region_noPanic ?_
      refine wp_region_held_drew (S := fun W => Below X.heap.size X W) (by kernel_rfl) (b3.drew) (fun hHeld => ?_)
      refine take_lit (i := 0) (v := ?_) rfl (by kernel_rfl) (by kernel_rfl) (by kernel_rfl) (fun _ _ _ h => h) (Or.inl ⟨by rfl, ?_⟩) (by assumption) ?_
      rotate_left
      · (intro w hSw; (try dsimp only at hSw); go_simp <;> with_reducible rfl)
      try simp only [Act.put, List.setIfInBounds_toArray, List.set_cons_zero, List.set_cons_succ]
      refine take_lit (i := 1) (v := ?_) rfl (by kernel_rfl) (by kernel_rfl) (by kernel_rfl) (fun _ _ _ h => h) (Or.inl ⟨by rfl, ?_⟩) (by assumption) ?_
      rotate_left
      · (intro w hSw; (try dsimp only at hSw); have z := (HT.out _ hSw).1; go_simp <;> with_reducible rfl)
      try simp only [Act.put, List.setIfInBounds_toArray, List.set_cons_zero, List.set_cons_succ]
      refine take_lit (i := 2) (v := ?_) rfl (by kernel_rfl) (by kernel_rfl) (by kernel_rfl) (fun _ _ _ h => h) (Or.inl ⟨by rfl, ?_⟩) (by assumption) ?_
      rotate_left
      · (intro w hSw; (try dsimp only at hSw); go_simp <;> with_reducible rfl)
      try simp only [Act.put, List.setIfInBounds_toArray, List.set_cons_zero, List.set_cons_succ]
      refine take_lit (i := 3) (v := ?_) rfl (by kernel_rfl) (by kernel_rfl) (by kernel_rfl) (fun _ _ _ h => h) (Or.inl ⟨by rfl, ?_⟩) (by assumption) ?_
      rotate_left
      · (intro w hSw; (try dsimp only at hSw); go_simp <;> with_reducible rfl)
      try simp only [Act.put, List.setIfInBounds_toArray, List.set_cons_zero, List.set_cons_succ]
      refine take_lit (i := 4) (v := ?_) rfl (by kernel_rfl) (by kernel_rfl) (by kernel_rfl) (fun _ _ _ h => h) (Or.inl ⟨by rfl, ?_⟩) (by assumption) ?_
      rotate_left
      · (intro w hSw; (try dsimp only at hSw); have z := (HT.out _ hSw).2.1; go_simp <;> with_reducible rfl)
      try simp only [Act.put, List.setIfInBounds_toArray, List.set_cons_zero, List.set_cons_succ]
      refine take_lit (i := 5) (v := ?_) rfl (by kernel_rfl) (by kernel_rfl) (by kernel_rfl) (fun _ _ _ h => h) (Or.inl ⟨by rfl, ?_⟩) (by assumption) ?_
      rotate_left
      · (intro w hSw; (try dsimp only at hSw); go_simp <;> with_reducible rfl)
      try simp only [Act.put, List.setIfInBounds_toArray, List.set_cons_zero, List.set_cons_succ]
      refine take_lit (i := 6) (v := ?_) rfl (by kernel_rfl) (by kernel_rfl) (by kernel_rfl) (fun _ _ _ h => h) (Or.inl ⟨by rfl, ?_⟩) (by assumption) ?_
      rotate_left
      · (intro w hSw; (try dsimp only at hSw); go_simp <;> with_reducible rfl)
      try simp only [Act.put, List.setIfInBounds_toArray, List.set_cons_zero, List.set_cons_succ]
      refine take_lit (i := 7) (v := ?_) rfl (by kernel_rfl) (by kernel_rfl) (by kernel_rfl) (fun _ _ _ h => h) (Or.inl ⟨by rfl, ?_⟩) (by assumption) ?_
      rotate_left
      · (intro w hSw; (try dsimp only at hSw); go_simp <;> with_reducible rfl)
      try simp only [Act.put, List.setIfInBounds_toArray, List.set_cons_zero, List.set_cons_succ]
      refine take_lit (i := 8) (v := ?_) rfl (by kernel_rfl) (by kernel_rfl) (by kernel_rfl) (fun _ _ _ h => h) (Or.inl ⟨by rfl, ?_⟩) (by assumption) ?_
      rotate_left
      · (intro w hSw; (try dsimp only at hSw); go_simp <;> with_reducible rfl)
      try simp only [Act.put, List.setIfInBounds_toArray, List.set_cons_zero, List.set_cons_succ]
      refine wpAnyH_ready (rs := [9]) (by kernel_rfl) (by simp) ?_
      refine cons_lit rfl (fun K hK => ?_) ?_
      · skip
        refine sSt16 (.tmp 41) (.tmp 34) (by rfl) rfl g2 27 _ rx rfl rfl r3.drew (by rw [ncs_len]; omega) ?_
        intro W4 g4 r4
        refine hK.out _ _ ?_ (fun hHeld => ?_)
        · exact grown_below g4 hHeld hgX hHeld.size
        clear hK K
        try simp only [Act.put, List.setIfInBounds_toArray, List.set_cons_zero, List.set_cons_succ]
        refine take_lit (i := 10) (v := ?_) rfl (by kernel_rfl) (by kernel_rfl) (by kernel_rfl) (fun _ _ _ h => h) (Or.inl ⟨by rfl, ?_⟩) (by assumption) ?_
        rotate_left
        · (intro w hSw; (try dsimp only at hSw); go_simp <;> with_reducible rfl)
        try simp only [Act.put, List.setIfInBounds_toArray, List.set_cons_zero, List.set_cons_succ]
        refine wpAnyH_ready (rs := [11]) (by kernel_rfl) (by simp) ?_
        refine cons_lit rfl (fun K hK => ?_) ?_
        · skip
          refine sSt64 (.tmp 42) (.tmp 40) (by rfl) rfl g2 28 _ (now + iv * 35) rfl rfl r4 (by rw [List.length_set, ncs_len]; omega) ?_
          intro W5 g5 r5
          refine hK.out _ _ ?_ (fun hHeld => ?_)
          · exact grown_below g5 hHeld hgX hHeld.size
          clear hK K
          try simp only [Act.put, List.setIfInBounds_toArray, List.set_cons_zero, List.set_cons_succ]
          refine wpAnyH_done (by kernel_rfl) ?_ _
          refine NoPanic.normal ?_
          rw [HN.out] at r5
          go_upto_region 9 with fail
          have hr5 := r5.lt
          refine wp_region_noPanic ?_
          refine wp_region_N (S := fun W => Below X.heap.size X W ∧ Row W g2 55 (ncs N)) 14 (by kernel_rfl) (⟨hHeld.drew, r5.drew⟩) (fun hHeld => ?_)
          refine takeN_lit (i := 0) (v := ?_) (F := #[false, true, true, true, true, true, true, true, true, true, true, true, true, true, false]) rfl (by kernel_rfl) (by kernel_rfl) (by kernel_rfl) (by kernel_rfl) (fun _ _ _ h => h) (Or.inl ⟨by rfl, ?_⟩) (by assumption) ?_
          rotate_left
          · (intro w hSw; (try dsimp only at hSw); go_simp <;> with_reducible rfl)
          try simp only [Act.put, List.setIfInBounds_toArray, List.set_cons_zero, List.set_cons_succ]
          refine takeN_lit (i := 1) (F := #[true, false, true, true, true, true, true, true, true, true, true, true, true, false, false]) rfl (by kernel_rfl) (by kernel_rfl) (by kernel_rfl) (by kernel_rfl) (fun _ _ _ h => h) (yN N (fun w h => h.2.range) (by rfl) rfl rfl) (by assumption) ?_
          try simp only [Act.put, List.setIfInBounds_toArray, List.set_cons_zero, List.set_cons_succ]
          refine takeN_lit (i := 2) (v := ?_) (F := #[true, true, false, true, true, true, true, true, true, true, true, true, true, false, false]) rfl (by kernel_rfl) (by kernel_rfl) (by kernel_rfl) (by kernel_rfl) (fun _ _ _ h => h) (Or.inl ⟨by rfl, ?_⟩) (by assumption) ?_
          rotate_left
          · (intro w hSw; (try dsimp only at hSw); go_simp <;> with_reducible rfl)
          try simp only [Act.put, List.setIfInBounds_toArray, List.set_cons_zero, List.set_cons_succ]
          refine takeN_lit (i := 3) (v := ?_) (F := #[true, true, true, false, false, false, false, true, false, false, false, true, true, false, false]) rfl (by kernel_rfl) (by kernel_rfl) (by kernel_rfl) (by kernel_rfl) (fun _ _ _ h => h) (Or.inl ⟨by rfl, ?_⟩) (by assumption) ?_
          rotate_left
          · (intro w hSw; (try dsimp only at hSw); go_simp <;> with_reducible rfl)
          try simp only [Act.put, List.setIfInBounds_toArray, List.set_cons_zero, List.set_cons_succ]
          refine takeN_lit (i := 4) (v := ?_) (F := #[true, true, true, true, false, false, false, true, false, false, false, true, true, false, false]) rfl (by kernel_rfl) (by kernel_rfl) (by kernel_rfl) (by kernel_rfl) (fun _ _ _ h => h) (Or.inl ⟨by rfl, ?_⟩) (by assumption) ?_
          rotate_left
          · (intro w hSw; (try dsimp only at hSw); go_simp <;> with_reducible rfl)
          try simp only [Act.put, List.setIfInBounds_toArray, List.set_cons_zero, List.set_cons_succ]
          refine takeN_lit (i := 5) (v := ?_) (F := #[true, true, true, true, true, false, false, true, false, false, false, true, true, false, false]) rfl (by kernel_rfl) (by kernel_rfl) (by kernel_rfl) (by kernel_rfl) (fun _ _ _ h => h) (Or.inl ⟨by rfl, ?_⟩) (by assumption) ?_
          rotate_left
          · (intro w hSw; (try dsimp only at hSw); go_simp <;> with_reducible rfl)
          try simp only [Act.put, List.setIfInBounds_toArray, List.set_cons_zero, List.set_cons_succ]
          refine takeN_lit (i := 6) (v := ?_) (F := #[true, true, true, true, true, true, false, true, false, false, false, true, true, false, false]) rfl (by kernel_rfl) (by kernel_rfl) (by kernel_rfl) (by kernel_rfl) (fun _ _ _ h => h) (Or.inl ⟨by rfl, ?_⟩) (by assumption) ?_
          rotate_left
          · (intro w hSw; (try dsimp only at hSw); have z := (HK.out _ (bt hB hSw.1)).1; go_simp <;> with_reducible rfl)
          try simp only [Act.put, List.setIfInBounds_toArray, List.set_cons_zero, List.set_cons_succ]
          refine takeN_lit (i := 7) (v := ?_) (F := #[true, true, true, true, true, true, true, false, false, false, false, true, true, false, false]) rfl (by kernel_rfl) (by kernel_rfl) (by kernel_rfl) (by kernel_rfl) (fun _ _ _ h => h) (Or.inl ⟨by rfl, ?_⟩) (by assumption) ?_
          rotate_left
          · (intro w hSw; (try dsimp only at hSw); go_simp <;> with_reducible rfl)
          try simp only [Act.put, List.setIfInBounds_toArray, List.set_cons_zero, List.set_cons_succ]
          refine takeN_lit (i := 8) (v := ?_) (F := #[true, true, true, true, true, true, true, true, false, false, false, true, true, false, false]) rfl (by kernel_rfl) (by kernel_rfl) (by kernel_rfl) (by kernel_rfl) (fun _ _ _ h => h) (Or.inl ⟨by rfl, ?_⟩) (by assumption) ?_
          rotate_left
          · (intro w hSw; (try dsimp only at hSw); go_simp <;> with_reducible rfl)
          try simp only [Act.put, List.setIfInBounds_toArray, List.set_cons_zero, List.set_cons_succ]
          refine takeN_lit (i := 9) (v := ?_) (F := #[true, true, true, true, true, true, true, true, true, false, false, true, true, false, false]) rfl (by kernel_rfl) (by kernel_rfl) (by kernel_rfl) (by kernel_rfl) (fun _ _ _ h => h) (Or.inl ⟨by rfl, ?_⟩) (by assumption) ?_
          rotate_left
          · (intro w hSw; (try dsimp only at hSw); go_simp <;> with_reducible rfl)
          try simp only [Act.put, List.setIfInBounds_toArray, List.set_cons_zero, List.set_cons_succ]
          refine takeN_lit (i := 10) (F := #[true, true, true, true, true, true, true, true, true, true, false, true, true, false, false]) rfl (by kernel_rfl) (by kernel_rfl) (by kernel_rfl) (by kernel_rfl) (fun _ _ _ h => h) (yRt F[j].r (fun w h => (HK.out _ (bt hB h.1)).2) (by rfl) rfl rfl) (by assumption) ?_
          try simp only [Act.put, List.setIfInBounds_toArray, List.set_cons_zero, List.set_cons_succ]
          refine takeN_lit (i := 11) (v := ?_) (F := #[true, true, true, true, true, true, true, true, true, true, true, false, false, false, false]) rfl (by kernel_rfl) (by kernel_rfl) (by kernel_rfl) (by kernel_rfl) (fun _ _ _ h => h) (Or.inl ⟨by rfl, ?_⟩) (by assumption) ?_
          rotate_left
          · (intro w hSw; (try dsimp only at hSw); go_simp <;> with_reducible rfl)
          try simp only [Act.put, List.setIfInBounds_toArray, List.set_cons_zero, List.set_cons_succ]
          refine takeN_lit (i := 12) (v := ?_) (F := #[true, true, true, true, true, true, true, true, true, true, true, true, false, false, false]) rfl (by kernel_rfl) (by kernel_rfl) (by kernel_rfl) (by kernel_rfl) (fun _ _ _ h => h) (Or.inl ⟨by rfl, ?_⟩) (by assumption) ?_
          rotate_left
          · (intro w hSw; (try dsimp only at hSw); have z := (HT.out _ hSw.1).2.2; go_simp <;> with_reducible rfl)
          try simp only [Act.put, List.setIfInBounds_toArray, List.set_cons_zero, List.set_cons_succ]
          refine wpAnyN_ready (rs := [13]) (by kernel_rfl) (by simp) ?_
          refine consN_lit rfl (fun K hK => ?_) ?_
          · go_simp
            refine (hM1 _ (bt hB hHeld.1)).mono ?_
            rintro e w6 ⟨rfl, hB6⟩
            refine hK.out _ _ (Or.inr ?_) (fun hHeld => ?_)
            · exact ⟨bt hHeld.1 hB6, hHeld.2.below hB6 hHeld.2.lt⟩
            replace hHeld := hHeld.resolve_left (by decide)
            clear hK K
            try simp only [Act.put, List.setIfInBounds_toArray, List.set_cons_zero, List.set_cons_succ]
            refine wpAnyN_ready (rs := [14]) (by kernel_rfl) (by simp) ?_
            refine consN_lit rfl (fun K hK => ?_) ?_
            · go_simp
              refine (hPut _ (bt hB hHeld.1)).mono ?_
              rintro e w7 ⟨rfl, hT7⟩
              refine hK.out _ _ (Or.inl rfl) (fun _ => ?_)
              clear hK K
              try simp only [Act.put, List.setIfInBounds_toArray, List.set_cons_zero, List.set_cons_succ]
              refine wpAnyN_done (by kernel_rfl) ?_ _
              refine NoPanic.normal ?_
              go_wp2
              go_ret
              exact ⟨rfl, hT7⟩
            exact AllReadyN.nil
          exact AllReadyN.nil
        exact AllReadyH.nil
      exact AllReadyH.nil
  · obtain rfl : R = (2, L) := by rw [HR.out, if_pos (.inr hty)]
    have hty' : ((hl.ty : Int) != 5) = true := by simp; omega
    clear HR HI k0
    go_wp2_with (first
      | (go_at_call 24; refine hHas.mono ?_; rintro e w1 ⟨rfl, rfl⟩))
    go_ret
    exact ⟨rfl, Turn.of h hB⟩
end Go.Proofs.Ytacadlbhgelncaa

namespace Go.Proofs.Ytacadlbhgelncaa
open Go.RowKit Go.Maps
set_option linter.unusedSimpArgs false
set_option linter.unusedVariables false
set_option maxRecDepth 20000
section
variable {ops : Array Oper} {rest : List Oper} {op : Oper} {a : Act} {w : World} {Q : Exit → Act → World → Prop} {K : Act → World → Prop} {E : Prop} {S : World → Prop}
theorem wp_bsG {T U : TypeId} {n : Nat} (parts : List (Nat × Operand)) (Z : List Value) (ho : op.op = .buildSlice T n parts.toArray)
    (hrun : ∀ w, (Instr.buildSlice T n (parts.map fun p => (p.1, a.eval p.2)).toArray).run Try.prog w = .ok (.slice (some ⟨w.heap.size, 0, none⟩) n n) (w.alloc (.cells Z.toArray U)))
    (h : ∀ W, Row W w.heap.size U Z → Below w.heap.size w W → K (a.put op.dst (.slice (some ⟨w.heap.size, 0, none⟩) n n)) W) : Oper.wp Try.prog op a w K Q := by
  have h1 := h _ (Row.new w U Z) (ba w _)
  unfold Oper.wp execOp
  simp only [ho, List.map_toArray, Sem.run_bind, hrun, Result.andThen_ok, Sem.run_pure]
  exact h1
theorem bsG {T U : TypeId} {n : Nat} (parts : List (Nat × Operand)) (Z : List Value) (hw : Region.wanted op (yielded ops a.tmps) = true) (ho : op.op = .buildSlice T n parts.toArray)
    (hrun : ∀ w, (Instr.buildSlice T n (parts.map fun p => (p.1, a.eval p.2)).toArray).run Try.prog w = .ok (.slice (some ⟨w.heap.size, 0, none⟩) n n) (w.alloc (.cells Z.toArray U)))
    (h : ∀ W, Row W w.heap.size U Z → Below w.heap.size w W → wpList Try.prog ops Q rest (a.put op.dst (.slice (some ⟨w.heap.size, 0, none⟩) n n)) W) : wpList Try.prog ops Q (op :: rest) a w :=
  wpList_step fun K hK => by
    rw [if_pos hw]
    exact wp_bsG parts Z ho hrun fun W k1 k2 => hK _ _ (h W k1 k2)
theorem yFc {b o : Nat} {x : Operand} (f : Fc) (hS : ∀ w, S w → w.rangeAt b o (fcs f)) (hw : Region.wanted op (yielded ops a.tmps) = true) (ho : op.op = .load 79 x) (hx : a.eval x = .pointer (some ⟨b, o, none⟩)) : YieldsIf Try.prog ops S op (.agg (fcs f).toArray) a :=
  yieldsIf_load_mid hw _ x ho b o hx (fcs f) _ hS Try.underlying79 rfl (by rw [infoFs]; rfl)
theorem ldFc (x : Operand) (hw : Region.wanted op (yielded ops a.tmps) = true) (ho : op.op = .load 79 x) (b o : Nat) (f : Fc) (hx : a.eval x = .pointer (some ⟨b, o, none⟩)) (hc : w.rangeAt b o (fcs f))
    (h : wpList Try.prog ops Q rest (a.put op.dst (.agg (fcs f).toArray)) w) : wpList Try.prog ops Q (op :: rest) a w :=
  wpList_step fun K hK => by
    rw [if_pos hw]
    exact wp_load_mid _ x ho b o hx (fcs f) _ hc Try.underlying79 rfl (by rw [infoFs]; rfl) (hK _ _ h)
theorem stFc (x y : Operand) (hw : Region.wanted op (yielded ops a.tmps) = true) (ho : op.op = .store 79 x y) (b : Nat) (f g : Fc) (hx : a.eval x = .pointer (some ⟨b, 0, none⟩)) (hy : a.eval y = .agg (fcs f).toArray) (hr : Row w b 79 (fcs g))
    (h : ∀ W, w.grownBy W (some b) → Row W b 79 (fcs f) → wpList Try.prog ops Q rest (a.put op.dst undef) W) : wpList Try.prog ops Q (op :: rest) a w :=
  wpList_step fun K hK => by
    rw [if_pos hw]
    refine wp_store_mid _ x y ho b 0 _ hx hy (hr.there (n := 7) (Nat.le_refl _)) (by rw [infoFs]; rfl) (all_oneCell_toArray (fcs_one f)) (hK _ _ (h _ (grownBy_setCells b _ _ _) ?_))
    have := Row.setCells (fcs f) [] w (fcs g) hr rfl
    simpa using this
end
def zeroF : Fc := ⟨0, 0, ⟨false, 0, 0, 0, 0⟩⟩
theorem infoFz : (Try.prog.info? 79).map (·.zero) = some (some (.agg (fcs zeroF).toArray)) := by kernel_rfl
def rxN (f : Fc) (n : Ng) : Int := Lk.rxL f.k f.c [n.m, n.u]
theorem rx_two (f : Fc) (n : Ng) (g c : Nat) (t : TypeId) (W : World) (fo : f.ok) (no : n.ok) (r : Row W g t (hcs n.m ++ hcs n.u)) :
    Calls Try.prog 59 #[.int .i64 f.k, .int .u16 f.c, .slice (some ⟨g, 0, none⟩) 2 c] W (Gives W (.int .u16 (rxN f n))) := by
  have hs : Lk.Hs W (some ⟨g, 0, none⟩) 2 [n.m, n.u] := by
    refine ⟨rfl, ?_, .inr ⟨_, _, rfl, r.lt, ?_⟩⟩
    · intro x hh
      simp at hh
      rcases hh with rfl | rfl
      · exact no.mo
      · exact no.uo
    · intro j x hj
      match j, hj with
      | 0, rfl => exact rangeAt_left r.range
      | 1, rfl => exact rangeAt_right r.range rfl
  exact Lk.rx_any f.k f.c _ 2 c _ _ fo.c0 fo.c1 (by decide) hs
theorem face_rx (f : Fc) (n : Ng) (w : World) (fo : f.ok) (no : n.ok) : Calls Try.prog 37 #[.agg (fcs f).toArray, nV n] w (Gives w (.int .u16 (rxN f n))) := by
  have hx := fun g c W r => rx_two f n g c 52 W fo no r
  obtain ⟨hB, r0, r1⟩ := low_rows w (fcs f) (ncs n) 79 55
  generalize rxN f n = X at *
  clear fo no
  go_enter Try.func37, Try.ntmps37
  go_upto_region 1 with fail
  refine name_world (R := fun W => Code.wp _ _ _ _ W) (P := fun W => Below w.heap.size w W ∧ Row W w.heap.size 79 (fcs f) ∧ Row W (w.heap.size + 1) 55 (ncs n)) _ ⟨hB, r0, r1⟩ ?_
  clear hB r0 r1
  rintro Z ⟨hB, r0, r1⟩
  have c0 : Z.cell? ⟨w.heap.size, 0, none⟩ = some (.int .i64 f.k) := r0.cell 0
  have c1 : Z.cell? ⟨w.heap.size, 1, none⟩ = some (.int .u16 f.c) := r0.cell 1
  go_wp2_with (first
    | (go_at_call 59; refine (hx Z.heap.size 2 _ (Row.new Z 52 (hcs n.m ++ hcs n.u))).mono ?_; rintro e w6 ⟨rfl, b6⟩)
    | (refine ldH (.tmp 9) rfl rfl _ _ n.m rfl r1.nM ?_)
    | (refine ldH (.tmp 11) rfl rfl _ _ n.u rfl r1.nU ?_))
  go_ret
  exact ⟨rfl, bt hB (bt (ba _ _) b6)⟩
def rxO (o : Option Ng) (q : Option Fc) : Int := match o, q with | some n, some f => rxN f n | _, _ => 65535
def rxT (F : List Fc) (L : List Ng) (i : Int) (c : Ad) : Int := rxO (getN L i c) F[i.toNat]?
theorem getN_if {w : World} {t mb : Nat} {most : Int} {F : List Fc} {L : List Ng} (h : Tb w t mb most F L) {i : Int} {c : Ad} {n : Ng} (hg : getN L i c = some n) : ∃ (j : Nat) (f : Fc), i = (j : Int) ∧ F[j]? = some f ∧ j < F.length ∧ n.ok ∧ f.ok := by
  obtain ⟨hn, e1, e2⟩ := getN_some hg
  obtain ⟨ok, p0, p1, _⟩ := h.nok n hn
  rw [e1] at p0 p1
  obtain ⟨j, rfl⟩ := Int.eq_ofNat_of_zero_le p0
  have hj : j < F.length := by omega
  exact ⟨j, F[j], rfl, List.getElem?_eq_getElem hj, hj, ok, h.fok _ (List.getElem_mem hj)⟩
set_option maxHeartbeats 8000000 in
theorem rx_tab {w : World} {t mb : Nat} {most : Int} {F : List Fc} {L : List Ng} (h : Tb w t mb most F L) (i : Int) (c : Ad) (hi : wfI i) : Calls Try.prog 19 #[.pointer (some ⟨t, 0, none⟩), .int .i64 i, (Value.agg (acells c).toArray)] w (Gives w (.int .u16 (rxT F L i c))) := by
  have hT : ∀ W, Below w.heap.size w W → Tb W t mb most F L := fun W hW => h.below hW
  have hGet := fun W hW => get_any (hT W hW) i c hi
  obtain ⟨G, hG⟩ : ∃ G, getN L i c = G := ⟨_, rfl⟩
  have HR : Hid (rxT F L i c = rxO G F[i.toNat]?) := by unfold rxT; rw [hG]; exact rfl
  generalize rxT F L i c = R at *
  rw [hG] at hGet
  have hgv : getV G = .tuple #[nV (G.getD zeroN), .bool G.isSome] := rfl
  rw [hgv] at hGet
  clear hgv
  go_enter Try.func19, Try.ntmps19
  go_upto_region 1 with fail
  have r0 := Row.new w 29 (acells c)
  refine name_world (R := fun W => Code.wp _ _ _ _ W) (P := fun W => Below w.heap.size w W ∧ Row W w.heap.size 29 (acells c)) _ ⟨ba _ _, r0⟩ ?_
  clear r0
  rintro X ⟨hB, r0⟩
  have hs := r0.lt
  replace hGet := hGet X hB
  cases G with
  | none =>
    obtain rfl : R = 65535 := HR.out
    dsimp only [Option.getD_none, Option.isSome_none] at hGet
    clear hT HR
    go_wp2_with (first
      | (have kk := r2; refine stN (.tmp 7) (.tmp 14) rfl rfl g2 zeroN _ rfl rfl r2 ?_; intro W3 g3 r3; have b3 := grown_below g3 b2 (Nat.le_trans b1.size hge2) b2.size; clear r2)
      | (have kk := b1; refine alG infoNz rfl rfl ?_; intro g2 W2 hge2 hgl2 hB2 r2; have b2 := bt b1 hB2)
      | (go_at_call 17; refine hGet.mono ?_; rintro e w1 ⟨rfl, b1⟩)
      | (refine ldA (.tmp 5) rfl rfl _ _ c rfl r0.range ?_))
    go_ret
    exact ⟨rfl, bt hB b3⟩
  | some n =>
    obtain ⟨j, f, rfl, hFj, hjF, no, fo⟩ := getN_if h hG
    obtain rfl : R = rxN f n := by
      have := HR.out
      simp only [Int.toNat_natCast, hFj] at this
      exact this
    have hRX := fun W => face_rx f n W fo no
    obtain ⟨fa, fc, hr, hfs⟩ := h.ex
    obtain ⟨fg, fo, rfl, hfg, hfr⟩ := hfs.rtt hFj
    have ht := hr.lt
    have HK : Hid (∀ W, Below w.heap.size w W → W.cell? ⟨t, 1, none⟩ = some (.slice (some ⟨fg, fo, none⟩) F.length fc) ∧ W.rangeAt fg (fo + j * 7) (fcs f)) := fun W hW => ⟨(hr.below hW ht).cell 1, rangeAt_below hfr hW hfg⟩
    have hjI : (j : Int) < (F.length : Int) := by omega
    dsimp only [Option.getD_some, Option.isSome_some] at hGet
    generalize rxN f n = R at *
    clear hT HR hr hfs hfr hFj hG
    go_upto_region 4 with (first
      | (have kk := r2; refine stN (.tmp 7) (.tmp 14) rfl rfl g2 n _ rfl rfl r2 ?_; intro W3 g3 r3; have b3 := grown_below g3 b2 (Nat.le_trans b1.size hge2) b2.size; clear r2)
      | (have kk := b1; refine alG infoNz rfl rfl ?_; intro g2 W2 hge2 hgl2 hB2 r2; have b2 := bt b1 hB2)
      | (go_at_call 17; refine hGet.mono ?_; rintro e w1 ⟨rfl, b1⟩)
      | (refine ldA (.tmp 5) rfl rfl _ _ c rfl r0.range ?_))
    refine wp_region_noPanic ?_
    refine wp_region_held_drew (S := fun W => Below X.heap.size X W ∧ Row W g2 55 (ncs n)) (by kernel_rfl) (⟨b3.drew, r3.drew⟩) (fun hHeld => ?_)
    refine take_lit (i := 0) (v := ?_) rfl (by kernel_rfl) (by kernel_rfl) (by kernel_rfl) (fun _ _ _ h => h) (Or.inl ⟨by rfl, ?_⟩) (by assumption) ?_
    rotate_left
    · (intro w hSw; (try dsimp only at hSw); go_simp <;> with_reducible rfl)
    try simp only [Act.put, List.setIfInBounds_toArray, List.set_cons_zero, List.set_cons_succ]
    refine take_lit (i := 1) (v := ?_) rfl (by kernel_rfl) (by kernel_rfl) (by kernel_rfl) (fun _ _ _ h => h) (Or.inl ⟨by rfl, ?_⟩) (by assumption) ?_
    rotate_left
    · (intro w hSw; (try dsimp only at hSw); go_simp <;> with_reducible rfl)
    try simp only [Act.put, List.setIfInBounds_toArray, List.set_cons_zero, List.set_cons_succ]
    refine take_lit (i := 2) (v := ?_) rfl (by kernel_rfl) (by kernel_rfl) (by kernel_rfl) (fun _ _ _ h => h) (Or.inl ⟨by rfl, ?_⟩) (by assumption) ?_
    rotate_left
    · (intro w hSw; (try dsimp only at hSw); go_simp <;> with_reducible rfl)
    try simp only [Act.put, List.setIfInBounds_toArray, List.set_cons_zero, List.set_cons_succ]
    refine take_lit (i := 3) (v := ?_) rfl (by kernel_rfl) (by kernel_rfl) (by kernel_rfl) (fun _ _ _ h => h) (Or.inl ⟨by rfl, ?_⟩) (by assumption) ?_
    rotate_left
    · (intro w hSw; (try dsimp only at hSw); have z := (HK.out _ (bt hB hSw.1)).1; go_simp <;> with_reducible rfl)
    try simp only [Act.put, List.setIfInBounds_toArray, List.set_cons_zero, List.set_cons_succ]
    refine take_lit (i := 4) (v := ?_) rfl (by kernel_rfl) (by kernel_rfl) (by kernel_rfl) (fun _ _ _ h => h) (Or.inl ⟨by rfl, ?_⟩) (by assumption) ?_
    rotate_left
    · (intro w hSw; (try dsimp only at hSw); go_simp <;> with_reducible rfl)
    try simp only [Act.put, List.setIfInBounds_toArray, List.set_cons_zero, List.set_cons_succ]
    refine take_lit (i := 5) (v := ?_) rfl (by kernel_rfl) (by kernel_rfl) (by kernel_rfl) (fun _ _ _ h => h) (Or.inl ⟨by rfl, ?_⟩) (by assumption) ?_
    rotate_left
    · (intro w hSw; (try dsimp only at hSw); go_simp <;> with_reducible rfl)
    try simp only [Act.put, List.setIfInBounds_toArray, List.set_cons_zero, List.set_cons_succ]
    refine take_lit (i := 6) rfl (by kernel_rfl) (by kernel_rfl) (by kernel_rfl) (fun _ _ _ h => h) (yFc f (fun w h => (HK.out _ (bt hB h.1)).2) (by rfl) rfl rfl) (by assumption) ?_
    try simp only [Act.put, List.setIfInBounds_toArray, List.set_cons_zero, List.set_cons_succ]
    refine take_lit (i := 7) rfl (by kernel_rfl) (by kernel_rfl) (by kernel_rfl) (fun _ _ _ h => h) (yN n (fun w h => h.2.range) (by rfl) rfl rfl) (by assumption) ?_
    try simp only [Act.put, List.setIfInBounds_toArray, List.set_cons_zero, List.set_cons_succ]
    refine wpAnyH_ready (rs := [8]) (by kernel_rfl) (by simp) ?_
    refine cons_lit rfl (fun K hK => ?_) ?_
    · go_simp
      refine (hRX _).mono ?_
      rintro e w6 ⟨rfl, hB6⟩
      refine hK.out _ _ ?_ (fun hHeld => ?_)
      · exact ⟨bt hHeld.1 hB6, hHeld.2.below hB6 hHeld.2.lt⟩
      clear hK K
      try simp only [Act.put, List.setIfInBounds_toArray, List.set_cons_zero, List.set_cons_succ]
      refine take_lit (i := 9) (v := ?_) rfl (by kernel_rfl) (by kernel_rfl) (by kernel_rfl) (fun _ _ _ h => h) (Or.inl ⟨by rfl, ?_⟩) (by assumption) ?_
      rotate_left
      · (intro w hSw; (try dsimp only at hSw); go_simp <;> with_reducible rfl)
      try simp only [Act.put, List.setIfInBounds_toArray, List.set_cons_zero, List.set_cons_succ]
      refine wpAnyH_done (by kernel_rfl) ?_ _
      refine NoPanic.normal ?_
      go_wp2
      go_ret
      exact ⟨rfl, bt hB hHeld.1⟩
    exact AllReadyH.nil
end Go.Proofs.Ytacadlbhgelncaa

namespace Go.Proofs.Ytacadlbhgelncaa
open Go.RowKit Go.Maps
set_option linter.unusedSimpArgs false
set_option linter.unusedVariables false
set_option maxRecDepth 20000
def costO (o : Option Ng) (q : Option Fc) : Int := match o, q with | some n, some f => Lk.costZ f.k (rxN f n) n.tx | _, _ => 65535
def costT (F : List Fc) (L : List Ng) (i : Int) (c : Ad) : Int := costO (getN L i c) F[i.toNat]?
theorem rxN_ok (f : Fc) (n : Ng) (fo : f.ok) : 0 ≤ rxN f n ∧ rxN f n < 65536 := by
  have a := Lk.rxZ_ok f.k f.c n.m.b.toNat fo.c0 fo.c1
  have b := Lk.rxZ_ok f.k f.c n.u.b.toNat fo.c0 fo.c1
  show 0 ≤ min (min 65535 _) _ ∧ min (min 65535 _) _ < 65536
  omega
set_option maxHeartbeats 8000000 in
theorem cost_tab {w : World} {t mb : Nat} {most : Int} {F : List Fc} {L : List Ng} (h : Tb w t mb most F L) (i : Int) (c : Ad) (hi : wfI i) (hh : ∀ n, getN L i c = some n → n.hr = false) : Calls Try.prog 20 #[.pointer (some ⟨t, 0, none⟩), .int .i64 i, (Value.agg (acells c).toArray)] w (Gives w (.int .u16 (costT F L i c))) := by
  have hT : ∀ W, Below w.heap.size w W → Tb W t mb most F L := fun W hW => h.below hW
  have hGet := fun W hW => get_any (hT W hW) i c hi
  obtain ⟨G, hG⟩ : ∃ G, getN L i c = G := ⟨_, rfl⟩
  have HR : Hid (costT F L i c = costO G F[i.toNat]?) := by unfold costT; rw [hG]; exact rfl
  generalize costT F L i c = R at *
  rw [hG] at hGet
  have hgv : getV G = .tuple #[nV (G.getD zeroN), .bool G.isSome] := rfl
  rw [hgv] at hGet
  clear hgv
  go_enter Try.func20, Try.ntmps20
  go_upto_region 1 with fail
  have r0 := Row.new w 29 (acells c)
  refine name_world (R := fun W => Code.wp _ _ _ _ W) (P := fun W => Below w.heap.size w W ∧ Row W w.heap.size 29 (acells c)) _ ⟨ba _ _, r0⟩ ?_
  clear r0
  rintro X ⟨hB, r0⟩
  have hs := r0.lt
  replace hGet := hGet X hB
  cases G with
  | none =>
    obtain rfl : R = 65535 := HR.out
    dsimp only [Option.getD_none, Option.isSome_none] at hGet
    clear hT HR
    go_wp2_with (first
      | (have kk := r2; refine stN (.tmp 7) (.tmp 16) rfl rfl g2 zeroN _ rfl rfl r2 ?_; intro W3 g3 r3; have b3 := grown_below g3 b2 (Nat.le_trans b1.size hge2) b2.size; clear r2)
      | (have kk := b1; refine alG infoNz rfl rfl ?_; intro g2 W2 hge2 hgl2 hB2 r2; have b2 := bt b1 hB2)
      | (go_at_call 17; refine hGet.mono ?_; rintro e w1 ⟨rfl, b1⟩)
      | (refine ldA (.tmp 5) rfl rfl _ _ c rfl r0.range ?_))
    go_ret
    exact ⟨rfl, bt hB b3⟩
  | some n =>
    obtain ⟨j, f, rfl, hFj, hjF, no, fo⟩ := getN_if h hG
    obtain rfl : R = Lk.costZ f.k (rxN f n) n.tx := by
      have := HR.out
      simp only [Int.toNat_natCast, hFj] at this
      exact this
    have hRX := fun W => face_rx f n W fo no
    obtain ⟨fa, fc, hr, hfs⟩ := h.ex
    obtain ⟨fg, fq, rfl, hfg, hfr⟩ := hfs.rtt hFj
    have ht := hr.lt
    have HK : Hid (∀ W, Below w.heap.size w W → W.cell? ⟨t, 1, none⟩ = some (.slice (some ⟨fg, fq, none⟩) F.length fc) ∧ W.rangeAt fg (fq + j * 7) (fcs f)) := fun W hW => ⟨(hr.below hW ht).cell 1, rangeAt_below hfr hW hfg⟩
    have hjI : (j : Int) < (F.length : Int) := by omega
    dsimp only [Option.getD_some, Option.isSome_some] at hGet
    have hrx := rxN_ok f n fo
    have hCO := fun W => Lk.cost_any f.k (rxN f n) n.tx W hrx.1 hrx.2 no.tx0 no.tx1
    have hnr := hh n hG
    generalize rxN f n = R at *
    clear hT HR hr hfs hfr hFj hG
    go_upto_region 4 with (first
      | (have kk := r2; refine stN (.tmp 7) (.tmp 16) rfl rfl g2 n _ rfl rfl r2 ?_; intro W3 g3 r3; have b3 := grown_below g3 b2 (Nat.le_trans b1.size hge2) b2.size; clear r2)
      | (have kk := b1; refine alG infoNz rfl rfl ?_; intro g2 W2 hge2 hgl2 hB2 r2; have b2 := bt b1 hB2)
      | (go_at_call 17; refine hGet.mono ?_; rintro e w1 ⟨rfl, b1⟩)
      | (refine ldA (.tmp 5) rfl rfl _ _ c rfl r0.range ?_))
    have k1 := (HK.out _ (bt hB b3)).1
    have k2 := (HK.out _ (bt hB b3)).2
    have hgX : X.heap.size ≤ g2 := Nat.le_trans b1.size hge2
    have hg3 := r3.lt
    go_upto_region 5 with (first
      | (have kk := r4; refine stFc (.tmp 9) (.tmp 26) rfl rfl g4 f _ rfl rfl r4 ?_; intro W5 g5 r5; have b5 := grown_below g5 b4 hge4 b4.size; have q5 := q4.keep g5 hne4; clear r4)
      | (refine ldFc (.tmp 25) rfl rfl _ _ f rfl k2 ?_)
      | (refine alG infoFz rfl rfl ?_; intro g4 W4 hge4' hgl4 hB4 r4; have b4 := bt b3 hB4; have q4 := r3.below hB4 hg3; have hge4 : X.heap.size ≤ g4 := Nat.le_trans b3.size hge4'; have hne4 : g2 ≠ g4 := (by omega)))
    refine wp_region_noPanic ?_
    refine wp_region_held_drew (S := fun W => Below X.heap.size X W ∧ Row W g2 55 (ncs n) ∧ Row W g4 79 (fcs f)) (by kernel_rfl) (⟨b5.drew, q5.drew, r5.drew⟩) (fun hHeld => ?_)
    refine take_lit (i := 0) (v := ?_) rfl (by kernel_rfl) (by kernel_rfl) (by kernel_rfl) (fun _ _ _ h => h) (Or.inl ⟨by rfl, ?_⟩) (by assumption) ?_
    rotate_left
    · (intro w hSw; (try dsimp only at hSw); go_simp <;> with_reducible rfl)
    try simp only [Act.put, List.setIfInBounds_toArray, List.set_cons_zero, List.set_cons_succ]
    refine take_lit (i := 1) (v := ?_) rfl (by kernel_rfl) (by kernel_rfl) (by kernel_rfl) (fun _ _ _ h => h) (Or.inl ⟨by rfl, ?_⟩) (by assumption) ?_
    rotate_left
    · (intro w hSw; (try dsimp only at hSw); have z : w.cell? ⟨g4, 0, none⟩ = some (.int .i64 f.k) := hSw.2.2.cell 0; go_simp <;> with_reducible rfl)
    try simp only [Act.put, List.setIfInBounds_toArray, List.set_cons_zero, List.set_cons_succ]
    refine take_lit (i := 2) rfl (by kernel_rfl) (by kernel_rfl) (by kernel_rfl) (fun _ _ _ h => h) (yFc f (fun w h => h.2.2.range) (by rfl) rfl rfl) (by assumption) ?_
    try simp only [Act.put, List.setIfInBounds_toArray, List.set_cons_zero, List.set_cons_succ]
    refine take_lit (i := 3) rfl (by kernel_rfl) (by kernel_rfl) (by kernel_rfl) (fun _ _ _ h => h) (yN n (fun w h => h.2.1.range) (by rfl) rfl rfl) (by assumption) ?_
    try simp only [Act.put, List.setIfInBounds_toArray, List.set_cons_zero, List.set_cons_succ]
    refine take_lit (i := 5) (v := ?_) rfl (by kernel_rfl) (by kernel_rfl) (by kernel_rfl) (fun _ _ _ h => h) (Or.inl ⟨by rfl, ?_⟩) (by assumption) ?_
    rotate_left
    · (intro w hSw; (try dsimp only at hSw); go_simp <;> with_reducible rfl)
    try simp only [Act.put, List.setIfInBounds_toArray, List.set_cons_zero, List.set_cons_succ]
    refine take_lit (i := 6) (v := ?_) rfl (by kernel_rfl) (by kernel_rfl) (by kernel_rfl) (fun _ _ _ h => h) (Or.inl ⟨by rfl, ?_⟩) (by assumption) ?_
    rotate_left
    · (intro w hSw; (try dsimp only at hSw); have z : w.cell? ⟨g2, 27, none⟩ = some (.int .u16 n.tx) := (hSw.2.1.cell 27).trans (nc27 _); go_simp <;> with_reducible rfl)
    try simp only [Act.put, List.setIfInBounds_toArray, List.set_cons_zero, List.set_cons_succ]
    refine wpAnyH_ready (rs := [4]) (by kernel_rfl) (by simp) ?_
    refine cons_lit rfl (fun K hK => ?_) ?_
    · go_simp
      refine (hRX _).mono ?_
      rintro e w6 ⟨rfl, hB6⟩
      refine hK.out _ _ ?_ (fun hHeld => ?_)
      · exact ⟨bt hHeld.1 hB6, hHeld.2.1.below hB6 hHeld.2.1.lt, hHeld.2.2.below hB6 hHeld.2.2.lt⟩
      clear hK K
      try simp only [Act.put, List.setIfInBounds_toArray, List.set_cons_zero, List.set_cons_succ]
      refine wpAnyH_ready (rs := [7]) (by kernel_rfl) (by simp) ?_
      refine cons_lit rfl (fun K hK => ?_) ?_
      · go_simp
        refine (hCO _).mono ?_
        rintro e w7 ⟨rfl, rfl⟩
        refine hK.out _ _ ?_ (fun hHeld => ?_)
        · exact hHeld
        clear hK K
        try simp only [Act.put, List.setIfInBounds_toArray, List.set_cons_zero, List.set_cons_succ]
        refine take_lit (i := 8) (v := ?_) rfl (by kernel_rfl) (by kernel_rfl) (by kernel_rfl) (fun _ _ _ h => h) (Or.inl ⟨by rfl, ?_⟩) (by assumption) ?_
        rotate_left
        · (intro w hSw; (try dsimp only at hSw); go_simp <;> with_reducible rfl)
        try simp only [Act.put, List.setIfInBounds_toArray, List.set_cons_zero, List.set_cons_succ]
        refine wpAnyH_done (by kernel_rfl) ?_ _
        refine NoPanic.normal ?_
        have c33 := (hHeld.2.1.cell 33).trans (nc33 _)
        rw [hnr] at c33
        go_wp2_with fail
        go_ret
        exact ⟨rfl, bt hB hHeld.1⟩
      exact AllReadyH.nil
    exact AllReadyH.nil
end Go.Proofs.Ytacadlbhgelncaa

namespace Go.Proofs.Ytacadlbhgelncaa
open Go.RowKit Go.Maps
set_option linter.unusedSimpArgs false
set_option linter.unusedVariables false
set_option maxRecDepth 20000
/-- A kind of elements: how they lie in memory. -/
structure Kd (α : Type) where
  enc : α → List Value
  T : TypeId
  ST : TypeId
  s : Nat
  by_ : Nat
  z : List Value
  len : ∀ x, (enc x).length = s
  one : ∀ x, ∀ u ∈ enc x, u.oneCell' = true
  und : Try.prog.underlying ST = some (.slice T)
  info : (Try.prog.info? T).map (fun i => (i.zero, i.size, i.bytes)) = some (some (.agg z.toArray), s, by_)
  zl : z.length = s
  sp : 0 < s
  bl : by_ ≤ 1000
variable {α : Type}
def Kd.cs (k : Kd α) (l : List α) : List Value := l.flatMap k.enc
theorem Kd.cs_append (k : Kd α) (l m : List α) : k.cs (l ++ m) = k.cs l ++ k.cs m := by simp [Kd.cs]
theorem Kd.cs_get (k : Kd α) : ∀ (l : List α) (j : Nat) (p : α), l[j]? = some p → ∀ i, i < k.s → (k.cs l)[j * k.s + i]? = (k.enc p)[i]?
  | [], j, p, h, _, _ => by simp at h
  | q :: l, 0, p, h, i, hi => by
    simp at h
    subst h
    have e : k.cs (q :: l) = k.enc q ++ k.cs l := by simp [Kd.cs]
    rw [e, List.getElem?_append_left (by rw [k.len]; omega)]
    simp
  | q :: l, j + 1, p, h, i, hi => by
    have e : k.cs (q :: l) = k.enc q ++ k.cs l := by simp [Kd.cs]
    rw [e, List.getElem?_append_right (by rw [k.len, Nat.add_mul]; omega)]
    have e2 : (j + 1) * k.s + i - (k.enc q).length = j * k.s + i := by rw [k.len, Nat.add_mul]; omega
    rw [e2]
    exact Kd.cs_get k l j p (by simpa using h) i hi
theorem info_parts {t : TypeId} {z : Value} {s b : Nat} (h : (Try.prog.info? t).map (fun i => (i.zero, i.size, i.bytes)) = some (some z, s, b)) : ∃ i, Try.prog.info? t = some i ∧ i.zero = some z ∧ i.size = s ∧ i.bytes = b := by
  cases hq : Try.prog.info? t with
  | none => simp [hq] at h
  | some i => simp [hq] at h; exact ⟨i, rfl, h.1, h.2.1, h.2.2⟩
theorem own_below {W W' : World} {B t s k : Nat} {xs : List Value} {v : Value} (ho : W.ownsRow B t s v k xs) (hb : Below W.heap.size W W') : W'.ownsRow B t s v k xs :=
  ho.kept (row := none) ⟨hb.os, hb.tape, hb.output, hb.size, fun i hi _ => hb.block i hi⟩ (by cases v.ownBlock <;> simp)
/-- A slice that is a row of the call's own, of these elements. -/
def Kd.Own (k : Kd α) (w : World) (B : Nat) (v : Value) (l : List α) : Prop := w.ownsRow B k.T k.s v l.length (k.cs l)
theorem Kd.own_at {k : Kd α} {w : World} {B : Nat} {v : Value} {l : List α} (h : k.Own w B v l) : ∃ ad c, v = .slice ad l.length c ∧ (l ≠ [] → ∃ g, ad = some ⟨g, 0, none⟩ ∧ B ≤ g ∧ g < w.heap.size ∧ (∃ cs f, w.heap[g]? = some (.cells cs k.T f)) ∧ ∀ (j : Nat) (p : α), l[j]? = some p → w.rangeAt g (j * k.s) (k.enc p)) := by
  rcases h.2 with ⟨rfl, h1⟩ | ⟨g, cap, cur, e, hB, hh, _⟩
  · refine ⟨none, 0, by rw [h1], fun hn => absurd (List.eq_nil_of_length_eq_zero h1) hn⟩
  · refine ⟨some ⟨g, 0, none⟩, cap, e, fun _ => ⟨g, rfl, hB, (Array.getElem?_eq_some_iff.1 hh).1, ⟨_, _, hh⟩, fun j p hp i u hu => ?_⟩⟩
    have hi : i < k.s := by have := (List.getElem?_eq_some_iff.1 hu).1; rwa [k.len] at this
    have h2 := World.ownsRow.cells (g := g) h (by rw [e]; rfl) (j * k.s + i) u (by rw [k.cs_get l j p hp i hi]; exact hu)
    rw [Addr.add_mid, Nat.zero_add] at h2
    exact h2
section
variable {w : World} {ops : Array Oper} {rest : List Oper} {o : Oper} {a : Act} {Q : Exit → Act → World → Prop} {K : Act → World → Prop} {E : Prop}
theorem Kd.wp_append (k : Kd α) (s x : Operand) (ho : o.op = .call { callee := .builtin .append, args := #[s, x], argTypes := #[k.ST, k.ST] })
    (B : Nat) (v : Value) (l : List α) (hs : a.eval s = v) (hown : k.Own w B v l) (g c : Nat) (p : α) (hx : a.eval x = .slice (some ⟨g, 0, none⟩) 1 c) (hr : Row w g k.T (k.enc p)) (hl : l.length ≤ 10000000) (hB : B ≤ w.heap.size)
    (h : ∀ v' w', k.Own w' B v' (l ++ [p]) → w.grownBy w' v.ownBlock → K (a.put o.dst v') w') : Oper.wp Try.prog o a w K Q := by
  obtain ⟨i0, hi, hz0, hz1, hz2⟩ := info_parts k.info
  have hb : (l.length + 1) * k.by_ ≤ (l.length + 1) * 1000 := Nat.mul_le_mul_left _ k.bl
  refine wp_append_own w s x k.ST ho B k.T i0 (.agg k.z.toArray) k.s k.by_ k.und hi hz0 hz1 hz2 (by simp [Value.cells, k.zl]) k.sp v l.length (k.cs l) hs hown ⟨g, 0, none⟩ 1 c (k.enc p) hx (by rw [k.len]; omega) (fun j u hu => ?_) (k.one p) (by unfold maxLen; omega) (by omega) hB (fun v' w' h1 h2 _ => h v' w' ?_ h2)
  · rw [Addr.add_mid, Nat.zero_add]
    rw [hr.cell]; exact hu
  · unfold Kd.Own
    rw [k.cs_append, List.length_append]
    have e : k.cs [p] = k.enc p := by simp [Kd.cs]
    rw [e]
    exact h1
theorem Kd.append (k : Kd α) (s x : Operand) (hw : Region.wanted o (yielded ops a.tmps) = true) (ho : o.op = .call { callee := .builtin .append, args := #[s, x], argTypes := #[k.ST, k.ST] })
    (B : Nat) (v : Value) (l : List α) (hs : a.eval s = v) (hown : k.Own w B v l) (g c : Nat) (p : α) (hx : a.eval x = .slice (some ⟨g, 0, none⟩) 1 c) (hr : Row w g k.T (k.enc p)) (hl : l.length ≤ 10000000) (hB : B ≤ w.heap.size)
    (h : ∀ v' w', k.Own w' B v' (l ++ [p]) → w.grownBy w' v.ownBlock → wpList Try.prog ops Q rest (a.put o.dst v') w') : wpList Try.prog ops Q (o :: rest) a w :=
  wpList_step fun K hK => by
    rw [if_pos hw]
    exact k.wp_append s x ho B v l hs hown g c p hx hr hl hB fun v' w' h1 h2 => hK _ _ (h v' w' h1 h2)
theorem Kd.sAppend (k : Kd α) (s x : Operand) (hw : Region.wanted o (yielded ops a.tmps) = true) (ho : o.op = .call { callee := .builtin .append, args := #[s, x], argTypes := #[k.ST, k.ST] })
    (B : Nat) (v : Value) (l : List α) (hs : a.eval s = v) (hown : k.Own w B v l) (g c : Nat) (p : α) (hx : a.eval x = .slice (some ⟨g, 0, none⟩) 1 c) (hr : Row w g k.T (k.enc p)) (hl : l.length ≤ 10000000) (hB : B ≤ w.heap.size)
    (h : ∀ v' w', k.Own w' B v' (l ++ [p]) → w.grownBy w' v.ownBlock → K (a.put o.dst v') w') : if Region.wanted o (yielded ops a.tmps) = true then Oper.wp Try.prog o a w K Q else E := by
  rw [if_pos hw]
  exact k.wp_append s x ho B v l hs hown g c p hx hr hl hB h
theorem sBsG {T U : TypeId} {n : Nat} (parts : List (Nat × Operand)) (Z : List Value) (hw : Region.wanted o (yielded ops a.tmps) = true) (ho : o.op = .buildSlice T n parts.toArray)
    (hrun : ∀ w, (Instr.buildSlice T n (parts.map fun p => (p.1, a.eval p.2)).toArray).run Try.prog w = .ok (.slice (some ⟨w.heap.size, 0, none⟩) n n) (w.alloc (.cells Z.toArray U)))
    (h : ∀ W, Row W w.heap.size U Z → Below w.heap.size w W → K (a.put o.dst (.slice (some ⟨w.heap.size, 0, none⟩) n n)) W) : if Region.wanted o (yielded ops a.tmps) = true then Oper.wp Try.prog o a w K Q else E := by
  rw [if_pos hw]
  exact wp_bsG parts Z ho hrun h
end
def kF : Kd Fc := ⟨fcs, 79, 75, 7, 56, fcs zeroF, fun _ => rfl, fcs_one, Try.underlying75, by kernel_rfl, rfl, by decide, by decide⟩
def kN : Kd Ng := ⟨ncs, 55, 44, 34, 128, ncs zeroN, ncs_len, ncs_one, Try.underlying44, by kernel_rfl, ncs_len _, by decide, by decide⟩
theorem bsF1 (f : Fc) (w : World) : (Instr.buildSlice 75 1 #[(0, .agg (fcs f).toArray)]).run Try.prog w = .ok (.slice (some ⟨w.heap.size, 0, none⟩) 1 1) (w.alloc (.cells (fcs f).toArray 79)) := by kernel_rfl
theorem bsN1 (n : Ng) (w : World) : (Instr.buildSlice 44 1 #[(0, nV n)]).run Try.prog w = .ok (.slice (some ⟨w.heap.size, 0, none⟩) 1 1) (w.alloc (.cells (ncs n).toArray 55)) := by
  obtain ⟨i, ⟨l, hl⟩, m, u, mg, ug, ma, ua, tx, ta, se, he, hs, rt, hr⟩ := n
  match l, hl with
  | [b0, b1, b2, b3, b4, b5, b6, b7, b8, b9, b10, b11, b12, b13, b14, b15], _ =>
    show _ = _
    kernel_rfl
end Go.Proofs.Ytacadlbhgelncaa

namespace Go.Proofs.Ytacadlbhgelncaa
open Go.RowKit Go.Maps
set_option linter.unusedSimpArgs false
set_option linter.unusedVariables false
set_option maxRecDepth 20000
/-- An interface as it is configured. -/
structure Ic where
  nm : ByteArray
  k : Int
  c : Int
  he : Int
  up : Int
  mt : Int
  a : Ad
  a4 : Ad
  r : Rt
def ihd (i : Ic) : List Value := [.string i.nm, .int .i64 i.k, .int .i64 i.c, .int .i64 i.he, .int .i64 i.up, .int .i64 i.mt]
def ics (i : Ic) : List Value := ihd i ++ (acells i.a ++ (acells i.a4 ++ rcs i.r))
theorem ics_len (i : Ic) : (ics i).length = 43 := by simp [ics, ihd, acells_len, rcs]
theorem ics_one (i : Ic) : ∀ u ∈ ics i, u.oneCell' = true := by
  intro u hu
  simp only [ics, List.mem_append] at hu
  rcases hu with h | h | h | h
  · simp [ihd] at h
    rcases h with rfl | rfl | rfl | rfl | rfl | rfl <;> rfl
  · exact acells_one _ u h
  · exact acells_one _ u h
  · simp [rcs] at h
    rcases h with rfl | rfl | rfl | rfl | rfl <;> rfl
def zeroC : Ic := ⟨ByteArray.empty, 0, 0, 0, 0, 0, zeroA, zeroA, ⟨false, 0, 0, 0, 0⟩⟩
theorem infoCs : (Try.prog.info? 66).map (·.size) = some 43 := by kernel_rfl
theorem infoCz : (Try.prog.info? 66).map (·.zero) = some (some (.agg (ics zeroC).toArray)) := by kernel_rfl
theorem ics_rtt {w : World} {g o : Nat} {i : Ic} (h : w.rangeAt g o (ics i)) : w.rangeAt g (o + 38) (rcs i.r) := by
  have h1 : w.rangeAt g o ((ihd i ++ (acells i.a ++ acells i.a4)) ++ rcs i.r) := by simpa [ics] using h
  exact rangeAt_right h1 (by simp [ihd, acells_len])
theorem Row.rtt38 {w : World} {g : Nat} {t : TypeId} {i : Ic} (h : Row w g t (ics i)) : w.rangeAt g 38 (rcs i.r) := by
  have := ics_rtt h.range
  rwa [Nat.zero_add] at this
section
variable {ops : Array Oper} {rest : List Oper} {op : Oper} {a : Act} {w : World} {Q : Exit → Act → World → Prop} {K : Act → World → Prop} {E : Prop} {S : World → Prop}
theorem ldC (x : Operand) (hw : Region.wanted op (yielded ops a.tmps) = true) (ho : op.op = .load 66 x) (b o : Nat) (n : Ic) (hx : a.eval x = .pointer (some ⟨b, o, none⟩)) (hc : w.rangeAt b o (ics n))
    (h : wpList Try.prog ops Q rest (a.put op.dst (.agg (ics n).toArray)) w) : wpList Try.prog ops Q (op :: rest) a w :=
  wpList_step fun K hK => by
    rw [if_pos hw]
    exact wp_load_mid _ x ho b o hx (ics n) _ hc Try.underlying66 rfl (by rw [infoCs, ics_len]) (hK _ _ h)
theorem stC (x y : Operand) (hw : Region.wanted op (yielded ops a.tmps) = true) (ho : op.op = .store 66 x y) (b : Nat) (n u : Ic) (hx : a.eval x = .pointer (some ⟨b, 0, none⟩)) (hy : a.eval y = .agg (ics n).toArray) (hr : Row w b 66 (ics u))
    (h : ∀ W, w.grownBy W (some b) → Row W b 66 (ics n) → wpList Try.prog ops Q rest (a.put op.dst undef) W) : wpList Try.prog ops Q (op :: rest) a w :=
  wpList_step fun K hK => by
    rw [if_pos hw]
    refine wp_store_mid _ x y ho b 0 _ hx hy (by simpa [ics_len] using hr.there (n := 43) (by rw [ics_len]; omega)) (by rw [infoCs]; simp [ics_len]) (all_oneCell_toArray (ics_one n)) (hK _ _ (h _ (grownBy_setCells b _ _ _) ?_))
    have := Row.setCells (ics n) [] w (ics u) hr (by rw [ics_len, ics_len])
    simpa using this
theorem sStS (x y : Operand) (hw : Region.wanted op (yielded ops a.tmps) = true) (ho : op.op = .store 75 x y) (b c : Nat) {U : TypeId} (cs : List Value) (ad : Option Addr) (n m : Nat) (hx : a.eval x = .pointer (some ⟨b, c, none⟩)) (hy : a.eval y = .slice ad n m) (hr : Row w b U cs) (hc : c < cs.length)
    (h : ∀ W, w.grownBy W (some b) → Row W b U (cs.set c (.slice ad n m)) → K (a.put op.dst undef) W) : if Region.wanted op (yielded ops a.tmps) = true then Oper.wp Try.prog op a w K Q else E := by
  rw [if_pos hw]
  have c1 : w.cell? ⟨b, c, none⟩ = some cs[c] := by rw [hr.cell]; exact List.getElem?_eq_getElem hc
  have c2 := hr.frozen c
  have h1 := h _ (grownBy_setCell w b c (.slice ad n m)) (hr.set c (.slice ad n m))
  unfold Oper.wp execOp
  simp only [ho, hx, hy]
  go_simp
  exact h1
end
theorem lvC {w : World} {g : Nat} {n : Ic} (h : Row w g 66 (ics n)) : (loadVar 66 ⟨g, 0, none⟩).run Try.prog w = .ok (.agg (ics n).toArray) w :=
  run_loadVar_mid w g 0 _ (ics n) _ h.range Try.underlying66 rfl (by rw [infoCs, ics_len])
/-- Interfaces in memory. -/
structure CsW (w : World) (ad : Option Addr) (l : List Ic) : Prop where
  lies : l = [] ∨ ∃ g o, ad = some ⟨g, o, none⟩ ∧ g < w.heap.size ∧ ∀ (j : Nat) (p : Ic), l[j]? = some p → w.rangeAt g (o + j * 43) (ics p)
theorem CsW.below {w w' : World} {ad : Option Addr} {l : List Ic} (h : CsW w ad l) (hb : Below w.heap.size w w') : CsW w' ad l :=
  ⟨h.lies.imp id fun ⟨g, o, e, hg, hl⟩ => ⟨g, o, e, Nat.lt_of_lt_of_le hg hb.size, fun j p hp => rangeAt_below (hl j p hp) hb hg⟩⟩
def faceI (i : Ic) : Fc := ⟨i.k, IntKind.u16.wrap i.c, i.r⟩
theorem bdFc (f : Fc) (w : World) : (Instr.build 79 #[(0, .int .i64 f.k), (1, .int .u16 f.c), (2, rtV f.r)]).run Try.prog w = .ok (.agg (fcs f).toArray) w := by kernel_rfl
theorem run_mkM (w : World) : (Instr.makeMap 74 none).run Try.prog w = .ok (.map (some w.heap.size)) (w.alloc (.map #[] 0)) := by kernel_rfl
theorem own_ne_row {w : World} {B : Nat} {T T' : TypeId} {sz : Nat} {v : Value} {n : Nat} {xs : List Value} {g : Nat} {cs : List Value} (h : w.ownsRow B T sz v n xs) (hr : Row w g T' cs) (hT : T ≠ T') : v.ownBlock ≠ some g := by
  rcases h.2 with ⟨rfl, _⟩ | ⟨g', cap, cur, rfl, _, hh, _⟩
  · simp [Value.ownBlock]
  · intro e
    simp [Value.ownBlock] at e
    subst e
    unfold Row at hr
    rw [hh] at hr
    cases hr
    exact hT rfl
theorem own_ne_lt {w : World} {B : Nat} {T : TypeId} {sz : Nat} {v : Value} {n : Nat} {xs : List Value} {g : Nat} (h : w.ownsRow B T sz v n xs) (hg : g < B) : v.ownBlock ≠ some g := by
  rcases h.2 with ⟨rfl, _⟩ | ⟨g', cap, cur, rfl, hB, hh, _⟩
  · simp [Value.ownBlock]
  · intro e
    simp [Value.ownBlock] at e
    omega
theorem Row.keepO {w w' : World} {o : Option Nat} {g : Nat} {t : TypeId} {cs : List Value} (h : Row w g t cs) (hg : w.grownBy w' o) (hne : o ≠ some g) : Row w' g t cs :=
  (hg.block g h.lt (fun e => hne e.symm)).trans h
theorem Mp.keepO {w w' : World} {mb : Nat} {o : Option Nat} {L : List Ng} (h : Mp w mb L) (hg : w.grownBy w' o) (hne : o ≠ some mb) : Mp w' mb L := h.same (hg.block mb h.lt (fun e => hne e.symm))
theorem below_keepO {w0 w w' : World} {o : Option Nat} {B : Nat} (hb : Below B w0 w) (hg : w.grownBy w' o) (hne : ∀ g, g < B → o ≠ some g) (hs : B ≤ w.heap.size) : Below B w0 w' :=
  ⟨hg.os.trans hb.os, hg.tape.trans hb.tape, hg.output.trans hb.output, Nat.le_trans hb.size hg.size, fun k hk => (hg.block k (by omega) (fun e => hne k hk e.symm)).trans (hb.block k hk)⟩
structure Newd (w : World) (w' : World) (t mb : Nat) (most : Int) (fa : Value) (F : List Fc) : Prop where
  row : Row w' t 77 [.int .i64 most, fa, .map (some mb)]
  fs : kF.Own w' (w.heap.size + 2) fa F
  map : Mp w' mb []
  bl : Below w.heap.size w w'
set_option maxHeartbeats 8000000 in
theorem new_any (most : Int) (ad : Option Addr) (c : Nat) (l : List Ic) (w : World) (hl : CsW w ad l) (hn : l.length ≤ 1000000) :
    Calls Try.prog 10 #[.int .i64 most, .slice ad l.length c] w fun e w' => ∃ t mb fa, e = .returned (.pointer (some ⟨t, 0, none⟩)) ∧ w.heap.size ≤ t ∧ w.heap.size ≤ mb ∧ Newd w w' t mb most fa (l.map faceI) := by
  have hmk := run_mkM w
  go_enter Try.func10, Try.ntmps10
  go_upto_region 2 with fail
  have x0 : Newd w ((w.alloc (.map #[] 0)).alloc (.cells #[.int .i64 most, .slice none 0 0, .map (some w.heap.size)] 77)) (w.heap.size + 1) w.heap.size most (.slice none 0 0) [] := by
    refine ⟨?_, World.ownsRow_nil _ _ _ _, (Mp.new w).below (ba _ _) (by simp), bt (ba _ _) (ba _ _)⟩
    have := Row.new (w.alloc (.map #[] 0)) 77 [.int .i64 most, .slice none 0 0, .map (some w.heap.size)]
    simpa using this
  refine name_world (R := fun W => Code.wp _ _ _ _ W) (P := fun W => Newd w W (w.heap.size + 1) w.heap.size most (.slice none 0 0) []) _ x0 ?_
  clear x0 hmk
  intro X x0
  go_wp2_with fail
  go_loopw [14] (fun i wr => ∃ j : Nat, j ≤ l.length ∧ i = .int .i64 j ∧ ∃ fa, Newd w wr (w.heap.size + 1) w.heap.size most fa ((l.take j).map faceI)) (fun i _ => l.length - (intOf i).toNat)
  case atStart => exact ⟨0, Nat.zero_le _, rfl, _, x0⟩
  case round =>
    obtain ⟨j, hj, rfl, fa, hN⟩ := hrel
    by_cases hlt : j < l.length
    · have hlW := hl.below hN.bl
      rcases hlW.lies with h0 | ⟨g, o, rfl, hg, hc⟩
      · rw [h0] at hlt; simp at hlt
      have hq := hc j l[j] (List.getElem?_eq_getElem hlt)
      have HS : Hid ((l.take (j + 1)).map faceI = (l.take j).map faceI ++ [faceI l[j]]) := by
        show _ = _
        rw [List.take_succ_eq_append_getElem hlt, List.map_append]; rfl
      have HL : Hid (((l.take j).map faceI).length ≤ 10000000) := by show _ ≤ _; simp; omega
      have hji : (j : Int) < (l.length : Int) := by omega
      generalize l[j] = p at *
      generalize (l.take j).map faceI = F at *
      clear hc hlW hl
      go_upto_region 5 with (first
        | (have kk := r2; refine stC (.tmp 7) (.tmp 17) rfl rfl g2 p _ rfl rfl r2 ?_; intro W3 g3 r3)
        | (refine alG infoCz rfl rfl ?_; intro g2 W2 hge2 hgl2 hB2 r2)
        | (refine ldC (.tmp 16) rfl rfl _ _ p rfl hq ?_))
      have b3 := grown_below g3 hB2 hge2 hB2.size
      have hw2 : w.heap.size + 1 < wr.heap.size := hN.row.lt
      have hw1 : w.heap.size < wr.heap.size := hN.map.lt
      have t3 := hN.row.below b3 hw2
      have m3 := hN.map.below b3 hw1
      have o3 : kF.Own W3 (w.heap.size + 2) fa F := own_below hN.fs b3
      have bw3 : Below w.heap.size w W3 := bt hN.bl b3
      have k1 : (ics p)[1]? = some (.int .i64 p.k) := rfl
      have k2 : (ics p)[2]? = some (.int .i64 p.c) := rfl
      have hf : Hid (faceI p = ⟨p.k, IntKind.u16.wrap p.c, p.r⟩) := rfl
      have HS3 : Hid (w.heap.size + 2 ≤ W3.heap.size) := by show _ ≤ _; have := b3.size; omega
      obtain ⟨fad, fcp, hfa, _⟩ := Kd.own_at o3
      subst hfa
      clear hN hB2 g3 r2 x0
      refine wp_region_noPanic ?_
      refine wp_region_N (S := fun W => Row W (w.heap.size + 1) 77 [.int .i64 most, .slice fad F.length fcp, .map (some w.heap.size)] ∧ Row W g2 66 (ics p) ∧ Mp W w.heap.size [] ∧ Below w.heap.size w W ∧ w.heap.size + 2 ≤ W.heap.size) 17 (by kernel_rfl) (⟨t3.drew, r3.drew, m3.same rfl, bw3.drew, HS3.out⟩) (fun hHeld => ?_)
      refine takeN_lit (i := 0) (v := ?_) (F := #[false, true, true, true, true, true, true, true, true, true, true, true, true, true, true, false, false, false]) rfl (by kernel_rfl) (by kernel_rfl) (by kernel_rfl) (by kernel_rfl) (fun _ _ _ h => h) (Or.inl ⟨by rfl, ?_⟩) (by assumption) ?_
      rotate_left
      · (intro w hSw; (try dsimp only at hSw); go_simp <;> with_reducible rfl)
      try simp only [Act.put, List.setIfInBounds_toArray, List.set_cons_zero, List.set_cons_succ]
      refine takeN_lit (i := 1) (v := ?_) (F := #[true, false, false, false, false, true, true, true, true, true, true, true, true, true, false, false, false, false]) rfl (by kernel_rfl) (by kernel_rfl) (by kernel_rfl) (by kernel_rfl) (fun _ _ _ h => h) (Or.inl ⟨by rfl, ?_⟩) (by assumption) ?_
      rotate_left
      · (intro w hSw; (try dsimp only at hSw); go_simp <;> with_reducible rfl)
      try simp only [Act.put, List.setIfInBounds_toArray, List.set_cons_zero, List.set_cons_succ]
      refine takeN_lit (i := 2) (v := ?_) (F := #[true, true, false, false, false, true, true, true, true, true, true, true, true, true, false, false, false, false]) rfl (by kernel_rfl) (by kernel_rfl) (by kernel_rfl) (by kernel_rfl) (fun _ _ _ h => h) (Or.inl ⟨by rfl, ?_⟩) (by assumption) ?_
      rotate_left
      · (intro w hSw; (try dsimp only at hSw); go_simp <;> with_reducible rfl)
      try simp only [Act.put, List.setIfInBounds_toArray, List.set_cons_zero, List.set_cons_succ]
      refine takeN_lit (i := 3) (v := ?_) (F := #[true, true, true, false, false, true, true, true, true, true, true, true, true, true, false, false, false, false]) rfl (by kernel_rfl) (by kernel_rfl) (by kernel_rfl) (by kernel_rfl) (fun _ _ _ h => h) (Or.inl ⟨by rfl, ?_⟩) (by assumption) ?_
      rotate_left
      · (intro w hSw; (try dsimp only at hSw); go_simp <;> with_reducible rfl)
      try simp only [Act.put, List.setIfInBounds_toArray, List.set_cons_zero, List.set_cons_succ]
      refine takeN_lit (i := 4) (v := ?_) (F := #[true, true, true, true, false, true, true, true, true, true, true, true, true, true, false, false, false, false]) rfl (by kernel_rfl) (by kernel_rfl) (by kernel_rfl) (by kernel_rfl) (fun _ _ _ h => h) (Or.inl ⟨by rfl, ?_⟩) (by assumption) ?_
      rotate_left
      · (intro w hSw; (try dsimp only at hSw); have z : w.cell? _ = some (.slice fad F.length fcp) := hSw.1.cell 1; go_simp <;> with_reducible rfl)
      try simp only [Act.put, List.setIfInBounds_toArray, List.set_cons_zero, List.set_cons_succ]
      refine takeN_lit (i := 5) (v := ?_) (F := #[true, true, true, true, true, false, false, true, true, true, true, true, false, false, false, false, false, false]) rfl (by kernel_rfl) (by kernel_rfl) (by kernel_rfl) (by kernel_rfl) (fun _ _ _ h => h) (Or.inl ⟨by rfl, ?_⟩) (by assumption) ?_
      rotate_left
      · (intro w hSw; (try dsimp only at hSw); go_simp <;> with_reducible rfl)
      try simp only [Act.put, List.setIfInBounds_toArray, List.set_cons_zero, List.set_cons_succ]
      refine takeN_lit (i := 6) (v := ?_) (F := #[true, true, true, true, true, true, false, true, true, true, true, true, false, false, false, false, false, false]) rfl (by kernel_rfl) (by kernel_rfl) (by kernel_rfl) (by kernel_rfl) (fun _ _ _ h => h) (Or.inl ⟨by rfl, ?_⟩) (by assumption) ?_
      rotate_left
      · (intro w hSw; (try dsimp only at hSw); have z := (hSw.2.1.cell 1).trans k1; go_simp <;> with_reducible rfl)
      try simp only [Act.put, List.setIfInBounds_toArray, List.set_cons_zero, List.set_cons_succ]
      refine takeN_lit (i := 7) (v := ?_) (F := #[true, true, true, true, true, true, true, false, false, false, true, true, false, false, false, false, false, false]) rfl (by kernel_rfl) (by kernel_rfl) (by kernel_rfl) (by kernel_rfl) (fun _ _ _ h => h) (Or.inl ⟨by rfl, ?_⟩) (by assumption) ?_
      rotate_left
      · (intro w hSw; (try dsimp only at hSw); go_simp <;> with_reducible rfl)
      try simp only [Act.put, List.setIfInBounds_toArray, List.set_cons_zero, List.set_cons_succ]
      refine takeN_lit (i := 8) (v := ?_) (F := #[true, true, true, true, true, true, true, true, false, false, true, true, false, false, false, false, false, false]) rfl (by kernel_rfl) (by kernel_rfl) (by kernel_rfl) (by kernel_rfl) (fun _ _ _ h => h) (Or.inl ⟨by rfl, ?_⟩) (by assumption) ?_
      rotate_left
      · (intro w hSw; (try dsimp only at hSw); have z := (hSw.2.1.cell 2).trans k2; go_simp <;> with_reducible rfl)
      try simp only [Act.put, List.setIfInBounds_toArray, List.set_cons_zero, List.set_cons_succ]
      refine takeN_lit (i := 9) (v := ?_) (F := #[true, true, true, true, true, true, true, true, true, false, true, true, false, false, false, false, false, false]) rfl (by kernel_rfl) (by kernel_rfl) (by kernel_rfl) (by kernel_rfl) (fun _ _ _ h => h) (Or.inl ⟨by rfl, ?_⟩) (by assumption) ?_
      rotate_left
      · (intro w hSw; (try dsimp only at hSw); go_simp <;> with_reducible rfl)
      try simp only [Act.put, List.setIfInBounds_toArray, List.set_cons_zero, List.set_cons_succ]
      refine takeN_lit (i := 10) (v := ?_) (F := #[true, true, true, true, true, true, true, true, true, true, false, false, false, false, false, false, false, false]) rfl (by kernel_rfl) (by kernel_rfl) (by kernel_rfl) (by kernel_rfl) (fun _ _ _ h => h) (Or.inl ⟨by rfl, ?_⟩) (by assumption) ?_
      rotate_left
      · (intro w hSw; (try dsimp only at hSw); go_simp <;> with_reducible rfl)
      try simp only [Act.put, List.setIfInBounds_toArray, List.set_cons_zero, List.set_cons_succ]
      refine takeN_lit (i := 11) (F := #[true, true, true, true, true, true, true, true, true, true, true, false, false, false, false, false, false, false]) rfl (by kernel_rfl) (by kernel_rfl) (by kernel_rfl) (by kernel_rfl) (fun _ _ _ h => h) (yRt (b := g2) (o := 38) p.r (fun w h => h.2.1.rtt38) (by rfl) rfl rfl) (by assumption) ?_
      try simp only [Act.put, List.setIfInBounds_toArray, List.set_cons_zero, List.set_cons_succ]
      refine takeN_lit (i := 12) (F := #[true, true, true, true, true, true, true, true, true, true, true, true, false, false, false, false, false, false]) rfl (by kernel_rfl) (by kernel_rfl) (by kernel_rfl) (by kernel_rfl) (fun _ _ _ h => h) (yB (v := .agg (fcs ⟨p.k, IntKind.u16.wrap p.c, p.r⟩).toArray) [(0, .tmp 24), (1, .tmp 27), (2, .tmp 29)] (by rfl) rfl (fun w => bdFc ⟨p.k, IntKind.u16.wrap p.c, p.r⟩ w)) (by assumption) ?_
      try simp only [Act.put, List.setIfInBounds_toArray, List.set_cons_zero, List.set_cons_succ]
      refine wpAnyN_ready (rs := [13]) (by kernel_rfl) (by simp) ?_
      refine consN_lit rfl (fun K hK => ?_) ?_
      · skip
        refine sBsG (T := 75) (U := 79) [(0, .tmp 30)] (fcs ⟨p.k, IntKind.u16.wrap p.c, p.r⟩) (by rfl) rfl (fun w => bsF1 _ w) ?_
        intro W4 r4 b4
        refine hK.out _ _ (Or.inr ?_) (fun hHeld => ?_)
        · exact ⟨hHeld.1.below b4 hHeld.1.lt, hHeld.2.1.below b4 hHeld.2.1.lt, hHeld.2.2.1.below b4 hHeld.2.2.1.lt, bt hHeld.2.2.2.1 b4, Nat.le_trans hHeld.2.2.2.2 b4.size⟩
        replace hHeld := hHeld.resolve_left (by decide)
        clear hK K
        try simp only [Act.put, List.setIfInBounds_toArray, List.set_cons_zero, List.set_cons_succ]
        refine wpAnyN_ready (rs := [14]) (by kernel_rfl) (by simp) ?_
        refine consN_lit rfl (fun K hK => ?_) ?_
        · skip
          have o4 : kF.Own W4 (w.heap.size + 2) (.slice fad F.length fcp) F := own_below (W := W3.drew) o3 b4
          refine kF.sAppend (.tmp 22) (.tmp 31) (by rfl) rfl (w.heap.size + 2) (.slice fad F.length fcp) F rfl o4 _ 1 ⟨p.k, IntKind.u16.wrap p.c, p.r⟩ rfl r4 HL.out hHeld.2.2.2.2 ?_
          intro v5 W5 o5 g5
          refine hK.out _ _ (Or.inr ?_) (fun hHeld => ?_)
          · exact ⟨hHeld.1.keepO g5 (own_ne_lt o4 (by omega)), hHeld.2.1.keepO g5 (own_ne_row o4 hHeld.2.1 (by decide)), hHeld.2.2.1.keepO g5 (own_ne_lt o4 (by omega)), below_keepO hHeld.2.2.2.1 g5 (fun g hg => own_ne_lt o4 (by omega)) (by omega), Nat.le_trans hHeld.2.2.2.2 g5.size⟩
          replace hHeld := hHeld.resolve_left (by decide)
          clear hK K
          try simp only [Act.put, List.setIfInBounds_toArray, List.set_cons_zero, List.set_cons_succ]
          refine takeN_lit (i := 15) (v := ?_) (F := #[true, true, true, true, true, true, true, true, true, true, true, true, true, true, true, false, false, false]) rfl (by kernel_rfl) (by kernel_rfl) (by kernel_rfl) (by kernel_rfl) (fun _ _ _ h => h) (Or.inl ⟨by rfl, ?_⟩) (by assumption) ?_
          rotate_left
          · (intro w hSw; (try dsimp only at hSw); go_simp <;> with_reducible rfl)
          try simp only [Act.put, List.setIfInBounds_toArray, List.set_cons_zero, List.set_cons_succ]
          refine takeN_lit (i := 16) (v := ?_) (F := #[true, true, true, true, true, true, true, true, true, true, true, true, true, true, true, true, false, false]) rfl (by kernel_rfl) (by kernel_rfl) (by kernel_rfl) (by kernel_rfl) (fun _ _ _ h => h) (Or.inl ⟨by rfl, ?_⟩) (by assumption) ?_
          rotate_left
          · (intro w hSw; (try dsimp only at hSw); go_simp <;> with_reducible rfl)
          try simp only [Act.put, List.setIfInBounds_toArray, List.set_cons_zero, List.set_cons_succ]
          refine wpAnyN_ready (rs := [17]) (by kernel_rfl) (by simp) ?_
          refine consN_lit rfl (fun K hK => ?_) ?_
          · skip
            obtain ⟨ad5, c5, rfl, _⟩ := Kd.own_at o5
            refine sStS (.tmp 34) (.tmp 32) (by rfl) rfl _ 1 _ _ _ _ rfl rfl hHeld.1 (by simp) ?_
            intro W6 g6 r6
            refine hK.out _ _ (Or.inl rfl) (fun _ => ?_)
            clear hK K
            try simp only [Act.put, List.setIfInBounds_toArray, List.set_cons_zero, List.set_cons_succ]
            refine wpAnyN_done (by kernel_rfl) ?_ _
            refine NoPanic.normal ?_
            have hN6 : Newd w W6 (w.heap.size + 1) w.heap.size most (.slice ad5 (F ++ [faceI p]).length c5) (F ++ [faceI p]) :=
              ⟨r6, World.ownsRow.kept o5 g6 (Or.inr (own_ne_lt o5 (by omega))), hHeld.2.2.1.keep g6 (by omega), grown_below g6 hHeld.2.2.2.1 (by omega) (by omega)⟩
            have hw : wrap64 ((j : Int) + 1) = (j : Int) + 1 := by unfold wrap64; omega
            clear hHeld o5 o4 o3 r6 g6 g5 r4 b4 r3 b3 m3 bw3 t3 k1 k2 hf kk hq
            go_wp2_with fail
            go_roundw
            case rel => exact ⟨j + 1, by omega, by go_num, _, by rw [HS.out]; exact hN6⟩
            case measure => simp [intOf]; omega
          exact AllReadyN.nil
        exact AllReadyN.nil
      exact AllReadyN.nil
    · have hjl : j = l.length := by omega
      subst hjl
      rw [List.take_length] at hN
      clear hl
      go_wp2_with fail
      go_ret
      exact ⟨_, _, fa, rfl, by omega, Nat.le_refl _, hN⟩
end Go.Proofs.Ytacadlbhgelncaa

namespace Go.Proofs.Ytacadlbhgelncaa
open Go.RowKit Go.Maps Go.Shelf
set_option linter.unusedSimpArgs false
set_option linter.unusedVariables false
section
variable {F : Fence} {k : Nat} {ops : Array Oper} {rest : List Oper} {op : Oper} {a : Act} {w : World} {Q : Exit → Act → World → Prop}
theorem ldNi (x : Operand) (hg : op.guard = none) (ho : op.op = .load 55 x) (b o : Nat) (n : Ng) (hx : a.eval x = .pointer (some ⟨b, o, none⟩)) (hc : w.rangeAt b o (ncs n))
    (h : wpListIn F k Try.prog ops Q rest (a.put op.dst (nV n)) w) : wpListIn F k Try.prog ops Q (op :: rest) a w := by
  refine wpListIn_plain hg fun K' hK' => ?_
  unfold Oper.wpIn
  refine ⟨by simp [Oper.about, ho], ?_⟩
  rw [Oper.semAt_plain F _ _ (by rw [ho]; intro c hc'; cases hc')]
  unfold execOp
  simp only [ho, hx, Instr.loadAt, Instr.sureAddr, Sem.run_bind, Sem.run_pure, Result.andThen_ok, run_loadVar_mid w b o _ (ncs n) _ hc Try.underlying55 rfl (by rw [infoNs, ncs_len])]
  exact hK' _ _ h
theorem alNi (hg : op.guard = none) (ho : op.op = .alloc 55)
    (h : ∀ W, w.grownBy W none → Row W w.heap.size 55 (ncs zeroN) → wpListIn F k Try.prog ops Q rest (a.put op.dst (.pointer (some ⟨w.heap.size, 0, none⟩))) W) : wpListIn F k Try.prog ops Q (op :: rest) a w := by
  refine wpListIn_plain hg fun K' hK' => ?_
  obtain ⟨i, hi, hz⟩ : ∃ i, Try.prog.info? 55 = some i ∧ i.zero = some (.agg (ncs zeroN).toArray) := by
    have hT := infoNz
    cases hq : Try.prog.info? 55 with
    | none => simp [hq] at hT
    | some i => exact ⟨i, rfl, by simpa [hq] using hT⟩
  unfold Oper.wpIn
  refine ⟨by simp [Oper.about, ho], ?_⟩
  rw [Oper.semAt_plain F _ _ (by rw [ho]; intro c hc'; cases hc')]
  unfold execOp
  simp only [ho, Sem.run_bind, run_alG hi hz, Result.andThen_ok, Sem.run_pure]
  exact hK' _ _ (h _ (World.grownBy_alloc w _ none) (Row.new w _ _))
theorem stNi (x y : Operand) (hg : op.guard = none) (ho : op.op = .store 55 x y) (b : Nat) (n u : Ng) (hx : a.eval x = .pointer (some ⟨b, 0, none⟩)) (hy : a.eval y = .agg (ncs n).toArray) (hr : Row w b 55 (ncs u))
    (h : ∀ W, w.grownBy W (some b) → Row W b 55 (ncs n) → wpListIn F k Try.prog ops Q rest (a.put op.dst undef) W) : wpListIn F k Try.prog ops Q (op :: rest) a w := by
  refine wpListIn_plain hg fun K' hK' => ?_
  have ht : w.there b 0 (ncs n).toArray.size := by simpa [ncs_len] using hr.there (n := 34) (by rw [ncs_len]; omega)
  have hr2 : Row (w.setCells b 0 (ncs n)) b 55 (ncs n) := by
    have := Row.setCells (ncs n) [] w (ncs u) hr (by rw [ncs_len, ncs_len])
    simpa using this
  unfold Oper.wpIn
  refine ⟨by simp [Oper.about, ho], ?_⟩
  rw [Oper.semAt_plain F _ _ (by rw [ho]; intro c hc'; cases hc')]
  unfold execOp
  simp only [ho, hx, hy, Instr.storeAt, Instr.sureAddr, Sem.run_bind, Sem.run_pure, Result.andThen_ok, run_storeVar_mid w b 0 _ _ ht (by rw [infoNs]; simp [ncs_len]) (all_oneCell_toArray (ncs_one n))]
  exact hK' _ _ (h _ (grownBy_setCells b _ _ _) hr2)
end
/-- What has come, and what is left. -/
def Coll (L : List Ng) (left : Lit → Bool) (ss : List Ng) : Prop := ∃ rs : List Ng, (ss ++ rs).Perm L ∧ ∀ l, left l = true ↔ ∃ n ∈ rs, kl n.i n.a = l
theorem Coll.step {L : List Ng} {left : Lit → Bool} {ss : List Ng} (h : Coll L left ss) (hw : ∀ n ∈ L, wfI n.i) (hd : (L.map keyN).Nodup) {l : Lit} (hl : left l = true) : ∃ n, n ∈ L ∧ kl n.i n.a = l ∧ Coll L (fun z => left z && !z.sameKey l) (ss ++ [n]) := by
  obtain ⟨rs, hp, hr⟩ := h
  obtain ⟨n, hn, rfl⟩ := (hr l).1 hl
  obtain ⟨r1, r2, rfl⟩ := List.append_of_mem hn
  have hL : ∀ m, m ∈ ss ++ (r1 ++ n :: r2) ↔ m ∈ L := fun m => hp.mem_iff
  have hnL : n ∈ L := (hL n).1 (by simp)
  refine ⟨n, hnL, rfl, r1 ++ r2, ?_, fun z => ?_⟩
  · refine List.Perm.trans ?_ hp
    rw [List.append_assoc]
    exact List.Perm.append_left ss (by simpa using (List.perm_middle (a := n) (l₁ := r1) (l₂ := r2)).symm)
  · have hnd : ((ss ++ (r1 ++ n :: r2)).map keyN).Nodup := (hp.map _).nodup_iff.2 hd
    have hne : ∀ m ∈ r1 ++ r2, kl m.i m.a ≠ kl n.i n.a := by
      intro m hm e
      have hmL : m ∈ L := (hL m).1 (by simp at hm ⊢; rcases hm with h | h <;> simp [h])
      obtain ⟨e1, e2⟩ := kl_inj (hw m hmL) (hw n hnL) e
      have ek : keyN m = keyN n := by unfold keyN; rw [e1, e2]
      rw [List.map_append, List.nodup_append] at hnd
      have h2 := hnd.2.1
      rw [List.map_append, List.map_cons] at h2
      have h3 := (List.perm_middle (a := keyN n) (l₁ := r1.map keyN) (l₂ := r2.map keyN)).nodup_iff.1 h2
      rw [List.nodup_cons] at h3
      apply h3.1
      rw [← ek, ← List.map_append]
      exact List.mem_map_of_mem hm
    rw [Bool.and_eq_true, hr]
    constructor
    · rintro ⟨⟨m, hm, rfl⟩, hs⟩
      refine ⟨m, ?_, rfl⟩
      rcases List.mem_append.1 hm with h | h
      · exact List.mem_append_left _ h
      · rcases List.mem_cons.1 h with rfl | h
        · rw [WideAt.sameKey_self (kl_key _ (hw m hnL))] at hs
          cases hs
        · exact List.mem_append_right _ h
    · rintro ⟨m, hm, rfl⟩
      refine ⟨⟨m, ?_, rfl⟩, ?_⟩
      · rcases List.mem_append.1 hm with h | h
        · exact List.mem_append_left _ h
        · exact List.mem_append_right _ (List.mem_cons_of_mem _ h)
      · rw [sameKey_ne (hne m hm)]; rfl
theorem Coll.done {L : List Ng} {left : Lit → Bool} {ss : List Ng} (h : Coll L left ss) (hl : ∀ l, left l = false) : ss.Perm L := by
  obtain ⟨rs, hp, hr⟩ := h
  cases rs with
  | nil => simpa using hp
  | cons n r =>
    have := (hr (kl n.i n.a)).2 ⟨n, by simp, rfl⟩
    rw [hl] at this
    cases this
theorem grown_new {w W3 W4 : World} (h : w.grownBy W3 none) (k : W3.grownBy W4 (some w.heap.size)) : w.grownBy W4 none :=
  ⟨k.os.trans h.os, k.tape.trans h.tape, k.output.trans h.output, Nat.le_trans h.size k.size, fun i hi hne => (k.block i (Nat.lt_of_lt_of_le hi h.size) (fun e => by cases e; omega)).trans (h.block i hi (by simp))⟩
def encN (n : Ng) : Array Value := #[nV n]
theorem vals_any (mb : Nat) (w : World) : Calls Try.prog 30 #[.map (some mb)] w fun e w' => e = .returned (.func (.func 52) #[] #[.pointer (some ⟨w.heap.size, 0, none⟩)]) ∧ w' = w.alloc (.cells #[.map (some mb)] 74) := by
  have hmf : ∀ (fn : Fn) (first cap : Array Value) (w : World), (Instr.makeFunc fn first cap).run Try.prog w = .ok (.func fn first cap) w := fun _ _ _ _ => rfl
  go_enter Try.func30, Try.ntmps30
  go_wp2
  go_ret
  exact ⟨rfl, rfl⟩
attribute [local go_sem] Oper.semAt_some
set_option maxRecDepth 100000 in
set_option maxHeartbeats 4000000 in
theorem vals_stops (k : Nat) (hk : 1 ≤ k) (Bm mb : Nat) (L : List Ng) (w : World) (h1 : Bm < w.heap.size) (c1 : w.cell? ⟨Bm, 0, none⟩ = some (.map (some mb))) (hm : Mp w mb L) :
    SeqStopsK Fence.wide k Try.prog 52 #[.pointer (some ⟨Bm, 0, none⟩)] encN KeepsWalks (fun xs => xs.Perm L) (fun pre => ∃ rs, (pre ++ rs).Perm L) L.length w := fun l J Jx W hbw hJ hJx hY h0 => by
  have k1 : W.cell? ⟨Bm, 0, none⟩ = some (.map (some mb)) := (hbw.cell (p := ⟨Bm, 0, none⟩) h1).trans c1
  have kv : Mp W mb L := hm.below hbw hm.lt
  obtain ⟨D, hown, hsz, hhas, hat⟩ := kv.ex
  have hwf := kv.wf
  have hnd := kv.nd
  clear hm c1 hbw
  refine callsIn_of_wp Try.func52 rfl trivial ?_ rfl
  simp only [Try.ntmps52, List.size_toArray, List.length_cons, List.length_nil, Nat.reduceAdd, Nat.reduceSub, Array.replicate_succ, Array.replicate_zero, List.push_toArray, List.append_toArray, List.nil_append, List.cons_append]
  gi_wp2_with (first
    | (gi_at_range; refine wpListIn_range_own _ rfl _ 74 rfl 85 55 keyLaw Try.underlying74 elV mb L.length D rfl hown ?_; intro w0 hrg0 hg0 hs0)
    | gi_in)
  go_frame
  gi_loopw [4] (fun _ wr => ∃ (left : Lit → Bool) (cnt : Nat) (ss : List Ng), wr.ranges Try.prog 85 elV mb W.heap.size L.length D left cnt ∧ Coll L left ss ∧ J ss wr)
    (fun _ wr => wr.rangeLeft mb W.heap.size)
  case atStart =>
    exact ⟨_, _, [], hrg0, ⟨L, by simp, hhas⟩, hJ [] W w0 none h0 hg0 (fun r e => by cases e)⟩
  case round =>
    obtain ⟨left, cnt, ss, hrg, hC, hJs⟩ := hrel
    gi_wp2_with (first
      | (gi_at_next; refine wpListIn_next_ranges _ rfl _ rfl 85 keyLaw elV id id (fun key _ _ => ⟨key, rfl⟩) (fun v _ _ => ⟨v, rfl⟩) mb W.heap.size L.length _ _ _ rfl hrg ?_ ?_)
      | gi_in)
    · intro hc0 hl0
      gi_wp2
      go_end0
      exact ⟨⟨_, rfl⟩, .inl ⟨ss, hC.done hl0, hJs⟩⟩
    · intro x c kx yd yp w2 cnt2 hkey hlk hv hat2 hrg2 hlt hg2 hs2 hen
      obtain ⟨n, hnL, rfl, hC2⟩ := hC.step hwf hnd hlk
      obtain rfl : nV n = c := by
        have e := hat2 (.held (nV n))
        rw [hat n hnL] at e
        have hv' : some (DataW.held c, ([] : List MemPlace)) = some (yd, yp) := hv
        cases hv'
        injection e
      have hJ2 : J ss w2 := hJ ss wr w2 (some W.heap.size) hJs hg2 (fun r e => by cases e; exact ⟨Nat.le_refl _, hrg.iter_walk⟩)
      have hlen : ss.length < L.length := by
        obtain ⟨rs, hp, _⟩ := hC2
        have := hp.length_eq
        simp at this
        omega
      have hY2 := fun W1 h => hY ss n W1 h hlen
      clear hY hs2 hlen hat hat2 hhas hv hlk hkey
      gi_wp2_with (first
        | (have kk := r4; refine ldNi (.tmp 4) rfl rfl _ _ n rfl r4.range ?_)
        | (have kk := r3; refine stNi (.tmp 4) (.tmp 10) rfl rfl _ n _ rfl rfl r3 ?_; intro W4 g4 r4; have g24 := grown_new g3 g4; have hJ4 := hJ ss w2 W4 none hJ2 g24 (fun r e => by cases e); have hrg4 := hrg2.kept g24 (by simp) (by simp); obtain ⟨fn, tmps, assign, body, hy, hR⟩ := hY2 W4 hJ4; simp only [encN] at hy)
        | (refine alNi rfl rfl ?_; intro W3 g3 r3)
        | gi_in)
      refine hR.mono ?_
      have HC : Hid (Coll L (fun z => left z && !z.sameKey (kl n.i n.a)) (ss ++ [n])) := hC2
      rintro e W5 (⟨rfl, hJ5, hk5⟩ | ⟨rfl, hJx5⟩)
      · gi_wp2
        have hrg5 := hrg4.of_walks hk5
        go_roundw
        case rel => exact ⟨_, cnt2, ss ++ [n], hrg5, HC.out, hJ5⟩
        case measure => rw [hrg5.left_eq, hrg.left_eq]; exact hlt
      · gi_wp2
        refine bodyPost_ret (results_none rfl _ _ _) rfl ?_
        obtain ⟨rs, hp, _⟩ := HC.out
        exact ⟨⟨_, rfl⟩, .inr ⟨_, ⟨rs, hp⟩, hJx5⟩⟩
end Go.Proofs.Ytacadlbhgelncaa

namespace Go.Proofs.Ytacadlbhgelncaa
open Go.RowKit Go.Maps Go.Shelf
set_option linter.unusedSimpArgs false
set_option linter.unusedVariables false
attribute [local go_sem] Oper.semAt_some
section
variable {F : Fence} {k : Nat} {ops : Array Oper} {rest : List Oper} {op : Oper} {a : Act} {w : World} {Q : Exit → Act → World → Prop}
theorem bsNi (x : Operand) (n : Ng) (hg : op.guard = none) (ho : op.op = .buildSlice 44 1 #[(0, x)]) (hx : a.eval x = nV n)
    (h : ∀ W, Row W w.heap.size 55 (ncs n) → Below w.heap.size w W → w.grownBy W none → wpListIn F k Try.prog ops Q rest (a.put op.dst (.slice (some ⟨w.heap.size, 0, none⟩) 1 1)) W) : wpListIn F k Try.prog ops Q (op :: rest) a w := by
  refine wpListIn_plain hg fun K' hK' => ?_
  unfold Oper.wpIn
  refine ⟨by simp [Oper.about, ho], ?_⟩
  rw [Oper.semAt_plain F _ _ (by rw [ho]; intro c hc'; cases hc')]
  unfold execOp
  simp only [ho, List.map_toArray, List.map_cons, List.map_nil, hx, Sem.run_bind, bsN1, Result.andThen_ok, Sem.run_pure]
  exact hK' _ _ (h _ (Row.new w _ _) (ba w _) (World.grownBy_alloc w _ none))
end
theorem kept_rowN {W W' : World} {B : Nat} {t : TypeId} {cs : List Value} {row : Option Nat} (h : Row W B t cs) (hg : W.grownBy W' row) (hr : ∀ r, row = some r → ∃ o : Obj, W.heap[r]? = some o ∧ o.isCells = false) : Row W' B t cs := by
  refine (hg.block B h.lt ?_).trans h
  intro e
  obtain ⟨o, h1, h2⟩ := hr B e.symm
  have h3 : some o = some (Obj.cells cs.toArray t (0, 0)) := h1.symm.trans h
  cases h3
  cases h2
theorem own_keptN {α : Type} {kd : Kd α} {W W' : World} {B : Nat} {v : Value} {l : List α} {row : Option Nat} (ho : kd.Own W B v l) (hg : W.grownBy W' row) (hr : ∀ r, row = some r → ∃ o : Obj, W.heap[r]? = some o ∧ o.isCells = false) : kd.Own W' B v l := by
  refine World.ownsRow.kept ho hg ?_
  rcases ho.2 with ⟨rfl, _⟩ | ⟨g, cap, cur, rfl, _, hgb, _⟩
  · exact .inl rfl
  · refine .inr fun e => ?_
    obtain ⟨o, h1, h2⟩ := hr g e.symm
    rw [hgb] at h1
    cases h1
    cases h2
/-- What the rounds keep. -/
def SeqI (w : World) (pre : List Ng) (W : World) : Prop := ∃ v, Row W w.heap.size 44 [v] ∧ kN.Own W (w.heap.size + 1) v pre ∧ Below w.heap.size w W ∧ w.heap.size + 1 ≤ W.heap.size
theorem SeqI.kept {w W W' : World} {pre : List Ng} {row : Option Nat} (h : SeqI w pre W) (hg : W.grownBy W' row) (hr : ∀ r, row = some r → w.heap.size ≤ r ∧ ∃ o : Obj, W.heap[r]? = some o ∧ o.isCells = false) : SeqI w pre W' := by
  obtain ⟨v, i5, i6, i8, i9⟩ := h
  have k : ∀ r, row = some r → ∃ o : Obj, W.heap[r]? = some o ∧ o.isCells = false := fun r e => (hr r e).2
  exact ⟨v, kept_rowN i5 hg k, own_keptN i6 hg k, below_keepO i8 hg (fun g hgl e => by have := (hr g e).1; omega) i8.size, Nat.le_trans i9 hg.size⟩
def actN (w : World) (Bm g : Nat) (x : Ng) : Act := { tmps := #[.slice none 0 0, .func (.func 52) #[] #[.pointer (some ⟨Bm, 0, none⟩)], .pointer (some ⟨w.heap.size, 0, none⟩), undef, .slice none 0 0, .pointer (some ⟨g, 0, none⟩), .func (.func 52) #[] #[.pointer (some ⟨Bm, 0, none⟩)], nV x, undef, undef, undef, undef, undef], defers := [] }
set_option maxRecDepth 100000 in
set_option maxHeartbeats 4000000 in
theorem appseq_any (Bm mb : Nat) (L : List Ng) (w : World) (hL : L.length ≤ 1000000) (h1 : Bm < w.heap.size) (c1 : w.cell? ⟨Bm, 0, none⟩ = some (.map (some mb))) (hm : Mp w mb L) :
    Calls Try.prog 69 #[.slice none 0 0, .func (.func 52) #[] #[.pointer (some ⟨Bm, 0, none⟩)]] w fun e w' => ∃ r xs, e = .returned r ∧ xs.Perm L ∧ kN.Own w' (w.heap.size + 1) r xs ∧ Below w.heap.size w w' := by
  refine (callsIn_wide (n := 9)).1 ?_
  refine callsIn_of_wp_marks Try.func69 rfl trivial ?_ rfl
  simp only [Try.ntmps69, List.size_toArray, List.length_cons, List.length_nil, Nat.reduceAdd, Nat.reduceSub, Array.replicate_succ, Array.replicate_zero, List.push_toArray, List.append_toArray, List.nil_append, List.cons_append]
  gi_wp2
  refine name_world (R := fun W => Code.wpIn _ _ _ _ _ _ W) (P := fun W => Row W w.heap.size 44 [.slice none 0 0] ∧ Below w.heap.size w W) _ ⟨Row.new w 44 [.slice none 0 0], ba _ _⟩ ?_
  rintro W0 ⟨r0, hB0⟩
  have k1 : W0.cell? ⟨Bm, 0, none⟩ = some (.map (some mb)) := (hB0.cell (p := ⟨Bm, 0, none⟩) h1).trans c1
  have kv : Mp W0 mb L := hm.below hB0 hm.lt
  have z0 := hB0.size
  have z1 := r0.lt
  refine wpIn_rangeFunc_ownH (F := Fence.wide) rfl (by decide) (gf := 52) (lb := #[.pointer (some ⟨Bm, 0, none⟩)]) rfl trivial (enters_of Try.func52 (by kernel_rfl) rfl)
    (vals_stops 8 (by decide) Bm mb L W0 (by omega) k1 kv) (fun h k => h.trans k) (fun W l o o' _ h _ hw => KeepsWalks.putObj o' h hw) (Below.refl _ _) (fun _ => rfl)
    (SeqI w)
    (fun _ _ _ => False)
    (fun pre A B row hs hg hr => hs.kept hg (fun r e => ⟨Nat.le_trans hB0.size (hr r e).1, (hr r e).2⟩))
    (fun c pre A B row hs hg hr => hs)
    ⟨.slice none 0 0, r0, World.ownsRow_nil _ _ _ _, hB0, z1⟩
    (fun x a' W => ∃ g, Row W g 55 (ncs x) ∧ a' = actN w Bm g x)
    (fun x a' _ A B row hs hg hr => by
      obtain ⟨g, hr0, e⟩ := hs
      exact ⟨g, kept_rowN hr0 hg (fun r e => (hr r e).2), e⟩) ?assign ?body ?done ?stop
  case assign =>
    intro l pre x W K hI hK
    unfold encN
    simp only [List.zip_toArray, List.zip_cons_cons, List.zip_nil_right, List.zip_nil_left, List.size_toArray, List.length_cons, List.length_nil, List.foldl_toArray', List.foldl_toArray, List.foldl_cons, List.foldl_nil, List.setIfInBounds_toArray, List.set_cons_succ, List.set_cons_zero]
    gi_wp2_with (first
      | (have kk := r3; refine stNi (.tmp 5) (.tmp 7) rfl rfl _ x _ rfl rfl r3 ?_; intro W4 g4 r4)
      | (refine alNi rfl rfl ?_; intro W3 g3 r3)
      | gi_in)
    have g24 := grown_new g3 g4
    exact hK _ _ (KeepsFrom.of_grownBy g24 (fun j e => by cases e)) (KeepsWalks.of_grownBy g24 (fun j o e => by cases e)) (hI.kept g24 (fun r e => by cases e)) ⟨_, r4, rfl⟩
  case body =>
    rintro l pre x a' W hll hlr ⟨v, i5, i6, i8, i9⟩ ⟨g, rg, rfl⟩ hlen
    obtain ⟨va, vc, rfl, _⟩ := Kd.own_at i6
    have c5 : W.cell? ⟨w.heap.size, 0, none⟩ = some (.slice va pre.length vc) := i5.cell 0
    obtain ⟨i0, hi, hz0, hz1, hz2⟩ := info_parts kN.info
    unfold actN
    clear c1 hm k1 kv r0 hlr
    gi_wp2_with (first
      | (have kk := r9; gi_at_builtin; (refine wpListIn_append_own _ rfl _ _ 44 rfl (w.heap.size + 1) 55 i0 (.agg (ncs zeroN).toArray) 34 128 Try.underlying44 hi hz0 hz1 hz2 (by simp [Value.cells, ncs_len]) (by decide) _ _ _ rfl o9 ⟨W.heap.size, 0, none⟩ 1 1 (ncs x) rfl (by rw [ncs_len]) (fun j u hj => by rw [Addr.add_mid, Nat.zero_add]; exact (r9.cell j).trans hj) (ncs_one x) (by unfold maxLen; omega) (by omega) (Nat.le_trans i9 b9.size) ?_); intro v' w3 hown' hgrow _; obtain ⟨g', cap', rfl⟩ := ownsRow_succ hown'; have m5 := (i5.below b9 i5.lt).keepO hgrow (own_ne_lt o9 (by omega)); have c5' : w3.cell? ⟨w.heap.size, 0, none⟩ = some (.slice va pre.length vc) := m5.cell 0; have f5' := m5.frozen 0)
      | (refine bsNi (.tmp 9) x rfl rfl rfl ?_; intro W9 r9 b9 g9; have o9 : W9.ownsRow (w.heap.size + 1) 55 34 (.slice va pre.length vc) pre.length (kN.cs pre) := own_below i6 b9)
      | (refine ldNi (.tmp 5) rfl rfl _ _ x rfl rg.range ?_)
      | gi_in)
    have hKO : ∀ (j : Nat) (o : Obj), (Value.slice va pre.length vc).ownBlock = some j → W9.heap[j]? = some o → o.isCells = true ∧ o.isWalk = false := fun j o ej hj => by
      rcases o9.2 with ⟨e, _⟩ | ⟨g0, cap, cur, e, _, hgb, _⟩
      · rw [e] at ej; cases ej
      · rw [e] at ej
        simp only [Value.ownBlock, Option.some.injEq] at ej
        subst ej
        rw [hgb] at hj
        cases hj
        exact ⟨rfl, rfl⟩
    have bw : Below w.heap.size W w3 := below_keepO (b9.mono (by omega)) hgrow (fun g hg => own_ne_lt o9 (by omega)) (by have := b9.size; omega)
    refine ⟨((KeepsOthers.of_grownBy g9 (fun j o e => by cases e)).trans ((KeepsOthers.of_grownBy hgrow (fun j o e h => (hKO j o e h).1)).trans (KeepsOthers.setCell _ _ _))).from _, (KeepsWalks.of_grownBy g9 (fun j o e => by cases e)).trans ((KeepsWalks.of_grownBy hgrow (fun j o e h => (hKO j o e h).2)).trans (KeepsWalks.setCell _ _ _)), _, m5.set 0 _, ?_, ?_, ?_⟩
    · have h4 : kN.Own w3 (w.heap.size + 1) (.slice (some ⟨g', 0, none⟩) (pre.length + 1) cap') (pre ++ [x]) := by
        unfold Kd.Own
        rw [kN.cs_append, List.length_append, show kN.cs [x] = ncs x by simp [Kd.cs, kN]]
        exact hown'
      exact World.ownsRow.kept h4 (grownBy_setCell w3 w.heap.size 0 _) (Or.inr (own_ne_lt h4 (by omega)))
    · exact grown_below (grownBy_setCell w3 w.heap.size 0 _) (i8.trans bw) (Nat.le_refl _) (by have := i8.size; have := bw.size; omega)
    · have := (grownBy_setCell w3 w.heap.size 0 (.slice (some ⟨g', 0, none⟩) (pre.length + 1) cap')).size
      have := bw.size
      omega
  case done =>
    rintro D xs W hD hS ⟨v, i5, i6, i8, i9⟩ hK
    obtain ⟨va, vc, rfl, _⟩ := Kd.own_at i6
    have c5 : W.cell? ⟨w.heap.size, 0, none⟩ = some (.slice va xs.length vc) := i5.cell 0
    gi_wp2
    have kk := grownBy_putObj' W D (.deferred none)
    have k : ∀ r, some D = some r → ∃ o : Obj, W.heap[r]? = some o ∧ o.isCells = false := fun r e => by cases e; exact ⟨_, hK, rfl⟩
    refine ⟨by simp, .inl ⟨_, _, rfl, run_takeDeferred hK, ?_⟩⟩
    exact ⟨_, results_tmp rfl _ _ _, _, xs, rfl, hS, own_keptN i6 kk k, grown_below kk i8 (by omega) i8.size⟩
  case stop =>
    rintro D c pre W hD hpre hf hK
    exact hf.elim
end Go.Proofs.Ytacadlbhgelncaa

namespace Go.Proofs.Ytacadlbhgelncaa
open Go.RowKit Go.Maps Go.Shelf
set_option linter.unusedSimpArgs false
set_option linter.unusedVariables false
set_option maxRecDepth 20000
theorem collect_any (Bm mb : Nat) (L : List Ng) (w : World) (hL : L.length ≤ 1000000) (h1 : Bm < w.heap.size) (c1 : w.cell? ⟨Bm, 0, none⟩ = some (.map (some mb))) (hm : Mp w mb L) :
    Calls Try.prog 50 #[.func (.func 52) #[] #[.pointer (some ⟨Bm, 0, none⟩)]] w fun e w' => ∃ r xs, e = .returned r ∧ xs.Perm L ∧ kN.Own w' (w.heap.size + 1) r xs ∧ Below w.heap.size w w' := by
  have hA := appseq_any Bm mb L w hL h1 c1 hm
  clear hm c1 h1
  go_enter Try.func50, Try.ntmps50
  go_wp2_with (go_at_call 69; refine hA.mono ?_; rintro e w1 ⟨r, xs, rfl, hp, hO, hB⟩; obtain ⟨va, vc, rfl, _⟩ := Kd.own_at hO)
  go_ret
  exact ⟨_, _, rfl, hp, hO, hB⟩
theorem perm_one {α : Type} {l m : List α} (h : l.Perm m) (hm : m.length ≤ 1) : l = m := by
  match m, hm with
  | [], _ => exact h.eq_nil
  | [x], _ => exact List.perm_singleton.1 h
theorem insert_one (ad : Option Addr) (n c : Nat) (fv : Value) (w : World) (hn : n ≤ 1) : Calls Try.prog 76 #[.slice ad n c, .int .i64 0, .int .i64 (n : Int), fv] w fun e w' => e = .returned (.tuple #[]) ∧ w = w' := by
  go_enter Try.func76, Try.ntmps76
  go_wp2_with fail
  go_loopw [8] (fun i wr => i = .int .i64 1 ∧ w = wr) (fun _ _ => 0)
  case atStart => exact ⟨rfl, rfl⟩
  case round =>
    obtain ⟨rfl, rfl⟩ := hrel
    have hn' : ¬ (1 : Int) < (n : Int) := by omega
    go_wp2_with fail
    go_end0
    exact ⟨rfl, rfl⟩
theorem pdq_one (ad : Option Addr) (n c : Nat) (l : Int) (fv : Value) (w : World) (hn : n ≤ 1) : Calls Try.prog 70 #[.slice ad n c, .int .i64 0, .int .i64 (n : Int), .int .i64 l, fv] w fun e w' => e = .returned (.tuple #[]) ∧ w = w' := by
  have hI := insert_one ad n c fv
  have hn' : (n : Int) ≤ 12 := by omega
  go_enter Try.func70, Try.ntmps70
  go_wp2_with fail
  go_loopw [1, 2] (fun i b wr => i = .int .i64 0 ∧ b = .int .i64 (n : Int) ∧ w = wr) (fun _ _ _ => 0)
  case atStart => exact ⟨rfl, rfl, rfl⟩
  case round =>
    obtain ⟨rfl, rfl, rfl⟩ := hrel
    go_wp2_with (go_at_call 76; refine (hI _ hn).mono ?_; rintro e w1 ⟨rfl, rfl⟩)
    refine bodyPost_ret (results_none rfl _ _ _) rfl ?_
    exact ⟨rfl, rfl⟩
theorem len_one (n : Nat) (w : World) (hn : n ≤ 1) : Calls Try.prog 71 #[.int .u64 (n : Int)] w fun e w' => ∃ l, e = .returned (.int .i64 l) ∧ Below w.heap.size w w' := by
  match n, hn with
  | 0, _ =>
    go_enter Try.func71, Try.ntmps71
    go_wp2
    go_ret
    exact ⟨_, rfl, Below.refl _ _⟩
  | 1, _ =>
    go_enter Try.func71, Try.ntmps71
    go_wp2
    go_ret
    exact ⟨_, rfl, Below.refl _ _⟩
theorem sort_one (ad : Option Addr) (n c : Nat) (fv : Value) (w : World) (hn : n ≤ 1) : Calls Try.prog 51 #[.slice ad n c, fv] w fun e w' => e = .returned (.tuple #[]) ∧ Below w.heap.size w w' := by
  have hP := fun l W => pdq_one ad n c l fv W hn
  have hL := fun W => len_one n W hn
  have hc : IntKind.u64.wrap (n : Int) = n := by simp [IntKind.wrap, IntKind.signed, IntKind.bits]; omega
  go_enter Try.func51, Try.ntmps51
  go_wp2_with (first
    | (go_at_call 71; refine (hL _).mono ?_; rintro e w1 ⟨l, rfl, b1⟩)
    | (go_at_call 70; refine (hP _ _).mono ?_; rintro e w2 ⟨rfl, rfl⟩))
  go_end0
  exact ⟨rfl, b1⟩
theorem sorted_one (Bm mb : Nat) (L : List Ng) (fv : Value) (w : World) (hL : L.length ≤ 1) (h1 : Bm < w.heap.size) (c1 : w.cell? ⟨Bm, 0, none⟩ = some (.map (some mb))) (hm : Mp w mb L) :
    Calls Try.prog 29 #[.func (.func 52) #[] #[.pointer (some ⟨Bm, 0, none⟩)], fv] w fun e w' => ∃ r, e = .returned r ∧ kN.Own w' (w.heap.size + 1) r L ∧ Below w.heap.size w w' := by
  have hA := collect_any Bm mb L w (by omega) h1 c1 hm
  have hS := fun (ad : Option Addr) (n c : Nat) (W : World) (hn : n ≤ 1) => sort_one ad n c fv W hn
  clear hm c1 h1
  go_enter Try.func29, Try.ntmps29
  go_wp2_with (first
    | (go_at_call 50; refine hA.mono ?_; rintro e w1 ⟨r, xs, rfl, hp, hO, hB⟩; obtain rfl : xs = L := (perm_one hp hL); obtain ⟨va, vc, rfl, _⟩ := Kd.own_at hO)
    | (go_at_call 51; refine (hS _ _ _ _ hL).mono ?_; rintro e w2 ⟨rfl, b2⟩))
  go_ret
  exact ⟨_, rfl, own_below hO b2, bt hB b2⟩
theorem list_one {w : World} {t mb : Nat} {most : Int} {F : List Fc} {L : List Ng} (h : Tb w t mb most F L) (hL : L.length ≤ 1) : Calls Try.prog 13 #[.pointer (some ⟨t, 0, none⟩)] w fun e w' => ∃ r, e = .returned r ∧ kN.Own w' w.heap.size r L ∧ Below w.heap.size w w' := by
  obtain ⟨fa, fc, hr, _⟩ := h.ex
  have c2 : w.cell? ⟨t, 2, none⟩ = some (.map (some mb)) := hr.cell 2
  have hV := vals_any mb
  have hS : ∀ fv, Calls Try.prog 29 #[.func (.func 52) #[] #[.pointer (some ⟨w.heap.size, 0, none⟩)], fv] (w.alloc (.cells #[.map (some mb)] 74)) fun e w' => ∃ r, e = .returned r ∧ kN.Own w' w.heap.size r L ∧ Below w.heap.size w w' := fun fv => by
    have r0 := Row.new w 74 [.map (some mb)]
    refine (sorted_one w.heap.size mb L fv _ hL (by simp) (r0.cell 0) (h.map.below (ba _ _) h.map.lt)).mono ?_
    rintro e w' ⟨r, rfl, hO, hB⟩
    refine ⟨r, rfl, ?_, bt (ba _ _) hB⟩
    rcases hO.2 with ⟨e, h1⟩ | ⟨g, cap, cur, e, hb, h2⟩
    · exact ⟨hO.1, .inl ⟨e, h1⟩⟩
    · exact ⟨hO.1, .inr ⟨g, cap, cur, e, by simp at hb; omega, h2⟩⟩
  clear h hr
  go_enter Try.func13, Try.ntmps13
  go_wp2_with (first
    | (go_at_call 29; refine (hS _).mono ?_; rintro e w2 ⟨r, rfl, hO, hB⟩; obtain ⟨va, vc, rfl, _⟩ := Kd.own_at hO)
    | (refine (hV _).mono ?_; rintro e w1 ⟨rfl, rfl⟩))
  go_ret
  exact ⟨_, rfl, hO, hB⟩
theorem list_nil (w : World) : Calls Try.prog 13 #[.pointer none] w fun e w' => e = .returned (.slice none 0 0) ∧ w = w' := by
  go_enter Try.func13, Try.ntmps13
  go_wp2
  go_ret
  exact ⟨rfl, rfl⟩
end Go.Proofs.Ytacadlbhgelncaa
