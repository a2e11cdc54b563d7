/-
  The Fib in memory; New, busy.
-/
import Derived.Test.YtiihlgcafppehaaF7
namespace Go.Proofs.Ytiihlgcafppehaa
open Go.RowKit Go.Maps Go.Shelf
set_option linter.unusedSimpArgs false
set_option linter.unusedVariables false
set_option maxRecDepth 20000
/-- A Fib's own cells: its maps, what is under way, its plan, till when. -/
structure Fv where
  mW : Nat
  mH : Nat
  mA : Nat
  d : Oq
  pl : Value
  ti : Int
def fcs (x : Fv) : List Value := [.map (some x.mW), .map (some x.mH), .map (some x.mA)] ++ (pcs x.d ++ [x.pl, .int .i64 x.ti])
theorem fcs_len (x : Fv) : (fcs x).length = 57 := by simp [fcs, pcs_len]
section
variable {w : World} {f : Nat} {x : Fv} {T : TypeId}
theorem Row.f0 (h : Row w f T (fcs x)) : w.cell? ⟨f, 0, none⟩ = some (.map (some x.mW)) := h.cell 0
theorem Row.f1 (h : Row w f T (fcs x)) : w.cell? ⟨f, 1, none⟩ = some (.map (some x.mH)) := h.cell 1
theorem Row.f2 (h : Row w f T (fcs x)) : w.cell? ⟨f, 2, none⟩ = some (.map (some x.mA)) := h.cell 2
theorem fc3 (x : Fv) : (fcs x)[3]? = some (.int .i64 x.d.k) := by
  simp [fcs, pcs]
theorem Row.f3 (h : Row w f T (fcs x)) : w.cell? ⟨f, 3, none⟩ = some (.int .i64 x.d.k) := (h.cell 3).trans (fc3 x)
theorem fc55 (x : Fv) : (fcs x)[55]? = some x.pl := by
  simp [fcs, pcs_len, List.getElem?_append_right, List.getElem?_cons]
theorem fc56 (x : Fv) : (fcs x)[56]? = some (.int .i64 x.ti) := by
  simp [fcs, pcs_len, List.getElem?_append_right, List.getElem?_cons]
theorem Row.f55 (h : Row w f T (fcs x)) : w.cell? ⟨f, 55, none⟩ = some x.pl := (h.cell 55).trans (fc55 x)
theorem Row.f56 (h : Row w f T (fcs x)) : w.cell? ⟨f, 56, none⟩ = some (.int .i64 x.ti) := (h.cell 56).trans (fc56 x)
theorem Row.fop (h : Row w f T (fcs x)) : LO w f 3 x.d := by
  have h1 := h.range
  have h2 := rangeAt_right h1 (k := 3) rfl
  have h3 := rangeAt_left h2
  exact h3
theorem fcs_ti (x : Fv) (t : Int) : (fcs x).set 56 (.int .i64 t) = fcs ⟨x.mW, x.mH, x.mA, x.d, x.pl, t⟩ := by
  simp [fcs, pcs_len, List.set_append]
theorem fcs_pl (x : Fv) (v : Value) : (fcs x).set 55 v = fcs ⟨x.mW, x.mH, x.mA, x.d, v, x.ti⟩ := by
  simp [fcs, pcs_len, List.set_append]
theorem fcs_w (x : Fv) (m : Nat) : (fcs x).set 0 (.map (some m)) = fcs ⟨m, x.mH, x.mA, x.d, x.pl, x.ti⟩ := by
  simp [fcs]
theorem Row.fti (h : Row w f T (fcs x)) (t : Int) : Row (w.setCell ⟨f, 56, none⟩ (.int .i64 t)) f T (fcs ⟨x.mW, x.mH, x.mA, x.d, x.pl, t⟩) := by
  have := h.set 56 (.int .i64 t)
  rwa [fcs_ti] at this
theorem Row.fpl (h : Row w f T (fcs x)) (v : Value) : Row (w.setCell ⟨f, 55, none⟩ v) f T (fcs ⟨x.mW, x.mH, x.mA, x.d, v, x.ti⟩) := by
  have := h.set 55 v
  rwa [fcs_pl] at this
theorem Row.fw (h : Row w f T (fcs x)) (m : Nat) : Row (w.setCell ⟨f, 0, none⟩ (.map (some m))) f T (fcs ⟨m, x.mH, x.mA, x.d, x.pl, x.ti⟩) := by
  have := h.set 0 (.map (some m))
  rwa [fcs_w] at this
theorem Row.fdo (h : Row w f T (fcs x)) (o : Oq) : Row (w.setCells f 3 (pcs o)) f T (fcs ⟨x.mW, x.mH, x.mA, o, x.pl, x.ti⟩) :=
  Row.setMid (pcs o) [.map (some x.mW), .map (some x.mH), .map (some x.mA)] (pcs x.d) [x.pl, .int .i64 x.ti] w h (by rw [pcs_len, pcs_len])
end
section
variable {ops : Array Oper} {rest : List Oper} {op : Oper} {a : Act} {w w' : World} {Q : Exit → Act → World → Prop} {K : Act → World → Prop} {E : Prop} {S : World → Prop}
/-- The operation under way is written. -/
theorem stD (x y : Operand) (hw : Region.wanted op (yielded ops a.tmps) = true) (ho : op.op = .store 52 x y) (b : Nat) (o : Oq) (v : Fv) {T : TypeId} (hx : a.eval x = .pointer (some ⟨b, 3, none⟩)) (hy : a.eval y = oV o) (hr : Row w b T (fcs v))
    (h : ∀ W, w.grownBy W (some b) → Row W b T (fcs ⟨v.mW, v.mH, v.mA, o, v.pl, v.ti⟩) → wpList Try.prog ops Q rest (a.put op.dst undef) W) : wpList Try.prog ops Q (op :: rest) a w :=
  wpList_step fun K hK => by
    rw [if_pos hw]
    exact wp_store_mid _ x y ho b 3 _ hx hy (by simpa [pcs_len] using hr.thereMid (o := 3) (n := 52) (by rw [fcs_len]; omega)) (by rw [infoOs]; simp [pcs_len]) (all_oneCell_toArray (pcs_one o)) (hK _ _ (h _ (grownBy_setCells b _ _ _) (by simpa using hr.fdo o)))
theorem sStD (x y : Operand) (hw : Region.wanted op (yielded ops a.tmps) = true) (ho : op.op = .store 52 x y) (b : Nat) (o : Oq) (v : Fv) {T : TypeId} (hx : a.eval x = .pointer (some ⟨b, 3, none⟩)) (hy : a.eval y = oV o) (hr : Row w b T (fcs v))
    (h : ∀ W, w.grownBy W (some b) → Row W b T (fcs ⟨v.mW, v.mH, v.mA, o, v.pl, v.ti⟩) → K (a.put op.dst undef) W) : if Region.wanted op (yielded ops a.tmps) = true then Oper.wp Try.prog op a w K Q else E := by
  rw [if_pos hw]
  exact wp_store_mid _ x y ho b 3 _ hx hy (by simpa [pcs_len] using hr.thereMid (o := 3) (n := 52) (by rw [fcs_len]; omega)) (by rw [infoOs]; simp [pcs_len]) (all_oneCell_toArray (pcs_one o)) (h _ (grownBy_setCells b _ _ _) (by simpa using hr.fdo o))
end
/-- The Fib: its block, its maps. -/
structure Fb (w : World) (f : Nat) (x : Fv) (W H : List En) (A : List (Pr × Int)) : Prop where
  row : Row w f 79 (fcs x)
  mw : Mp mE w x.mW W
  mh : Mp mE w x.mH H
  ma : Mp mT w x.mA A
  wh : x.mW ≠ x.mH
  wa : x.mW ≠ x.mA
  ha : x.mH ≠ x.mA
  lw : W.length ≤ 1000000
  lh : H.length ≤ 1000000
  la : A.length ≤ 1000000
section
variable {w w' : World} {f : Nat} {x : Fv} {W H : List En} {A : List (Pr × Int)}
theorem Fb.lt (h : Fb w f x W H A) : f < w.heap.size := h.row.lt
theorem Fb.below (h : Fb w f x W H A) (hb : Below w.heap.size w w') : Fb w' f x W H A :=
  ⟨h.row.below hb h.row.lt, h.mw.below hb h.mw.lt, h.mh.below hb h.mh.lt, h.ma.below hb h.ma.lt, h.wh, h.wa, h.ha, h.lw, h.lh, h.la⟩
/-- Its own cells are others; its maps are where they were. -/
theorem Fb.own_ (h : Fb w f x W H A) (hg : w.grownBy w' (some f)) (d : Oq) (pl : Value) (ti : Int) (hr : Row w' f 79 (fcs ⟨x.mW, x.mH, x.mA, d, pl, ti⟩)) : Fb w' f ⟨x.mW, x.mH, x.mA, d, pl, ti⟩ W H A :=
  ⟨hr, h.mw.keep hg (h.mw.ne_row h.row).symm, h.mh.keep hg (h.mh.ne_row h.row).symm, h.ma.keep hg (h.ma.ne_row h.row).symm, h.wh, h.wa, h.ha, h.lw, h.lh, h.la⟩
end
/-- The plan in memory: from block B on. -/
def PlW (w : World) (B : Nat) (pl : Value) (P : List Oq) : Prop := ∃ ad c, pl = .slice ad P.length c ∧ (P = [] ∨ ∃ g o cs, ad = some ⟨g, o, none⟩ ∧ B ≤ g ∧ Row w g 52 cs ∧ ∀ (j : Nat) (p : Oq), P[j]? = some p → LO w g (o + j * 52) p)
theorem bdF (m1 m2 m3 : Nat) (w : World) : (Instr.build 79 #[(0, .map (some m1)), (1, .map (some m2)), (2, .map (some m3)), (5, .int .i64 (-9223372036854775808))]).run Try.prog w = .ok (.agg (fcs ⟨m1, m2, m3, zeroO, .slice none 0 0, -9223372036854775808⟩).toArray) w := by kernel_rfl
theorem run_boxF (x : Fv) (w : World) : (Instr.box 79 (.agg (fcs x).toArray)).run Try.prog w = .ok (.pointer (some ⟨w.heap.size, 0, none⟩)) (w.alloc (.cells (fcs x).toArray 79)) := by
  simp [Instr.box, newVar, newRow, newObj, Value.cells]; rfl
def newF (w : World) : Fv := ⟨w.heap.size, w.heap.size + 1, w.heap.size + 2, zeroO, .slice none 0 0, -9223372036854775808⟩
theorem new_fb (w : World) : Fb ((((w.alloc (.map #[] 0)).alloc (.map #[] 0)).alloc (.map #[] 0)).alloc (.cells (fcs (newF w)).toArray 79)) (w.heap.size + 3) (newF w) [] [] [] ∧ Below w.heap.size w ((((w.alloc (.map #[] 0)).alloc (.map #[] 0)).alloc (.map #[] 0)).alloc (.cells (fcs (newF w)).toArray 79)) := by
  have s1 : (w.alloc (.map #[] 0)).heap.size = w.heap.size + 1 := by simp
  have s2 : ((w.alloc (.map #[] 0)).alloc (.map #[] 0)).heap.size = w.heap.size + 2 := by simp
  have s3 : (((w.alloc (.map #[] 0)).alloc (.map #[] 0)).alloc (.map #[] 0)).heap.size = w.heap.size + 3 := by simp
  have m1 := Mp.new mE w
  have m2 := Mp.new mE (w.alloc (.map #[] 0))
  have m3 := Mp.new mT ((w.alloc (.map #[] 0)).alloc (.map #[] 0))
  have r4 := Row.new (((w.alloc (.map #[] 0)).alloc (.map #[] 0)).alloc (.map #[] 0)) 79 (fcs (newF w))
  have b2 := ba (w.alloc (.map #[] 0)) (.map #[] 0)
  have b3 := ba ((w.alloc (.map #[] 0)).alloc (.map #[] 0)) (.map #[] 0)
  have b4 := ba (((w.alloc (.map #[] 0)).alloc (.map #[] 0)).alloc (.map #[] 0)) (.cells (fcs (newF w)).toArray 79)
  rw [s1] at m2
  rw [s2] at m3
  rw [s3] at r4
  have n1 := ((m1.below b2 m1.lt).below b3 (Nat.lt_of_lt_of_le m1.lt b2.size)).below b4 (Nat.lt_of_lt_of_le (Nat.lt_of_lt_of_le m1.lt b2.size) b3.size)
  have n2 := (m2.below b3 m2.lt).below b4 (Nat.lt_of_lt_of_le m2.lt b3.size)
  have n3 := m3.below b4 m3.lt
  exact ⟨⟨r4, n1, n2, n3, by show w.heap.size ≠ w.heap.size + 1; omega, by show w.heap.size ≠ w.heap.size + 2; omega, by show w.heap.size + 1 ≠ w.heap.size + 2; omega, by simp, by simp, by simp⟩, bt (ba _ _) (bt b2 (bt b3 b4))⟩
theorem new_any (w : World) : Calls Try.prog 16 #[] w fun e w' => e = .returned (.pointer (some ⟨w.heap.size + 3, 0, none⟩)) ∧ Fb w' (w.heap.size + 3) (newF w) [] [] [] ∧ Below w.heap.size w w' := by
  have hmk := run_mkE
  have hmt := run_mkT
  have hbd := bdF
  have hbx := run_boxF
  go_enter Try.func16, Try.ntmps16
  go_wp2_with fail
  go_ret
  exact ⟨rfl, (new_fb w).1, (new_fb w).2⟩
theorem busy_any {w : World} {f : Nat} {x : Fv} {W H : List En} {A : List (Pr × Int)} (h : Fb w f x W H A) : Calls Try.prog 38 #[.pointer (some ⟨f, 0, none⟩)] w fun e w' => e = .returned (.bool (x.d.k != 0)) ∧ w = w' := by
  have c3 := h.row.f3
  clear h
  go_enter Try.func38, Try.ntmps38
  go_wp2_with fail
  go_ret
  exact ⟨rfl, rfl⟩
end Go.Proofs.Ytiihlgcafppehaa
