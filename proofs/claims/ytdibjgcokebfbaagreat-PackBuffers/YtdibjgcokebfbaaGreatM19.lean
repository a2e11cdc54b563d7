/-
  The contracts of unnamed, fits and Check of package packet for Tlvs that Parse may tell.
-/
import Derived.Test.YtdibjgcokebfbaaGreatM16
import Derived.Test.YtdibjgcokebfbaaGreatM18
namespace Go.Proofs.YtdibjgcokebfbaaGreat
open Go.RowKit
set_option linter.unusedSimpArgs false
set_option maxRecDepth 20000

section
variable {ops : Array Oper} {rest : List Oper} {op : Oper} {a : Act} {w : World} {Q : Exit → Act → World → Prop}
theorem stAt (x y : Operand) (hw : Region.wanted op (yielded ops a.tmps) = true) (ho : op.op = .store 23 x y) (b : Nat) (t : Tl) (q : Ad) (hx : a.eval x = .pointer (some ⟨b, 17, none⟩)) (hy : a.eval y = (Value.agg (acells q).toArray)) (hr : Row w b 45 (tcells t))
    (h : ∀ W, w.grownBy W (some b) → Row W b 45 (tcells { t with ad := q }) → wpList Tryz.prog ops Q rest (a.put op.dst undef) W) : wpList Tryz.prog ops Q (op :: rest) a w :=
  stA x y hw ho b 17 q hx hy (hr.thereMid (by rw [tcells_len]; omega)) (h _ (grownBy_setCells b _ _ _) (hr.tAd q))
end

@[irreducible] def t8 (t : Tl) : Tl := { t with intv := 0, seq := 0, met := 0, all := false }
theorem t8_def (t : Tl) : t8 t = { t with intv := 0, seq := 0, met := 0, all := false } := by unfold t8; rfl
def w8 (w : World) (b : Nat) : World := (((w.setCell ⟨b, 2, none⟩ (.int .u16 0)).setCell ⟨b, 3, none⟩ (.int .u16 0)).setCell ⟨b, 5, none⟩ (.int .u16 0)).setCell ⟨b, 8, none⟩ (.bool false)
set_option maxHeartbeats 400000 in
theorem rows8 {w : World} {b : Nat} {t : Tl} (rT : Row w b 45 (tcells t)) : Row (w8 w b) b 45 (tcells (t8 t)) := by
  rw [t8_def]
  have r2 : Row (w.setCell ⟨b, 2, none⟩ (.int .u16 0)) b 45 (tcells { t with intv := 0 }) := rT.set 2 (.int .u16 0)
  have r3 : Row ((w.setCell ⟨b, 2, none⟩ (.int .u16 0)).setCell ⟨b, 3, none⟩ (.int .u16 0)) b 45 (tcells { t with intv := 0, seq := 0 }) := r2.set 3 (.int .u16 0)
  have r5 : Row (((w.setCell ⟨b, 2, none⟩ (.int .u16 0)).setCell ⟨b, 3, none⟩ (.int .u16 0)).setCell ⟨b, 5, none⟩ (.int .u16 0)) b 45 (tcells { t with intv := 0, seq := 0, met := 0 }) := r3.set 5 (.int .u16 0)
  exact r5.tAll false
theorem other8 {w : World} {b g : Nat} {T : Nat} {l : List Value} (r : Row w g T l) (h : g ≠ b) : Row (w8 w b) g T l :=
  (((r.setOther b 2 (.int .u16 0) (fun e => h e.symm)).setOther b 3 (.int .u16 0) (fun e => h e.symm)).setOther b 5 (.int .u16 0) (fun e => h e.symm)).setOther b 8 (.bool false) (fun e => h e.symm)
theorem below8 {w W : World} {n b : Nat} (h : Below n w W) (hb : n ≤ b) : Below n w (w8 W b) :=
  Below.setCell (Below.setCell (Below.setCell (Below.setCell h (p := ⟨b, 2, none⟩) hb (.int .u16 0)) (p := ⟨b, 3, none⟩) hb (.int .u16 0)) (p := ⟨b, 5, none⟩) hb (.int .u16 0)) (p := ⟨b, 8, none⟩) hb (.bool false)

theorem cell8 {w : World} {b : Nat} {t : Tl} (r : Row w b 45 (tcells t)) (h : t.ty = 8) : w.cell? ⟨b, 0, none⟩ = some (.int .u8 8) ∧ (∃ v, w.cell? ⟨b, 2, none⟩ = some v) ∧ (∃ v, w.cell? ⟨b, 3, none⟩ = some v) ∧ (∃ v, w.cell? ⟨b, 5, none⟩ = some v) ∧ (∃ v, w.cell? ⟨b, 8, none⟩ = some v) :=
  ⟨by rw [r.cell 0]; show some (Value.int .u8 (t.ty : Int)) = _; rw [h]; rfl, ⟨_, (r.cell 2).trans rfl⟩, ⟨_, (r.cell 3).trans rfl⟩, ⟨_, (r.cell 5).trans rfl⟩, ⟨_, (r.cell 8).trans rfl⟩⟩

set_option maxHeartbeats 4000000 in
theorem unnamed_8 (t : Tl) (w : World) (hy : t.ty = 8) :
    Calls Tryz.prog 62 #[.agg (tcells t).toArray] w fun e w' => e = .returned (.tuple #[.agg (tcells { t8 t with pr := zeroQ, id := zeroI, ad := zeroA }).toArray, .bool true]) ∧ Below w.heap.size w w' := by
  have HY : Hid (t.ty = 8) := hy
  clear hy
  have RT := Row.new w 45 (tcells t)
  go_enter Tryz.func62, Tryz.ntmps62
  go_wp2_with (first
    | (have kk := q3; refine stT (.tmp 2) (.tmp 53) (by rfl) rfl gA { t8 t with pr := zeroQ, id := zeroI, ad := zeroA } zeroT rfl rfl (p3) ?_; intro w8 hg8 r8)
    | (have kk := q3; refine ldT (.tmp 1) (by rfl) rfl w.heap.size { t8 t with pr := zeroQ, id := zeroI, ad := zeroA } rfl (q3) ?_)
    | (have kk := q2; refine stAt (.tmp 39) (.tmp 36) (by rfl) rfl w.heap.size { t8 t with pr := zeroQ, id := zeroI } zeroA rfl rfl q2 ?_; intro wq3 hq3 q3; have p3 := p2.grown hq3 (fun e => hne (Option.some.inj e)); have bq3 := bq2.grown hq3 bq2.size (fun k hk => by cases hk; exact Nat.le_refl _))
    | (have kk := q1; refine stIt (.tmp 38) (.tmp 35) (by rfl) rfl w.heap.size { t8 t with pr := zeroQ } zeroI rfl rfl q1 ?_; intro wq2 hq2 q2; have p2 := p1.grown hq2 (fun e => hne (Option.some.inj e)); have bq2 := bq1.grown hq2 bq1.size (fun k hk => by cases hk; exact Nat.le_refl _))
    | (refine stQt (.tmp 37) (.tmp 34) (by rfl) rfl w.heap.size (t8 t) zeroQ rfl rfl ?row ?_; exact rows8 rT; intro wq1 hq1 q1; have p1 := (other8 rA hne).grown hq1 (fun e => hne (Option.some.inj e)); have bq1 := (below8 (bt (ba w (.cells (tcells t).toArray 45)) a3) (Nat.le_refl _)).grown hq1 (below8 (bt (ba w (.cells (tcells t).toArray 45)) a3) (Nat.le_refl _)).size (fun k hk => by cases hk; exact Nat.le_refl _))
    | (refine alG infoTz (by rfl) rfl ?_; intro gA wA a1 a2 a3 rA; have rT := RT.below a3 RT.lt; have hne : gA ≠ w.heap.size := (by simp at a1; omega); obtain ⟨c0, ⟨v2, c2⟩, ⟨v3, c3⟩, ⟨v5, c5⟩, ⟨v8, c8⟩⟩ := cell8 rT HY.out; have f2 := rT.frozen 2; have f3 := rT.frozen 3; have f5 := rT.frozen 5; have f8 := rT.frozen 8))
  exact bodyPost_ret (retCT rfl _ _ 0 rfl (lvT r8)) rfl ⟨rfl, bq3.grown hg8 bq3.size (fun k hk => by cases hk; simp at a1; omega)⟩
end Go.Proofs.YtdibjgcokebfbaaGreat

namespace Go.Proofs.YtdibjgcokebfbaaGreat
open Go.RowKit
set_option linter.unusedSimpArgs false
set_option maxRecDepth 20000

set_option maxHeartbeats 4000000 in
theorem unnamed_2 (t : Tl) (w : World) (hy : t.ty = 2) :
    Calls Tryz.prog 62 #[.agg (tcells t).toArray] w fun e w' => e = .returned (.tuple #[.agg (tcells { t with nonce := 0, intv := 0 }).toArray, .bool true]) ∧ Below w.heap.size w w' := by
  have HY : Hid (t.ty = 2) := hy
  clear hy
  have RT := Row.new w 45 (tcells t)
  go_enter Tryz.func62, Tryz.ntmps62
  go_wp2_with (first
    | (refine stT (.tmp 2) (.tmp 53) (by rfl) rfl gA { t with nonce := 0, intv := 0 } zeroT rfl rfl ?row1 ?_; exact ((show Row ((wA.setCell ⟨w.heap.size, 1, none⟩ (.int .u16 0)).setCell ⟨w.heap.size, 2, none⟩ (.int .u16 0)) gA 45 (tcells zeroT) from ((rA).setOther w.heap.size 1 (.int .u16 0) (fun e => hne e.symm)).setOther w.heap.size 2 (.int .u16 0) (fun e => hne e.symm))); intro w8 hg8 r8)
    | (refine ldT (.tmp 1) (by rfl) rfl w.heap.size { t with nonce := 0, intv := 0 } rfl ?row2 ?_; exact ((show Row ((wA.setCell ⟨w.heap.size, 1, none⟩ (.int .u16 0)).setCell ⟨w.heap.size, 2, none⟩ (.int .u16 0)) w.heap.size 45 (tcells { t with nonce := 0, intv := 0 }) from ((rT).set 1 (.int .u16 0)).set 2 (.int .u16 0))))
    | (refine alG infoTz (by rfl) rfl ?_; intro gA wA a1 a2 a3 rA; have rT := RT.below a3 RT.lt; have hne : gA ≠ w.heap.size := (by simp at a1; omega); have c0 : wA.cell? ⟨w.heap.size, 0, none⟩ = some (.int .u8 2) := (by have := rT.cell 0; rw [this]; show some (Value.int .u8 (t.ty : Int)) = _; rw [HY.out]; rfl); have c1 : ∃ v, wA.cell? ⟨w.heap.size, 1, none⟩ = some v := (by rw [rT.cell]; exact ⟨_, rfl⟩); obtain ⟨v1, c1⟩ := c1; have f1 := rT.frozen 1; have c2 : ∃ v, wA.cell? ⟨w.heap.size, 2, none⟩ = some v := (by rw [rT.cell]; exact ⟨_, rfl⟩); obtain ⟨v2, c2⟩ := c2; have f2 := rT.frozen 2))
  exact bodyPost_ret (retCT rfl _ _ 0 rfl (lvT r8)) rfl ⟨rfl, (Below.setCell (Below.setCell (bt (ba w (.cells (tcells t).toArray 45)) a3) (p := ⟨w.heap.size, 1, none⟩) (Nat.le_refl _) (.int .u16 0)) (p := ⟨w.heap.size, 2, none⟩) (Nat.le_refl _) (.int .u16 0)).grown hg8 (Below.setCell (Below.setCell (bt (ba w (.cells (tcells t).toArray 45)) a3) (p := ⟨w.heap.size, 1, none⟩) (Nat.le_refl _) (.int .u16 0)) (p := ⟨w.heap.size, 2, none⟩) (Nat.le_refl _) (.int .u16 0)).size (fun k hk => by cases hk; simp at a1; omega)⟩
set_option maxHeartbeats 4000000 in
theorem unnamed_5 (t : Tl) (w : World) (hy : t.ty = 5) :
    Calls Tryz.prog 62 #[.agg (tcells t).toArray] w fun e w' => e = .returned (.tuple #[.agg (tcells { t with rx := 0, intv := 0, all := false, ad := zeroA, sa := none, sn := 0, sc := 0, st := [] }).toArray, .bool true]) ∧ Below w.heap.size w w' := by
  have HY : Hid (t.ty = 5) := hy
  clear hy
  have RT := Row.new w 45 (tcells t)
  go_enter Tryz.func62, Tryz.ntmps62
  go_wp2_with (first
    | (have kk := q1; refine stT (.tmp 2) (.tmp 53) (by rfl) rfl gA { t with rx := 0, intv := 0, all := false, ad := zeroA, sa := none, sn := 0, sc := 0, st := [] } zeroT rfl rfl ((p1.setOther w.heap.size 67 (.slice none 0 0) (fun e => hne e.symm))) ?_; intro w8 hg8 r8)
    | (have kk := q1; refine ldT (.tmp 1) (by rfl) rfl w.heap.size { t with rx := 0, intv := 0, all := false, ad := zeroA, sa := none, sn := 0, sc := 0, st := [] } rfl ((q1.tSt none 0 0 [])) ?_)
    | (refine stAt (.tmp 26) (.tmp 22) (by rfl) rfl w.heap.size { t with rx := 0, intv := 0, all := false } zeroA rfl rfl ?row1 ?_; exact (show Row (((wA.setCell ⟨w.heap.size, 4, none⟩ (.int .u16 0)).setCell ⟨w.heap.size, 2, none⟩ (.int .u16 0)).setCell ⟨w.heap.size, 8, none⟩ (.bool false)) w.heap.size 45 (tcells { t with rx := 0, intv := 0, all := false }) from (((rT).set 4 (.int .u16 0)).set 2 (.int .u16 0)).set 8 (.bool false)); intro wq1 hq1 q1; have p1 := (show Row (((wA.setCell ⟨w.heap.size, 4, none⟩ (.int .u16 0)).setCell ⟨w.heap.size, 2, none⟩ (.int .u16 0)).setCell ⟨w.heap.size, 8, none⟩ (.bool false)) gA 45 (tcells zeroT) from (((rA).setOther w.heap.size 4 (.int .u16 0) (fun e => hne e.symm)).setOther w.heap.size 2 (.int .u16 0) (fun e => hne e.symm)).setOther w.heap.size 8 (.bool false) (fun e => hne e.symm)).grown hq1 (fun e => hne (Option.some.inj e)); have bq1 := (Below.setCell (Below.setCell (Below.setCell (bt (ba w (.cells (tcells t).toArray 45)) a3) (p := ⟨w.heap.size, 4, none⟩) (Nat.le_refl _) (.int .u16 0)) (p := ⟨w.heap.size, 2, none⟩) (Nat.le_refl _) (.int .u16 0)) (p := ⟨w.heap.size, 8, none⟩) (Nat.le_refl _) (.bool false)).grown hq1 (Below.setCell (Below.setCell (Below.setCell (bt (ba w (.cells (tcells t).toArray 45)) a3) (p := ⟨w.heap.size, 4, none⟩) (Nat.le_refl _) (.int .u16 0)) (p := ⟨w.heap.size, 2, none⟩) (Nat.le_refl _) (.int .u16 0)) (p := ⟨w.heap.size, 8, none⟩) (Nat.le_refl _) (.bool false)).size (fun k hk => by cases hk; exact Nat.le_refl _); have d67 : wq1.cell? ⟨w.heap.size, 67, none⟩ = some (.slice t.sa t.sn t.sc) := q1.rSt; have g67 := q1.frozen 67)
    | (refine alG infoTz (by rfl) rfl ?_; intro gA wA a1 a2 a3 rA; have rT := RT.below a3 RT.lt; have hne : gA ≠ w.heap.size := (by simp at a1; omega); have c0 : wA.cell? ⟨w.heap.size, 0, none⟩ = some (.int .u8 5) := (by have := rT.cell 0; rw [this]; show some (Value.int .u8 (t.ty : Int)) = _; rw [HY.out]; rfl); have c4 : ∃ v, wA.cell? ⟨w.heap.size, 4, none⟩ = some v := (by rw [rT.cell]; exact ⟨_, rfl⟩); obtain ⟨v4, c4⟩ := c4; have f4 := rT.frozen 4; have c2 : ∃ v, wA.cell? ⟨w.heap.size, 2, none⟩ = some v := (by rw [rT.cell]; exact ⟨_, rfl⟩); obtain ⟨v2, c2⟩ := c2; have f2 := rT.frozen 2; have c8 : ∃ v, wA.cell? ⟨w.heap.size, 8, none⟩ = some v := (by rw [rT.cell]; exact ⟨_, rfl⟩); obtain ⟨v8, c8⟩ := c8; have f8 := rT.frozen 8; have c67 : ∃ v, wA.cell? ⟨w.heap.size, 67, none⟩ = some v := (by rw [rT.cell]; exact ⟨_, tcells_get t⟩); obtain ⟨v67, c67⟩ := c67; have f67 := rT.frozen 67))
  exact bodyPost_ret (retCT rfl _ _ 0 rfl (lvT r8)) rfl ⟨rfl, (bq1.setCell (p := ⟨w.heap.size, 67, none⟩) (Nat.le_refl _) (.slice none 0 0)).grown hg8 (bq1.setCell (p := ⟨w.heap.size, 67, none⟩) (Nat.le_refl _) (.slice none 0 0)).size (fun k hk => by cases hk; simp at a1; omega)⟩
set_option maxHeartbeats 4000000 in
theorem unnamed_9 (t : Tl) (w : World) (hy : t.ty = 9) :
    Calls Tryz.prog 62 #[.agg (tcells t).toArray] w fun e w' => e = .returned (.tuple #[.agg (tcells { t with all := false, pr := zeroQ }).toArray, .bool true]) ∧ Below w.heap.size w w' := by
  have HY : Hid (t.ty = 9) := hy
  clear hy
  have RT := Row.new w 45 (tcells t)
  go_enter Tryz.func62, Tryz.ntmps62
  go_wp2_with (first
    | (have kk := q1; refine stT (.tmp 2) (.tmp 53) (by rfl) rfl gA { t with all := false, pr := zeroQ } zeroT rfl rfl (p1) ?_; intro w8 hg8 r8)
    | (have kk := q1; refine ldT (.tmp 1) (by rfl) rfl w.heap.size { t with all := false, pr := zeroQ } rfl (q1) ?_)
    | (refine stQt (.tmp 44) (.tmp 42) (by rfl) rfl w.heap.size { t with all := false } zeroQ rfl rfl ?row1 ?_; exact (show Row (wA.setCell ⟨w.heap.size, 8, none⟩ (.bool false)) w.heap.size 45 (tcells { t with all := false }) from (rT).set 8 (.bool false)); intro wq1 hq1 q1; have p1 := (show Row (wA.setCell ⟨w.heap.size, 8, none⟩ (.bool false)) gA 45 (tcells zeroT) from (rA).setOther w.heap.size 8 (.bool false) (fun e => hne e.symm)).grown hq1 (fun e => hne (Option.some.inj e)); have bq1 := (Below.setCell (bt (ba w (.cells (tcells t).toArray 45)) a3) (p := ⟨w.heap.size, 8, none⟩) (Nat.le_refl _) (.bool false)).grown hq1 (Below.setCell (bt (ba w (.cells (tcells t).toArray 45)) a3) (p := ⟨w.heap.size, 8, none⟩) (Nat.le_refl _) (.bool false)).size (fun k hk => by cases hk; exact Nat.le_refl _))
    | (refine alG infoTz (by rfl) rfl ?_; intro gA wA a1 a2 a3 rA; have rT := RT.below a3 RT.lt; have hne : gA ≠ w.heap.size := (by simp at a1; omega); have c0 : wA.cell? ⟨w.heap.size, 0, none⟩ = some (.int .u8 9) := (by have := rT.cell 0; rw [this]; show some (Value.int .u8 (t.ty : Int)) = _; rw [HY.out]; rfl); have c8 : ∃ v, wA.cell? ⟨w.heap.size, 8, none⟩ = some v := (by rw [rT.cell]; exact ⟨_, rfl⟩); obtain ⟨v8, c8⟩ := c8; have f8 := rT.frozen 8))
  exact bodyPost_ret (retCT rfl _ _ 0 rfl (lvT r8)) rfl ⟨rfl, bq1.grown hg8 bq1.size (fun k hk => by cases hk; simp at a1; omega)⟩
set_option maxHeartbeats 4000000 in
theorem unnamed_3 (t : Tl) (w : World) (hy : t.ty = 3) :
    Calls Tryz.prog 62 #[.agg (tcells t).toArray] w fun e w' => e = .returned (.tuple #[.agg (tcells { t with nonce := 0 }).toArray, .bool true]) ∧ Below w.heap.size w w' := by
  have HY : Hid (t.ty = 3) := hy
  clear hy
  have RT := Row.new w 45 (tcells t)
  go_enter Tryz.func62, Tryz.ntmps62
  go_wp2_with (first
    | (refine stT (.tmp 2) (.tmp 53) (by rfl) rfl gA { t with nonce := 0 } zeroT rfl rfl ?row1 ?_; exact ((show Row (wA.setCell ⟨w.heap.size, 1, none⟩ (.int .u16 0)) gA 45 (tcells zeroT) from (rA).setOther w.heap.size 1 (.int .u16 0) (fun e => hne e.symm))); intro w8 hg8 r8)
    | (refine ldT (.tmp 1) (by rfl) rfl w.heap.size { t with nonce := 0 } rfl ?row2 ?_; exact ((show Row (wA.setCell ⟨w.heap.size, 1, none⟩ (.int .u16 0)) w.heap.size 45 (tcells { t with nonce := 0 }) from (rT).set 1 (.int .u16 0))))
    | (refine alG infoTz (by rfl) rfl ?_; intro gA wA a1 a2 a3 rA; have rT := RT.below a3 RT.lt; have hne : gA ≠ w.heap.size := (by simp at a1; omega); have c0 : wA.cell? ⟨w.heap.size, 0, none⟩ = some (.int .u8 3) := (by have := rT.cell 0; rw [this]; show some (Value.int .u8 (t.ty : Int)) = _; rw [HY.out]; rfl); have c1 : ∃ v, wA.cell? ⟨w.heap.size, 1, none⟩ = some v := (by rw [rT.cell]; exact ⟨_, rfl⟩); obtain ⟨v1, c1⟩ := c1; have f1 := rT.frozen 1))
  exact bodyPost_ret (retCT rfl _ _ 0 rfl (lvT r8)) rfl ⟨rfl, (Below.setCell (bt (ba w (.cells (tcells t).toArray 45)) a3) (p := ⟨w.heap.size, 1, none⟩) (Nat.le_refl _) (.int .u16 0)).grown hg8 (Below.setCell (bt (ba w (.cells (tcells t).toArray 45)) a3) (p := ⟨w.heap.size, 1, none⟩) (Nat.le_refl _) (.int .u16 0)).size (fun k hk => by cases hk; simp at a1; omega)⟩
set_option maxHeartbeats 4000000 in
theorem unnamed_4 (t : Tl) (w : World) (hy : t.ty = 4) :
    Calls Tryz.prog 62 #[.agg (tcells t).toArray] w fun e w' => e = .returned (.tuple #[.agg (tcells { t with seq := 0, intv := 0, uni := false, sa := none, sn := 0, sc := 0, st := [] }).toArray, .bool true]) ∧ Below w.heap.size w w' := by
  have HY : Hid (t.ty = 4) := hy
  clear hy
  have RT := Row.new w 45 (tcells t)
  go_enter Tryz.func62, Tryz.ntmps62
  go_wp2_with (first
    | (refine stT (.tmp 2) (.tmp 53) (by rfl) rfl gA { t with seq := 0, intv := 0, uni := false, sa := none, sn := 0, sc := 0, st := [] } zeroT rfl rfl ?row1 ?_; exact (((show Row (((wA.setCell ⟨w.heap.size, 3, none⟩ (.int .u16 0)).setCell ⟨w.heap.size, 2, none⟩ (.int .u16 0)).setCell ⟨w.heap.size, 7, none⟩ (.bool false)) gA 45 (tcells zeroT) from (((rA).setOther w.heap.size 3 (.int .u16 0) (fun e => hne e.symm)).setOther w.heap.size 2 (.int .u16 0) (fun e => hne e.symm)).setOther w.heap.size 7 (.bool false) (fun e => hne e.symm)).setOther w.heap.size 67 (.slice none 0 0) (fun e => hne e.symm))); intro w8 hg8 r8)
    | (refine ldT (.tmp 1) (by rfl) rfl w.heap.size { t with seq := 0, intv := 0, uni := false, sa := none, sn := 0, sc := 0, st := [] } rfl ?row2 ?_; exact (((show Row (((wA.setCell ⟨w.heap.size, 3, none⟩ (.int .u16 0)).setCell ⟨w.heap.size, 2, none⟩ (.int .u16 0)).setCell ⟨w.heap.size, 7, none⟩ (.bool false)) w.heap.size 45 (tcells { t with seq := 0, intv := 0, uni := false }) from (((rT).set 3 (.int .u16 0)).set 2 (.int .u16 0)).set 7 (.bool false)).tSt none 0 0 [])))
    | (refine alG infoTz (by rfl) rfl ?_; intro gA wA a1 a2 a3 rA; have rT := RT.below a3 RT.lt; have hne : gA ≠ w.heap.size := (by simp at a1; omega); have c0 : wA.cell? ⟨w.heap.size, 0, none⟩ = some (.int .u8 4) := (by have := rT.cell 0; rw [this]; show some (Value.int .u8 (t.ty : Int)) = _; rw [HY.out]; rfl); have c3 : ∃ v, wA.cell? ⟨w.heap.size, 3, none⟩ = some v := (by rw [rT.cell]; exact ⟨_, rfl⟩); obtain ⟨v3, c3⟩ := c3; have f3 := rT.frozen 3; have c2 : ∃ v, wA.cell? ⟨w.heap.size, 2, none⟩ = some v := (by rw [rT.cell]; exact ⟨_, rfl⟩); obtain ⟨v2, c2⟩ := c2; have f2 := rT.frozen 2; have c7 : ∃ v, wA.cell? ⟨w.heap.size, 7, none⟩ = some v := (by rw [rT.cell]; exact ⟨_, rfl⟩); obtain ⟨v7, c7⟩ := c7; have f7 := rT.frozen 7; have c67 : ∃ v, wA.cell? ⟨w.heap.size, 67, none⟩ = some v := (by rw [rT.cell]; exact ⟨_, tcells_get t⟩); obtain ⟨v67, c67⟩ := c67; have f67 := rT.frozen 67))
  exact bodyPost_ret (retCT rfl _ _ 0 rfl (lvT r8)) rfl ⟨rfl, ((Below.setCell (Below.setCell (Below.setCell (bt (ba w (.cells (tcells t).toArray 45)) a3) (p := ⟨w.heap.size, 3, none⟩) (Nat.le_refl _) (.int .u16 0)) (p := ⟨w.heap.size, 2, none⟩) (Nat.le_refl _) (.int .u16 0)) (p := ⟨w.heap.size, 7, none⟩) (Nat.le_refl _) (.bool false)).setCell (p := ⟨w.heap.size, 67, none⟩) (Nat.le_refl _) (.slice none 0 0)).grown hg8 ((Below.setCell (Below.setCell (Below.setCell (bt (ba w (.cells (tcells t).toArray 45)) a3) (p := ⟨w.heap.size, 3, none⟩) (Nat.le_refl _) (.int .u16 0)) (p := ⟨w.heap.size, 2, none⟩) (Nat.le_refl _) (.int .u16 0)) (p := ⟨w.heap.size, 7, none⟩) (Nat.le_refl _) (.bool false)).setCell (p := ⟨w.heap.size, 67, none⟩) (Nat.le_refl _) (.slice none 0 0)).size (fun k hk => by cases hk; simp at a1; omega)⟩
set_option maxHeartbeats 4000000 in
theorem unnamed_10 (t : Tl) (w : World) (hy : t.ty = 10) :
    Calls Tryz.prog 62 #[.agg (tcells t).toArray] w fun e w' => e = .returned (.tuple #[.agg (tcells { t with seq := 0, hops := 0, id := zeroI, pr := zeroQ }).toArray, .bool true]) ∧ Below w.heap.size w w' := by
  have HY : Hid (t.ty = 10) := hy
  clear hy
  have RT := Row.new w 45 (tcells t)
  go_enter Tryz.func62, Tryz.ntmps62
  go_wp2_with (first
    | (have kk := q2; refine stT (.tmp 2) (.tmp 53) (by rfl) rfl gA { t with seq := 0, hops := 0, id := zeroI, pr := zeroQ } zeroT rfl rfl (p2) ?_; intro w8 hg8 r8)
    | (have kk := q2; refine ldT (.tmp 1) (by rfl) rfl w.heap.size { t with seq := 0, hops := 0, id := zeroI, pr := zeroQ } rfl (q2) ?_)
    | (have kk := q1; refine stQt (.tmp 52) (.tmp 48) (by rfl) rfl w.heap.size { t with seq := 0, hops := 0, id := zeroI } zeroQ rfl rfl q1 ?_; intro wq2 hq2 q2; have p2 := p1.grown hq2 (fun e => hne (Option.some.inj e)); have bq2 := bq1.grown hq2 bq1.size (fun k hk => by cases hk; exact Nat.le_refl _))
    | (refine stIt (.tmp 51) (.tmp 47) (by rfl) rfl w.heap.size { t with seq := 0, hops := 0 } zeroI rfl rfl ?row1 ?_; exact (show Row ((wA.setCell ⟨w.heap.size, 3, none⟩ (.int .u16 0)).setCell ⟨w.heap.size, 6, none⟩ (.int .u8 0)) w.heap.size 45 (tcells { t with seq := 0, hops := 0 }) from ((rT).set 3 (.int .u16 0)).set 6 (.int .u8 0)); intro wq1 hq1 q1; have p1 := (show Row ((wA.setCell ⟨w.heap.size, 3, none⟩ (.int .u16 0)).setCell ⟨w.heap.size, 6, none⟩ (.int .u8 0)) gA 45 (tcells zeroT) from ((rA).setOther w.heap.size 3 (.int .u16 0) (fun e => hne e.symm)).setOther w.heap.size 6 (.int .u8 0) (fun e => hne e.symm)).grown hq1 (fun e => hne (Option.some.inj e)); have bq1 := (Below.setCell (Below.setCell (bt (ba w (.cells (tcells t).toArray 45)) a3) (p := ⟨w.heap.size, 3, none⟩) (Nat.le_refl _) (.int .u16 0)) (p := ⟨w.heap.size, 6, none⟩) (Nat.le_refl _) (.int .u8 0)).grown hq1 (Below.setCell (Below.setCell (bt (ba w (.cells (tcells t).toArray 45)) a3) (p := ⟨w.heap.size, 3, none⟩) (Nat.le_refl _) (.int .u16 0)) (p := ⟨w.heap.size, 6, none⟩) (Nat.le_refl _) (.int .u8 0)).size (fun k hk => by cases hk; exact Nat.le_refl _))
    | (refine alG infoTz (by rfl) rfl ?_; intro gA wA a1 a2 a3 rA; have rT := RT.below a3 RT.lt; have hne : gA ≠ w.heap.size := (by simp at a1; omega); have c0 : wA.cell? ⟨w.heap.size, 0, none⟩ = some (.int .u8 10) := (by have := rT.cell 0; rw [this]; show some (Value.int .u8 (t.ty : Int)) = _; rw [HY.out]; rfl); have c3 : ∃ v, wA.cell? ⟨w.heap.size, 3, none⟩ = some v := (by rw [rT.cell]; exact ⟨_, rfl⟩); obtain ⟨v3, c3⟩ := c3; have f3 := rT.frozen 3; have c6 : ∃ v, wA.cell? ⟨w.heap.size, 6, none⟩ = some v := (by rw [rT.cell]; exact ⟨_, rfl⟩); obtain ⟨v6, c6⟩ := c6; have f6 := rT.frozen 6))
  exact bodyPost_ret (retCT rfl _ _ 0 rfl (lvT r8)) rfl ⟨rfl, bq2.grown hg8 bq2.size (fun k hk => by cases hk; simp at a1; omega)⟩
end Go.Proofs.YtdibjgcokebfbaaGreat

namespace Go.Proofs.YtdibjgcokebfbaaGreat
open Go.RowKit
set_option linter.unusedSimpArgs false
set_option maxRecDepth 20000

theorem Id8.lit (i : Id8) : ∃ b0 b1 b2 b3 b4 b5 b6 b7, i.l = [b0, b1, b2, b3, b4, b5, b6, b7] := by
  obtain ⟨l, hl⟩ := i
  match l, hl with
  | [b0, b1, b2, b3, b4, b5, b6, b7], _ => exact ⟨b0, b1, b2, b3, b4, b5, b6, b7, rfl⟩
theorem tid_get (t : Tl) (k : Nat) (hk : k < 8) : (tcells t)[9 + k]? = (icells t.id)[k]? := by
  unfold tcells
  rw [List.getElem?_append_right (by simp [tnum]), List.getElem?_append_left (by simp [tnum, icells_len]; omega)]
  congr 1
  simp [tnum]
end Go.Proofs.YtdibjgcokebfbaaGreat

namespace Go.Proofs.YtdibjgcokebfbaaGreat
open Go.RowKit
set_option linter.unusedSimpArgs false
set_option maxRecDepth 20000

theorem fits_2 (t : Tl) (w : World) (hy : t.ty = 2) :
    Calls Tryz.prog 64 #[.agg (tcells t).toArray] w fun e w' => e = .returned (.bool true) ∧ Below w.heap.size w w' := by
  have T0 : (tcells t)[0]? = some (.int .u8 2) := by show some (Value.int .u8 (t.ty : Int)) = _; rw [hy]; rfl
  clear hy
  go_enter Tryz.func64, Tryz.ntmps64
  go_wp2
  go_ret
  exact ⟨rfl, ba _ _⟩
theorem fits_3 (t : Tl) (w : World) (hy : t.ty = 3) :
    Calls Tryz.prog 64 #[.agg (tcells t).toArray] w fun e w' => e = .returned (.bool true) ∧ Below w.heap.size w w' := by
  have T0 : (tcells t)[0]? = some (.int .u8 3) := by show some (Value.int .u8 (t.ty : Int)) = _; rw [hy]; rfl
  clear hy
  go_enter Tryz.func64, Tryz.ntmps64
  go_wp2
  go_ret
  exact ⟨rfl, ba _ _⟩
theorem fits_5_0false (t : Tl) (w : World) (hy : t.ty = 5) (hs : t.sn = 0) (hall : t.all = false) :
    Calls Tryz.prog 64 #[.agg (tcells t).toArray] w fun e w' => e = .returned (.bool true) ∧ Below w.heap.size w w' := by
  have RT := Row.new w 45 (tcells t)
  have T67 := tcells_get t
  rw [hs] at T67
  have T8 : (tcells t)[8]? = some (.bool false) := by rw [← hall]; rfl
  have T0 : (tcells t)[0]? = some (.int .u8 5) := by show some (Value.int .u8 (t.ty : Int)) = _; rw [hy]; rfl
  clear hy
  clear hs hall
  go_enter Tryz.func64, Tryz.ntmps64
  go_wp2
  go_ret
  exact ⟨rfl, ba _ _⟩
theorem fits_5_2false (t : Tl) (w : World) (hy : t.ty = 5) (hs : t.sn = 2) (hall : t.all = false) :
    Calls Tryz.prog 64 #[.agg (tcells t).toArray] w fun e w' => e = .returned (.bool true) ∧ Below w.heap.size w w' := by
  have RT := Row.new w 45 (tcells t)
  have T67 := tcells_get t
  rw [hs] at T67
  have T8 : (tcells t)[8]? = some (.bool false) := by rw [← hall]; rfl
  have T0 : (tcells t)[0]? = some (.int .u8 5) := by show some (Value.int .u8 (t.ty : Int)) = _; rw [hy]; rfl
  clear hy
  clear hs hall
  go_enter Tryz.func64, Tryz.ntmps64
  go_wp2
  go_ret
  exact ⟨rfl, ba _ _⟩
theorem fits_9false (t : Tl) (w : World) (hy : t.ty = 9) (hall : t.all = false) :
    Calls Tryz.prog 64 #[.agg (tcells t).toArray] w fun e w' => e = .returned (.bool true) ∧ Below w.heap.size w w' := by
  have RT := Row.new w 45 (tcells t)
  have T8 : (tcells t)[8]? = some (.bool false) := by rw [← hall]; rfl
  have T0 : (tcells t)[0]? = some (.int .u8 9) := by show some (Value.int .u8 (t.ty : Int)) = _; rw [hy]; rfl
  clear hy
  clear hall
  go_enter Tryz.func64, Tryz.ntmps64
  go_wp2
  go_ret
  exact ⟨rfl, ba _ _⟩
end Go.Proofs.YtdibjgcokebfbaaGreat

namespace Go.Proofs.YtdibjgcokebfbaaGreat
open Go.RowKit
set_option linter.unusedSimpArgs false
set_option maxRecDepth 20000
variable {bv : Option Addr}

def r0 : RS := ⟨0, 0⟩
/-- What a piece says: whether it says something, what, and what it makes of the parser. -/
def sayB (s : St) (t : Nat) (l : List UInt8) : Bool :=
  if t = 2 then aqB l r0 else if t = 3 then ackB l r0 else if t = 4 then heB l r0 else if t = 5 then ihB l r0 else if t = 8 then upB s l r0 else if t = 9 then rrB s l r0 else if t = 10 then sqB s l r0 else false
def sayK (s : St) (t : Nat) (l : List UInt8) : TK :=
  if t = 2 then aqK l r0 else if t = 3 then ackK l r0 else if t = 4 then heK l r0 else if t = 5 then ihK l r0 else if t = 8 then upK s l r0 else if t = 9 then rrK s l r0 else if t = 10 then sqK s l r0 else zeroK
def sayS (s : St) (t : Nat) (l : List UInt8) : St :=
  if t = 6 then riS s l r0 else if t = 7 then nhS s l r0 else if t = 8 then upS s l r0 else s
/-- What say answers. -/
def Said (w : World) (P : Nat) (s' : St) (k : TK) (ok : Bool) (e : Ending) (w' : World) : Prop := SayR w k ok e w' ∧ (∃ R, Par w' P R s') ∧ w.grownBy w' (some P)
theorem Par.c11 {w : World} {P : Nat} {R : Option Nat} {s : St} (h : Par w P R s) : ∃ v, w.cell? ⟨P, 11, none⟩ = some v := by
  obtain ⟨r, h4, h6, d1, d2, k0, _⟩ := h.ex
  exact ⟨_, k0.cell 11⟩
theorem say_6 {w : World} {P : Nat} {R : Option Nat} {s : St} (a : Option Addr) (n c : Nat) (l : List UInt8) (hs : Src w a n c (bcells l))  (hn : n ≤ 140737488355328) (hpar : Par w P R s) :
    Calls Tryz.prog 44 #[.pointer (some ⟨P, 0, none⟩), .agg #[.int .u8 6, .slice a n c]] w (Said w P (riS s l r0) zeroK false) := by
  have hPl := hpar.lt
  go_enter Tryz.func44, Tryz.ntmps44
  go_wp2_with (first
    | (have kk := m4; refine stT (.tmp 4) (.tmp 64) (by rfl) rfl gA zeroT _ rfl rfl rA4 ?_; intro w5 hg5 r5)
    | (go_at_call 79; have kk := P3; refine (routerId_any P3 R3).mono ?_; rintro e w4 ⟨rfl, P4, m4⟩; have rA4 := m4.row rA3 (by omega) (by omega))
    | (go_at_call 67; refine (new_any a n c l _ ((hs.alloc _).below a3 (hs.alloc _).lt) hn).mono ?_; rintro e w2 ⟨g, bv, rfl, hge, hbv, hr2, hb2⟩; have bb := bt (bt (ba w (.cells #[.int .u8 6, .slice a n c] 94)) a3) hb2; have sA := a3.size; have hA0 : w.heap.size ≤ gA := (by simp at a1; omega); have hg0 : w.heap.size ≤ g := (by simp at sA; omega); have P2 := hpar.below bb; have c2 : ∃ v, w2.cell? ⟨P, 11, none⟩ = some v := P2.c11; have f2 := P2.frozen 11; have P3 := P2.setR (g := g); have hgP : g ≠ P := (by omega); have R3 : RdS (w2.setCell ⟨P, 11, none⟩ (.pointer (some ⟨g, 0, none⟩))) g bv l r0 := rd_far (r := r0) hr2 (grownBy_setCell _ _ _ _) hgP (fun ad had _ => by have := hbv ad had; simp at sA; omega); have M3 : Mv w (w2.setCell ⟨P, 11, none⟩ (.pointer (some ⟨g, 0, none⟩))) P g := (Mv.ofB bb).setP 11 _; have rA2 := rA.below hb2 a2; have rA3 := rA2.setOther P 11 (.pointer (some ⟨g, 0, none⟩)) (by omega); have hAg : gA < g := Nat.lt_of_lt_of_le a2 hge; obtain ⟨v2, c2⟩ := c2; have c0 : w2.cell? ⟨w.heap.size, 0, none⟩ = some (.int .u8 6) := (hb2.cell (p := ⟨w.heap.size, 0, none⟩) (by simp at sA; show w.heap.size < _; omega)).trans ((a3.cell (p := ⟨w.heap.size, 0, none⟩) (by simp)).trans ((Row.new w 94 [.int .u8 6, .slice a n c]).cell 0)))
    | (refine alG infoTz (by rfl) rfl ?_; intro gA wA a1 a2 a3 rA; have cb : wA.cell? ⟨w.heap.size, 1, none⟩ = some (.slice a n c) := (a3.cell (p := ⟨w.heap.size, 1, none⟩) (by simp)).trans ((Row.new w 94 [.int .u8 6, .slice a n c]).cell 1)))
  have M5 := (M3.trans m4).fresh hg5 hA0
  have P5 := P4.fresh hg5 (rA4.kind (by decide) (by decide) (by decide))
  exact bodyPost_ret (retCT rfl _ _ 0 rfl (lvT r5)) rfl ⟨⟨zeroT, rfl, (fun e => by cases e), Stms.none _ _ _ rfl rfl rfl rfl⟩, ⟨_, P5⟩, Mv.low M5 (Below.refl _ _) hg0⟩
end Go.Proofs.YtdibjgcokebfbaaGreat

namespace Go.Proofs.YtdibjgcokebfbaaGreat
open Go.RowKit
set_option linter.unusedSimpArgs false
set_option maxRecDepth 20000
variable {bv : Option Addr}

/-- The parser at the beginning of a packet from src. -/
def st0 : St := ⟨none, none, none, none, none⟩
def bgS (src : Ad) : St := setHop st0 (famA src) src
theorem begin_any (src : Ad) (w : World) : Calls Tryz.prog 43 #[(Value.agg (acells src).toArray)] w fun e w' => ∃ P, e = .returned (.pointer (some ⟨P, 0, none⟩)) ∧ w.heap.size ≤ P ∧ Par w' P none (bgS src) ∧ Below w.heap.size w w' := by
  have HF := fam_any src
  have hf := fam_or src
  unfold bgS
  generalize famA src = f at *
  go_enter Tryz.func43, Tryz.ntmps43
  go_wp2
  refine name_world (R := fun W => Code.wp _ _ _ _ W) (P := fun W => Below w.heap.size w W ∧ Par W (w.heap.size + 1) none st0 ∧ Row W w.heap.size 23 (acells src)) _ ⟨bt (ba _ _) (ba _ _), ⟨none, none, none, none, none, two_newR w _ 149 (pcs none none none none none none), trivial, trivial, trivial, trivial, trivial⟩, (Row.new _ _ _).alloc _⟩ ?_
  rintro X ⟨hB, hP, hR⟩
  have P7 := hP.below (bd X)
  have rD := hR.below (bd X) hR.lt
  have bX := bt hB (bd X)
  rcases hf with rfl | rfl
  all_goals
    refine wp_region_noPanic ?_
    refine wp_region_held_drew (S := fun W => Row W w.heap.size 23 (acells src)) (by kernel_rfl) (rD) (fun hHeld => ?_)
    refine tA 0 ?_
    refine tL 1 rfl (yA src (fun W hW => hW.range) (by rfl) rfl rfl) ?_
    refine tA 3 ?_
    refine tA 4 ?_
    refine tA 5 ?_
    refine r1 2 fun K hK => ?_
    go_simp
    refine (HF _).mono ?_
    rintro e w8 ⟨rfl, hb8⟩
    have P8 := P7.below hb8
    have r8 := rD.below hb8 rD.lt
    obtain ⟨_, ⟨v4, c4, _⟩, ⟨v6, c6, _⟩, _⟩ := P8.at
    have f4 := P8.frozen 5
    have f6 := P8.frozen 7
    refine oK hK (by exact r8) fun hHeld => ?_
    clear hK K
    refine tA 6 ?_
    refine r1 7 fun K hK => ?_
    go_simp
    refine oK hK (by exact r8.setOther _ _ _ (by omega)) fun hHeld => ?_
    clear hK K
    refine dN ?_
    refine NoPanic.normal ?_
    go_wp2
    go_ret
    refine ⟨w.heap.size + 1, rfl, by omega, ?_, ((bt bX hb8).setCell (p := ⟨w.heap.size + 1, _, none⟩) (by show _ ≤ w.heap.size + 1; omega) _)⟩
    first | exact P8.setH4 r8 | exact P8.setH6 r8

/-! ### Slices of Tlvs -/
def tcs (ts : List Tl) : List Value := ts.flatMap tcells
theorem tcs_append (ts us : List Tl) : tcs (ts ++ us) = tcs ts ++ tcs us := by simp [tcs]
theorem run_bsT (t : Tl) (w : World) : (Instr.buildSlice 24 1 #[(0, .agg (tcells t).toArray)]).run Tryz.prog w = .ok (.slice (some ⟨w.heap.size, 0, none⟩) 1 1) (w.alloc (.cells (tcells t).toArray 45)) := by
  obtain ⟨ty, nonce, intv, seq, rx, met, hops, uni, all, ⟨il, hi⟩, ⟨al, ha⟩, ⟨⟨⟨dl, hd⟩, dn⟩, ⟨⟨sl, hs⟩, sn⟩⟩, sa, n, c, st⟩ := t
  match il, hi, al, ha, dl, hd, sl, hs with
  | [i0, i1, i2, i3, i4, i5, i6, i7], _, [b0, b1, b2, b3, b4, b5, b6, b7, b8, b9, b10, b11, b12, b13, b14, b15], _, [c0, c1, c2, c3, c4, c5, c6, c7, c8, c9, c10, c11, c12, c13, c14, c15], _, [d0, d1, d2, d3, d4, d5, d6, d7, d8, d9, d10, d11, d12, d13, d14, d15], _ =>
    show _ = _
    kernel_rfl
section
variable {ops : Array Oper} {rest : List Oper} {op : Oper} {a : Act} {w : World} {Q : Exit → Act → World → Prop}
theorem bsT (x : Operand) (hw : Region.wanted op (yielded ops a.tmps) = true) (ho : op.op = .buildSlice 24 1 #[(0, x)]) (t : Tl) (hx : a.eval x = .agg (tcells t).toArray)
    (h : ∀ g W, w.heap.size ≤ g → Below w.heap.size w W → Row W g 45 (tcells t) → wpList Tryz.prog ops Q rest (a.put op.dst (.slice (some ⟨g, 0, none⟩) 1 1)) W) : wpList Tryz.prog ops Q (op :: rest) a w :=
  wpList_step fun K hK => by
    rw [if_pos hw]
    unfold Oper.wp execOp
    simp only [ho, List.map_toArray, List.map_cons, List.map_nil, hx, Sem.run_bind, run_bsT, Result.andThen_ok, Sem.run_pure]
    exact hK _ _ (h _ _ (Nat.le_refl _) (ba _ _) (Row.new _ _ _))
theorem append_tlv {o : Oper} (hgd : o.guard = none) (s x : Operand)
    (ho : o.op = .call { callee := .builtin .append, args := #[s, x], argTypes := #[24, 24] })
    (base : Nat) (v : Value) (n : Nat) (ts : List Tl) (hs : a.eval s = v) (hown : w.ownsRow base 45 68 v n (tcs ts))
    (g : Nat) (t : Tl) (c : Nat) (hx : a.eval x = .slice (some ⟨g, 0, none⟩) 1 c) (hr : Row w g 45 (tcells t))
    (hbytes : n + 1 ≤ 1000000) (hbase : base ≤ w.heap.size)
    (h : ∀ v' w', w'.ownsRow base 45 68 v' (n + 1) (tcs (ts ++ [t])) → w.grownBy w' v.ownBlock → wpList Tryz.prog ops Q rest (a.put o.dst v') w') : wpList Tryz.prog ops Q (o :: rest) a w := by
  obtain ⟨i0, hi, hz0, hz1, hz2⟩ := info_parts infoT
  refine wpList_append_own w hgd s x 24 ho base 45 i0 (.agg (tcells zeroT).toArray) 68 112 Tryz.underlying24 hi hz0 hz1 hz2 rfl (by decide) v n (tcs ts) hs hown ⟨g, 0, none⟩ 1 c (tcells t) hx (by simp [tcells_len]) (fun j u hu => ?_) (tcells_one t) (by unfold maxLen; omega) (by omega) hbase (fun v' w' h1 h2 _ => h v' w' (by rw [tcs_append]; simpa [tcs] using h1) h2)
  rw [Addr.add_mid, Nat.zero_add, hr.cell]
  exact hu
end

/-! ### What pieces tell -/
def tellL : St → List (UInt8 × List UInt8) → List TK
  | _, [] => []
  | s, k :: ks => (if sayB s k.1.toNat k.2 then [sayK s k.1.toNat k.2] else []) ++ tellL (sayS s k.1.toNat k.2) ks
def tellS (s : St) (ks : List (UInt8 × List UInt8)) : St := ks.foldl (fun s k => sayS s k.1.toNat k.2) s
theorem tellL_append (s : St) (ks js : List (UInt8 × List UInt8)) : tellL s (ks ++ js) = tellL s ks ++ tellL (tellS s ks) js := by
  induction ks generalizing s with
  | nil => rfl
  | cons k ks ih =>
    rw [List.cons_append, tellL, ih, tellL, List.append_assoc]
    rfl
theorem tellS_append (s : St) (ks js : List (UInt8 × List UInt8)) : tellS s (ks ++ js) = tellS (tellS s ks) js := by unfold tellS; rw [List.foldl_append]
def parE (p : List UInt8) : Int := if opE p ≠ 0 then opE p else (splL (opB p)).2
def parL (src : Ad) (p : List UInt8) : List TK := tellL (bgS src) (splL (opB p)).1
/-- Tlvs in memory of the call's own. -/
structure Tls (B : Nat) (w : World) (a : Option Addr) (c : Nat) (ts : List Tl) : Prop where
  own : w.ownsRow B 45 68 (.slice a ts.length c) ts.length (tcs ts)
  stms : ∀ t ∈ ts, Stms B w t
/-- What Parse tells. -/
def Parsed (w : World) (src : Ad) (p : List UInt8) (e : Ending) (w' : World) : Prop := ∃ a c ts, e = .returned (.tuple #[.slice a ts.length c, .int .i64 (parE p)]) ∧ ts.map Tl.key = parL src p ∧ ts.length ≤ p.length ∧ Tls w.heap.size w' a c ts ∧ Below w.heap.size w w'
/-- What Parse's rounds keep. -/
structure PrAt (w wr : World) (P : Nat) (src : Ad) (ks : List (UInt8 × List UInt8)) (v : Value) (ts : List Tl) : Prop where
  own : wr.ownsRow w.heap.size 45 68 v ts.length (tcs ts)
  stms : ∀ t ∈ ts, Stms w.heap.size wr t
  keys : ts.map Tl.key = tellL (bgS src) ks
  par : ∃ R, Par wr P R (tellS (bgS src) ks)
  bel : Below w.heap.size w wr
theorem tell_one (s : St) (k : UInt8 × List UInt8) : tellL s [k] = if sayB s k.1.toNat k.2 then [sayK s k.1.toNat k.2] else [] := by
  simp [tellL]
theorem keys_take (ps : List Pc) (j : Nat) (hj : j < ps.length) : keys (ps.take (j + 1)) = keys (ps.take j) ++ [(ps[j].t, ps[j].l)] := by
  unfold keys
  rw [List.take_succ_eq_append_getElem hj, List.map_append]
  rfl
theorem own_ne' {w : World} {B : Nat} {e : TypeId} {s : Nat} {v : Value} {n : Nat} {xs : List Value} (h : w.ownsRow B e s v n xs) {g : Nat} {t : TypeId} {cs : List Value} (hr : Row w g t cs) (ht : e ≠ t) (e' : v.ownBlock = some g) : False := own_ne h hr (fun x => ht x.symm) e'.symm
theorem Par.own_ne {w : World} {P : Nat} {R : Option Nat} {s : St} {B : Nat} {e : TypeId} {sz : Nat} {v : Value} {n : Nat} {xs : List Value} (h : Par w P R s) (ho : w.ownsRow B e sz v n xs) (he : e ≠ 149) : v.ownBlock ≠ some P := by
  obtain ⟨r, h4, h6, d1, d2, k0, _⟩ := h.ex
  exact fun e' => own_ne' ho k0 he e'
/-- Behind a piece that was said. -/
structure PrIn (w wr : World) (P : Nat) (s : St) (v : Value) (ts : List Tl) : Prop where
  own : wr.ownsRow w.heap.size 45 68 v ts.length (tcs ts)
  stms : ∀ t ∈ ts, Stms w.heap.size wr t
  par : ∃ R, Par wr P R s
  bel : Below w.heap.size w wr
theorem PrAt.said {w wr w4 w6 : World} {P : Nat} {src : Ad} {ks : List (UInt8 × List UInt8)} {v : Value} {ts : List Tl} {s' : St} (H : PrAt w wr P src ks v ts) (hP : w.heap.size ≤ P) (o : Obj) (hg4 : (wr.alloc o).grownBy w4 (some P)) (hp4 : ∃ R, Par w4 P R s') (b46 : Below w4.heap.size w4 w6) : PrIn w w6 P s' v ts := by
  obtain ⟨R, hpar⟩ := H.par
  have p1 := hpar.below (ba wr o)
  obtain ⟨R4, p4⟩ := hp4
  refine ⟨own_keep (own_keep (H.own.alloc o) hg4 (.inl (p1.own_ne (H.own.alloc o) (by decide)))) (grownBy_below none b46) (.inr rfl), fun t ht => ?_, ⟨R4, p4.below b46⟩, ?_⟩
  · have k := H.stms t ht
    unfold Stms at k ⊢
    exact own_keep (own_keep (k.alloc o) hg4 (.inl (p1.own_ne (k.alloc o) (by decide)))) (grownBy_below none b46) (.inr rfl)
  · have k1 := (H.bel.alloc H.bel.size o).grown hg4 (by have := H.bel.size; simp; omega) (fun k hk => by cases hk; exact hP)
    exact k1.trans (b46.mono k1.size)
theorem PrIn.skip {w wr : World} {P : Nat} {src : Ad} {ks : List (UInt8 × List UInt8)} {k : UInt8 × List UInt8} {v : Value} {ts : List Tl} (h : PrIn w wr P (sayS (tellS (bgS src) ks) k.1.toNat k.2) v ts) (hk : ts.map Tl.key = tellL (bgS src) ks) (hb : sayB (tellS (bgS src) ks) k.1.toNat k.2 = false) : PrAt w wr P src (ks ++ [k]) v ts :=
  ⟨h.own, h.stms, by rw [tellL_append, tell_one, hb, hk]; simp, by rw [tellS_append]; exact h.par, h.bel⟩
theorem PrIn.push {w wr w7 : World} {P : Nat} {src : Ad} {ks : List (UInt8 × List UInt8)} {k : UInt8 × List UInt8} {v v' : Value} {ts : List Tl} {tt : Tl} (h : PrIn w wr P (sayS (tellS (bgS src) ks) k.1.toNat k.2) v ts) (hk : ts.map Tl.key = tellL (bgS src) ks) (hb : sayB (tellS (bgS src) ks) k.1.toNat k.2 = true) (htt : tt.key = sayK (tellS (bgS src) ks) k.1.toNat k.2) (hst : Stms w.heap.size wr tt)
    (own7 : w7.ownsRow w.heap.size 45 68 v' (ts.length + 1) (tcs (ts ++ [tt]))) (hg7 : wr.grownBy w7 v.ownBlock) : PrAt w w7 P src (ks ++ [k]) v' (ts ++ [tt]) := by
  refine ⟨by simpa using own7, fun t ht => ?_, by rw [List.map_append, tellL_append, tell_one, hb, hk]; simp [htt], ?_, h.bel.grown hg7 h.bel.size (fun j hj => (h.own.lt j hj).1)⟩
  · have k0 : Stms w.heap.size wr t := by
      rcases List.mem_append.1 ht with h1 | h1
      · exact h.stms t h1
      · obtain rfl : t = tt := by simpa using h1
        exact hst
    unfold Stms at k0 ⊢
    exact own_keep k0 hg7 (own_apart k0 h.own (by decide))
  · obtain ⟨R, p⟩ := h.par
    rw [tellS_append]
    exact ⟨R, p.grown hg7 (fun b t cs hr ht => own_ne h.own hr (by rcases ht with rfl | rfl | rfl <;> decide))⟩
theorem opB_le (l : List UInt8) : (opB l).length ≤ l.length := by
  unfold opB
  split
  · match l with
    | [] => simp
    | [_] => simp
    | [_, _] => simp
    | [_, _, _] => simp
    | _ :: _ :: _ :: _ :: r => simp; omega
  · simp
end Go.Proofs.YtdibjgcokebfbaaGreat
