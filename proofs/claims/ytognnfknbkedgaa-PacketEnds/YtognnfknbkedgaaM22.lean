/-
  The contracts of unnamed for all that is no update.
-/
import Derived.Test.YtognnfknbkedgaaM18
namespace Go.Proofs.Ytognnfknbkedgaa
open Go.RowKit
set_option linter.unusedSimpArgs false
set_option maxRecDepth 20000

set_option maxHeartbeats 4000000 in
theorem unnamed_2 (t : Tl) (w : World) (hy : t.ty = 2) :
    Calls Try.prog 22 #[.agg (tcells t).toArray] w fun e w' => e = .returned (.tuple #[.agg (tcells { t with nonce := 0, intv := 0 }).toArray, .bool true]) ∧ Below w.heap.size w w' := by
  have HY : Hid (t.ty = 2) := hy
  clear hy
  have RT := Row.new w 33 (tcells t)
  go_enter Try.func22, Try.ntmps22
  go_wp2_with (first
    | (refine stT (.tmp 2) (.tmp 53) (by rfl) rfl gA { t with nonce := 0, intv := 0 } zeroT rfl rfl ?row1 ?_; exact ((show Row ((wA.setCell ⟨w.heap.size, 1, none⟩ (.int .u16 0)).setCell ⟨w.heap.size, 2, none⟩ (.int .u16 0)) gA 33 (tcells zeroT) from ((rA).setOther w.heap.size 1 (.int .u16 0) (fun e => hne e.symm)).setOther w.heap.size 2 (.int .u16 0) (fun e => hne e.symm))); intro w8 hg8 r8)
    | (refine ldT (.tmp 1) (by rfl) rfl w.heap.size { t with nonce := 0, intv := 0 } rfl ?row2 ?_; exact ((show Row ((wA.setCell ⟨w.heap.size, 1, none⟩ (.int .u16 0)).setCell ⟨w.heap.size, 2, none⟩ (.int .u16 0)) w.heap.size 33 (tcells { t with nonce := 0, intv := 0 }) from ((rT).set 1 (.int .u16 0)).set 2 (.int .u16 0))))
    | (refine alG infoTz (by rfl) rfl ?_; intro gA wA a1 a2 a3 rA; have rT := RT.below a3 RT.lt; have hne : gA ≠ w.heap.size := (by simp at a1; omega); have c0 : wA.cell? ⟨w.heap.size, 0, none⟩ = some (.int .u8 2) := (by have := rT.cell 0; rw [this]; show some (Value.int .u8 (t.ty : Int)) = _; rw [HY.out]; rfl); have c1 : ∃ v, wA.cell? ⟨w.heap.size, 1, none⟩ = some v := (by rw [rT.cell]; exact ⟨_, rfl⟩); obtain ⟨v1, c1⟩ := c1; have f1 := rT.frozen 1; have c2 : ∃ v, wA.cell? ⟨w.heap.size, 2, none⟩ = some v := (by rw [rT.cell]; exact ⟨_, rfl⟩); obtain ⟨v2, c2⟩ := c2; have f2 := rT.frozen 2))
  exact bodyPost_ret (retCT rfl _ _ 0 rfl (lvT r8)) rfl ⟨rfl, (Below.setCell (Below.setCell (bt (ba w (.cells (tcells t).toArray 33)) a3) (p := ⟨w.heap.size, 1, none⟩) (Nat.le_refl _) (.int .u16 0)) (p := ⟨w.heap.size, 2, none⟩) (Nat.le_refl _) (.int .u16 0)).grown hg8 (Below.setCell (Below.setCell (bt (ba w (.cells (tcells t).toArray 33)) a3) (p := ⟨w.heap.size, 1, none⟩) (Nat.le_refl _) (.int .u16 0)) (p := ⟨w.heap.size, 2, none⟩) (Nat.le_refl _) (.int .u16 0)).size (fun k hk => by cases hk; simp at a1; omega)⟩
set_option maxHeartbeats 4000000 in
theorem unnamed_5 (t : Tl) (w : World) (hy : t.ty = 5) :
    Calls Try.prog 22 #[.agg (tcells t).toArray] w fun e w' => e = .returned (.tuple #[.agg (tcells { t with rx := 0, intv := 0, all := false, ad := zeroA, sa := none, sn := 0, sc := 0, st := [] }).toArray, .bool true]) ∧ Below w.heap.size w w' := by
  have HY : Hid (t.ty = 5) := hy
  clear hy
  have RT := Row.new w 33 (tcells t)
  go_enter Try.func22, Try.ntmps22
  go_wp2_with (first
    | (have kk := q1; refine stT (.tmp 2) (.tmp 53) (by rfl) rfl gA { t with rx := 0, intv := 0, all := false, ad := zeroA, sa := none, sn := 0, sc := 0, st := [] } zeroT rfl rfl ((p1.setOther w.heap.size 67 (.slice none 0 0) (fun e => hne e.symm))) ?_; intro w8 hg8 r8)
    | (have kk := q1; refine ldT (.tmp 1) (by rfl) rfl w.heap.size { t with rx := 0, intv := 0, all := false, ad := zeroA, sa := none, sn := 0, sc := 0, st := [] } rfl ((q1.tSt none 0 0 [])) ?_)
    | (refine stAt (.tmp 26) (.tmp 22) (by rfl) rfl w.heap.size { t with rx := 0, intv := 0, all := false } zeroA rfl rfl ?row1 ?_; exact (show Row (((wA.setCell ⟨w.heap.size, 4, none⟩ (.int .u16 0)).setCell ⟨w.heap.size, 2, none⟩ (.int .u16 0)).setCell ⟨w.heap.size, 8, none⟩ (.bool false)) w.heap.size 33 (tcells { t with rx := 0, intv := 0, all := false }) from (((rT).set 4 (.int .u16 0)).set 2 (.int .u16 0)).set 8 (.bool false)); intro wq1 hq1 q1; have p1 := (show Row (((wA.setCell ⟨w.heap.size, 4, none⟩ (.int .u16 0)).setCell ⟨w.heap.size, 2, none⟩ (.int .u16 0)).setCell ⟨w.heap.size, 8, none⟩ (.bool false)) gA 33 (tcells zeroT) from (((rA).setOther w.heap.size 4 (.int .u16 0) (fun e => hne e.symm)).setOther w.heap.size 2 (.int .u16 0) (fun e => hne e.symm)).setOther w.heap.size 8 (.bool false) (fun e => hne e.symm)).grown hq1 (fun e => hne (Option.some.inj e)); have bq1 := (Below.setCell (Below.setCell (Below.setCell (bt (ba w (.cells (tcells t).toArray 33)) a3) (p := ⟨w.heap.size, 4, none⟩) (Nat.le_refl _) (.int .u16 0)) (p := ⟨w.heap.size, 2, none⟩) (Nat.le_refl _) (.int .u16 0)) (p := ⟨w.heap.size, 8, none⟩) (Nat.le_refl _) (.bool false)).grown hq1 (Below.setCell (Below.setCell (Below.setCell (bt (ba w (.cells (tcells t).toArray 33)) a3) (p := ⟨w.heap.size, 4, none⟩) (Nat.le_refl _) (.int .u16 0)) (p := ⟨w.heap.size, 2, none⟩) (Nat.le_refl _) (.int .u16 0)) (p := ⟨w.heap.size, 8, none⟩) (Nat.le_refl _) (.bool false)).size (fun k hk => by cases hk; exact Nat.le_refl _); have d67 : wq1.cell? ⟨w.heap.size, 67, none⟩ = some (.slice t.sa t.sn t.sc) := q1.rSt; have g67 := q1.frozen 67)
    | (refine alG infoTz (by rfl) rfl ?_; intro gA wA a1 a2 a3 rA; have rT := RT.below a3 RT.lt; have hne : gA ≠ w.heap.size := (by simp at a1; omega); have c0 : wA.cell? ⟨w.heap.size, 0, none⟩ = some (.int .u8 5) := (by have := rT.cell 0; rw [this]; show some (Value.int .u8 (t.ty : Int)) = _; rw [HY.out]; rfl); have c4 : ∃ v, wA.cell? ⟨w.heap.size, 4, none⟩ = some v := (by rw [rT.cell]; exact ⟨_, rfl⟩); obtain ⟨v4, c4⟩ := c4; have f4 := rT.frozen 4; have c2 : ∃ v, wA.cell? ⟨w.heap.size, 2, none⟩ = some v := (by rw [rT.cell]; exact ⟨_, rfl⟩); obtain ⟨v2, c2⟩ := c2; have f2 := rT.frozen 2; have c8 : ∃ v, wA.cell? ⟨w.heap.size, 8, none⟩ = some v := (by rw [rT.cell]; exact ⟨_, rfl⟩); obtain ⟨v8, c8⟩ := c8; have f8 := rT.frozen 8; have c67 : ∃ v, wA.cell? ⟨w.heap.size, 67, none⟩ = some v := (by rw [rT.cell]; exact ⟨_, tcells_get t⟩); obtain ⟨v67, c67⟩ := c67; have f67 := rT.frozen 67))
  exact bodyPost_ret (retCT rfl _ _ 0 rfl (lvT r8)) rfl ⟨rfl, (bq1.setCell (p := ⟨w.heap.size, 67, none⟩) (Nat.le_refl _) (.slice none 0 0)).grown hg8 (bq1.setCell (p := ⟨w.heap.size, 67, none⟩) (Nat.le_refl _) (.slice none 0 0)).size (fun k hk => by cases hk; simp at a1; omega)⟩
set_option maxHeartbeats 4000000 in
theorem unnamed_9 (t : Tl) (w : World) (hy : t.ty = 9) :
    Calls Try.prog 22 #[.agg (tcells t).toArray] w fun e w' => e = .returned (.tuple #[.agg (tcells { t with all := false, pr := zeroQ }).toArray, .bool true]) ∧ Below w.heap.size w w' := by
  have HY : Hid (t.ty = 9) := hy
  clear hy
  have RT := Row.new w 33 (tcells t)
  go_enter Try.func22, Try.ntmps22
  go_wp2_with (first
    | (have kk := q1; refine stT (.tmp 2) (.tmp 53) (by rfl) rfl gA { t with all := false, pr := zeroQ } zeroT rfl rfl (p1) ?_; intro w8 hg8 r8)
    | (have kk := q1; refine ldT (.tmp 1) (by rfl) rfl w.heap.size { t with all := false, pr := zeroQ } rfl (q1) ?_)
    | (refine stQt (.tmp 44) (.tmp 42) (by rfl) rfl w.heap.size { t with all := false } zeroQ rfl rfl ?row1 ?_; exact (show Row (wA.setCell ⟨w.heap.size, 8, none⟩ (.bool false)) w.heap.size 33 (tcells { t with all := false }) from (rT).set 8 (.bool false)); intro wq1 hq1 q1; have p1 := (show Row (wA.setCell ⟨w.heap.size, 8, none⟩ (.bool false)) gA 33 (tcells zeroT) from (rA).setOther w.heap.size 8 (.bool false) (fun e => hne e.symm)).grown hq1 (fun e => hne (Option.some.inj e)); have bq1 := (Below.setCell (bt (ba w (.cells (tcells t).toArray 33)) a3) (p := ⟨w.heap.size, 8, none⟩) (Nat.le_refl _) (.bool false)).grown hq1 (Below.setCell (bt (ba w (.cells (tcells t).toArray 33)) a3) (p := ⟨w.heap.size, 8, none⟩) (Nat.le_refl _) (.bool false)).size (fun k hk => by cases hk; exact Nat.le_refl _))
    | (refine alG infoTz (by rfl) rfl ?_; intro gA wA a1 a2 a3 rA; have rT := RT.below a3 RT.lt; have hne : gA ≠ w.heap.size := (by simp at a1; omega); have c0 : wA.cell? ⟨w.heap.size, 0, none⟩ = some (.int .u8 9) := (by have := rT.cell 0; rw [this]; show some (Value.int .u8 (t.ty : Int)) = _; rw [HY.out]; rfl); have c8 : ∃ v, wA.cell? ⟨w.heap.size, 8, none⟩ = some v := (by rw [rT.cell]; exact ⟨_, rfl⟩); obtain ⟨v8, c8⟩ := c8; have f8 := rT.frozen 8))
  exact bodyPost_ret (retCT rfl _ _ 0 rfl (lvT r8)) rfl ⟨rfl, bq1.grown hg8 bq1.size (fun k hk => by cases hk; simp at a1; omega)⟩
set_option maxHeartbeats 4000000 in
theorem unnamed_3 (t : Tl) (w : World) (hy : t.ty = 3) :
    Calls Try.prog 22 #[.agg (tcells t).toArray] w fun e w' => e = .returned (.tuple #[.agg (tcells { t with nonce := 0 }).toArray, .bool true]) ∧ Below w.heap.size w w' := by
  have HY : Hid (t.ty = 3) := hy
  clear hy
  have RT := Row.new w 33 (tcells t)
  go_enter Try.func22, Try.ntmps22
  go_wp2_with (first
    | (refine stT (.tmp 2) (.tmp 53) (by rfl) rfl gA { t with nonce := 0 } zeroT rfl rfl ?row1 ?_; exact ((show Row (wA.setCell ⟨w.heap.size, 1, none⟩ (.int .u16 0)) gA 33 (tcells zeroT) from (rA).setOther w.heap.size 1 (.int .u16 0) (fun e => hne e.symm))); intro w8 hg8 r8)
    | (refine ldT (.tmp 1) (by rfl) rfl w.heap.size { t with nonce := 0 } rfl ?row2 ?_; exact ((show Row (wA.setCell ⟨w.heap.size, 1, none⟩ (.int .u16 0)) w.heap.size 33 (tcells { t with nonce := 0 }) from (rT).set 1 (.int .u16 0))))
    | (refine alG infoTz (by rfl) rfl ?_; intro gA wA a1 a2 a3 rA; have rT := RT.below a3 RT.lt; have hne : gA ≠ w.heap.size := (by simp at a1; omega); have c0 : wA.cell? ⟨w.heap.size, 0, none⟩ = some (.int .u8 3) := (by have := rT.cell 0; rw [this]; show some (Value.int .u8 (t.ty : Int)) = _; rw [HY.out]; rfl); have c1 : ∃ v, wA.cell? ⟨w.heap.size, 1, none⟩ = some v := (by rw [rT.cell]; exact ⟨_, rfl⟩); obtain ⟨v1, c1⟩ := c1; have f1 := rT.frozen 1))
  exact bodyPost_ret (retCT rfl _ _ 0 rfl (lvT r8)) rfl ⟨rfl, (Below.setCell (bt (ba w (.cells (tcells t).toArray 33)) a3) (p := ⟨w.heap.size, 1, none⟩) (Nat.le_refl _) (.int .u16 0)).grown hg8 (Below.setCell (bt (ba w (.cells (tcells t).toArray 33)) a3) (p := ⟨w.heap.size, 1, none⟩) (Nat.le_refl _) (.int .u16 0)).size (fun k hk => by cases hk; simp at a1; omega)⟩
set_option maxHeartbeats 4000000 in
theorem unnamed_4 (t : Tl) (w : World) (hy : t.ty = 4) :
    Calls Try.prog 22 #[.agg (tcells t).toArray] w fun e w' => e = .returned (.tuple #[.agg (tcells { t with seq := 0, intv := 0, uni := false, sa := none, sn := 0, sc := 0, st := [] }).toArray, .bool true]) ∧ Below w.heap.size w w' := by
  have HY : Hid (t.ty = 4) := hy
  clear hy
  have RT := Row.new w 33 (tcells t)
  go_enter Try.func22, Try.ntmps22
  go_wp2_with (first
    | (refine stT (.tmp 2) (.tmp 53) (by rfl) rfl gA { t with seq := 0, intv := 0, uni := false, sa := none, sn := 0, sc := 0, st := [] } zeroT rfl rfl ?row1 ?_; exact (((show Row (((wA.setCell ⟨w.heap.size, 3, none⟩ (.int .u16 0)).setCell ⟨w.heap.size, 2, none⟩ (.int .u16 0)).setCell ⟨w.heap.size, 7, none⟩ (.bool false)) gA 33 (tcells zeroT) from (((rA).setOther w.heap.size 3 (.int .u16 0) (fun e => hne e.symm)).setOther w.heap.size 2 (.int .u16 0) (fun e => hne e.symm)).setOther w.heap.size 7 (.bool false) (fun e => hne e.symm)).setOther w.heap.size 67 (.slice none 0 0) (fun e => hne e.symm))); intro w8 hg8 r8)
    | (refine ldT (.tmp 1) (by rfl) rfl w.heap.size { t with seq := 0, intv := 0, uni := false, sa := none, sn := 0, sc := 0, st := [] } rfl ?row2 ?_; exact (((show Row (((wA.setCell ⟨w.heap.size, 3, none⟩ (.int .u16 0)).setCell ⟨w.heap.size, 2, none⟩ (.int .u16 0)).setCell ⟨w.heap.size, 7, none⟩ (.bool false)) w.heap.size 33 (tcells { t with seq := 0, intv := 0, uni := false }) from (((rT).set 3 (.int .u16 0)).set 2 (.int .u16 0)).set 7 (.bool false)).tSt none 0 0 [])))
    | (refine alG infoTz (by rfl) rfl ?_; intro gA wA a1 a2 a3 rA; have rT := RT.below a3 RT.lt; have hne : gA ≠ w.heap.size := (by simp at a1; omega); have c0 : wA.cell? ⟨w.heap.size, 0, none⟩ = some (.int .u8 4) := (by have := rT.cell 0; rw [this]; show some (Value.int .u8 (t.ty : Int)) = _; rw [HY.out]; rfl); have c3 : ∃ v, wA.cell? ⟨w.heap.size, 3, none⟩ = some v := (by rw [rT.cell]; exact ⟨_, rfl⟩); obtain ⟨v3, c3⟩ := c3; have f3 := rT.frozen 3; have c2 : ∃ v, wA.cell? ⟨w.heap.size, 2, none⟩ = some v := (by rw [rT.cell]; exact ⟨_, rfl⟩); obtain ⟨v2, c2⟩ := c2; have f2 := rT.frozen 2; have c7 : ∃ v, wA.cell? ⟨w.heap.size, 7, none⟩ = some v := (by rw [rT.cell]; exact ⟨_, rfl⟩); obtain ⟨v7, c7⟩ := c7; have f7 := rT.frozen 7; have c67 : ∃ v, wA.cell? ⟨w.heap.size, 67, none⟩ = some v := (by rw [rT.cell]; exact ⟨_, tcells_get t⟩); obtain ⟨v67, c67⟩ := c67; have f67 := rT.frozen 67))
  exact bodyPost_ret (retCT rfl _ _ 0 rfl (lvT r8)) rfl ⟨rfl, ((Below.setCell (Below.setCell (Below.setCell (bt (ba w (.cells (tcells t).toArray 33)) a3) (p := ⟨w.heap.size, 3, none⟩) (Nat.le_refl _) (.int .u16 0)) (p := ⟨w.heap.size, 2, none⟩) (Nat.le_refl _) (.int .u16 0)) (p := ⟨w.heap.size, 7, none⟩) (Nat.le_refl _) (.bool false)).setCell (p := ⟨w.heap.size, 67, none⟩) (Nat.le_refl _) (.slice none 0 0)).grown hg8 ((Below.setCell (Below.setCell (Below.setCell (bt (ba w (.cells (tcells t).toArray 33)) a3) (p := ⟨w.heap.size, 3, none⟩) (Nat.le_refl _) (.int .u16 0)) (p := ⟨w.heap.size, 2, none⟩) (Nat.le_refl _) (.int .u16 0)) (p := ⟨w.heap.size, 7, none⟩) (Nat.le_refl _) (.bool false)).setCell (p := ⟨w.heap.size, 67, none⟩) (Nat.le_refl _) (.slice none 0 0)).size (fun k hk => by cases hk; simp at a1; omega)⟩
set_option maxHeartbeats 4000000 in
theorem unnamed_10 (t : Tl) (w : World) (hy : t.ty = 10) :
    Calls Try.prog 22 #[.agg (tcells t).toArray] w fun e w' => e = .returned (.tuple #[.agg (tcells { t with seq := 0, hops := 0, id := zeroI, pr := zeroQ }).toArray, .bool true]) ∧ Below w.heap.size w w' := by
  have HY : Hid (t.ty = 10) := hy
  clear hy
  have RT := Row.new w 33 (tcells t)
  go_enter Try.func22, Try.ntmps22
  go_wp2_with (first
    | (have kk := q2; refine stT (.tmp 2) (.tmp 53) (by rfl) rfl gA { t with seq := 0, hops := 0, id := zeroI, pr := zeroQ } zeroT rfl rfl (p2) ?_; intro w8 hg8 r8)
    | (have kk := q2; refine ldT (.tmp 1) (by rfl) rfl w.heap.size { t with seq := 0, hops := 0, id := zeroI, pr := zeroQ } rfl (q2) ?_)
    | (have kk := q1; refine stQt (.tmp 52) (.tmp 48) (by rfl) rfl w.heap.size { t with seq := 0, hops := 0, id := zeroI } zeroQ rfl rfl q1 ?_; intro wq2 hq2 q2; have p2 := p1.grown hq2 (fun e => hne (Option.some.inj e)); have bq2 := bq1.grown hq2 bq1.size (fun k hk => by cases hk; exact Nat.le_refl _))
    | (refine stIt (.tmp 51) (.tmp 47) (by rfl) rfl w.heap.size { t with seq := 0, hops := 0 } zeroI rfl rfl ?row1 ?_; exact (show Row ((wA.setCell ⟨w.heap.size, 3, none⟩ (.int .u16 0)).setCell ⟨w.heap.size, 6, none⟩ (.int .u8 0)) w.heap.size 33 (tcells { t with seq := 0, hops := 0 }) from ((rT).set 3 (.int .u16 0)).set 6 (.int .u8 0)); intro wq1 hq1 q1; have p1 := (show Row ((wA.setCell ⟨w.heap.size, 3, none⟩ (.int .u16 0)).setCell ⟨w.heap.size, 6, none⟩ (.int .u8 0)) gA 33 (tcells zeroT) from ((rA).setOther w.heap.size 3 (.int .u16 0) (fun e => hne e.symm)).setOther w.heap.size 6 (.int .u8 0) (fun e => hne e.symm)).grown hq1 (fun e => hne (Option.some.inj e)); have bq1 := (Below.setCell (Below.setCell (bt (ba w (.cells (tcells t).toArray 33)) a3) (p := ⟨w.heap.size, 3, none⟩) (Nat.le_refl _) (.int .u16 0)) (p := ⟨w.heap.size, 6, none⟩) (Nat.le_refl _) (.int .u8 0)).grown hq1 (Below.setCell (Below.setCell (bt (ba w (.cells (tcells t).toArray 33)) a3) (p := ⟨w.heap.size, 3, none⟩) (Nat.le_refl _) (.int .u16 0)) (p := ⟨w.heap.size, 6, none⟩) (Nat.le_refl _) (.int .u8 0)).size (fun k hk => by cases hk; exact Nat.le_refl _))
    | (refine alG infoTz (by rfl) rfl ?_; intro gA wA a1 a2 a3 rA; have rT := RT.below a3 RT.lt; have hne : gA ≠ w.heap.size := (by simp at a1; omega); have c0 : wA.cell? ⟨w.heap.size, 0, none⟩ = some (.int .u8 10) := (by have := rT.cell 0; rw [this]; show some (Value.int .u8 (t.ty : Int)) = _; rw [HY.out]; rfl); have c3 : ∃ v, wA.cell? ⟨w.heap.size, 3, none⟩ = some v := (by rw [rT.cell]; exact ⟨_, rfl⟩); obtain ⟨v3, c3⟩ := c3; have f3 := rT.frozen 3; have c6 : ∃ v, wA.cell? ⟨w.heap.size, 6, none⟩ = some v := (by rw [rT.cell]; exact ⟨_, rfl⟩); obtain ⟨v6, c6⟩ := c6; have f6 := rT.frozen 6))
  exact bodyPost_ret (retCT rfl _ _ 0 rfl (lvT r8)) rfl ⟨rfl, bq2.grown hg8 bq2.size (fun k hk => by cases hk; simp at a1; omega)⟩
end Go.Proofs.Ytognnfknbkedgaa

namespace Go.Proofs.Ytognnfknbkedgaa
open Go.RowKit
set_option linter.unusedSimpArgs false
set_option maxRecDepth 20000

theorem fits_2 (t : Tl) (w : World) (hy : t.ty = 2) :
    Calls Try.prog 23 #[.agg (tcells t).toArray] w fun e w' => e = .returned (.bool true) ∧ Below w.heap.size w w' := by
  have T0 : (tcells t)[0]? = some (.int .u8 2) := by show some (Value.int .u8 (t.ty : Int)) = _; rw [hy]; rfl
  clear hy
  go_enter Try.func23, Try.ntmps23
  go_wp2
  go_ret
  exact ⟨rfl, ba _ _⟩
theorem fits_3 (t : Tl) (w : World) (hy : t.ty = 3) :
    Calls Try.prog 23 #[.agg (tcells t).toArray] w fun e w' => e = .returned (.bool true) ∧ Below w.heap.size w w' := by
  have T0 : (tcells t)[0]? = some (.int .u8 3) := by show some (Value.int .u8 (t.ty : Int)) = _; rw [hy]; rfl
  clear hy
  go_enter Try.func23, Try.ntmps23
  go_wp2
  go_ret
  exact ⟨rfl, ba _ _⟩
theorem fits_5_0false (t : Tl) (w : World) (hy : t.ty = 5) (hs : t.sn = 0) (hall : t.all = false) :
    Calls Try.prog 23 #[.agg (tcells t).toArray] w fun e w' => e = .returned (.bool true) ∧ Below w.heap.size w w' := by
  have RT := Row.new w 33 (tcells t)
  have T67 := tcells_get t
  rw [hs] at T67
  have T8 : (tcells t)[8]? = some (.bool false) := by rw [← hall]; rfl
  have T0 : (tcells t)[0]? = some (.int .u8 5) := by show some (Value.int .u8 (t.ty : Int)) = _; rw [hy]; rfl
  clear hy
  clear hs hall
  go_enter Try.func23, Try.ntmps23
  go_wp2
  go_ret
  exact ⟨rfl, ba _ _⟩
theorem fits_5_2false (t : Tl) (w : World) (hy : t.ty = 5) (hs : t.sn = 2) (hall : t.all = false) :
    Calls Try.prog 23 #[.agg (tcells t).toArray] w fun e w' => e = .returned (.bool true) ∧ Below w.heap.size w w' := by
  have RT := Row.new w 33 (tcells t)
  have T67 := tcells_get t
  rw [hs] at T67
  have T8 : (tcells t)[8]? = some (.bool false) := by rw [← hall]; rfl
  have T0 : (tcells t)[0]? = some (.int .u8 5) := by show some (Value.int .u8 (t.ty : Int)) = _; rw [hy]; rfl
  clear hy
  clear hs hall
  go_enter Try.func23, Try.ntmps23
  go_wp2
  go_ret
  exact ⟨rfl, ba _ _⟩
theorem fits_9false (t : Tl) (w : World) (hy : t.ty = 9) (hall : t.all = false) :
    Calls Try.prog 23 #[.agg (tcells t).toArray] w fun e w' => e = .returned (.bool true) ∧ Below w.heap.size w w' := by
  have RT := Row.new w 33 (tcells t)
  have T8 : (tcells t)[8]? = some (.bool false) := by rw [← hall]; rfl
  have T0 : (tcells t)[0]? = some (.int .u8 9) := by show some (Value.int .u8 (t.ty : Int)) = _; rw [hy]; rfl
  clear hy
  clear hall
  go_enter Try.func23, Try.ntmps23
  go_wp2
  go_ret
  exact ⟨rfl, ba _ _⟩
end Go.Proofs.Ytognnfknbkedgaa
