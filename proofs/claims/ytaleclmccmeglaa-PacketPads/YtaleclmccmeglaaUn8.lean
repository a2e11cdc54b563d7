/-
  The contracts of unnamed, fits and Check of package packet for Tlvs that Parse may tell.
-/
import Derived.Test.YtaleclmccmeglaaCs
import Derived.Test.YtaleclmccmeglaaUp4
namespace Go.Proofs.Ytaleclmccmeglaa
open Go.RowKit
set_option linter.unusedSimpArgs false
set_option maxRecDepth 20000

section
variable {ops : Array Oper} {rest : List Oper} {op : Oper} {a : Act} {w : World} {Q : Exit → Act → World → Prop}
theorem stAt (x y : Operand) (hw : Region.wanted op (yielded ops a.tmps) = true) (ho : op.op = .store 23 x y) (b : Nat) (t : Tl) (q : Ad) (hx : a.eval x = .pointer (some ⟨b, 17, none⟩)) (hy : a.eval y = (Value.agg (acells q).toArray)) (hr : Row w b 44 (tcells t))
    (h : ∀ W, w.grownBy W (some b) → Row W b 44 (tcells { t with ad := q }) → wpList Try.prog ops Q rest (a.put op.dst undef) W) : wpList Try.prog ops Q (op :: rest) a w :=
  stA x y hw ho b 17 q hx hy (hr.thereMid (by rw [tcells_len]; omega)) (h _ (grownBy_setCells b _ _ _) (hr.tAd q))
end

@[irreducible] def t8 (t : Tl) : Tl := { t with intv := 0, seq := 0, met := 0, all := false }
theorem t8_def (t : Tl) : t8 t = { t with intv := 0, seq := 0, met := 0, all := false } := by unfold t8; rfl
def w8 (w : World) (b : Nat) : World := (((w.setCell ⟨b, 2, none⟩ (.int .u16 0)).setCell ⟨b, 3, none⟩ (.int .u16 0)).setCell ⟨b, 5, none⟩ (.int .u16 0)).setCell ⟨b, 8, none⟩ (.bool false)
set_option maxHeartbeats 400000 in
theorem rows8 {w : World} {b : Nat} {t : Tl} (rT : Row w b 44 (tcells t)) : Row (w8 w b) b 44 (tcells (t8 t)) := by
  rw [t8_def]
  have r2 : Row (w.setCell ⟨b, 2, none⟩ (.int .u16 0)) b 44 (tcells { t with intv := 0 }) := rT.set 2 (.int .u16 0)
  have r3 : Row ((w.setCell ⟨b, 2, none⟩ (.int .u16 0)).setCell ⟨b, 3, none⟩ (.int .u16 0)) b 44 (tcells { t with intv := 0, seq := 0 }) := r2.set 3 (.int .u16 0)
  have r5 : Row (((w.setCell ⟨b, 2, none⟩ (.int .u16 0)).setCell ⟨b, 3, none⟩ (.int .u16 0)).setCell ⟨b, 5, none⟩ (.int .u16 0)) b 44 (tcells { t with intv := 0, seq := 0, met := 0 }) := r3.set 5 (.int .u16 0)
  exact r5.tAll false
theorem other8 {w : World} {b g : Nat} {T : Nat} {l : List Value} (r : Row w g T l) (h : g ≠ b) : Row (w8 w b) g T l :=
  (((r.setOther b 2 (.int .u16 0) (fun e => h e.symm)).setOther b 3 (.int .u16 0) (fun e => h e.symm)).setOther b 5 (.int .u16 0) (fun e => h e.symm)).setOther b 8 (.bool false) (fun e => h e.symm)
theorem below8 {w W : World} {n b : Nat} (h : Below n w W) (hb : n ≤ b) : Below n w (w8 W b) :=
  Below.setCell (Below.setCell (Below.setCell (Below.setCell h (p := ⟨b, 2, none⟩) hb (.int .u16 0)) (p := ⟨b, 3, none⟩) hb (.int .u16 0)) (p := ⟨b, 5, none⟩) hb (.int .u16 0)) (p := ⟨b, 8, none⟩) hb (.bool false)

theorem cell8 {w : World} {b : Nat} {t : Tl} (r : Row w b 44 (tcells t)) (h : t.ty = 8) : w.cell? ⟨b, 0, none⟩ = some (.int .u8 8) ∧ (∃ v, w.cell? ⟨b, 2, none⟩ = some v) ∧ (∃ v, w.cell? ⟨b, 3, none⟩ = some v) ∧ (∃ v, w.cell? ⟨b, 5, none⟩ = some v) ∧ (∃ v, w.cell? ⟨b, 8, none⟩ = some v) :=
  ⟨by rw [r.cell 0]; show some (Value.int .u8 (t.ty : Int)) = _; rw [h]; rfl, ⟨_, (r.cell 2).trans rfl⟩, ⟨_, (r.cell 3).trans rfl⟩, ⟨_, (r.cell 5).trans rfl⟩, ⟨_, (r.cell 8).trans rfl⟩⟩

set_option maxHeartbeats 4000000 in
theorem unnamed_8 (t : Tl) (w : World) (hy : t.ty = 8) :
    Calls Try.prog 26 #[.agg (tcells t).toArray] w fun e w' => e = .returned (.tuple #[.agg (tcells { t8 t with pr := zeroQ, id := zeroI, ad := zeroA }).toArray, .bool true]) ∧ Below w.heap.size w w' := by
  have HY : Hid (t.ty = 8) := hy
  clear hy
  have RT := Row.new w 44 (tcells t)
  go_enter Try.func26, Try.ntmps26
  go_wp2_with (first
    | (have kk := q3; refine stT (.tmp 2) (.tmp 53) (by rfl) rfl gA { t8 t with pr := zeroQ, id := zeroI, ad := zeroA } zeroT rfl rfl (p3) ?_; intro w8 hg8 r8)
    | (have kk := q3; refine ldT (.tmp 1) (by rfl) rfl w.heap.size { t8 t with pr := zeroQ, id := zeroI, ad := zeroA } rfl (q3) ?_)
    | (have kk := q2; refine stAt (.tmp 39) (.tmp 36) (by rfl) rfl w.heap.size { t8 t with pr := zeroQ, id := zeroI } zeroA rfl rfl q2 ?_; intro wq3 hq3 q3; have p3 := p2.grown hq3 (fun e => hne (Option.some.inj e)); have bq3 := bq2.grown hq3 bq2.size (fun k hk => by cases hk; exact Nat.le_refl _))
    | (have kk := q1; refine stIt (.tmp 38) (.tmp 35) (by rfl) rfl w.heap.size { t8 t with pr := zeroQ } zeroI rfl rfl q1 ?_; intro wq2 hq2 q2; have p2 := p1.grown hq2 (fun e => hne (Option.some.inj e)); have bq2 := bq1.grown hq2 bq1.size (fun k hk => by cases hk; exact Nat.le_refl _))
    | (refine stQt (.tmp 37) (.tmp 34) (by rfl) rfl w.heap.size (t8 t) zeroQ rfl rfl ?row ?_; exact rows8 rT; intro wq1 hq1 q1; have p1 := (other8 rA hne).grown hq1 (fun e => hne (Option.some.inj e)); have bq1 := (below8 (bt (ba w (.cells (tcells t).toArray 44)) a3) (Nat.le_refl _)).grown hq1 (below8 (bt (ba w (.cells (tcells t).toArray 44)) a3) (Nat.le_refl _)).size (fun k hk => by cases hk; exact Nat.le_refl _))
    | (refine alG infoTz (by rfl) rfl ?_; intro gA wA a1 a2 a3 rA; have rT := RT.below a3 RT.lt; have hne : gA ≠ w.heap.size := (by simp at a1; omega); obtain ⟨c0, ⟨v2, c2⟩, ⟨v3, c3⟩, ⟨v5, c5⟩, ⟨v8, c8⟩⟩ := cell8 rT HY.out; have f2 := rT.frozen 2; have f3 := rT.frozen 3; have f5 := rT.frozen 5; have f8 := rT.frozen 8))
  exact bodyPost_ret (retCT rfl _ _ 0 rfl (lvT r8)) rfl ⟨rfl, bq3.grown hg8 bq3.size (fun k hk => by cases hk; simp at a1; omega)⟩
end Go.Proofs.Ytaleclmccmeglaa
