/-
  The contract of update of package packet, whatever its bytes are.
-/
import Derived.Test.YtognnfknbkedgaaM17
import Derived.Test.YtognnfknbkedgaaM07
namespace Go.Proofs.Ytognnfknbkedgaa
open Go.RowKit
set_option linter.unusedSimpArgs false
set_option maxRecDepth 20000
variable {bv : Option Addr}

theorem famP_or (p : Pf) : famP p = 4 ∨ famP p = 6 := by unfold famP; split <;> simp
theorem update_any {w : World} {P g : Nat} {l : List UInt8} {r : RS} {s : St} (hpar : Par w P (some g) s) (h : RdS w g bv l r) (hl : l.length ≤ 100000) :
    Calls Try.prog 61 #[.pointer (some ⟨P, 0, none⟩)] w fun e w' => SayR w (upK s l r) (upB s l r) e w' ∧ (∃ R, Par w' P R (upS s l r)) ∧ Mv w w' P g := by
  by_cases h0 : r.val l 1 = 0
  · have := update_0 hpar h hl h0
    unfold upK upB upS
    rw [if_pos h0, if_pos h0, if_pos h0]
    exact this
  · obtain ⟨ae, aeH⟩ : ∃ x, Hid (r.val l 1 = x) := ⟨_, rfl⟩
    obtain ⟨fl, flH⟩ : ∃ x, Hid ((r.adv l 1).val l 1 = x) := ⟨_, rfl⟩
    obtain ⟨pl, plH⟩ : ∃ x, Hid (((r.adv l 1).adv l 1).val l 1 = x) := ⟨_, rfl⟩
    obtain ⟨om, omH⟩ : ∃ x, Hid ((((r.adv l 1).adv l 1).adv l 1).val l 1 = x) := ⟨_, rfl⟩
    obtain ⟨iv, ivH⟩ : ∃ x, Hid (((((r.adv l 1).adv l 1).adv l 1).adv l 1).val l 2 = x) := ⟨_, rfl⟩
    obtain ⟨sq, sqH⟩ : ∃ x, Hid ((((((r.adv l 1).adv l 1).adv l 1).adv l 1).adv l 2).val l 2 = x) := ⟨_, rfl⟩
    obtain ⟨mt, mtH⟩ : ∃ x, Hid (((((((r.adv l 1).adv l 1).adv l 1).adv l 1).adv l 2).adv l 2).val l 2 = x) := ⟨_, rfl⟩
    have hpl : pl < 256 := by rw [← plH.out]; exact val1_lt _ l
    have hom : om < 256 := by rw [← omH.out]; exact val1_lt _ l
    have hae : ((ae : Int) == 0) = false := by rw [aeH.out] at h0; simp; omega
    obtain ⟨s1, hs1⟩ : ∃ x, upS s l r = x := ⟨_, rfl⟩
    have ES : s1 = if (pfR s ae pl om l (((((((r.adv l 1).adv l 1).adv l 1).adv l 1).adv l 2).adv l 2).adv l 2)).y = 0 then kpS s ae fl (pfP s ae pl om l (((((((r.adv l 1).adv l 1).adv l 1).adv l 1).adv l 2).adv l 2).adv l 2)).a else s := by
      rw [← hs1]; unfold upS; rw [if_neg h0, aeH.out, flH.out, plH.out, omH.out]
    unfold upK upB
    rw [if_neg h0, if_neg h0, hs1, aeH.out, plH.out, omH.out, ivH.out, sqH.out, mtH.out]
    clear hs1 h0
    have HP : Hid (∀ W, Par W P (some g) s → RdS W g bv l (((((((r.adv l 1).adv l 1).adv l 1).adv l 1).adv l 2).adv l 2).adv l 2) → Calls Try.prog 85 #[.pointer (some ⟨P, 0, none⟩), .int .u8 (ae : Int), .int .i64 (pl : Int), .int .i64 (om : Int)] W fun e w' => e = .returned (Value.agg (pcells (pfP s ae pl om l (((((((r.adv l 1).adv l 1).adv l 1).adv l 1).adv l 2).adv l 2).adv l 2))).toArray) ∧ NowS W w' g bv l (pfR s ae pl om l (((((((r.adv l 1).adv l 1).adv l 1).adv l 1).adv l 2).adv l 2).adv l 2))) := fun W h1 h2 => prefix_any ae pl om hpl hom h1 h2
    have hA := @pfR_ae s ae pl om l (((((((r.adv l 1).adv l 1).adv l 1).adv l 1).adv l 2).adv l 2).adv l 2)
    generalize pfP s ae pl om l (((((((r.adv l 1).adv l 1).adv l 1).adv l 1).adv l 2).adv l 2).adv l 2) = dst at *
    generalize pfR s ae pl om l (((((((r.adv l 1).adv l 1).adv l 1).adv l 1).adv l 2).adv l 2).adv l 2) = rn at *
    have HQ : Hid (∀ W, Par W P (some g) s1 → RdS W g bv l rn → Calls Try.prog 87 #[.pointer (some ⟨P, 0, none⟩), .int .u8 (ae : Int), (Value.agg (pcells dst).toArray)] W (Paired W P g s1 (prQ s1 ae dst l rn) (prB s1 ae dst l rn))) := fun W h1 h2 => pair_any ae dst hl h1 h2
    have HW : ∀ W, Pg W P g → RdS W g bv l rn → Calls Try.prog 82 #[.pointer (some ⟨P, 0, none⟩)] W fun e w' => e = .returned (.bool (rn.y == 0)) ∧ NowS W w' g bv l rn := fun W h1 h2 => well_any h1 h2
    have HFM : Hid (∀ W, Calls Try.prog 43 #[(Value.agg (pcells dst).toArray)] W (Gives W (.int .i64 (famP dst)))) := fun W => pfam_any dst W
    have hf := famP_or dst
    generalize famP dst = f at *
    generalize prQ s1 ae dst l rn = q at *
    generalize prB s1 ae dst l rn = b at *
    by_cases hy : rn.y = 0
    · rw [if_pos hy] at ES
      have HK : Hid (∀ W, Par W P (some g) s → Calls Try.prog 86 #[.pointer (some ⟨P, 0, none⟩), .int .u8 (ae : Int), .int .u8 (fl : Int), (Value.agg (acells dst.a).toArray)] W fun e w' => e = .returned (.tuple #[]) ∧ Par w' P (some g) s1 ∧ W.grownBy w' (some P)) := fun W h1 => by rw [ES]; exact keep_any ae fl dst.a (hA hy) h1
      have hy' : (rn.y == 0) = true := by simpa using hy
      rw [hy'] at HW
      cases b with
      | false => exact update_y_no hpar h aeH flH plH omH ivH sqH mtH hae HP HW HK HQ
      | true =>
        by_cases hm : mt = 65535
        · rw [if_pos hm, show (true && (decide (mt = 65535) || upOk s1 f)) = true by simp [hm]]
          exact update_y_inf hpar h aeH flH plH omH ivH sqH mtH hae HP HW HK HQ (by simp [hm]) (rfl : _ = _)
        · rw [if_neg hm, show (true && (decide (mt = 65535) || upOk s1 f)) = upOk s1 f by simp [hm]]
          exact update_y_rest hpar h aeH flH plH omH ivH sqH mtH hae HP HW HK HQ (by simp; omega) HFM hf (rfl : _ = _) (rfl : _ = _)
    · rw [if_neg hy] at ES
      have hy' : (rn.y == 0) = false := by simpa using hy
      rw [hy'] at HW
      cases b with
      | false => exact update_n_no hpar h aeH flH plH omH ivH sqH mtH hae HP HW ES HQ
      | true =>
        by_cases hm : mt = 65535
        · rw [if_pos hm, show (true && (decide (mt = 65535) || upOk s1 f)) = true by simp [hm]]
          exact update_n_inf hpar h aeH flH plH omH ivH sqH mtH hae HP HW ES HQ (by simp [hm]) (rfl : _ = _)
        · rw [if_neg hm, show (true && (decide (mt = 65535) || upOk s1 f)) = upOk s1 f by simp [hm]]
          exact update_n_rest hpar h aeH flH plH omH ivH sqH mtH hae HP HW ES HQ (by simp; omega) HFM hf (rfl : _ = _) (rfl : _ = _)
end Go.Proofs.Ytognnfknbkedgaa

namespace Go.Proofs.Ytognnfknbkedgaa
open Go.RowKit
set_option linter.unusedSimpArgs false
set_option maxRecDepth 20000

section
variable {ops : Array Oper} {rest : List Oper} {op : Oper} {a : Act} {w : World} {Q : Exit → Act → World → Prop}
theorem stAt (x y : Operand) (hw : Region.wanted op (yielded ops a.tmps) = true) (ho : op.op = .store 26 x y) (b : Nat) (t : Tl) (q : Ad) (hx : a.eval x = .pointer (some ⟨b, 17, none⟩)) (hy : a.eval y = (Value.agg (acells q).toArray)) (hr : Row w b 33 (tcells t))
    (h : ∀ W, w.grownBy W (some b) → Row W b 33 (tcells { t with ad := q }) → wpList Try.prog ops Q rest (a.put op.dst undef) W) : wpList Try.prog ops Q (op :: rest) a w :=
  stA x y hw ho b 17 q hx hy (hr.thereMid (by rw [tcells_len]; omega)) (h _ (grownBy_setCells b _ _ _) (hr.tAd q))
end

@[irreducible] def t8 (t : Tl) : Tl := { t with intv := 0, seq := 0, met := 0, all := false }
theorem t8_def (t : Tl) : t8 t = { t with intv := 0, seq := 0, met := 0, all := false } := by unfold t8; rfl
def w8 (w : World) (b : Nat) : World := (((w.setCell ⟨b, 2, none⟩ (.int .u16 0)).setCell ⟨b, 3, none⟩ (.int .u16 0)).setCell ⟨b, 5, none⟩ (.int .u16 0)).setCell ⟨b, 8, none⟩ (.bool false)
set_option maxHeartbeats 400000 in
theorem rows8 {w : World} {b : Nat} {t : Tl} (rT : Row w b 33 (tcells t)) : Row (w8 w b) b 33 (tcells (t8 t)) := by
  rw [t8_def]
  have r2 : Row (w.setCell ⟨b, 2, none⟩ (.int .u16 0)) b 33 (tcells { t with intv := 0 }) := rT.set 2 (.int .u16 0)
  have r3 : Row ((w.setCell ⟨b, 2, none⟩ (.int .u16 0)).setCell ⟨b, 3, none⟩ (.int .u16 0)) b 33 (tcells { t with intv := 0, seq := 0 }) := r2.set 3 (.int .u16 0)
  have r5 : Row (((w.setCell ⟨b, 2, none⟩ (.int .u16 0)).setCell ⟨b, 3, none⟩ (.int .u16 0)).setCell ⟨b, 5, none⟩ (.int .u16 0)) b 33 (tcells { t with intv := 0, seq := 0, met := 0 }) := r3.set 5 (.int .u16 0)
  exact r5.tAll false
theorem other8 {w : World} {b g : Nat} {T : Nat} {l : List Value} (r : Row w g T l) (h : g ≠ b) : Row (w8 w b) g T l :=
  (((r.setOther b 2 (.int .u16 0) (fun e => h e.symm)).setOther b 3 (.int .u16 0) (fun e => h e.symm)).setOther b 5 (.int .u16 0) (fun e => h e.symm)).setOther b 8 (.bool false) (fun e => h e.symm)
theorem below8 {w W : World} {n b : Nat} (h : Below n w W) (hb : n ≤ b) : Below n w (w8 W b) :=
  Below.setCell (Below.setCell (Below.setCell (Below.setCell h (p := ⟨b, 2, none⟩) hb (.int .u16 0)) (p := ⟨b, 3, none⟩) hb (.int .u16 0)) (p := ⟨b, 5, none⟩) hb (.int .u16 0)) (p := ⟨b, 8, none⟩) hb (.bool false)

theorem cell8 {w : World} {b : Nat} {t : Tl} (r : Row w b 33 (tcells t)) (h : t.ty = 8) : w.cell? ⟨b, 0, none⟩ = some (.int .u8 8) ∧ (∃ v, w.cell? ⟨b, 2, none⟩ = some v) ∧ (∃ v, w.cell? ⟨b, 3, none⟩ = some v) ∧ (∃ v, w.cell? ⟨b, 5, none⟩ = some v) ∧ (∃ v, w.cell? ⟨b, 8, none⟩ = some v) :=
  ⟨by rw [r.cell 0]; show some (Value.int .u8 (t.ty : Int)) = _; rw [h]; rfl, ⟨_, (r.cell 2).trans rfl⟩, ⟨_, (r.cell 3).trans rfl⟩, ⟨_, (r.cell 5).trans rfl⟩, ⟨_, (r.cell 8).trans rfl⟩⟩

set_option maxHeartbeats 4000000 in
theorem unnamed_8 (t : Tl) (w : World) (hy : t.ty = 8) :
    Calls Try.prog 22 #[.agg (tcells t).toArray] w fun e w' => e = .returned (.tuple #[.agg (tcells { t8 t with pr := zeroQ, id := zeroI, ad := zeroA }).toArray, .bool true]) ∧ Below w.heap.size w w' := by
  have HY : Hid (t.ty = 8) := hy
  clear hy
  have RT := Row.new w 33 (tcells t)
  go_enter Try.func22, Try.ntmps22
  go_wp2_with (first
    | (have kk := q3; refine stT (.tmp 2) (.tmp 53) (by rfl) rfl gA { t8 t with pr := zeroQ, id := zeroI, ad := zeroA } zeroT rfl rfl (p3) ?_; intro w8 hg8 r8)
    | (have kk := q3; refine ldT (.tmp 1) (by rfl) rfl w.heap.size { t8 t with pr := zeroQ, id := zeroI, ad := zeroA } rfl (q3) ?_)
    | (have kk := q2; refine stAt (.tmp 39) (.tmp 36) (by rfl) rfl w.heap.size { t8 t with pr := zeroQ, id := zeroI } zeroA rfl rfl q2 ?_; intro wq3 hq3 q3; have p3 := p2.grown hq3 (fun e => hne (Option.some.inj e)); have bq3 := bq2.grown hq3 bq2.size (fun k hk => by cases hk; exact Nat.le_refl _))
    | (have kk := q1; refine stIt (.tmp 38) (.tmp 35) (by rfl) rfl w.heap.size { t8 t with pr := zeroQ } zeroI rfl rfl q1 ?_; intro wq2 hq2 q2; have p2 := p1.grown hq2 (fun e => hne (Option.some.inj e)); have bq2 := bq1.grown hq2 bq1.size (fun k hk => by cases hk; exact Nat.le_refl _))
    | (refine stQt (.tmp 37) (.tmp 34) (by rfl) rfl w.heap.size (t8 t) zeroQ rfl rfl ?row ?_; exact rows8 rT; intro wq1 hq1 q1; have p1 := (other8 rA hne).grown hq1 (fun e => hne (Option.some.inj e)); have bq1 := (below8 (bt (ba w (.cells (tcells t).toArray 33)) a3) (Nat.le_refl _)).grown hq1 (below8 (bt (ba w (.cells (tcells t).toArray 33)) a3) (Nat.le_refl _)).size (fun k hk => by cases hk; exact Nat.le_refl _))
    | (refine alG infoTz (by rfl) rfl ?_; intro gA wA a1 a2 a3 rA; have rT := RT.below a3 RT.lt; have hne : gA ≠ w.heap.size := (by simp at a1; omega); obtain ⟨c0, ⟨v2, c2⟩, ⟨v3, c3⟩, ⟨v5, c5⟩, ⟨v8, c8⟩⟩ := cell8 rT HY.out; have f2 := rT.frozen 2; have f3 := rT.frozen 3; have f5 := rT.frozen 5; have f8 := rT.frozen 8))
  exact bodyPost_ret (retCT rfl _ _ 0 rfl (lvT r8)) rfl ⟨rfl, bq3.grown hg8 bq3.size (fun k hk => by cases hk; simp at a1; omega)⟩
end Go.Proofs.Ytognnfknbkedgaa

namespace Go.Proofs.Ytognnfknbkedgaa
open Go.RowKit
set_option linter.unusedSimpArgs false
set_option maxRecDepth 20000

set_option maxHeartbeats 4000000 in
theorem unnamed_2 (t : Tl) (w : World) (hy : t.ty = 2) :
    Calls Try.prog 22 #[.agg (tcells t).toArray] w fun e w' => e = .returned (.tuple #[.agg (tcells { t with nonce := 0, intv := 0 }).toArray, .bool true]) ∧ Below w.heap.size w w' := by
  have HY : Hid (t.ty = 2) := hy
  clear hy
  have RT := Row.new w 33 (tcells t)
  go_enter Try.func22, Try.ntmps22
  go_wp2_with (first
    | (refine stT (.tmp 2) (.tmp 53) (by rfl) rfl gA { t with nonce := 0, intv := 0 } zeroT rfl rfl ?row1 ?_; exact ((show Row ((wA.setCell ⟨w.heap.size, 1, none⟩ (.int .u16 0)).setCell ⟨w.heap.size, 2, none⟩ (.int .u16 0)) gA 33 (tcells zeroT) from ((rA).setOther w.heap.size 1 (.int .u16 0) (fun e => hne e.symm)).setOther w.heap.size 2 (.int .u16 0) (fun e => hne e.symm))); intro w8 hg8 r8)
    | (refine ldT (.tmp 1) (by rfl) rfl w.heap.size { t with nonce := 0, intv := 0 } rfl ?row2 ?_; exact ((show Row ((wA.setCell ⟨w.heap.size, 1, none⟩ (.int .u16 0)).setCell ⟨w.heap.size, 2, none⟩ (.int .u16 0)) w.heap.size 33 (tcells { t with nonce := 0, intv := 0 }) from ((rT).set 1 (.int .u16 0)).set 2 (.int .u16 0))))
    | (refine alG infoTz (by rfl) rfl ?_; intro gA wA a1 a2 a3 rA; have rT := RT.below a3 RT.lt; have hne : gA ≠ w.heap.size := (by simp at a1; omega); have c0 : wA.cell? ⟨w.heap.size, 0, none⟩ = some (.int .u8 2) := (by have := rT.cell 0; rw [this]; show some (Value.int .u8 (t.ty : Int)) = _; rw [HY.out]; rfl); have c1 : ∃ v, wA.cell? ⟨w.heap.size, 1, none⟩ = some v := (by rw [rT.cell]; exact ⟨_, rfl⟩); obtain ⟨v1, c1⟩ := c1; have f1 := rT.frozen 1; have c2 : ∃ v, wA.cell? ⟨w.heap.size, 2, none⟩ = some v := (by rw [rT.cell]; exact ⟨_, rfl⟩); obtain ⟨v2, c2⟩ := c2; have f2 := rT.frozen 2))
  exact bodyPost_ret (retCT rfl _ _ 0 rfl (lvT r8)) rfl ⟨rfl, (Below.setCell (Below.setCell (bt (ba w (.cells (tcells t).toArray 33)) a3) (p := ⟨w.heap.size, 1, none⟩) (Nat.le_refl _) (.int .u16 0)) (p := ⟨w.heap.size, 2, none⟩) (Nat.le_refl _) (.int .u16 0)).grown hg8 (Below.setCell (Below.setCell (bt (ba w (.cells (tcells t).toArray 33)) a3) (p := ⟨w.heap.size, 1, none⟩) (Nat.le_refl _) (.int .u16 0)) (p := ⟨w.heap.size, 2, none⟩) (Nat.le_refl _) (.int .u16 0)).size (fun k hk => by cases hk; simp at a1; omega)⟩
set_option maxHeartbeats 4000000 in
theorem unnamed_5 (t : Tl) (w : World) (hy : t.ty = 5) :
    Calls Try.prog 22 #[.agg (tcells t).toArray] w fun e w' => e = .returned (.tuple #[.agg (tcells { t with rx := 0, intv := 0, all := false, ad := zeroA, sa := none, sn := 0, sc := 0, st := [] }).toArray, .bool true]) ∧ Below w.heap.size w w' := by
  have HY : Hid (t.ty = 5) := hy
  clear hy
  have RT := Row.new w 33 (tcells t)
  go_enter Try.func22, Try.ntmps22
  go_wp2_with (first
    | (have kk := q1; refine stT (.tmp 2) (.tmp 53) (by rfl) rfl gA { t with rx := 0, intv := 0, all := false, ad := zeroA, sa := none, sn := 0, sc := 0, st := [] } zeroT rfl rfl ((p1.setOther w.heap.size 67 (.slice none 0 0) (fun e => hne e.symm))) ?_; intro w8 hg8 r8)
    | (have kk := q1; refine ldT (.tmp 1) (by rfl) rfl w.heap.size { t with rx := 0, intv := 0, all := false, ad := zeroA, sa := none, sn := 0, sc := 0, st := [] } rfl ((q1.tSt none 0 0 [])) ?_)
    | (refine stAt (.tmp 26) (.tmp 22) (by rfl) rfl w.heap.size { t with rx := 0, intv := 0, all := false } zeroA rfl rfl ?row1 ?_; exact (show Row (((wA.setCell ⟨w.heap.size, 4, none⟩ (.int .u16 0)).setCell ⟨w.heap.size, 2, none⟩ (.int .u16 0)).setCell ⟨w.heap.size, 8, none⟩ (.bool false)) w.heap.size 33 (tcells { t with rx := 0, intv := 0, all := false }) from (((rT).set 4 (.int .u16 0)).set 2 (.int .u16 0)).set 8 (.bool false)); intro wq1 hq1 q1; have p1 := (show Row (((wA.setCell ⟨w.heap.size, 4, none⟩ (.int .u16 0)).setCell ⟨w.heap.size, 2, none⟩ (.int .u16 0)).setCell ⟨w.heap.size, 8, none⟩ (.bool false)) gA 33 (tcells zeroT) from (((rA).setOther w.heap.size 4 (.int .u16 0) (fun e => hne e.symm)).setOther w.heap.size 2 (.int .u16 0) (fun e => hne e.symm)).setOther w.heap.size 8 (.bool false) (fun e => hne e.symm)).grown hq1 (fun e => hne (Option.some.inj e)); have bq1 := (Below.setCell (Below.setCell (Below.setCell (bt (ba w (.cells (tcells t).toArray 33)) a3) (p := ⟨w.heap.size, 4, none⟩) (Nat.le_refl _) (.int .u16 0)) (p := ⟨w.heap.size, 2, none⟩) (Nat.le_refl _) (.int .u16 0)) (p := ⟨w.heap.size, 8, none⟩) (Nat.le_refl _) (.bool false)).grown hq1 (Below.setCell (Below.setCell (Below.setCell (bt (ba w (.cells (tcells t).toArray 33)) a3) (p := ⟨w.heap.size, 4, none⟩) (Nat.le_refl _) (.int .u16 0)) (p := ⟨w.heap.size, 2, none⟩) (Nat.le_refl _) (.int .u16 0)) (p := ⟨w.heap.size, 8, none⟩) (Nat.le_refl _) (.bool false)).size (fun k hk => by cases hk; exact Nat.le_refl _); have d67 : wq1.cell? ⟨w.heap.size, 67, none⟩ = some (.slice t.sa t.sn t.sc) := q1.rSt; have g67 := q1.frozen 67)
    | (refine alG infoTz (by rfl) rfl ?_; intro gA wA a1 a2 a3 rA; have rT := RT.below a3 RT.lt; have hne : gA ≠ w.heap.size := (by simp at a1; omega); have c0 : wA.cell? ⟨w.heap.size, 0, none⟩ = some (.int .u8 5) := (by have := rT.cell 0; rw [this]; show some (Value.int .u8 (t.ty : Int)) = _; rw [HY.out]; rfl); have c4 : ∃ v, wA.cell? ⟨w.heap.size, 4, none⟩ = some v := (by rw [rT.cell]; exact ⟨_, rfl⟩); obtain ⟨v4, c4⟩ := c4; have f4 := rT.frozen 4; have c2 : ∃ v, wA.cell? ⟨w.heap.size, 2, none⟩ = some v := (by rw [rT.cell]; exact ⟨_, rfl⟩); obtain ⟨v2, c2⟩ := c2; have f2 := rT.frozen 2; have c8 : ∃ v, wA.cell? ⟨w.heap.size, 8, none⟩ = some v := (by rw [rT.cell]; exact ⟨_, rfl⟩); obtain ⟨v8, c8⟩ := c8; have f8 := rT.frozen 8; have c67 : ∃ v, wA.cell? ⟨w.heap.size, 67, none⟩ = some v := (by rw [rT.cell]; exact ⟨_, tcells_get t⟩); obtain ⟨v67, c67⟩ := c67; have f67 := rT.frozen 67))
  exact bodyPost_ret (retCT rfl _ _ 0 rfl (lvT r8)) rfl ⟨rfl, (bq1.setCell (p := ⟨w.heap.size, 67, none⟩) (Nat.le_refl _) (.slice none 0 0)).grown hg8 (bq1.setCell (p := ⟨w.heap.size, 67, none⟩) (Nat.le_refl _) (.slice none 0 0)).size (fun k hk => by cases hk; simp at a1; omega)⟩
set_option maxHeartbeats 4000000 in
theorem unnamed_9 (t : Tl) (w : World) (hy : t.ty = 9) :
    Calls Try.prog 22 #[.agg (tcells t).toArray] w fun e w' => e = .returned (.tuple #[.agg (tcells { t with all := false, pr := zeroQ }).toArray, .bool true]) ∧ Below w.heap.size w w' := by
  have HY : Hid (t.ty = 9) := hy
  clear hy
  have RT := Row.new w 33 (tcells t)
  go_enter Try.func22, Try.ntmps22
  go_wp2_with (first
    | (have kk := q1; refine stT (.tmp 2) (.tmp 53) (by rfl) rfl gA { t with all := false, pr := zeroQ } zeroT rfl rfl (p1) ?_; intro w8 hg8 r8)
    | (have kk := q1; refine ldT (.tmp 1) (by rfl) rfl w.heap.size { t with all := false, pr := zeroQ } rfl (q1) ?_)
    | (refine stQt (.tmp 44) (.tmp 42) (by rfl) rfl w.heap.size { t with all := false } zeroQ rfl rfl ?row1 ?_; exact (show Row (wA.setCell ⟨w.heap.size, 8, none⟩ (.bool false)) w.heap.size 33 (tcells { t with all := false }) from (rT).set 8 (.bool false)); intro wq1 hq1 q1; have p1 := (show Row (wA.setCell ⟨w.heap.size, 8, none⟩ (.bool false)) gA 33 (tcells zeroT) from (rA).setOther w.heap.size 8 (.bool false) (fun e => hne e.symm)).grown hq1 (fun e => hne (Option.some.inj e)); have bq1 := (Below.setCell (bt (ba w (.cells (tcells t).toArray 33)) a3) (p := ⟨w.heap.size, 8, none⟩) (Nat.le_refl _) (.bool false)).grown hq1 (Below.setCell (bt (ba w (.cells (tcells t).toArray 33)) a3) (p := ⟨w.heap.size, 8, none⟩) (Nat.le_refl _) (.bool false)).size (fun k hk => by cases hk; exact Nat.le_refl _))
    | (refine alG infoTz (by rfl) rfl ?_; intro gA wA a1 a2 a3 rA; have rT := RT.below a3 RT.lt; have hne : gA ≠ w.heap.size := (by simp at a1; omega); have c0 : wA.cell? ⟨w.heap.size, 0, none⟩ = some (.int .u8 9) := (by have := rT.cell 0; rw [this]; show some (Value.int .u8 (t.ty : Int)) = _; rw [HY.out]; rfl); have c8 : ∃ v, wA.cell? ⟨w.heap.size, 8, none⟩ = some v := (by rw [rT.cell]; exact ⟨_, rfl⟩); obtain ⟨v8, c8⟩ := c8; have f8 := rT.frozen 8))
  exact bodyPost_ret (retCT rfl _ _ 0 rfl (lvT r8)) rfl ⟨rfl, bq1.grown hg8 bq1.size (fun k hk => by cases hk; simp at a1; omega)⟩
set_option maxHeartbeats 4000000 in
theorem unnamed_3 (t : Tl) (w : World) (hy : t.ty = 3) :
    Calls Try.prog 22 #[.agg (tcells t).toArray] w fun e w' => e = .returned (.tuple #[.agg (tcells { t with nonce := 0 }).toArray, .bool true]) ∧ Below w.heap.size w w' := by
  have HY : Hid (t.ty = 3) := hy
  clear hy
  have RT := Row.new w 33 (tcells t)
  go_enter Try.func22, Try.ntmps22
  go_wp2_with (first
    | (refine stT (.tmp 2) (.tmp 53) (by rfl) rfl gA { t with nonce := 0 } zeroT rfl rfl ?row1 ?_; exact ((show Row (wA.setCell ⟨w.heap.size, 1, none⟩ (.int .u16 0)) gA 33 (tcells zeroT) from (rA).setOther w.heap.size 1 (.int .u16 0) (fun e => hne e.symm))); intro w8 hg8 r8)
    | (refine ldT (.tmp 1) (by rfl) rfl w.heap.size { t with nonce := 0 } rfl ?row2 ?_; exact ((show Row (wA.setCell ⟨w.heap.size, 1, none⟩ (.int .u16 0)) w.heap.size 33 (tcells { t with nonce := 0 }) from (rT).set 1 (.int .u16 0))))
    | (refine alG infoTz (by rfl) rfl ?_; intro gA wA a1 a2 a3 rA; have rT := RT.below a3 RT.lt; have hne : gA ≠ w.heap.size := (by simp at a1; omega); have c0 : wA.cell? ⟨w.heap.size, 0, none⟩ = some (.int .u8 3) := (by have := rT.cell 0; rw [this]; show some (Value.int .u8 (t.ty : Int)) = _; rw [HY.out]; rfl); have c1 : ∃ v, wA.cell? ⟨w.heap.size, 1, none⟩ = some v := (by rw [rT.cell]; exact ⟨_, rfl⟩); obtain ⟨v1, c1⟩ := c1; have f1 := rT.frozen 1))
  exact bodyPost_ret (retCT rfl _ _ 0 rfl (lvT r8)) rfl ⟨rfl, (Below.setCell (bt (ba w (.cells (tcells t).toArray 33)) a3) (p := ⟨w.heap.size, 1, none⟩) (Nat.le_refl _) (.int .u16 0)).grown hg8 (Below.setCell (bt (ba w (.cells (tcells t).toArray 33)) a3) (p := ⟨w.heap.size, 1, none⟩) (Nat.le_refl _) (.int .u16 0)).size (fun k hk => by cases hk; simp at a1; omega)⟩
set_option maxHeartbeats 4000000 in
theorem unnamed_4 (t : Tl) (w : World) (hy : t.ty = 4) :
    Calls Try.prog 22 #[.agg (tcells t).toArray] w fun e w' => e = .returned (.tuple #[.agg (tcells { t with seq := 0, intv := 0, uni := false, sa := none, sn := 0, sc := 0, st := [] }).toArray, .bool true]) ∧ Below w.heap.size w w' := by
  have HY : Hid (t.ty = 4) := hy
  clear hy
  have RT := Row.new w 33 (tcells t)
  go_enter Try.func22, Try.ntmps22
  go_wp2_with (first
    | (refine stT (.tmp 2) (.tmp 53) (by rfl) rfl gA { t with seq := 0, intv := 0, uni := false, sa := none, sn := 0, sc := 0, st := [] } zeroT rfl rfl ?row1 ?_; exact (((show Row (((wA.setCell ⟨w.heap.size, 3, none⟩ (.int .u16 0)).setCell ⟨w.heap.size, 2, none⟩ (.int .u16 0)).setCell ⟨w.heap.size, 7, none⟩ (.bool false)) gA 33 (tcells zeroT) from (((rA).setOther w.heap.size 3 (.int .u16 0) (fun e => hne e.symm)).setOther w.heap.size 2 (.int .u16 0) (fun e => hne e.symm)).setOther w.heap.size 7 (.bool false) (fun e => hne e.symm)).setOther w.heap.size 67 (.slice none 0 0) (fun e => hne e.symm))); intro w8 hg8 r8)
    | (refine ldT (.tmp 1) (by rfl) rfl w.heap.size { t with seq := 0, intv := 0, uni := false, sa := none, sn := 0, sc := 0, st := [] } rfl ?row2 ?_; exact (((show Row (((wA.setCell ⟨w.heap.size, 3, none⟩ (.int .u16 0)).setCell ⟨w.heap.size, 2, none⟩ (.int .u16 0)).setCell ⟨w.heap.size, 7, none⟩ (.bool false)) w.heap.size 33 (tcells { t with seq := 0, intv := 0, uni := false }) from (((rT).set 3 (.int .u16 0)).set 2 (.int .u16 0)).set 7 (.bool false)).tSt none 0 0 [])))
    | (refine alG infoTz (by rfl) rfl ?_; intro gA wA a1 a2 a3 rA; have rT := RT.below a3 RT.lt; have hne : gA ≠ w.heap.size := (by simp at a1; omega); have c0 : wA.cell? ⟨w.heap.size, 0, none⟩ = some (.int .u8 4) := (by have := rT.cell 0; rw [this]; show some (Value.int .u8 (t.ty : Int)) = _; rw [HY.out]; rfl); have c3 : ∃ v, wA.cell? ⟨w.heap.size, 3, none⟩ = some v := (by rw [rT.cell]; exact ⟨_, rfl⟩); obtain ⟨v3, c3⟩ := c3; have f3 := rT.frozen 3; have c2 : ∃ v, wA.cell? ⟨w.heap.size, 2, none⟩ = some v := (by rw [rT.cell]; exact ⟨_, rfl⟩); obtain ⟨v2, c2⟩ := c2; have f2 := rT.frozen 2; have c7 : ∃ v, wA.cell? ⟨w.heap.size, 7, none⟩ = some v := (by rw [rT.cell]; exact ⟨_, rfl⟩); obtain ⟨v7, c7⟩ := c7; have f7 := rT.frozen 7; have c67 : ∃ v, wA.cell? ⟨w.heap.size, 67, none⟩ = some v := (by rw [rT.cell]; exact ⟨_, tcells_get t⟩); obtain ⟨v67, c67⟩ := c67; have f67 := rT.frozen 67))
  exact bodyPost_ret (retCT rfl _ _ 0 rfl (lvT r8)) rfl ⟨rfl, ((Below.setCell (Below.setCell (Below.setCell (bt (ba w (.cells (tcells t).toArray 33)) a3) (p := ⟨w.heap.size, 3, none⟩) (Nat.le_refl _) (.int .u16 0)) (p := ⟨w.heap.size, 2, none⟩) (Nat.le_refl _) (.int .u16 0)) (p := ⟨w.heap.size, 7, none⟩) (Nat.le_refl _) (.bool false)).setCell (p := ⟨w.heap.size, 67, none⟩) (Nat.le_refl _) (.slice none 0 0)).grown hg8 ((Below.setCell (Below.setCell (Below.setCell (bt (ba w (.cells (tcells t).toArray 33)) a3) (p := ⟨w.heap.size, 3, none⟩) (Nat.le_refl _) (.int .u16 0)) (p := ⟨w.heap.size, 2, none⟩) (Nat.le_refl _) (.int .u16 0)) (p := ⟨w.heap.size, 7, none⟩) (Nat.le_refl _) (.bool false)).setCell (p := ⟨w.heap.size, 67, none⟩) (Nat.le_refl _) (.slice none 0 0)).size (fun k hk => by cases hk; simp at a1; omega)⟩
set_option maxHeartbeats 4000000 in
theorem unnamed_10 (t : Tl) (w : World) (hy : t.ty = 10) :
    Calls Try.prog 22 #[.agg (tcells t).toArray] w fun e w' => e = .returned (.tuple #[.agg (tcells { t with seq := 0, hops := 0, id := zeroI, pr := zeroQ }).toArray, .bool true]) ∧ Below w.heap.size w w' := by
  have HY : Hid (t.ty = 10) := hy
  clear hy
  have RT := Row.new w 33 (tcells t)
  go_enter Try.func22, Try.ntmps22
  go_wp2_with (first
    | (have kk := q2; refine stT (.tmp 2) (.tmp 53) (by rfl) rfl gA { t with seq := 0, hops := 0, id := zeroI, pr := zeroQ } zeroT rfl rfl (p2) ?_; intro w8 hg8 r8)
    | (have kk := q2; refine ldT (.tmp 1) (by rfl) rfl w.heap.size { t with seq := 0, hops := 0, id := zeroI, pr := zeroQ } rfl (q2) ?_)
    | (have kk := q1; refine stQt (.tmp 52) (.tmp 48) (by rfl) rfl w.heap.size { t with seq := 0, hops := 0, id := zeroI } zeroQ rfl rfl q1 ?_; intro wq2 hq2 q2; have p2 := p1.grown hq2 (fun e => hne (Option.some.inj e)); have bq2 := bq1.grown hq2 bq1.size (fun k hk => by cases hk; exact Nat.le_refl _))
    | (refine stIt (.tmp 51) (.tmp 47) (by rfl) rfl w.heap.size { t with seq := 0, hops := 0 } zeroI rfl rfl ?row1 ?_; exact (show Row ((wA.setCell ⟨w.heap.size, 3, none⟩ (.int .u16 0)).setCell ⟨w.heap.size, 6, none⟩ (.int .u8 0)) w.heap.size 33 (tcells { t with seq := 0, hops := 0 }) from ((rT).set 3 (.int .u16 0)).set 6 (.int .u8 0)); intro wq1 hq1 q1; have p1 := (show Row ((wA.setCell ⟨w.heap.size, 3, none⟩ (.int .u16 0)).setCell ⟨w.heap.size, 6, none⟩ (.int .u8 0)) gA 33 (tcells zeroT) from ((rA).setOther w.heap.size 3 (.int .u16 0) (fun e => hne e.symm)).setOther w.heap.size 6 (.int .u8 0) (fun e => hne e.symm)).grown hq1 (fun e => hne (Option.some.inj e)); have bq1 := (Below.setCell (Below.setCell (bt (ba w (.cells (tcells t).toArray 33)) a3) (p := ⟨w.heap.size, 3, none⟩) (Nat.le_refl _) (.int .u16 0)) (p := ⟨w.heap.size, 6, none⟩) (Nat.le_refl _) (.int .u8 0)).grown hq1 (Below.setCell (Below.setCell (bt (ba w (.cells (tcells t).toArray 33)) a3) (p := ⟨w.heap.size, 3, none⟩) (Nat.le_refl _) (.int .u16 0)) (p := ⟨w.heap.size, 6, none⟩) (Nat.le_refl _) (.int .u8 0)).size (fun k hk => by cases hk; exact Nat.le_refl _))
    | (refine alG infoTz (by rfl) rfl ?_; intro gA wA a1 a2 a3 rA; have rT := RT.below a3 RT.lt; have hne : gA ≠ w.heap.size := (by simp at a1; omega); have c0 : wA.cell? ⟨w.heap.size, 0, none⟩ = some (.int .u8 10) := (by have := rT.cell 0; rw [this]; show some (Value.int .u8 (t.ty : Int)) = _; rw [HY.out]; rfl); have c3 : ∃ v, wA.cell? ⟨w.heap.size, 3, none⟩ = some v := (by rw [rT.cell]; exact ⟨_, rfl⟩); obtain ⟨v3, c3⟩ := c3; have f3 := rT.frozen 3; have c6 : ∃ v, wA.cell? ⟨w.heap.size, 6, none⟩ = some v := (by rw [rT.cell]; exact ⟨_, rfl⟩); obtain ⟨v6, c6⟩ := c6; have f6 := rT.frozen 6))
  exact bodyPost_ret (retCT rfl _ _ 0 rfl (lvT r8)) rfl ⟨rfl, bq2.grown hg8 bq2.size (fun k hk => by cases hk; simp at a1; omega)⟩
end Go.Proofs.Ytognnfknbkedgaa
