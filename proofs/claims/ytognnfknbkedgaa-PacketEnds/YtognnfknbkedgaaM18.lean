/-
  The contract of update of package packet, whatever its bytes are.
-/
import Derived.Test.YtognnfknbkedgaaM17
import Derived.Test.YtognnfknbkedgaaM07
namespace Go.Proofs.Ytognnfknbkedgaa
open Go.RowKit
set_option linter.unusedSimpArgs false
set_option maxRecDepth 20000
variable {bv : Option Addr}

theorem famP_or (p : Pf) : famP p = 4 ∨ famP p = 6 := by unfold famP; split <;> simp
theorem update_any {w : World} {P g : Nat} {l : List UInt8} {r : RS} {s : St} (hpar : Par w P (some g) s) (h : RdS w g bv l r) (hl : l.length ≤ 100000) :
    Calls Try.prog 61 #[.pointer (some ⟨P, 0, none⟩)] w fun e w' => SayR w (upK s l r) (upB s l r) e w' ∧ (∃ R, Par w' P R (upS s l r)) ∧ Mv w w' P g := by
  by_cases h0 : r.val l 1 = 0
  · have := update_0 hpar h hl h0
    unfold upK upB upS
    rw [if_pos h0, if_pos h0, if_pos h0]
    exact this
  · obtain ⟨ae, aeH⟩ : ∃ x, Hid (r.val l 1 = x) := ⟨_, rfl⟩
    obtain ⟨fl, flH⟩ : ∃ x, Hid ((r.adv l 1).val l 1 = x) := ⟨_, rfl⟩
    obtain ⟨pl, plH⟩ : ∃ x, Hid (((r.adv l 1).adv l 1).val l 1 = x) := ⟨_, rfl⟩
    obtain ⟨om, omH⟩ : ∃ x, Hid ((((r.adv l 1).adv l 1).adv l 1).val l 1 = x) := ⟨_, rfl⟩
    obtain ⟨iv, ivH⟩ : ∃ x, Hid (((((r.adv l 1).adv l 1).adv l 1).adv l 1).val l 2 = x) := ⟨_, rfl⟩
    obtain ⟨sq, sqH⟩ : ∃ x, Hid ((((((r.adv l 1).adv l 1).adv l 1).adv l 1).adv l 2).val l 2 = x) := ⟨_, rfl⟩
    obtain ⟨mt, mtH⟩ : ∃ x, Hid (((((((r.adv l 1).adv l 1).adv l 1).adv l 1).adv l 2).adv l 2).val l 2 = x) := ⟨_, rfl⟩
    have hpl : pl < 256 := by rw [← plH.out]; exact val1_lt _ l
    have hom : om < 256 := by rw [← omH.out]; exact val1_lt _ l
    have hae : ((ae : Int) == 0) = false := by rw [aeH.out] at h0; simp; omega
    obtain ⟨s1, hs1⟩ : ∃ x, upS s l r = x := ⟨_, rfl⟩
    have ES : s1 = if (pfR s ae pl om l (((((((r.adv l 1).adv l 1).adv l 1).adv l 1).adv l 2).adv l 2).adv l 2)).y = 0 then kpS s ae fl (pfP s ae pl om l (((((((r.adv l 1).adv l 1).adv l 1).adv l 1).adv l 2).adv l 2).adv l 2)).a else s := by
      rw [← hs1]; unfold upS; rw [if_neg h0, aeH.out, flH.out, plH.out, omH.out]
    unfold upK upB
    rw [if_neg h0, if_neg h0, hs1, aeH.out, plH.out, omH.out, ivH.out, sqH.out, mtH.out]
    clear hs1 h0
    have HP : Hid (∀ W, Par W P (some g) s → RdS W g bv l (((((((r.adv l 1).adv l 1).adv l 1).adv l 1).adv l 2).adv l 2).adv l 2) → Calls Try.prog 85 #[.pointer (some ⟨P, 0, none⟩), .int .u8 (ae : Int), .int .i64 (pl : Int), .int .i64 (om : Int)] W fun e w' => e = .returned (Value.agg (pcells (pfP s ae pl om l (((((((r.adv l 1).adv l 1).adv l 1).adv l 1).adv l 2).adv l 2).adv l 2))).toArray) ∧ NowS W w' g bv l (pfR s ae pl om l (((((((r.adv l 1).adv l 1).adv l 1).adv l 1).adv l 2).adv l 2).adv l 2))) := fun W h1 h2 => prefix_any ae pl om hpl hom h1 h2
    have hA := @pfR_ae s ae pl om l (((((((r.adv l 1).adv l 1).adv l 1).adv l 1).adv l 2).adv l 2).adv l 2)
    generalize pfP s ae pl om l (((((((r.adv l 1).adv l 1).adv l 1).adv l 1).adv l 2).adv l 2).adv l 2) = dst at *
    generalize pfR s ae pl om l (((((((r.adv l 1).adv l 1).adv l 1).adv l 1).adv l 2).adv l 2).adv l 2) = rn at *
    have HQ : Hid (∀ W, Par W P (some g) s1 → RdS W g bv l rn → Calls Try.prog 87 #[.pointer (some ⟨P, 0, none⟩), .int .u8 (ae : Int), (Value.agg (pcells dst).toArray)] W (Paired W P g s1 (prQ s1 ae dst l rn) (prB s1 ae dst l rn))) := fun W h1 h2 => pair_any ae dst hl h1 h2
    have HW : ∀ W, Pg W P g → RdS W g bv l rn → Calls Try.prog 82 #[.pointer (some ⟨P, 0, none⟩)] W fun e w' => e = .returned (.bool (rn.y == 0)) ∧ NowS W w' g bv l rn := fun W h1 h2 => well_any h1 h2
    have HFM : Hid (∀ W, Calls Try.prog 43 #[(Value.agg (pcells dst).toArray)] W (Gives W (.int .i64 (famP dst)))) := fun W => pfam_any dst W
    have hf := famP_or dst
    generalize famP dst = f at *
    generalize prQ s1 ae dst l rn = q at *
    generalize prB s1 ae dst l rn = b at *
    by_cases hy : rn.y = 0
    · rw [if_pos hy] at ES
      have HK : Hid (∀ W, Par W P (some g) s → Calls Try.prog 86 #[.pointer (some ⟨P, 0, none⟩), .int .u8 (ae : Int), .int .u8 (fl : Int), (Value.agg (acells dst.a).toArray)] W fun e w' => e = .returned (.tuple #[]) ∧ Par w' P (some g) s1 ∧ W.grownBy w' (some P)) := fun W h1 => by rw [ES]; exact keep_any ae fl dst.a (hA hy) h1
      have hy' : (rn.y == 0) = true := by simpa using hy
      rw [hy'] at HW
      cases b with
      | false => exact update_y_no hpar h aeH flH plH omH ivH sqH mtH hae HP HW HK HQ
      | true =>
        by_cases hm : mt = 65535
        · rw [if_pos hm, show (true && (decide (mt = 65535) || upOk s1 f)) = true by simp [hm]]
          exact update_y_inf hpar h aeH flH plH omH ivH sqH mtH hae HP HW HK HQ (by simp [hm]) (rfl : _ = _)
        · rw [if_neg hm, show (true && (decide (mt = 65535) || upOk s1 f)) = upOk s1 f by simp [hm]]
          exact update_y_rest hpar h aeH flH plH omH ivH sqH mtH hae HP HW HK HQ (by simp; omega) HFM hf (rfl : _ = _) (rfl : _ = _)
    · rw [if_neg hy] at ES
      have hy' : (rn.y == 0) = false := by simpa using hy
      rw [hy'] at HW
      cases b with
      | false => exact update_n_no hpar h aeH flH plH omH ivH sqH mtH hae HP HW ES HQ
      | true =>
        by_cases hm : mt = 65535
        · rw [if_pos hm, show (true && (decide (mt = 65535) || upOk s1 f)) = true by simp [hm]]
          exact update_n_inf hpar h aeH flH plH omH ivH sqH mtH hae HP HW ES HQ (by simp [hm]) (rfl : _ = _)
        · rw [if_neg hm, show (true && (decide (mt = 65535) || upOk s1 f)) = upOk s1 f by simp [hm]]
          exact update_n_rest hpar h aeH flH plH omH ivH sqH mtH hae HP HW ES HQ (by simp; omega) HFM hf (rfl : _ = _) (rfl : _ = _)
end Go.Proofs.Ytognnfknbkedgaa

namespace Go.Proofs.Ytognnfknbkedgaa
open Go.RowKit
set_option linter.unusedSimpArgs false
set_option maxRecDepth 20000

section
variable {ops : Array Oper} {rest : List Oper} {op : Oper} {a : Act} {w : World} {Q : Exit → Act → World → Prop}
theorem stAt (x y : Operand) (hw : Region.wanted op (yielded ops a.tmps) = true) (ho : op.op = .store 26 x y) (b : Nat) (t : Tl) (q : Ad) (hx : a.eval x = .pointer (some ⟨b, 17, none⟩)) (hy : a.eval y = (Value.agg (acells q).toArray)) (hr : Row w b 33 (tcells t))
    (h : ∀ W, w.grownBy W (some b) → Row W b 33 (tcells { t with ad := q }) → wpList Try.prog ops Q rest (a.put op.dst undef) W) : wpList Try.prog ops Q (op :: rest) a w :=
  stA x y hw ho b 17 q hx hy (hr.thereMid (by rw [tcells_len]; omega)) (h _ (grownBy_setCells b _ _ _) (hr.tAd q))
end

@[irreducible] def t8 (t : Tl) : Tl := { t with intv := 0, seq := 0, met := 0, all := false }
theorem t8_def (t : Tl) : t8 t = { t with intv := 0, seq := 0, met := 0, all := false } := by unfold t8; rfl
def w8 (w : World) (b : Nat) : World := (((w.setCell ⟨b, 2, none⟩ (.int .u16 0)).setCell ⟨b, 3, none⟩ (.int .u16 0)).setCell ⟨b, 5, none⟩ (.int .u16 0)).setCell ⟨b, 8, none⟩ (.bool false)
set_option maxHeartbeats 400000 in
theorem rows8 {w : World} {b : Nat} {t : Tl} (rT : Row w b 33 (tcells t)) : Row (w8 w b) b 33 (tcells (t8 t)) := by
  rw [t8_def]
  have r2 : Row (w.setCell ⟨b, 2, none⟩ (.int .u16 0)) b 33 (tcells { t with intv := 0 }) := rT.set 2 (.int .u16 0)
  have r3 : Row ((w.setCell ⟨b, 2, none⟩ (.int .u16 0)).setCell ⟨b, 3, none⟩ (.int .u16 0)) b 33 (tcells { t with intv := 0, seq := 0 }) := r2.set 3 (.int .u16 0)
  have r5 : Row (((w.setCell ⟨b, 2, none⟩ (.int .u16 0)).setCell ⟨b, 3, none⟩ (.int .u16 0)).setCell ⟨b, 5, none⟩ (.int .u16 0)) b 33 (tcells { t with intv := 0, seq := 0, met := 0 }) := r3.set 5 (.int .u16 0)
  exact r5.tAll false
theorem other8 {w : World} {b g : Nat} {T : Nat} {l : List Value} (r : Row w g T l) (h : g ≠ b) : Row (w8 w b) g T l :=
  (((r.setOther b 2 (.int .u16 0) (fun e => h e.symm)).setOther b 3 (.int .u16 0) (fun e => h e.symm)).setOther b 5 (.int .u16 0) (fun e => h e.symm)).setOther b 8 (.bool false) (fun e => h e.symm)
theorem below8 {w W : World} {n b : Nat} (h : Below n w W) (hb : n ≤ b) : Below n w (w8 W b) :=
  Below.setCell (Below.setCell (Below.setCell (Below.setCell h (p := ⟨b, 2, none⟩) hb (.int .u16 0)) (p := ⟨b, 3, none⟩) hb (.int .u16 0)) (p := ⟨b, 5, none⟩) hb (.int .u16 0)) (p := ⟨b, 8, none⟩) hb (.bool false)

theorem cell8 {w : World} {b : Nat} {t : Tl} (r : Row w b 33 (tcells t)) (h : t.ty = 8) : w.cell? ⟨b, 0, none⟩ = some (.int .u8 8) ∧ (∃ v, w.cell? ⟨b, 2, none⟩ = some v) ∧ (∃ v, w.cell? ⟨b, 3, none⟩ = some v) ∧ (∃ v, w.cell? ⟨b, 5, none⟩ = some v) ∧ (∃ v, w.cell? ⟨b, 8, none⟩ = some v) :=
  ⟨by rw [r.cell 0]; show some (Value.int .u8 (t.ty : Int)) = _; rw [h]; rfl, ⟨_, (r.cell 2).trans rfl⟩, ⟨_, (r.cell 3).trans rfl⟩, ⟨_, (r.cell 5).trans rfl⟩, ⟨_, (r.cell 8).trans rfl⟩⟩

set_option maxHeartbeats 4000000 in
theorem unnamed_8 (t : Tl) (w : World) (hy : t.ty = 8) :
    Calls Try.prog 22 #[.agg (tcells t).toArray] w fun e w' => e = .returned (.tuple #[.agg (tcells { t8 t with pr := zeroQ, id := zeroI, ad := zeroA }).toArray, .bool true]) ∧ Below w.heap.size w w' := by
  have HY : Hid (t.ty = 8) := hy
  clear hy
  have RT := Row.new w 33 (tcells t)
  go_enter Try.func22, Try.ntmps22
  go_wp2_with (first
    | (have kk := q3; refine stT (.tmp 2) (.tmp 53) (by rfl) rfl gA { t8 t with pr := zeroQ, id := zeroI, ad := zeroA } zeroT rfl rfl (p3) ?_; intro w8 hg8 r8)
    | (have kk := q3; refine ldT (.tmp 1) (by rfl) rfl w.heap.size { t8 t with pr := zeroQ, id := zeroI, ad := zeroA } rfl (q3) ?_)
    | (have kk := q2; refine stAt (.tmp 39) (.tmp 36) (by rfl) rfl w.heap.size { t8 t with pr := zeroQ, id := zeroI } zeroA rfl rfl q2 ?_; intro wq3 hq3 q3; have p3 := p2.grown hq3 (fun e => hne (Option.some.inj e)); have bq3 := bq2.grown hq3 bq2.size (fun k hk => by cases hk; exact Nat.le_refl _))
    | (have kk := q1; refine stIt (.tmp 38) (.tmp 35) (by rfl) rfl w.heap.size { t8 t with pr := zeroQ } zeroI rfl rfl q1 ?_; intro wq2 hq2 q2; have p2 := p1.grown hq2 (fun e => hne (Option.some.inj e)); have bq2 := bq1.grown hq2 bq1.size (fun k hk => by cases hk; exact Nat.le_refl _))
    | (refine stQt (.tmp 37) (.tmp 34) (by rfl) rfl w.heap.size (t8 t) zeroQ rfl rfl ?row ?_; exact rows8 rT; intro wq1 hq1 q1; have p1 := (other8 rA hne).grown hq1 (fun e => hne (Option.some.inj e)); have bq1 := (below8 (bt (ba w (.cells (tcells t).toArray 33)) a3) (Nat.le_refl _)).grown hq1 (below8 (bt (ba w (.cells (tcells t).toArray 33)) a3) (Nat.le_refl _)).size (fun k hk => by cases hk; exact Nat.le_refl _))
    | (refine alG infoTz (by rfl) rfl ?_; intro gA wA a1 a2 a3 rA; have rT := RT.below a3 RT.lt; have hne : gA ≠ w.heap.size := (by simp at a1; omega); obtain ⟨c0, ⟨v2, c2⟩, ⟨v3, c3⟩, ⟨v5, c5⟩, ⟨v8, c8⟩⟩ := cell8 rT HY.out; have f2 := rT.frozen 2; have f3 := rT.frozen 3; have f5 := rT.frozen 5; have f8 := rT.frozen 8))
  exact bodyPost_ret (retCT rfl _ _ 0 rfl (lvT r8)) rfl ⟨rfl, bq3.grown hg8 bq3.size (fun k hk => by cases hk; simp at a1; omega)⟩
end Go.Proofs.Ytognnfknbkedgaa

namespace Go.Proofs.Ytognnfknbkedgaa
open Go.RowKit
set_option linter.unusedSimpArgs false
set_option maxRecDepth 20000

theorem Id8.lit (i : Id8) : ∃ b0 b1 b2 b3 b4 b5 b6 b7, i.l = [b0, b1, b2, b3, b4, b5, b6, b7] := by
  obtain ⟨l, hl⟩ := i
  match l, hl with
  | [b0, b1, b2, b3, b4, b5, b6, b7], _ => exact ⟨b0, b1, b2, b3, b4, b5, b6, b7, rfl⟩
theorem tid_get (t : Tl) (k : Nat) (hk : k < 8) : (tcells t)[9 + k]? = (icells t.id)[k]? := by
  unfold tcells
  rw [List.getElem?_append_right (by simp [tnum]), List.getElem?_append_left (by simp [tnum, icells_len]; omega)]
  congr 1
  simp [tnum]
theorem fitsU_fin (t : Tl) (w : World) (hall : t.all = false) (hmet : t.met ≠ 65535) (hnob : nobB t.id = false) :
    Calls Try.prog 40 #[.agg (tcells t).toArray] w fun e w' => e = .returned (.bool true) ∧ Below w.heap.size w w' := by
  have T8 : (tcells t)[8]? = some (.bool false) := by rw [← hall]; rfl
  have T5 : (tcells t)[5]? = some (.int .u16 (t.met : Int)) := rfl
  have HN := nobody_any t.id
  rw [hnob] at HN
  have hm : ((t.met : Int) == 65535) = false := by simp; omega
  obtain ⟨b0, b1, b2, b3, b4, b5, b6, b7, hi⟩ := t.id.lit
  have ei : icells t.id = [.int .u8 b0.toNat, .int .u8 b1.toNat, .int .u8 b2.toNat, .int .u8 b3.toNat, .int .u8 b4.toNat, .int .u8 b5.toNat, .int .u8 b6.toNat, .int .u8 b7.toNat] := by unfold icells; rw [hi]; rfl
  have G := tid_get t
  rw [ei] at HN G
  have T9 := G 0 (by decide)
  have T10 := G 1 (by decide)
  have T11 := G 2 (by decide)
  have T12 := G 3 (by decide)
  have T13 := G 4 (by decide)
  have T14 := G 5 (by decide)
  have T15 := G 6 (by decide)
  have T16 := G 7 (by decide)
  simp only [Nat.reduceAdd, List.getElem?_cons_zero, List.getElem?_cons_succ] at T9 T10 T11 T12 T13 T14 T15 T16
  generalize t.met = m at *
  clear hall hmet hnob ei hi G
  go_enter Try.func40, Try.ntmps40
  go_wp2_with (go_at_call 70; refine (HN _).mono ?_; rintro e w1 ⟨rfl, hb1⟩)
  go_ret
  exact ⟨rfl, bt (ba _ _) hb1⟩
theorem fits_8 (t : Tl) (w : World) (hy : t.ty = 8) (hU : ∀ W, Calls Try.prog 40 #[.agg (tcells t).toArray] W fun e w' => e = .returned (.bool true) ∧ Below W.heap.size W w') :
    Calls Try.prog 23 #[.agg (tcells t).toArray] w fun e w' => e = .returned (.bool true) ∧ Below w.heap.size w w' := by
  have RT := Row.new w 33 (tcells t)
  have T0 : (tcells t)[0]? = some (.int .u8 8) := by show some (Value.int .u8 (t.ty : Int)) = _; rw [hy]; rfl
  clear hy
  go_enter Try.func23, Try.ntmps23
  go_wp2_with (first
    | (go_at_call 40; refine (hU _).mono ?_; rintro e w1 ⟨rfl, hb1⟩)
    | (refine ldT (.tmp 1) (by rfl) rfl w.heap.size t rfl RT ?_))
  go_ret
  exact ⟨rfl, bt (ba _ _) hb1⟩
end Go.Proofs.Ytognnfknbkedgaa
