/-
  The contract of update of package packet, whatever its bytes are.
-/
import Derived.Test.YtaleclmccmeglaaUp3
namespace Go.Proofs.Ytaleclmccmeglaa
open Go.RowKit
set_option linter.unusedSimpArgs false
set_option maxRecDepth 20000
variable {bv : Option Addr}

theorem famP_or (p : Pf) : famP p = 4 ∨ famP p = 6 := by unfold famP; split <;> simp
theorem update_any {w : World} {P g : Nat} {l : List UInt8} {r : RS} {s : St} (hpar : Par w P (some g) s) (h : RdS w g bv l r) (hl : l.length ≤ 100000) :
    Calls Try.prog 49 #[.pointer (some ⟨P, 0, none⟩)] w fun e w' => SayR w (upK s l r) (upB s l r) e w' ∧ (∃ R, Par w' P R (upS s l r)) ∧ Mv w w' P g := by
  by_cases h0 : r.val l 1 = 0
  · have := update_0 hpar h hl h0
    unfold upK upB upS
    rw [if_pos h0, if_pos h0, if_pos h0]
    exact this
  · obtain ⟨ae, aeH⟩ : ∃ x, Hid (r.val l 1 = x) := ⟨_, rfl⟩
    obtain ⟨fl, flH⟩ : ∃ x, Hid ((r.adv l 1).val l 1 = x) := ⟨_, rfl⟩
    obtain ⟨pl, plH⟩ : ∃ x, Hid (((r.adv l 1).adv l 1).val l 1 = x) := ⟨_, rfl⟩
    obtain ⟨om, omH⟩ : ∃ x, Hid ((((r.adv l 1).adv l 1).adv l 1).val l 1 = x) := ⟨_, rfl⟩
    obtain ⟨iv, ivH⟩ : ∃ x, Hid (((((r.adv l 1).adv l 1).adv l 1).adv l 1).val l 2 = x) := ⟨_, rfl⟩
    obtain ⟨sq, sqH⟩ : ∃ x, Hid ((((((r.adv l 1).adv l 1).adv l 1).adv l 1).adv l 2).val l 2 = x) := ⟨_, rfl⟩
    obtain ⟨mt, mtH⟩ : ∃ x, Hid (((((((r.adv l 1).adv l 1).adv l 1).adv l 1).adv l 2).adv l 2).val l 2 = x) := ⟨_, rfl⟩
    have hpl : pl < 256 := by rw [← plH.out]; exact val1_lt _ l
    have hom : om < 256 := by rw [← omH.out]; exact val1_lt _ l
    have hae : ((ae : Int) == 0) = false := by rw [aeH.out] at h0; simp; omega
    obtain ⟨s1, hs1⟩ : ∃ x, upS s l r = x := ⟨_, rfl⟩
    have ES : s1 = if (pfR s ae pl om l (((((((r.adv l 1).adv l 1).adv l 1).adv l 1).adv l 2).adv l 2).adv l 2)).y = 0 then kpS s ae fl (pfP s ae pl om l (((((((r.adv l 1).adv l 1).adv l 1).adv l 1).adv l 2).adv l 2).adv l 2)).a else s := by
      rw [← hs1]; unfold upS; rw [if_neg h0, aeH.out, flH.out, plH.out, omH.out]
    unfold upK upB
    rw [if_neg h0, if_neg h0, hs1, aeH.out, plH.out, omH.out, ivH.out, sqH.out, mtH.out]
    clear hs1 h0
    have HP : Hid (∀ W, Par W P (some g) s → RdS W g bv l (((((((r.adv l 1).adv l 1).adv l 1).adv l 1).adv l 2).adv l 2).adv l 2) → Calls Try.prog 80 #[.pointer (some ⟨P, 0, none⟩), .int .u8 (ae : Int), .int .i64 (pl : Int), .int .i64 (om : Int)] W fun e w' => e = .returned (Value.agg (pcells (pfP s ae pl om l (((((((r.adv l 1).adv l 1).adv l 1).adv l 1).adv l 2).adv l 2).adv l 2))).toArray) ∧ NowS W w' g bv l (pfR s ae pl om l (((((((r.adv l 1).adv l 1).adv l 1).adv l 1).adv l 2).adv l 2).adv l 2))) := fun W h1 h2 => prefix_any ae pl om hpl hom h1 h2
    have hA := @pfR_ae s ae pl om l (((((((r.adv l 1).adv l 1).adv l 1).adv l 1).adv l 2).adv l 2).adv l 2)
    generalize pfP s ae pl om l (((((((r.adv l 1).adv l 1).adv l 1).adv l 1).adv l 2).adv l 2).adv l 2) = dst at *
    generalize pfR s ae pl om l (((((((r.adv l 1).adv l 1).adv l 1).adv l 1).adv l 2).adv l 2).adv l 2) = rn at *
    have HQ : Hid (∀ W, Par W P (some g) s1 → RdS W g bv l rn → Calls Try.prog 82 #[.pointer (some ⟨P, 0, none⟩), .int .u8 (ae : Int), (Value.agg (pcells dst).toArray)] W (Paired W P g s1 (prQ s1 ae dst l rn) (prB s1 ae dst l rn))) := fun W h1 h2 => pair_any ae dst hl h1 h2
    have HW : ∀ W, Pg W P g → RdS W g bv l rn → Calls Try.prog 76 #[.pointer (some ⟨P, 0, none⟩)] W fun e w' => e = .returned (.bool (rn.y == 0)) ∧ NowS W w' g bv l rn := fun W h1 h2 => well_any h1 h2
    have HFM : Hid (∀ W, Calls Try.prog 64 #[(Value.agg (pcells dst).toArray)] W (Gives W (.int .i64 (famP dst)))) := fun W => pfam_any dst W
    have hf := famP_or dst
    generalize famP dst = f at *
    generalize prQ s1 ae dst l rn = q at *
    generalize prB s1 ae dst l rn = b at *
    by_cases hy : rn.y = 0
    · rw [if_pos hy] at ES
      have HK : Hid (∀ W, Par W P (some g) s → Calls Try.prog 81 #[.pointer (some ⟨P, 0, none⟩), .int .u8 (ae : Int), .int .u8 (fl : Int), (Value.agg (acells dst.a).toArray)] W fun e w' => e = .returned (.tuple #[]) ∧ Par w' P (some g) s1 ∧ W.grownBy w' (some P)) := fun W h1 => by rw [ES]; exact keep_any ae fl dst.a (hA hy) h1
      have hy' : (rn.y == 0) = true := by simpa using hy
      rw [hy'] at HW
      cases b with
      | false => exact update_y_no hpar h aeH flH plH omH ivH sqH mtH hae HP HW HK HQ
      | true =>
        by_cases hm : mt = 65535
        · rw [if_pos hm, show (true && (decide (mt = 65535) || upOk s1 f)) = true by simp [hm]]
          exact update_y_inf hpar h aeH flH plH omH ivH sqH mtH hae HP HW HK HQ (by simp [hm]) (rfl : _ = _)
        · rw [if_neg hm, show (true && (decide (mt = 65535) || upOk s1 f)) = upOk s1 f by simp [hm]]
          exact update_y_rest hpar h aeH flH plH omH ivH sqH mtH hae HP HW HK HQ (by simp; omega) HFM hf (rfl : _ = _) (rfl : _ = _)
    · rw [if_neg hy] at ES
      have hy' : (rn.y == 0) = false := by simpa using hy
      rw [hy'] at HW
      cases b with
      | false => exact update_n_no hpar h aeH flH plH omH ivH sqH mtH hae HP HW ES HQ
      | true =>
        by_cases hm : mt = 65535
        · rw [if_pos hm, show (true && (decide (mt = 65535) || upOk s1 f)) = true by simp [hm]]
          exact update_n_inf hpar h aeH flH plH omH ivH sqH mtH hae HP HW ES HQ (by simp [hm]) (rfl : _ = _)
        · rw [if_neg hm, show (true && (decide (mt = 65535) || upOk s1 f)) = upOk s1 f by simp [hm]]
          exact update_n_rest hpar h aeH flH plH omH ivH sqH mtH hae HP HW ES HQ (by simp; omega) HFM hf (rfl : _ = _) (rfl : _ = _)
end Go.Proofs.Ytaleclmccmeglaa
