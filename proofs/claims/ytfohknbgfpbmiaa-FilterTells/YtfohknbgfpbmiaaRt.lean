/-
  right of the statements: it answers, for all rules and every pair; true only of 300 rules at most.
-/
import Derived.Test.YtfohknbgfpbmiaaCr
import Derived.Test.YtfohknbgfpbmiaaWh
namespace Go.Proofs.Ytfohknbgfpbmiaa
open Go.RowKit
set_option linter.unusedSimpArgs false
set_option maxRecDepth 20000
theorem LQ.lt {w : World} {b o : Nat} {p : Pr} (h : LQ w b o p) : b < w.heap.size := by
  have := h.d.n
  exact block_lt_of_cell this
/-- What right answers. -/
def RightV (w : World) (n : Nat) (e : Ending) (w' : World) : Prop := ∃ b : Bool, e = .returned (.bool b) ∧ Below w.heap.size w w' ∧ (b = true → n ≤ 300)
set_option maxHeartbeats 4000000 in
theorem right_any (ad : Option Addr) (n c : Nat) (l : List Ru) (p : Pr) (w : World) (hl : RlW w ad n l) : Calls Try.prog 7 #[.slice ad n c, (Value.agg (qcells p).toArray)] w (RightV w n) := by
  have hC := rcheckQ_any p
  generalize chkQ p = k at *
  have hQ := LQ.new w p 28
  go_enter Try.func7, Try.ntmps7
  go_upto_region 1 with fail
  refine name_world (R := fun W => Code.wp _ _ _ _ W) (P := fun W => Below w.heap.size w W ∧ LQ W w.heap.size 0 p ∧ w.heap.size < W.heap.size) _ ⟨ba _ _, hQ, by simp⟩ ?_
  clear hQ
  rintro X ⟨hB, hQ, hs⟩
  replace hl := hl.below hB
  have HN : Hid (l.length = n) := hl.len
  go_wp2_with fail
  go_loopw [5] (fun i wr => ∃ j : Nat, j ≤ n ∧ j ≤ 301 ∧ i = .int .i64 j ∧ Below X.heap.size X wr) (fun i _ => 301 - (intOf i).toNat)
  case atStart => exact ⟨0, Nat.zero_le _, Nat.zero_le _, rfl, Below.refl _ _⟩
  case round =>
    obtain ⟨j, hj, hj3, rfl, hW⟩ := hrel
    have hQ1 := hQ.below hW hs
    by_cases hlt : j < n
    · by_cases h300 : j ≤ 300
      · obtain ⟨g, o, rfl, hg, hcell⟩ := hl.mem (by omega)
        have hjl : j < l.length := by rw [HN.out]; exact hlt
        have hR := (hcell j l[j] (List.getElem?_eq_getElem hjl)).below hW hg
        have hj1 : (j : Int) < (n : Int) := Int.ofNat_lt.2 hlt
        have hj2 : (j : Int) ≤ 300 := by omega
        have hwj : wrap64 ((j : Int) + 1) = (j : Int) + 1 := w64 _ (by omega) (by omega)
        have HT : Hid ((j + 1 ≤ n ∧ j + 1 ≤ 301) ∧ 301 - ((j : Int) + 1).toNat < 301 - ((j : Int)).toNat) := by
          refine ⟨⟨?_, ?_⟩, ?_⟩ <;> omega
        have hCr := rcheckRule_any l[j]
        generalize l[j] = r at *
        clear hcell hl HN hjl hlt h300 hj hj3
        go_wp2_with (first
          | (refine ldR (.tmp 18) rfl rfl _ _ r rfl hR ?_)
          | (go_at_call 16; refine (hCr _).mono ?_; rintro e w1 ⟨z, rfl, hB1⟩))
        · go_ret
          exact ⟨_, rfl, hB.trans ((hW.trans (hB1.mono hW.size)).mono hB.size), by simp⟩
        · go_roundw
          case rel => exact ⟨j + 1, HT.out.1.1, HT.out.1.2, by (try rw [hwj]); simp, hW.trans (hB1.mono hW.size)⟩
          case measure =>
            try rw [hwj]
            simp only [intOf]
            exact HT.out.2
      · have h301 : (300 : Int) < (j : Int) := by omega
        have hj1 : (j : Int) < (n : Int) := Int.ofNat_lt.2 hlt
        have hn3 : (300 : Int) < (n : Int) := by omega
        clear h300 hlt hl hj hj3
        go_wp2_with fail
        go_ret
        exact ⟨_, rfl, hB.trans (hW.mono hB.size), by simp⟩
    · have hjn : j = n := by omega
      subst hjn
      have hj0 : ¬ (j : Int) < (j : Int) := by omega
      by_cases h300 : j ≤ 300
      · have hj2 : (j : Int) ≤ 300 := by omega
        have H3 : Hid (j ≤ 300) := h300
        clear hlt hl hj hj3 h300
        go_wp2_with (first
          | (refine ldQ (.tmp 3) (by rfl) rfl _ _ p rfl hQ1 ?_)
          | (go_at_call 15; refine (hC _).mono ?_; rintro e w1 ⟨rfl, hB1⟩))
        go_ret
        exact ⟨_, rfl, hB.trans ((hW.trans (hB1.mono hW.size)).mono hB.size), fun _ => H3.out⟩
      · have hj2 : (300 : Int) < (j : Int) := by omega
        clear hlt hl hj hj3 h300
        go_wp2_with fail
        go_ret
        exact ⟨_, rfl, hB.trans (hW.mono hB.size), by simp⟩
end Go.Proofs.Ytfohknbgfpbmiaa
