/-
  The contract of fitsUpdate of package packet for updates below Infinity.
-/
import Derived.Test.YtaleclmccmeglaaCs
import Derived.Test.YtaleclmccmeglaaUp4
namespace Go.Proofs.Ytaleclmccmeglaa
open Go.RowKit
set_option linter.unusedSimpArgs false
set_option maxRecDepth 20000

theorem Id8.lit (i : Id8) : ∃ b0 b1 b2 b3 b4 b5 b6 b7, i.l = [b0, b1, b2, b3, b4, b5, b6, b7] := by
  obtain ⟨l, hl⟩ := i
  match l, hl with
  | [b0, b1, b2, b3, b4, b5, b6, b7], _ => exact ⟨b0, b1, b2, b3, b4, b5, b6, b7, rfl⟩
theorem tid_get (t : Tl) (k : Nat) (hk : k < 8) : (tcells t)[9 + k]? = (icells t.id)[k]? := by
  unfold tcells
  rw [List.getElem?_append_right (by simp [tnum]), List.getElem?_append_left (by simp [tnum, icells_len]; omega)]
  congr 1
  simp [tnum]
theorem fitsU_fin (t : Tl) (w : World) (hall : t.all = false) (hmet : t.met ≠ 65535) (hnob : nobB t.id = false) :
    Calls Try.prog 61 #[.agg (tcells t).toArray] w fun e w' => e = .returned (.bool true) ∧ Below w.heap.size w w' := by
  have T8 : (tcells t)[8]? = some (.bool false) := by rw [← hall]; rfl
  have T5 : (tcells t)[5]? = some (.int .u16 (t.met : Int)) := rfl
  have HN := nobody_any t.id
  rw [hnob] at HN
  have hm : ((t.met : Int) == 65535) = false := by simp; omega
  obtain ⟨b0, b1, b2, b3, b4, b5, b6, b7, hi⟩ := t.id.lit
  have ei : icells t.id = [.int .u8 b0.toNat, .int .u8 b1.toNat, .int .u8 b2.toNat, .int .u8 b3.toNat, .int .u8 b4.toNat, .int .u8 b5.toNat, .int .u8 b6.toNat, .int .u8 b7.toNat] := by unfold icells; rw [hi]; rfl
  have G := tid_get t
  rw [ei] at HN G
  have T9 := G 0 (by decide)
  have T10 := G 1 (by decide)
  have T11 := G 2 (by decide)
  have T12 := G 3 (by decide)
  have T13 := G 4 (by decide)
  have T14 := G 5 (by decide)
  have T15 := G 6 (by decide)
  have T16 := G 7 (by decide)
  simp only [Nat.reduceAdd, List.getElem?_cons_zero, List.getElem?_cons_succ] at T9 T10 T11 T12 T13 T14 T15 T16
  generalize t.met = m at *
  clear hall hmet hnob ei hi G
  go_enter Try.func61, Try.ntmps61
  go_wp2_with (go_at_call 77; refine (HN _).mono ?_; rintro e w1 ⟨rfl, hb1⟩)
  go_ret
  exact ⟨rfl, bt (ba _ _) hb1⟩
theorem fits_8 (t : Tl) (w : World) (hy : t.ty = 8) (hU : ∀ W, Calls Try.prog 61 #[.agg (tcells t).toArray] W fun e w' => e = .returned (.bool true) ∧ Below W.heap.size W w') :
    Calls Try.prog 27 #[.agg (tcells t).toArray] w fun e w' => e = .returned (.bool true) ∧ Below w.heap.size w w' := by
  have RT := Row.new w 44 (tcells t)
  have T0 : (tcells t)[0]? = some (.int .u8 8) := by show some (Value.int .u8 (t.ty : Int)) = _; rw [hy]; rfl
  clear hy
  go_enter Try.func27, Try.ntmps27
  go_wp2_with (first
    | (go_at_call 61; refine (hU _).mono ?_; rintro e w1 ⟨rfl, hb1⟩)
    | (refine ldT (.tmp 1) (by rfl) rfl w.heap.size t rfl RT ?_))
  go_ret
  exact ⟨rfl, bt (ba _ _) hb1⟩
end Go.Proofs.Ytaleclmccmeglaa
