/-
  packet.unnamed, fits and Check for every Tlv.
-/
import Derived.Test.YtognnfknbkedgaaM22
import Derived.Test.YtognnfknbkedgaaM18
import Derived.Test.YtognnfknbkedgaaM23
import Derived.Test.YtognnfknbkedgaaM20
import Derived.Test.YtognnfknbkedgaaM05
namespace Go.Proofs.Ytognnfknbkedgaa
open Go.RowKit
set_option linter.unusedSimpArgs false
set_option maxRecDepth 20000

theorem fitsx_4 (t : Tl) (w : World) (hy : t.ty = 4) :
    Calls Try.prog 23 #[.agg (tcells t).toArray] w fun e w' => e = .returned (.bool (decide (t.sn ≤ 1))) ∧ Below w.heap.size w w' := by
  have T67 := tcells_get t
  have T0 : (tcells t)[0]? = some (.int .u8 4) := by show some (Value.int .u8 (t.ty : Int)) = _; rw [hy]; rfl
  clear hy
  generalize t.sn = n at *
  go_enter Try.func23, Try.ntmps23
  go_wp2
  go_ret
  refine ⟨?_, ba _ _⟩
  have : decide ((n : Int) ≤ 1) = decide (n ≤ 1) := decide_eq_decide.2 (by omega)
  simp [this]
theorem fitsx_5n (t : Tl) (w : World) (hy : t.ty = 5) (h0 : t.sn ≠ 0) (h2 : t.sn ≠ 2) :
    Calls Try.prog 23 #[.agg (tcells t).toArray] w fun e w' => e = .returned (.bool (false)) ∧ Below w.heap.size w w' := by
  have T67 := tcells_get t
  have T0 : (tcells t)[0]? = some (.int .u8 5) := by show some (Value.int .u8 (t.ty : Int)) = _; rw [hy]; rfl
  clear hy
  generalize t.sn = n at *
  have k0 : ((n : Int) == 0) = false := by simp; omega
  have k2 : ((n : Int) == 2) = false := by simp; omega
  go_enter Try.func23, Try.ntmps23
  go_wp2
  go_ret
  exact ⟨rfl, ba _ _⟩
theorem fitsx_5_0 (t : Tl) (w : World) (hy : t.ty = 5) (hs : t.sn = 0) (hall : t.all = true) :
    Calls Try.prog 23 #[.agg (tcells t).toArray] w fun e w' => e = .returned (.bool (decide (t.ad.l = zeroA.l))) ∧ Below w.heap.size w w' := by
  have RT := Row.new w 33 (tcells t)
  have T67 := tcells_get t
  rw [hs] at T67
  have T8 : (tcells t)[8]? = some (.bool true) := by rw [← hall]; rfl
  have T0 : (tcells t)[0]? = some (.int .u8 5) := by show some (Value.int .u8 (t.ty : Int)) = _; rw [hy]; rfl
  clear hy
  have e0A : ∀ w, (Op.equalIn (9998 + 2) 26 (Value.agg (acells t.ad).toArray) (.agg #[.int .u8 0, .int .u8 0, .int .u8 0, .int .u8 0, .int .u8 0, .int .u8 0, .int .u8 0, .int .u8 0, .int .u8 0, .int .u8 0, .int .u8 0, .int .u8 0, .int .u8 0, .int .u8 0, .int .u8 0, .int .u8 0])).run Try.prog w = .ok (decide (t.ad.l = zeroA.l)) w := fun w => eqA 9998 t.ad zeroA w
  have rA := RT.rAd
  generalize decide (t.ad.l = zeroA.l) = bA at *
  clear hs hall
  go_enter Try.func23, Try.ntmps23
  go_wp2_with ((refine ldA (.tmp 28) (by rfl) rfl w.heap.size 17 t.ad rfl rA ?_))
  go_ret
  exact ⟨rfl, ba _ _⟩
theorem fitsx_5_2 (t : Tl) (w : World) (hy : t.ty = 5) (hs : t.sn = 2) (hall : t.all = true) :
    Calls Try.prog 23 #[.agg (tcells t).toArray] w fun e w' => e = .returned (.bool (decide (t.ad.l = zeroA.l))) ∧ Below w.heap.size w w' := by
  have RT := Row.new w 33 (tcells t)
  have T67 := tcells_get t
  rw [hs] at T67
  have T8 : (tcells t)[8]? = some (.bool true) := by rw [← hall]; rfl
  have T0 : (tcells t)[0]? = some (.int .u8 5) := by show some (Value.int .u8 (t.ty : Int)) = _; rw [hy]; rfl
  clear hy
  have e0A : ∀ w, (Op.equalIn (9998 + 2) 26 (Value.agg (acells t.ad).toArray) (.agg #[.int .u8 0, .int .u8 0, .int .u8 0, .int .u8 0, .int .u8 0, .int .u8 0, .int .u8 0, .int .u8 0, .int .u8 0, .int .u8 0, .int .u8 0, .int .u8 0, .int .u8 0, .int .u8 0, .int .u8 0, .int .u8 0])).run Try.prog w = .ok (decide (t.ad.l = zeroA.l)) w := fun w => eqA 9998 t.ad zeroA w
  have rA := RT.rAd
  generalize decide (t.ad.l = zeroA.l) = bA at *
  clear hs hall
  go_enter Try.func23, Try.ntmps23
  go_wp2_with ((refine ldA (.tmp 28) (by rfl) rfl w.heap.size 17 t.ad rfl rA ?_))
  go_ret
  exact ⟨rfl, ba _ _⟩
theorem fitsx_9 (t : Tl) (w : World) (hy : t.ty = 9) (hall : t.all = true) :
    Calls Try.prog 23 #[.agg (tcells t).toArray] w fun e w' => e = .returned (.bool (prqB t.pr zeroQ)) ∧ Below w.heap.size w w' := by
  have RT := Row.new w 33 (tcells t)
  have T8 : (tcells t)[8]? = some (.bool true) := by rw [← hall]; rfl
  have T0 : (tcells t)[0]? = some (.int .u8 9) := by show some (Value.int .u8 (t.ty : Int)) = _; rw [hy]; rfl
  clear hy
  have e0Q : ∀ w, (Op.equalIn (9996 + 4) 30 (Value.agg (qcells t.pr).toArray) (.agg #[.int .u8 0, .int .u8 0, .int .u8 0, .int .u8 0, .int .u8 0, .int .u8 0, .int .u8 0, .int .u8 0, .int .u8 0, .int .u8 0, .int .u8 0, .int .u8 0, .int .u8 0, .int .u8 0, .int .u8 0, .int .u8 0, .int .i64 0, .int .u8 0, .int .u8 0, .int .u8 0, .int .u8 0, .int .u8 0, .int .u8 0, .int .u8 0, .int .u8 0, .int .u8 0, .int .u8 0, .int .u8 0, .int .u8 0, .int .u8 0, .int .u8 0, .int .u8 0, .int .u8 0, .int .i64 0])).run Try.prog w = .ok (prqB t.pr zeroQ) w := fun w => eqQ 9996 t.pr zeroQ w
  have rP := RT.rPr
  generalize prqB t.pr zeroQ = bQ at *
  clear hall
  go_enter Try.func23, Try.ntmps23
  go_wp2_with ((refine ldQ (.tmp 44) (by rfl) rfl w.heap.size 33 t.pr rfl rP ?_))
  go_ret
  exact ⟨rfl, ba _ _⟩
theorem fitsx_10z (t : Tl) (w : World) (hy : t.ty = 10) (hh : t.hops = 0) :
    Calls Try.prog 23 #[.agg (tcells t).toArray] w fun e w' => e = .returned (.bool (false)) ∧ Below w.heap.size w w' := by
  have RT := Row.new w 33 (tcells t)
  have T6 : (tcells t)[6]? = some (.int .u8 0) := by show some (Value.int .u8 (t.hops : Int)) = _; rw [hh]; rfl
  have T0 : (tcells t)[0]? = some (.int .u8 10) := by show some (Value.int .u8 (t.ty : Int)) = _; rw [hy]; rfl
  clear hy
  clear hh
  go_enter Try.func23, Try.ntmps23
  go_wp2
  go_ret
  exact ⟨rfl, ba _ _⟩
theorem fitsx_10 (t : Tl) (w : World) (hy : t.ty = 10) (hh : t.hops ≠ 0) :
    Calls Try.prog 23 #[.agg (tcells t).toArray] w fun e w' => e = .returned (.bool (!decide (t.id.l = zeroI.l))) ∧ Below w.heap.size w w' := by
  have RT := Row.new w 33 (tcells t)
  have T6 : (tcells t)[6]? = some (.int .u8 (t.hops : Int)) := rfl
  have e0I : ∀ w, (Op.equalIn (9998 + 2) 24 (.agg (icells t.id).toArray) (.agg #[.int .u8 0, .int .u8 0, .int .u8 0, .int .u8 0, .int .u8 0, .int .u8 0, .int .u8 0, .int .u8 0])).run Try.prog w = .ok (decide (t.id.l = zeroI.l)) w := fun w => eqI 9998 t.id zeroI w
  have rI := RT.rId2
  generalize decide (t.id.l = zeroI.l) = bI at *
  have T0 : (tcells t)[0]? = some (.int .u8 10) := by show some (Value.int .u8 (t.ty : Int)) = _; rw [hy]; rfl
  clear hy
  have hh' : ((t.hops : Int) != 0) = true := by simp; omega
  generalize t.hops = n at *
  clear hh
  go_enter Try.func23, Try.ntmps23
  go_wp2_with ((refine ldI (.tmp 55) (by rfl) rfl w.heap.size 9 t.id rfl rI ?_))
  go_ret
  exact ⟨rfl, ba _ _⟩
theorem fitsx_8 (t : Tl) (w : World) (hy : t.ty = 8) (b : Bool) (hU : ∀ W, Calls Try.prog 40 #[.agg (tcells t).toArray] W fun e w' => e = .returned (.bool b) ∧ Below W.heap.size W w') :
    Calls Try.prog 23 #[.agg (tcells t).toArray] w fun e w' => e = .returned (.bool (b)) ∧ Below w.heap.size w w' := by
  have RT := Row.new w 33 (tcells t)
  have T0 : (tcells t)[0]? = some (.int .u8 8) := by show some (Value.int .u8 (t.ty : Int)) = _; rw [hy]; rfl
  clear hy
  go_enter Try.func23, Try.ntmps23
  go_wp2_with (first
    | (go_at_call 40; refine (hU _).mono ?_; rintro e w1 ⟨rfl, hb1⟩)
    | (refine ldT (.tmp 1) (by rfl) rfl w.heap.size t rfl RT ?_))
  go_ret
  exact ⟨rfl, bt (ba _ _) hb1⟩
theorem fitsUx_tn (t : Tl) (w : World) (hall : t.all = true) (hmet : t.met ≠ 65535) :
    Calls Try.prog 40 #[.agg (tcells t).toArray] w fun e w' => e = .returned (.bool (false)) ∧ Below w.heap.size w w' := by
  have RT := Row.new w 33 (tcells t)
  have T8 : (tcells t)[8]? = some (.bool true) := by rw [← hall]; rfl
  have T5 : (tcells t)[5]? = some (.int .u16 (t.met : Int)) := rfl
  have hm : ((t.met : Int) == 65535) = false := by simp; omega
  have hm' : ((t.met : Int) != 65535) = true := by simp; omega
  generalize t.met = m at *
  clear hall hmet
  go_enter Try.func40, Try.ntmps40
  go_wp2
  go_ret
  exact ⟨rfl, ba _ _⟩
theorem fitsUx_ti (t : Tl) (w : World) (hall : t.all = true) (hmet : t.met = 65535) :
    Calls Try.prog 40 #[.agg (tcells t).toArray] w fun e w' => e = .returned (.bool (prqB t.pr zeroQ && (decide (t.id.l = zeroI.l) && decide (t.ad.l = zeroA.l)))) ∧ Below w.heap.size w w' := by
  have RT := Row.new w 33 (tcells t)
  have T8 : (tcells t)[8]? = some (.bool true) := by rw [← hall]; rfl
  have T5 : (tcells t)[5]? = some (.int .u16 65535) := by show some (Value.int .u16 (t.met : Int)) = _; rw [hmet]; rfl
  have e0I : ∀ w, (Op.equalIn (9998 + 2) 24 (.agg (icells t.id).toArray) (.agg #[.int .u8 0, .int .u8 0, .int .u8 0, .int .u8 0, .int .u8 0, .int .u8 0, .int .u8 0, .int .u8 0])).run Try.prog w = .ok (decide (t.id.l = zeroI.l)) w := fun w => eqI 9998 t.id zeroI w
  have rI := RT.rId2
  generalize decide (t.id.l = zeroI.l) = bI at *
  have e0A : ∀ w, (Op.equalIn (9998 + 2) 26 (Value.agg (acells t.ad).toArray) (.agg #[.int .u8 0, .int .u8 0, .int .u8 0, .int .u8 0, .int .u8 0, .int .u8 0, .int .u8 0, .int .u8 0, .int .u8 0, .int .u8 0, .int .u8 0, .int .u8 0, .int .u8 0, .int .u8 0, .int .u8 0, .int .u8 0])).run Try.prog w = .ok (decide (t.ad.l = zeroA.l)) w := fun w => eqA 9998 t.ad zeroA w
  have rA := RT.rAd
  generalize decide (t.ad.l = zeroA.l) = bA at *
  have e0Q : ∀ w, (Op.equalIn (9996 + 4) 30 (Value.agg (qcells t.pr).toArray) (.agg #[.int .u8 0, .int .u8 0, .int .u8 0, .int .u8 0, .int .u8 0, .int .u8 0, .int .u8 0, .int .u8 0, .int .u8 0, .int .u8 0, .int .u8 0, .int .u8 0, .int .u8 0, .int .u8 0, .int .u8 0, .int .u8 0, .int .i64 0, .int .u8 0, .int .u8 0, .int .u8 0, .int .u8 0, .int .u8 0, .int .u8 0, .int .u8 0, .int .u8 0, .int .u8 0, .int .u8 0, .int .u8 0, .int .u8 0, .int .u8 0, .int .u8 0, .int .u8 0, .int .u8 0, .int .i64 0])).run Try.prog w = .ok (prqB t.pr zeroQ) w := fun w => eqQ 9996 t.pr zeroQ w
  have rP := RT.rPr
  generalize prqB t.pr zeroQ = bQ at *
  clear hall hmet
  cases bQ
  · go_enter Try.func40, Try.ntmps40
    go_wp2_with (first
        | ((refine ldA (.tmp 24) (by rfl) rfl w.heap.size 17 t.ad rfl rA ?_))
        | ((refine ldI (.tmp 19) (by rfl) rfl w.heap.size 9 t.id rfl rI ?_))
        | ((refine ldQ (.tmp 10) (by rfl) rfl w.heap.size 33 t.pr rfl rP ?_)))
    go_ret
    exact ⟨rfl, ba _ _⟩
  · cases bI
    · go_enter Try.func40, Try.ntmps40
      go_wp2_with (first
          | ((refine ldA (.tmp 24) (by rfl) rfl w.heap.size 17 t.ad rfl rA ?_))
          | ((refine ldI (.tmp 19) (by rfl) rfl w.heap.size 9 t.id rfl rI ?_))
          | ((refine ldQ (.tmp 10) (by rfl) rfl w.heap.size 33 t.pr rfl rP ?_)))
      go_ret
      exact ⟨rfl, ba _ _⟩
    · go_enter Try.func40, Try.ntmps40
      go_wp2_with (first
          | ((refine ldA (.tmp 24) (by rfl) rfl w.heap.size 17 t.ad rfl rA ?_))
          | ((refine ldI (.tmp 19) (by rfl) rfl w.heap.size 9 t.id rfl rI ?_))
          | ((refine ldQ (.tmp 10) (by rfl) rfl w.heap.size 33 t.pr rfl rP ?_)))
      go_ret
      exact ⟨rfl, ba _ _⟩
theorem tad_get (t : Tl) (k : Nat) (hk : k < 16) : (tcells t)[17 + k]? = (acells t.ad)[k]? := by
  unfold tcells
  rw [List.getElem?_append_right (by simp [tnum]; omega), List.getElem?_append_right (by simp [tnum, icells_len]; omega), List.getElem?_append_left (by simp [tnum, icells_len, acells_len]; omega)]
  congr 1
  simp [tnum, icells_len]
  omega
set_option maxHeartbeats 1000000 in
theorem fitsUx_fi (t : Tl) (w : World) (hall : t.all = false) (hmet : t.met = 65535) :
    Calls Try.prog 40 #[.agg (tcells t).toArray] w fun e w' => e = .returned (.bool (decide (t.id.l = zeroI.l) && decide (t.ad.l = zeroA.l))) ∧ Below w.heap.size w w' := by
  have T8 : (tcells t)[8]? = some (.bool false) := by rw [← hall]; rfl
  have T5 : (tcells t)[5]? = some (.int .u16 65535) := by show some (Value.int .u16 (t.met : Int)) = _; rw [hmet]; rfl
  have e0I : ∀ w, (Op.equalIn (9998 + 2) 24 (.agg (icells t.id).toArray) (.agg #[.int .u8 0, .int .u8 0, .int .u8 0, .int .u8 0, .int .u8 0, .int .u8 0, .int .u8 0, .int .u8 0])).run Try.prog w = .ok (decide (t.id.l = zeroI.l)) w := fun w => eqI 9998 t.id zeroI w
  have e0A : ∀ w, (Op.equalIn (9998 + 2) 26 (Value.agg (acells t.ad).toArray) (.agg #[.int .u8 0, .int .u8 0, .int .u8 0, .int .u8 0, .int .u8 0, .int .u8 0, .int .u8 0, .int .u8 0, .int .u8 0, .int .u8 0, .int .u8 0, .int .u8 0, .int .u8 0, .int .u8 0, .int .u8 0, .int .u8 0])).run Try.prog w = .ok (decide (t.ad.l = zeroA.l)) w := fun w => eqA 9998 t.ad zeroA w
  generalize decide (t.id.l = zeroI.l) = bI at *
  generalize decide (t.ad.l = zeroA.l) = bA at *
  obtain ⟨b0, b1, b2, b3, b4, b5, b6, b7, hi⟩ := t.id.lit
  obtain ⟨c0, c1, c2, c3, c4, c5, c6, c7, c8, c9, c10, c11, c12, c13, c14, c15, hc⟩ := t.ad.lit
  have ei : icells t.id = [.int .u8 b0.toNat, .int .u8 b1.toNat, .int .u8 b2.toNat, .int .u8 b3.toNat, .int .u8 b4.toNat, .int .u8 b5.toNat, .int .u8 b6.toNat, .int .u8 b7.toNat] := by unfold icells; rw [hi]; rfl
  have ea : acells t.ad = [.int .u8 c0.toNat, .int .u8 c1.toNat, .int .u8 c2.toNat, .int .u8 c3.toNat, .int .u8 c4.toNat, .int .u8 c5.toNat, .int .u8 c6.toNat, .int .u8 c7.toNat, .int .u8 c8.toNat, .int .u8 c9.toNat, .int .u8 c10.toNat, .int .u8 c11.toNat, .int .u8 c12.toNat, .int .u8 c13.toNat, .int .u8 c14.toNat, .int .u8 c15.toNat] := by unfold acells; rw [hc]; rfl
  have G := tid_get t
  have GA := tad_get t
  rw [ei] at e0I G
  rw [ea] at e0A GA
  have T9 := G 0 (by decide)
  have T10 := G 1 (by decide)
  have T11 := G 2 (by decide)
  have T12 := G 3 (by decide)
  have T13 := G 4 (by decide)
  have T14 := G 5 (by decide)
  have T15 := G 6 (by decide)
  have T16 := G 7 (by decide)
  have T17 := GA 0 (by decide)
  have T18 := GA 1 (by decide)
  have T19 := GA 2 (by decide)
  have T20 := GA 3 (by decide)
  have T21 := GA 4 (by decide)
  have T22 := GA 5 (by decide)
  have T23 := GA 6 (by decide)
  have T24 := GA 7 (by decide)
  have T25 := GA 8 (by decide)
  have T26 := GA 9 (by decide)
  have T27 := GA 10 (by decide)
  have T28 := GA 11 (by decide)
  have T29 := GA 12 (by decide)
  have T30 := GA 13 (by decide)
  have T31 := GA 14 (by decide)
  have T32 := GA 15 (by decide)
  simp only [Nat.reduceAdd, List.getElem?_cons_zero, List.getElem?_cons_succ] at T9 T10 T11 T12 T13 T14 T15 T16 T17 T18 T19 T20 T21 T22 T23 T24 T25 T26 T27 T28 T29 T30 T31 T32
  clear hall hmet ei ea hi hc G GA
  cases bI
  · go_enter Try.func40, Try.ntmps40
    go_wp2
    go_ret
    exact ⟨rfl, ba _ _⟩
  · go_enter Try.func40, Try.ntmps40
    go_wp2
    go_ret
    exact ⟨rfl, ba _ _⟩
theorem fitsUx_fn (t : Tl) (w : World) (hall : t.all = false) (hmet : t.met ≠ 65535) :
    Calls Try.prog 40 #[.agg (tcells t).toArray] w fun e w' => e = .returned (.bool (!nobB t.id)) ∧ Below w.heap.size w w' := by
  have T8 : (tcells t)[8]? = some (.bool false) := by rw [← hall]; rfl
  have T5 : (tcells t)[5]? = some (.int .u16 (t.met : Int)) := rfl
  have HN := nobody_any t.id
  have hm : ((t.met : Int) == 65535) = false := by simp; omega
  obtain ⟨b0, b1, b2, b3, b4, b5, b6, b7, hi⟩ := t.id.lit
  have ei : icells t.id = [.int .u8 b0.toNat, .int .u8 b1.toNat, .int .u8 b2.toNat, .int .u8 b3.toNat, .int .u8 b4.toNat, .int .u8 b5.toNat, .int .u8 b6.toNat, .int .u8 b7.toNat] := by unfold icells; rw [hi]; rfl
  have G := tid_get t
  rw [ei] at HN G
  have T9 := G 0 (by decide)
  have T10 := G 1 (by decide)
  have T11 := G 2 (by decide)
  have T12 := G 3 (by decide)
  have T13 := G 4 (by decide)
  have T14 := G 5 (by decide)
  have T15 := G 6 (by decide)
  have T16 := G 7 (by decide)
  simp only [Nat.reduceAdd, List.getElem?_cons_zero, List.getElem?_cons_succ] at T9 T10 T11 T12 T13 T14 T15 T16
  generalize nobB t.id = bn at *
  generalize t.met = m at *
  clear hall hmet ei hi G
  go_enter Try.func40, Try.ntmps40
  go_wp2_with (go_at_call 70; refine (HN _).mono ?_; rintro e w1 ⟨rfl, hb1⟩)
  go_ret
  exact ⟨rfl, bt (ba _ _) hb1⟩
theorem namB_cases {y : Nat} (h : namB y = true) : y = 2 ∨ y = 3 ∨ y = 4 ∨ y = 5 ∨ y = 8 ∨ y = 9 ∨ y = 10 := by simpa [namB] using h
theorem fitsU_any (t : Tl) (w : World) : Calls Try.prog 40 #[.agg (tcells t).toArray] w fun e w' => e = .returned (.bool (fitU t.key)) ∧ Below w.heap.size w w' := by
  have e1 : t.key.all = t.all := rfl
  have e2 : t.key.met = t.met := rfl
  have e3 : t.key.id = t.id := rfl
  have e4 : t.key.ad = t.ad := rfl
  have e5 : t.key.pr = t.pr := rfl
  unfold fitU
  rw [e1, e2, e3, e4, e5]
  cases hall : t.all
  · rw [if_neg (by simp)]
    by_cases hm : t.met = 65535
    · rw [if_pos hm]; exact fitsUx_fi t w hall hm
    · rw [if_neg hm]; exact fitsUx_fn t w hall hm
  · by_cases hm : t.met = 65535
    · have h := fitsUx_ti t w hall hm
      cases hq : prqB t.pr zeroQ
      · rw [hq] at h
        rw [if_pos ⟨rfl, .inr rfl⟩]
        exact h
      · rw [hq] at h
        rw [if_neg (by rintro ⟨_, h1 | h1⟩; exact h1 hm; cases h1), if_pos hm]
        exact h
    · rw [if_pos ⟨rfl, .inl hm⟩]; exact fitsUx_tn t w hall hm
theorem fits_any (t : Tl) (w : World) (hs : t.sn = t.st.length) (hy : namB t.ty = true) : Calls Try.prog 23 #[.agg (tcells t).toArray] w fun e w' => e = .returned (.bool (fitB t.key)) ∧ Below w.heap.size w w' := by
  have e0 : t.key.ty = t.ty := rfl
  have e1 : t.key.all = t.all := rfl
  have e2 : t.key.st = t.st := rfl
  have e3 : t.key.id = t.id := rfl
  have e4 : t.key.ad = t.ad := rfl
  have e5 : t.key.pr = t.pr := rfl
  have e6 : t.key.hops = t.hops := rfl
  unfold fitB
  rw [e0, e1, e2, e3, e4, e5, e6, ← hs]
  rcases namB_cases hy with h | h | h | h | h | h | h
  · rw [if_neg (by omega), if_neg (by omega), if_neg (by omega), if_neg (by omega), if_neg (by omega)]; exact fits_2 t w h
  · rw [if_neg (by omega), if_neg (by omega), if_neg (by omega), if_neg (by omega), if_neg (by omega)]; exact fits_3 t w h
  · rw [if_pos h]; exact fitsx_4 t w h
  · rw [if_neg (by omega), if_pos h]
    by_cases h0 : t.sn = 0
    · rw [decide_eq_true (.inl h0), Bool.true_and]
      cases hall : t.all
      · exact fits_5_0false t w h h0 hall
      · exact fitsx_5_0 t w h h0 hall
    · by_cases h2 : t.sn = 2
      · rw [decide_eq_true (.inr h2), Bool.true_and]
        cases hall : t.all
        · exact fits_5_2false t w h h2 hall
        · exact fitsx_5_2 t w h h2 hall
      · rw [decide_eq_false (by omega), Bool.false_and]
        exact fitsx_5n t w h h0 h2
  · rw [if_neg (by omega), if_neg (by omega), if_pos h]; exact fitsx_8 t w h _ (fitsU_any t)
  · rw [if_neg (by omega), if_neg (by omega), if_neg (by omega), if_pos h]
    cases hall : t.all
    · exact fits_9false t w h hall
    · exact fitsx_9 t w h hall
  · rw [if_neg (by omega), if_neg (by omega), if_neg (by omega), if_neg (by omega), if_pos h]
    by_cases h0 : t.hops = 0
    · rw [decide_eq_true h0]; exact fitsx_10z t w h h0
    · rw [decide_eq_false h0]; exact fitsx_10 t w h h0
theorem unnamed_no (t : Tl) (w : World) (hy : namB t.ty = false) :
    Calls Try.prog 22 #[.agg (tcells t).toArray] w fun e w' => e = .returned (.tuple #[.agg (tcells zeroT).toArray, .bool false]) ∧ Below w.heap.size w w' := by
  have T0 : (tcells t)[0]? = some (.int .u8 (t.ty : Int)) := rfl
  simp [namB] at hy
  have d2 : ((t.ty : Int) == 2) = false := by simp; omega
  have d3 : ((t.ty : Int) == 3) = false := by simp; omega
  have d4 : ((t.ty : Int) == 4) = false := by simp; omega
  have d5 : ((t.ty : Int) == 5) = false := by simp; omega
  have d8 : ((t.ty : Int) == 8) = false := by simp; omega
  have d9 : ((t.ty : Int) == 9) = false := by simp; omega
  have d10 : ((t.ty : Int) == 10) = false := by simp; omega
  have RT := Row.new w 33 (tcells t)
  generalize (t.ty : Int) = y at *
  clear hy
  go_enter Try.func22, Try.ntmps22
  go_wp2_with (first
    | (have kk := rA; refine stT (.tmp 2) (.tmp 6) (by rfl) rfl gA zeroT zeroT rfl rfl rA ?_; intro w8 hg8 r8)
    | (have kk := rA; refine bdG [] (by rfl) rfl ?rowb ?_; exact bdT0 _)
    | (refine alG infoTz (by rfl) rfl ?_; intro gA wA a1 a2 a3 rA; have rT := RT.below a3 RT.lt; have c0 : wA.cell? ⟨w.heap.size, 0, none⟩ = some (.int .u8 y) := (by rw [rT.cell 0]; exact T0)))
  exact bodyPost_ret (retCT rfl _ _ 0 rfl (lvT r8)) rfl ⟨rfl, (bt (ba _ _) a3).grown hg8 (bt (ba _ _) a3).size (fun k hk => by cases hk; simp at a1; omega)⟩
/-- What unnamed answers of a type that tells a Tlv. -/
theorem unnamed_ex (t : Tl) (h : namB t.ty = true) : ∃ r : Tl, (∀ W, Calls Try.prog 22 #[.agg (tcells t).toArray] W fun e w' => e = .returned (.tuple #[.agg (tcells r).toArray, .bool true]) ∧ Below W.heap.size W w') ∧ r.key = unK t.key ∧ r.sn ≤ t.sn ∧ ∀ w, TSrc w t → TSrc w r := by
  have e0 : t.key.ty = t.ty := rfl
  unfold unK
  rw [e0]
  rcases namB_cases h with h | h | h | h | h | h | h
  · exact ⟨_, fun W => unnamed_2 t W h, by rw [if_pos h]; rfl, Nat.le_refl _, fun _ h => h⟩
  · exact ⟨_, fun W => unnamed_3 t W h, by rw [if_neg (by omega), if_pos h]; rfl, Nat.le_refl _, fun _ h => h⟩
  · exact ⟨_, fun W => unnamed_4 t W h, by rw [if_neg (by omega), if_neg (by omega), if_pos h]; rfl, Nat.zero_le _, fun _ _ => Src.nil _⟩
  · exact ⟨_, fun W => unnamed_5 t W h, by rw [if_neg (by omega), if_neg (by omega), if_neg (by omega), if_pos h]; rfl, Nat.zero_le _, fun _ _ => Src.nil _⟩
  · refine ⟨_, fun W => unnamed_8 t W h, ?_, ?_, ?_⟩
    · rw [t8_def, if_neg (by omega), if_neg (by omega), if_neg (by omega), if_neg (by omega), if_pos h]; rfl
    · rw [t8_def]; exact Nat.le_refl _
    · rw [t8_def]; exact fun _ h => h
  · exact ⟨_, fun W => unnamed_9 t W h, by rw [if_neg (by omega), if_neg (by omega), if_neg (by omega), if_neg (by omega), if_neg (by omega), if_pos h]; rfl, Nat.le_refl _, fun _ h => h⟩
  · exact ⟨_, fun W => unnamed_10 t W h, by rw [if_neg (by omega), if_neg (by omega), if_neg (by omega), if_neg (by omega), if_neg (by omega), if_neg (by omega)]; rfl, Nat.le_refl _, fun _ h => h⟩
theorem check_no (t : Tl) (w : World) (hy : namB t.ty = false) :
    Calls Try.prog 10 #[.agg (tcells t).toArray] w fun e w' => e = .returned (.int .i64 2) ∧ Below w.heap.size w w' := by
  have RT := Row.new w 33 (tcells t)
  have HU := fun W => unnamed_no t W hy
  clear hy
  go_enter Try.func10, Try.ntmps10
  go_wp2_with (first
    | (have kk := rA; refine stT (.tmp 3) (.tmp 8) (by rfl) rfl gA zeroT _ rfl rfl rA ?_; intro wC hgC rC; have rTC := (rT1.below a3 rT1.lt).grown hgC (fun e => by have := Option.some.inj e; have := rT1.lt; omega); have bC := (bt b1 a3).grown hgC (bt b1 a3).size (fun k hk => by cases hk; exact Nat.le_trans b1.size a1))
    | (have kk := hb1; refine alG infoTz (by rfl) rfl ?_; intro gA wA a1 a2 a3 rA)
    | (go_at_call 22; refine (HU _).mono ?_; rintro e w1 ⟨rfl, hb1⟩; have rT1 := RT.below hb1 RT.lt; have b1 := bt (ba w (.cells (tcells t).toArray 33)) hb1)
    | (refine ldT (.tmp 1) (by rfl) rfl w.heap.size t rfl RT ?_))
  go_ret
  exact ⟨rfl, bC⟩
theorem check_by (t r : Tl) (w : World) (hr : TSrc w r) (hrn : r.sn ≤ 100000)
    (hUn : ∀ W, Calls Try.prog 22 #[.agg (tcells t).toArray] W fun e w' => e = .returned (.tuple #[.agg (tcells r).toArray, .bool true]) ∧ Below W.heap.size W w') (bF : Bool)
    (hF : ∀ W, Calls Try.prog 23 #[.agg (tcells t).toArray] W fun e w' => e = .returned (.bool bF) ∧ Below W.heap.size W w') :
    Calls Try.prog 10 #[.agg (tcells t).toArray] w fun e w' => e = .returned (.int .i64 (if (sameB r.key { zeroK with ty := t.ty } && bF) = true then chkQ t.pr else 2)) ∧ Below w.heap.size w w' := by
  have HQ := checkQ_any t.pr
  obtain ⟨bS, hbS⟩ : ∃ b, sameB r.key { zeroK with ty := t.ty } = b := ⟨_, rfl⟩
  have HS : Hid (∀ W, Below w.heap.size w W → Calls Try.prog 12 #[.agg (tcells r).toArray, .agg (tcells { zeroT with ty := t.ty }).toArray] W fun e w' => e = .returned (.bool bS) ∧ Below W.heap.size W w') := fun W hW => by
    have := psame_any r { zeroT with ty := t.ty } W (Src.below hr hW (Src.lt hr)) (Src.nil _) hrn
    rw [← hbS]
    exact this
  rw [hbS]
  have RT := Row.new w 33 (tcells t)
  clear hrn hr hbS
  generalize chkQ t.pr = z at *
  generalize hty : t.ty = y at *
  have HTY : Hid (t.ty = y) := hty
  clear hty
  cases bS
  · go_enter Try.func10, Try.ntmps10
    go_wp2_with (first
        | (go_at_call 24; have kk := hb4; refine (HQ _).mono ?_; rintro e w5 ⟨rfl, hb5⟩)
        | (have kk := hb4; refine ldQ (.tmp 25) (by rfl) rfl _ _ t.pr rfl (rT4.rPr) ?_)
        | (go_at_call 23; have kk := hb3; refine (hF _).mono ?_; rintro e w4 ⟨rfl, hb4⟩; have rT4 := rT3.below hb4 rT3.lt)
        | (have kk := hb3; refine ldT (.tmp 1) (by rfl) rfl w.heap.size t rfl rT3 ?_)
        | (go_at_call 12; have kk := rC; refine (HS.out _ bC).mono ?_; rintro e w3 ⟨rfl, hb3⟩; have rT3 := rTC.below hb3 rTC.lt)
        | (have kk := rC; refine ldT (.tmp 3) (by rfl) rfl gA r rfl rC ?_)
        | (have kk := rA; refine stT (.tmp 3) (.tmp 8) (by rfl) rfl gA r _ rfl rfl rA ?_; intro wC hgC rC; have rTC := (rT1.below a3 rT1.lt).grown hgC (fun e => by have := Option.some.inj e; have := rT1.lt; omega); have bC := (bt b1 a3).grown hgC (bt b1 a3).size (fun k hk => by cases hk; exact Nat.le_trans b1.size a1); have c0 : wC.cell? ⟨w.heap.size, 0, none⟩ = some (.int .u8 (y : Int)) := (by have := rTC.cell 0; rw [this]; show some (Value.int .u8 (t.ty : Int)) = _; rw [HTY.out]))
        | (have kk := hb1; refine alG infoTz (by rfl) rfl ?_; intro gA wA a1 a2 a3 rA)
        | (go_at_call 22; refine (hUn _).mono ?_; rintro e w1 ⟨rfl, hb1⟩; have rT1 := RT.below hb1 RT.lt; have b1 := bt (ba w (.cells (tcells t).toArray 33)) hb1)
        | (refine ldT (.tmp 1) (by rfl) rfl w.heap.size t rfl RT ?_))
    go_ret
    exact ⟨rfl, bt bC hb3⟩
  · cases bF
    · go_enter Try.func10, Try.ntmps10
      go_wp2_with (first
          | (go_at_call 24; have kk := hb4; refine (HQ _).mono ?_; rintro e w5 ⟨rfl, hb5⟩)
          | (have kk := hb4; refine ldQ (.tmp 25) (by rfl) rfl _ _ t.pr rfl (rT4.rPr) ?_)
          | (go_at_call 23; have kk := hb3; refine (hF _).mono ?_; rintro e w4 ⟨rfl, hb4⟩; have rT4 := rT3.below hb4 rT3.lt)
          | (have kk := hb3; refine ldT (.tmp 1) (by rfl) rfl w.heap.size t rfl rT3 ?_)
          | (go_at_call 12; have kk := rC; refine (HS.out _ bC).mono ?_; rintro e w3 ⟨rfl, hb3⟩; have rT3 := rTC.below hb3 rTC.lt)
          | (have kk := rC; refine ldT (.tmp 3) (by rfl) rfl gA r rfl rC ?_)
          | (have kk := rA; refine stT (.tmp 3) (.tmp 8) (by rfl) rfl gA r _ rfl rfl rA ?_; intro wC hgC rC; have rTC := (rT1.below a3 rT1.lt).grown hgC (fun e => by have := Option.some.inj e; have := rT1.lt; omega); have bC := (bt b1 a3).grown hgC (bt b1 a3).size (fun k hk => by cases hk; exact Nat.le_trans b1.size a1); have c0 : wC.cell? ⟨w.heap.size, 0, none⟩ = some (.int .u8 (y : Int)) := (by have := rTC.cell 0; rw [this]; show some (Value.int .u8 (t.ty : Int)) = _; rw [HTY.out]))
          | (have kk := hb1; refine alG infoTz (by rfl) rfl ?_; intro gA wA a1 a2 a3 rA)
          | (go_at_call 22; refine (hUn _).mono ?_; rintro e w1 ⟨rfl, hb1⟩; have rT1 := RT.below hb1 RT.lt; have b1 := bt (ba w (.cells (tcells t).toArray 33)) hb1)
          | (refine ldT (.tmp 1) (by rfl) rfl w.heap.size t rfl RT ?_))
      go_ret
      exact ⟨rfl, bt (bt bC hb3) hb4⟩
    · go_enter Try.func10, Try.ntmps10
      go_wp2_with (first
          | (go_at_call 24; have kk := hb4; refine (HQ _).mono ?_; rintro e w5 ⟨rfl, hb5⟩)
          | (have kk := hb4; refine ldQ (.tmp 25) (by rfl) rfl _ _ t.pr rfl (rT4.rPr) ?_)
          | (go_at_call 23; have kk := hb3; refine (hF _).mono ?_; rintro e w4 ⟨rfl, hb4⟩; have rT4 := rT3.below hb4 rT3.lt)
          | (have kk := hb3; refine ldT (.tmp 1) (by rfl) rfl w.heap.size t rfl rT3 ?_)
          | (go_at_call 12; have kk := rC; refine (HS.out _ bC).mono ?_; rintro e w3 ⟨rfl, hb3⟩; have rT3 := rTC.below hb3 rTC.lt)
          | (have kk := rC; refine ldT (.tmp 3) (by rfl) rfl gA r rfl rC ?_)
          | (have kk := rA; refine stT (.tmp 3) (.tmp 8) (by rfl) rfl gA r _ rfl rfl rA ?_; intro wC hgC rC; have rTC := (rT1.below a3 rT1.lt).grown hgC (fun e => by have := Option.some.inj e; have := rT1.lt; omega); have bC := (bt b1 a3).grown hgC (bt b1 a3).size (fun k hk => by cases hk; exact Nat.le_trans b1.size a1); have c0 : wC.cell? ⟨w.heap.size, 0, none⟩ = some (.int .u8 (y : Int)) := (by have := rTC.cell 0; rw [this]; show some (Value.int .u8 (t.ty : Int)) = _; rw [HTY.out]))
          | (have kk := hb1; refine alG infoTz (by rfl) rfl ?_; intro gA wA a1 a2 a3 rA)
          | (go_at_call 22; refine (hUn _).mono ?_; rintro e w1 ⟨rfl, hb1⟩; have rT1 := RT.below hb1 RT.lt; have b1 := bt (ba w (.cells (tcells t).toArray 33)) hb1)
          | (refine ldT (.tmp 1) (by rfl) rfl w.heap.size t rfl RT ?_))
      go_ret
      exact ⟨rfl, bt (bt (bt bC hb3) hb4) hb5⟩
/-- packet.Check of any Tlv. -/
theorem checkT_any (t : Tl) (w : World) (ht : TSrc w t) (hn : t.sn ≤ 100000) :
    Calls Try.prog 10 #[.agg (tcells t).toArray] w fun e w' => e = .returned (.int .i64 (chkT t.key)) ∧ Below w.heap.size w w' := by
  have e0 : t.key.ty = t.ty := rfl
  have e1 : t.key.pr = t.pr := rfl
  unfold chkT
  rw [e0, e1]
  cases hy : namB t.ty
  · exact check_no t w hy
  · obtain ⟨r, h1, h2, h3, h4⟩ := unnamed_ex t hy
    have := check_by t r w (h4 w ht) (by omega) h1 _ (fun W => fits_any t W (TSrc.len ht) hy)
    rw [h2] at this
    exact this
end Go.Proofs.Ytognnfknbkedgaa

namespace Go.Proofs.Ytognnfknbkedgaa
open Go.RowKit
set_option linter.unusedSimpArgs false
set_option maxRecDepth 20000

theorem all_more (l : List UInt8) (c : UInt8) (j : Nat) (h : j < l.length) : (l.take (j + 1)).all (· == c) = ((l.take j).all (· == c) && (l[j] == c)) := by
  rw [List.take_succ_eq_append_getElem h, List.all_append]
  simp
theorem all_rep (l : List UInt8) (c : UInt8) : l.all (· == c) = decide (l = List.replicate l.length c) := by
  rw [Bool.eq_iff_iff, decide_eq_true_eq, List.eq_replicate_iff]
  simp
theorem icells_at (i : Id8) (j : Nat) (h : j < i.l.length) : (icells i)[j]? = some (.int .u8 (i.l[j].toNat : Int)) := by
  simp [icells, bcells, h]
set_option maxHeartbeats 4000000 in
theorem special_any (i : Id8) (w : World) : Calls Try.prog 26 #[.agg (icells i).toArray] w fun e w' => e = .returned (.tuple #[.bool (decide (i.l = zeroI.l)), .bool (decide (i.l = fullI.l))]) ∧ Below w.heap.size w w' := by
  have hl8 : i.l.length = 8 := i.len
  have EZ : Hid ((i.l.take 8).all (· == 0) = decide (i.l = zeroI.l)) := by
    show _ = _
    rw [List.take_of_length_le (by omega), all_rep, hl8]
    rfl
  have EF : Hid ((i.l.take 8).all (· == 255) = decide (i.l = fullI.l)) := by
    show _ = _
    rw [List.take_of_length_le (by omega), all_rep, hl8]
    rfl
  have RI := Row.new w 24 (icells i)
  have B0 := ba w (.cells (icells i).toArray 24)
  have HL : Hid (i.l.length = 8) := hl8
  clear hl8
  go_enter Try.func26, Try.ntmps26
  go_wp2
  refine name_world (R := fun W => Code.wp _ _ _ _ W) (P := fun W => Below w.heap.size w W ∧ Row W w.heap.size 24 (icells i)) _ ⟨B0, RI⟩ ?_
  rintro X ⟨hB, hR⟩
  clear RI B0
  go_loopw [4, 5, 6] (fun z f k wr => wr = X ∧ ∃ j : Nat, j ≤ 8 ∧ z = .bool ((i.l.take j).all (· == 0)) ∧ f = .bool ((i.l.take j).all (· == 255)) ∧ k = .int .i64 j) (fun _ _ k _ => 8 - (intOf k).toNat)
  case atStart => exact ⟨rfl, 0, Nat.zero_le _, rfl, rfl, rfl⟩
  case round =>
    obtain ⟨rfl, j, hj, rfl, rfl, rfl⟩ := hrel
    by_cases hlt : j < 8
    · have hlt' : (j : Int) < 8 := by omega
      have hjl : j < i.l.length := by have := HL.out; omega
      have hc : wr.cell? ⟨w.heap.size, j, none⟩ = some (.int .u8 (i.l[j].toNat : Int)) := (hR.cell j).trans (icells_at i j hjl)
      have HZ : Hid ((i.l.take (j + 1)).all (· == 0) = ((i.l.take j).all (· == 0) && ((i.l[j].toNat : Int) == 0))) := by
        show _ = _
        rw [all_more _ _ _ hjl]
        congr 1
        rw [Bool.eq_iff_iff]; simp [← UInt8.toNat_inj]
      have HF : Hid ((i.l.take (j + 1)).all (· == 255) = ((i.l.take j).all (· == 255) && ((i.l[j].toNat : Int) == 255))) := by
        show _ = _
        rw [all_more _ _ _ hjl]
        congr 1
        rw [Bool.eq_iff_iff]; simp [← UInt8.toNat_inj]; omega
      generalize (i.l[j].toNat : Int) = x at *
      generalize (i.l.take j).all (· == 0) = bz at *
      generalize (i.l.take j).all (· == 255) = bf at *
      generalize hz' : (i.l.take (j + 1)).all (· == 0) = cz at *
      generalize hf' : (i.l.take (j + 1)).all (· == 255) = cf at *
      cases bz
      · cases bf
        · go_wp2
          go_roundw
          case rel => exact ⟨trivial, j + 1, by omega, by rw [hz', HZ.out]; rfl, by rw [hf', HF.out]; rfl, by go_num⟩
          case measure => simp [intOf]; omega
        · go_wp2
          go_roundw
          case rel => exact ⟨trivial, j + 1, by omega, by rw [hz', HZ.out]; rfl, by rw [hf', HF.out]; rfl, by go_num⟩
          case measure => simp [intOf]; omega
      · cases bf
        · go_wp2
          go_roundw
          case rel => exact ⟨trivial, j + 1, by omega, by rw [hz', HZ.out]; rfl, by rw [hf', HF.out]; rfl, by go_num⟩
          case measure => simp [intOf]; omega
        · go_wp2
          go_roundw
          case rel => exact ⟨trivial, j + 1, by omega, by rw [hz', HZ.out]; rfl, by rw [hf', HF.out]; rfl, by go_num⟩
          case measure => simp [intOf]; omega
    · have hlt' : ¬ (j : Int) < 8 := by omega
      obtain rfl : j = 8 := by omega
      go_wp2
      go_ret2
      exact ⟨by rw [← EZ.out, ← EF.out]; rfl, hB⟩
end Go.Proofs.Ytognnfknbkedgaa

namespace Go.Proofs.Ytognnfknbkedgaa
open Go.RowKit
set_option linter.unusedSimpArgs false
/-! ### The document's Family -/
theorem fam_cut (a : Ad) (i : Nat) : (cutA a 96).l[i]? = if i < 12 then a.l[i]? else if i < 16 then some 0 else none := by
  simp only [cutA, List.getElem?_mapIdx]
  by_cases h : i < 12
  · rw [if_pos h]
    cases hb : a.l[i]? with
    | none => rfl
    | some b => rw [Option.map_some, keepB_all (by omega)]
  · rw [if_neg h]
    by_cases h' : i < 16
    · rw [if_pos h', List.getElem?_eq_getElem (by rw [a.len]; exact h'), Option.map_some, show 96 - 8 * i = 0 by omega, keepB_none]
    · rw [if_neg h', List.getElem?_eq_none (by rw [a.len]; omega)]; rfl
def famC (i : Nat) : UInt8 := if i < 10 then 0 else 255
theorem map_get (i : Nat) : mapA.l[i]? = if i < 12 then some (famC i) else if i < 16 then some 0 else none := by
  match i with
  | 0 | 1 | 2 | 3 | 4 | 5 | 6 | 7 | 8 | 9 | 10 | 11 | 12 | 13 | 14 | 15 => rfl
  | i + 16 => rw [if_neg (by omega), if_neg (by omega)]; rfl
theorem fam_yes {a : Ad} (h : ∀ i, i < 12 → a.l[i]? = some (famC i)) : famA a = 4 := by
  unfold famA
  rw [if_pos]
  apply List.ext_getElem?
  intro i
  rw [fam_cut, map_get]
  split
  · exact h i ‹_›
  · rfl
theorem fam_no {a : Ad} {i : Nat} {b : UInt8} (hi : i < 12) (h : a.l[i]? = some b) (hb : b ≠ famC i) : famA a = 6 := by
  unfold famA
  rw [if_neg]
  intro e
  have := congrArg (fun l => l[i]?) e
  rw [fam_cut, map_get, if_pos hi, if_pos hi, h] at this
  exact hb (Option.some.inj this)
theorem rfamily_any (a : Ad) (w : World) : Calls Try.prog 73 #[(Value.agg (acells a).toArray)] w (Gives w (.int .i64 (famA a))) := by
  have hb := ba w (.cells (acells a).toArray 26)
  have hA := LA.new w a 26
  have HN : Hid (∀ i b, i < 12 → a.l[i]? = some b → b ≠ famC i → famA a = 6) := fun i b => fam_no
  have HY : Hid ((∀ i, i < 12 → a.l[i]? = some (famC i)) → famA a = 4) := fam_yes
  generalize famA a = f at *
  go_enter Try.func73, Try.ntmps73
  go_wp2
  refine name_world (R := fun W => Code.wp _ _ _ _ W) (P := fun W => Below w.heap.size w W ∧ LA W w.heap.size 0 a) _ ⟨hb, hA⟩ ?_
  clear hb hA
  rintro X ⟨hb, hA⟩
  go_loopw [3] (fun i wr => ∃ j : Nat, j ≤ 12 ∧ i = .int .i64 j ∧ (∀ i, i < j → a.l[i]? = some (famC i)) ∧ X = wr) (fun i _ => 12 - (intOf i).toNat)
  case atStart => exact ⟨0, by omega, rfl, (fun i hi => by omega), rfl⟩
  case round =>
    obtain ⟨j, hj, rfl, hok, rfl⟩ := hrel
    by_cases hlt : j < 12
    · obtain ⟨b, hbj⟩ : ∃ b, a.l[j]? = some b := ⟨_, List.getElem?_eq_getElem (by rw [a.len]; omega)⟩
      have hc : X.cell? ⟨w.heap.size, j, none⟩ = some (.int .u8 b.toNat) := by simpa using hA j _ (bcells_get hbj)
      have HB : Hid (b ≠ famC j → f = 6) := HN.out j b hlt hbj
      have HE : Hid (b = famC j → ∀ i, i < j + 1 → a.l[i]? = some (famC i)) := fun h i hi => by
        by_cases hij : i < j
        · exact hok i hij
        · obtain rfl : i = j := by omega
          rw [hbj, h]
      clear hok hbj hA HN HY
      have hz := b.toNat_lt
      by_cases h10 : j < 10
      · have e0 : famC j = 0 := by unfold famC; rw [if_pos h10]
        rw [e0] at HB HE
        by_cases hb0 : b = 0
        · have e1 : ((b.toNat : Int) != 0) = false := by subst hb0; rfl
          have h10' : ¬ (10 : Int) ≤ (j : Int) := by omega
          go_wp2
          go_roundw
          case rel => exact ⟨j + 1, by omega, by go_num, HE.out hb0, trivial⟩
          case measure => simp [intOf]; omega
        · have e1 : ((b.toNat : Int) != 0) = true := by
            have : b.toNat ≠ 0 := fun h => hb0 (UInt8.toNat.inj h)
            simpa using this
          have e6 := HB.out hb0
          clear HB HE
          go_wp2
          go_ret
          exact ⟨by first | rfl | (rw [e6]; rfl), hb⟩
      · have e0 : famC j = 255 := by unfold famC; rw [if_neg h10]
        rw [e0] at HB HE
        by_cases hb0 : b = 255
        · have e1 : ((b.toNat : Int) != 255) = false := by subst hb0; rfl
          go_wp2
          go_roundw
          case rel => exact ⟨j + 1, by omega, by go_num, HE.out hb0, trivial⟩
          case measure => simp [intOf]; omega
        · have e1 : ((b.toNat : Int) != 255) = true := by
            have : b.toNat ≠ 255 := fun h => hb0 (UInt8.toNat.inj h)
            simp only [bne_iff_ne, ne_eq]; omega
          have e6 := HB.out hb0
          clear HB HE
          go_wp2
          go_ret
          exact ⟨by first | rfl | (rw [e6]; rfl), hb⟩
    · obtain rfl : j = 12 := by omega
      have e4 := HY.out hok
      go_wp2
      go_ret
      exact ⟨by first | rfl | (rw [e4]; rfl), hb⟩
end Go.Proofs.Ytognnfknbkedgaa
