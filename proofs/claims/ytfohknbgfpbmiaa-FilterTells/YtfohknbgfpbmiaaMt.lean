/-
  Matches of package filter, for every rule and route.
-/
import Derived.Test.YtfohknbgfpbmiaaMt0
import Derived.Deep.CutBlock
namespace Go.Proofs.Ytfohknbgfpbmiaa
open Go.RowKit
set_option linter.unusedSimpArgs false
set_option maxRecDepth 20000
/-- Whether a rule is of a chain, and of an interface. -/
def mineB (r : Ru) (chain : Int) (name : ByteArray) : Bool := (r.ch == chain) && (r.nm.toList.isEmpty || r.nm.toList == name.toList)
/-- Whether a rule matches. -/
def matB (r : Ru) (chain : Int) (name : ByteArray) (p : Pr) (i : Id8) : Bool :=
  mineB r chain name && (!r.hd || fitB r p.d) && (!r.hs || cov r.src p.s) && (decide (r.id.l = zeroI.l) || decide (r.id.l = i.l))
set_option maxHeartbeats 4000000 in
theorem matches_any (r : Ru) (chain : Int) (name : ByteArray) (p : Pr) (i : Id8) (w : World) : Calls Try.prog 13 #[ruV r, .int .i64 chain, .string name, (Value.agg (qcells p).toArray), idV i] w (Gives w (.bool (matB r chain name p i))) := by
  have hD := dstFits_any r p.d
  have hC := covers_any r.src p.s
  have hE := eqI 9998 r.id i
  have hR := ((LR.new w r 41).alloc (.cells (qcells p).toArray 28)).alloc (.cells (icells i).toArray 30)
  have hQ : LQ (((w.alloc (.cells (rcells r).toArray 41)).alloc (.cells (qcells p).toArray 28)).alloc (.cells (icells i).toArray 30)) (w.heap.size + 1) 0 p := by
    have := (LQ.new (w.alloc (.cells (rcells r).toArray 41)) p 28).alloc (.cells (icells i).toArray 30)
    simpa using this
  have hI : LI (((w.alloc (.cells (rcells r).toArray 41)).alloc (.cells (qcells p).toArray 28)).alloc (.cells (icells i).toArray 30)) (w.heap.size + 1 + 1) 0 i := by
    have := LI.new ((w.alloc (.cells (rcells r).toArray 41)).alloc (.cells (qcells p).toArray 28)) i 30
    simpa using this
  have HF : Hid (matB r chain name p i = (mineB r chain name && (!r.hd || fitB r p.d) && (!r.hs || cov r.src p.s) && (decide (r.id.l = zeroI.l) || decide (r.id.l = i.l)))) := rfl
  have HM : Hid (mineB r chain name = ((r.ch == chain) && (r.nm.toList.isEmpty || r.nm.toList == name.toList))) := rfl
  obtain ⟨s1, hs1⟩ : ∃ b, mineB r chain name = b := ⟨_, rfl⟩
  rw [hs1] at HF HM
  clear hs1
  generalize fitB r p.d = d at *
  generalize cov r.src p.s = c at *
  go_enter Try.func13, Try.ntmps13
  go_upto_region 1 with fail
  refine name_world (R := fun W => Code.wp _ _ _ _ W) (P := fun W => Below w.heap.size w W ∧ LR W w.heap.size 0 r ∧ LQ W (w.heap.size + 1) 0 p ∧ LI W (w.heap.size + 1 + 1) 0 i ∧ w.heap.size + 1 + 1 < W.heap.size) _ ⟨bt (bt (ba _ _) (ba _ _)) (ba _ _), hR, hQ, hI, by simp⟩ ?_
  clear hR hQ hI
  rintro X ⟨hB, hR, hQ, hI, hs⟩
  have c0 := hR.ch
  have c1 := hR.nm
  have c3 := hR.hd
  have c7 := hR.hs
  have hs0 : w.heap.size < X.heap.size := by omega
  simp only [Nat.zero_add] at c0 c1 c3 c7
  apply wp_region_lit
  refine cutB 16 11 15 (fun b W => b = s1 ∧ X = W) ?_ ?_
  · simp only [List.take_succ_cons, List.take_zero]
    cases k1 : r.ch == chain with
    | true =>
      go_wp2_with fail
      all_goals exact CutQ.normal ⟨by kernel_rfl, by kernel_rfl, _, rfl, by rw [HM.out, k1]; simp [*], rfl⟩
    | false =>
      go_wp2_with fail
      all_goals exact CutQ.normal ⟨by kernel_rfl, by kernel_rfl, _, rfl, by rw [HM.out, k1]; rfl, rfl⟩
  · intro xs0 b1 W1 hl0 hPB
    obtain ⟨u11, xs1, rfl, hl1⟩ := len_s hl0
    obtain ⟨u12, xs2, rfl, hl2⟩ := len_s hl1
    obtain ⟨u13, xs3, rfl, hl3⟩ := len_s hl2
    obtain ⟨u14, xs4, rfl, hl4⟩ := len_s hl3
    obtain ⟨u15, xs5, rfl, hl5⟩ := len_s hl4
    obtain ⟨u16, xs6, rfl, hl6⟩ := len_s hl5
    obtain ⟨u17, xs7, rfl, hl7⟩ := len_s hl6
    obtain ⟨u18, xs8, rfl, hl8⟩ := len_s hl7
    obtain ⟨u19, xs9, rfl, hl9⟩ := len_s hl8
    obtain ⟨u20, xs10, rfl, hl10⟩ := len_s hl9
    obtain ⟨u21, xs11, rfl, hl11⟩ := len_s hl10
    obtain ⟨u22, xs12, rfl, hl12⟩ := len_s hl11
    obtain ⟨u23, xs13, rfl, hl13⟩ := len_s hl12
    obtain ⟨u24, xs14, rfl, hl14⟩ := len_s hl13
    obtain ⟨u25, xs15, rfl, hl15⟩ := len_s hl14
    obtain rfl := len_z hl15
    clear hl0 hl1 hl2 hl3 hl4 hl5 hl6 hl7 hl8 hl9 hl10 hl11 hl12 hl13 hl14 hl15
    simp only [List.drop_succ_cons, List.drop_zero]
    simp only [over, List.cons_append, List.nil_append, Act.put, List.setIfInBounds_toArray, List.set_cons_zero, List.set_cons_succ, Nat.reduceAdd]
    obtain ⟨rfl, rfl⟩ := hPB
    clear HM
    refine cutB 11 27 10 (fun b W => b = (b1 && (!r.hd || d)) ∧ Below X.heap.size X W) ?_ ?_
    · simp only [List.take_succ_cons, List.take_zero]
      cases b1 with
      | false =>
        go_wp2_with fail
        exact CutQ.normal ⟨by kernel_rfl, by kernel_rfl, _, rfl, rfl, Below.refl _ _⟩
      | true =>
        cases k3 : r.hd with
        | false =>
          rw [k3] at c3
          go_wp2_with fail
          exact CutQ.normal ⟨by kernel_rfl, by kernel_rfl, _, rfl, rfl, Below.refl _ _⟩
        | true =>
          rw [k3] at c3
          go_wp2_with (first
            | (refine ldR (.tmp 5) (by rfl) rfl _ _ r rfl hR ?_)
            | (refine ldP (.tmp 32) (by rfl) rfl _ _ p.d rfl hQ.d ?_)
            | (go_at_call 21; refine (hD _).mono ?_; rintro e w1 ⟨rfl, hB1⟩))
          exact CutQ.normal ⟨by kernel_rfl, by kernel_rfl, _, rfl, (by simp), hB1⟩
    · intro xs0 b2 W2 hl0 hPB
      obtain ⟨y27, xs1, rfl, hl1⟩ := len_s hl0
      obtain ⟨y28, xs2, rfl, hl2⟩ := len_s hl1
      obtain ⟨y29, xs3, rfl, hl3⟩ := len_s hl2
      obtain ⟨y30, xs4, rfl, hl4⟩ := len_s hl3
      obtain ⟨y31, xs5, rfl, hl5⟩ := len_s hl4
      obtain ⟨y32, xs6, rfl, hl6⟩ := len_s hl5
      obtain ⟨y33, xs7, rfl, hl7⟩ := len_s hl6
      obtain ⟨y34, xs8, rfl, hl8⟩ := len_s hl7
      obtain ⟨y35, xs9, rfl, hl9⟩ := len_s hl8
      obtain ⟨y36, xs10, rfl, hl10⟩ := len_s hl9
      obtain rfl := len_z hl10
      clear hl0 hl1 hl2 hl3 hl4 hl5 hl6 hl7 hl8 hl9 hl10
      simp only [List.drop_succ_cons, List.drop_zero]
      simp only [over, List.cons_append, List.nil_append, Act.put, List.setIfInBounds_toArray, List.set_cons_zero, List.set_cons_succ, Nat.reduceAdd]
      obtain ⟨hb2, hW2⟩ := hPB
      have hs0w : w.heap.size < X.heap.size := hs0
      have hs2w : w.heap.size + 1 + 1 < X.heap.size := hs
      have hRX := hR
      replace hR := hR.below hW2 hs0
      replace hQ := hQ.below hW2 (by omega)
      replace c7 := (hW2.cell (p := ⟨w.heap.size, 39, none⟩) hs0).trans c7
      rw [← hb2] at HF
      clear hb2 c0 c1 c3
      refine cutB 12 38 11 (fun b W => b = (b2 && (!r.hs || c)) ∧ Below X.heap.size X W) ?_ ?_
      · simp only [List.take_succ_cons, List.take_zero]
        cases b2 with
        | false =>
          go_wp2_with fail
          exact CutQ.normal ⟨by kernel_rfl, by kernel_rfl, _, rfl, rfl, hW2⟩
        | true =>
          cases k7 : r.hs with
          | false =>
            rw [k7] at c7
            go_wp2_with fail
            exact CutQ.normal ⟨by kernel_rfl, by kernel_rfl, _, rfl, rfl, hW2⟩
          | true =>
            rw [k7] at c7
            go_wp2_with (first
              | (refine ldP (.tmp 42) (by rfl) rfl _ _ r.src rfl hR.src ?_)
              | (refine ldP (.tmp 44) (by rfl) rfl _ _ p.s rfl hQ.s ?_)
              | (go_at_call 22; refine (hC _).mono ?_; rintro e w1 ⟨rfl, hB1⟩))
            exact CutQ.normal ⟨by kernel_rfl, by kernel_rfl, _, rfl, (by simp), hW2.trans (hB1.mono hW2.size)⟩
      · intro xs0 b3 W3 hl0 hPB
        obtain ⟨z38, xs1, rfl, hl1⟩ := len_s hl0
        obtain ⟨z39, xs2, rfl, hl2⟩ := len_s hl1
        obtain ⟨z40, xs3, rfl, hl3⟩ := len_s hl2
        obtain ⟨z41, xs4, rfl, hl4⟩ := len_s hl3
        obtain ⟨z42, xs5, rfl, hl5⟩ := len_s hl4
        obtain ⟨z43, xs6, rfl, hl6⟩ := len_s hl5
        obtain ⟨z44, xs7, rfl, hl7⟩ := len_s hl6
        obtain ⟨z45, xs8, rfl, hl8⟩ := len_s hl7
        obtain ⟨z46, xs9, rfl, hl9⟩ := len_s hl8
        obtain ⟨z47, xs10, rfl, hl10⟩ := len_s hl9
        obtain ⟨z48, xs11, rfl, hl11⟩ := len_s hl10
        obtain rfl := len_z hl11
        clear hl0 hl1 hl2 hl3 hl4 hl5 hl6 hl7 hl8 hl9 hl10 hl11
        simp only [List.drop_succ_cons, List.drop_zero]
        simp only [over, List.cons_append, List.nil_append, Act.put, List.setIfInBounds_toArray, List.set_cons_zero, List.set_cons_succ, Nat.reduceAdd]
        obtain ⟨hb3, hW3⟩ := hPB
        rw [← hb3] at HF
        clear hb3
        have hR3 := hRX.below hW3 hs0w
        have hI3 := hI.below hW3 hs2w
        clear hR hRX hI
        cases b3 with
        | false =>
          go_wp2_with fail
          go_ret
          exact ⟨by rw [HF.out]; rfl, hB.trans (hW3.mono hB.size)⟩
        | true =>
          cases k8 : decide (r.id.l = zeroI.l) with
          | true =>
            rw [k8] at HF
            have hE0 : ∀ w, (Op.equalIn 10000 30 (.agg (icells r.id).toArray) (.agg #[.int .u8 0, .int .u8 0, .int .u8 0, .int .u8 0, .int .u8 0, .int .u8 0, .int .u8 0, .int .u8 0])).run Try.prog w = .ok true w := fun w => by rw [← k8]; exact eqI 9998 r.id zeroI w
            go_wp2_with (first
              | (refine ldI (.tmp 50) (by rfl) rfl _ _ r.id rfl hR3.id ?_))
            go_ret
            exact ⟨by rw [HF.out]; rfl, hB.trans (hW3.mono hB.size)⟩
          | false =>
            rw [k8] at HF
            have hE0 : ∀ w, (Op.equalIn 10000 30 (.agg (icells r.id).toArray) (.agg #[.int .u8 0, .int .u8 0, .int .u8 0, .int .u8 0, .int .u8 0, .int .u8 0, .int .u8 0, .int .u8 0])).run Try.prog w = .ok false w := fun w => by rw [← k8]; exact eqI 9998 r.id zeroI w
            go_wp2_with (first
              | (refine ldI (.tmp 50) (by rfl) rfl _ _ r.id rfl hR3.id ?_)
              | (refine ldI (.tmp 55) (by rfl) rfl _ _ r.id rfl hR3.id ?_)
              | (refine ldI (.tmp 9) (by rfl) rfl _ _ i rfl hI3 ?_))
            go_ret
            exact ⟨by rw [HF.out]; rfl, hB.trans (hW3.mono hB.size)⟩
end Go.Proofs.Ytfohknbgfpbmiaa
