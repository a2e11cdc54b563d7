/-
  The document's bit and Check, for every address and prefix.
-/
import Derived.Test.YtfohknbgfpbmiaaPair
namespace Go.Proofs.Ytfohknbgfpbmiaa
open Go.RowKit
set_option linter.unusedSimpArgs false
set_option maxRecDepth 20000
/-- A bit of an address. -/
def bitA (a : Ad) (i : Nat) : Nat := (a.l.getD (i / 8) 0).toNat / 2 ^ (7 - i % 8) % 2
theorem and1 (z : Nat) (hz : z < 256) : bits BinOp.and IntKind.i64 (z : Int) 1 = ((z % 2 : Nat) : Int) := by
  have h : ((List.range 256).all fun z => bits BinOp.and IntKind.i64 (z : Int) 1 == ((z % 2 : Nat) : Int)) = true := by kernel_rfl
  exact eq_of_beq (List.all_eq_true.1 h z (List.mem_range.2 hz))
theorem byte_bits (b k : Nat) (hb : b < 256) (hk : k ≤ 8) : b % 2 ^ (8 - k) = 0 ↔ ∀ r, k ≤ r → r < 8 → b / 2 ^ (7 - r) % 2 = 0 := by
  have h : ((List.range 9).all fun k => (List.range 256).all fun b => (b % 2 ^ (8 - k) == 0) == (List.range 8).all fun r => decide (r < k) || (b / 2 ^ (7 - r) % 2 == 0)) = true := by kernel_rfl
  have h1 := eq_of_beq (List.all_eq_true.1 (List.all_eq_true.1 h k (List.mem_range.2 (by omega))) b (List.mem_range.2 hb))
  rw [← beq_iff_eq, h1, List.all_eq_true]
  constructor
  · intro h r h1 h2
    have := h r (List.mem_range.2 h2)
    rw [decide_eq_false (by omega)] at this
    simpa using this
  · intro h r hr
    by_cases hrk : r < k
    · rw [decide_eq_true hrk]; rfl
    · rw [h r (by omega) (List.mem_range.1 hr)]; simp
theorem keep_same (b : UInt8) (k : Nat) : keepB k b = b ↔ b.toNat % 2 ^ (8 - k) = 0 := by
  have hb := b.toNat_lt
  have hle : b.toNat % 2 ^ (8 - k) ≤ b.toNat := Nat.mod_le _ _
  constructor
  · intro h
    have := congrArg UInt8.toNat h
    unfold keepB at this
    simp at this
    omega
  · intro h
    apply UInt8.toNat.inj
    unfold keepB
    rw [h]
    simp
theorem cut_same (a : Ad) (n : Nat) : (cutA a n).l = a.l ↔ ∀ i, n ≤ i → i < 128 → bitA a i = 0 := by
  have key : (cutA a n).l = a.l ↔ ∀ j (hj : j < 16), (a.l[j]'(by rw [a.len]; exact hj)).toNat % 2 ^ (8 - (n - 8 * j)) = 0 := by
    constructor
    · intro h j hj
      have e := congrArg (fun l => l[j]?) h
      simp only [cutA, List.getElem?_mapIdx] at e
      rw [List.getElem?_eq_getElem (by rw [a.len]; exact hj)] at e
      simp only [Option.map_some, Option.some.injEq] at e
      exact (keep_same _ _).1 e
    · intro h
      apply List.ext_getElem?
      intro j
      simp only [cutA, List.getElem?_mapIdx]
      by_cases hj : j < 16
      · rw [List.getElem?_eq_getElem (by rw [a.len]; exact hj), Option.map_some, (keep_same _ _).2 (h j hj)]
      · rw [List.getElem?_eq_none (by rw [a.len]; omega)]; rfl
  rw [key]
  have hget : ∀ i (hi : i < 128), a.l.getD (i / 8) 0 = a.l[i / 8]'(by rw [a.len]; omega) := fun i hi => by
    rw [List.getD_eq_getElem?_getD, List.getElem?_eq_getElem (by rw [a.len]; omega)]; rfl
  constructor
  · intro h i h1 h2
    unfold bitA
    rw [hget i h2]
    have hj := h (i / 8) (by omega)
    by_cases h8 : n - 8 * (i / 8) ≤ 8
    · exact (byte_bits _ (n - 8 * (i / 8)) (UInt8.toNat_lt _) h8).1 hj (i % 8) (by omega) (by omega)
    · omega
  · intro h j hj
    by_cases h8 : n - 8 * j ≤ 8
    · refine (byte_bits _ (n - 8 * j) (UInt8.toNat_lt _) h8).2 (fun r h1 h2 => ?_)
      by_cases hnj : n ≤ 8 * j + r
      · have := h (8 * j + r) hnj (by omega)
        unfold bitA at this
        rw [hget _ (by omega)] at this
        have e1 : (8 * j + r) / 8 = j := by omega
        have e2 : (8 * j + r) % 8 = r := by omega
        simp only [e1, e2] at this
        exact this
      · omega
    · have : 8 - (n - 8 * j) = 0 := by omega
      rw [this]
      simp [Nat.mod_one]
theorem rbit_any (a : Ad) (i : Nat) (hi : i < 128) (w : World) : Calls Try.prog 36 #[(Value.agg (acells a).toArray), .int .i64 (i : Int)] w (Gives w (.int .i64 ((bitA a i : Nat) : Int))) := by
  obtain ⟨k, hk⟩ : ∃ k : Nat, k = i / 8 := ⟨_, rfl⟩
  obtain ⟨r, hr⟩ : ∃ r : Nat, r = i % 8 := ⟨_, rfl⟩
  have h1 : Int.tdiv (i : Int) 8 = (k : Int) := by rw [Int.tdiv_eq_ediv_of_nonneg (by omega)]; omega
  have h2 : Int.tmod (i : Int) 8 = (r : Int) := by rw [Int.tmod_eq_emod_of_nonneg (by omega)]; omega
  have hk16 : (k : Int) < 16 := by omega
  obtain ⟨b, hb⟩ : ∃ b, a.l[k]? = some b := ⟨_, List.getElem?_eq_getElem (by rw [a.len]; omega)⟩
  have hA := LA.new w a 24
  have hc : (w.alloc (.cells (acells a).toArray 24)).cell? ⟨w.heap.size, k, none⟩ = some (.int .u8 b.toNat) := by simpa using hA k _ (bcells_get hb)
  have HV : Hid (bitA a i = b.toNat / 2 ^ (7 - r) % 2) := by
    show _ = _
    unfold bitA
    rw [← hk, ← hr, List.getD_eq_getElem?_getD, hb]; rfl
  have hz := b.toNat_lt
  have hr8 : r < 8 := by omega
  generalize bitA a i = f at *
  generalize b.toNat = B at *
  clear hk hr hi hb hA
  have HB : Hid (∀ m : Nat, bits BinOp.and IntKind.i64 ((B : Int) / (m : Int)) 1 = ((B / m % 2 : Nat) : Int)) := fun m => by rw [← Int.natCast_ediv]; exact and1 _ (by have := Nat.div_le_self B m; omega)
  rcases (show r = 0 ∨ r = 1 ∨ r = 2 ∨ r = 3 ∨ r = 4 ∨ r = 5 ∨ r = 6 ∨ r = 7 by omega) with rfl | rfl | rfl | rfl | rfl | rfl | rfl | rfl
  · go_enter Try.func36, Try.ntmps36
    go_wp2
    go_ret
    have e : bits BinOp.and IntKind.i64 ((B : Int) / 128) 1 = ((f : Nat) : Int) := by rw [HV.out]; exact HB.out 128
    exact ⟨by rw [← e]; rfl, ba _ _⟩
  · go_enter Try.func36, Try.ntmps36
    go_wp2
    go_ret
    have e : bits BinOp.and IntKind.i64 ((B : Int) / 64) 1 = ((f : Nat) : Int) := by rw [HV.out]; exact HB.out 64
    exact ⟨by rw [← e]; rfl, ba _ _⟩
  · go_enter Try.func36, Try.ntmps36
    go_wp2
    go_ret
    have e : bits BinOp.and IntKind.i64 ((B : Int) / 32) 1 = ((f : Nat) : Int) := by rw [HV.out]; exact HB.out 32
    exact ⟨by rw [← e]; rfl, ba _ _⟩
  · go_enter Try.func36, Try.ntmps36
    go_wp2
    go_ret
    have e : bits BinOp.and IntKind.i64 ((B : Int) / 16) 1 = ((f : Nat) : Int) := by rw [HV.out]; exact HB.out 16
    exact ⟨by rw [← e]; rfl, ba _ _⟩
  · go_enter Try.func36, Try.ntmps36
    go_wp2
    go_ret
    have e : bits BinOp.and IntKind.i64 ((B : Int) / 8) 1 = ((f : Nat) : Int) := by rw [HV.out]; exact HB.out 8
    exact ⟨by rw [← e]; rfl, ba _ _⟩
  · go_enter Try.func36, Try.ntmps36
    go_wp2
    go_ret
    have e : bits BinOp.and IntKind.i64 ((B : Int) / 4) 1 = ((f : Nat) : Int) := by rw [HV.out]; exact HB.out 4
    exact ⟨by rw [← e]; rfl, ba _ _⟩
  · go_enter Try.func36, Try.ntmps36
    go_wp2
    go_ret
    have e : bits BinOp.and IntKind.i64 ((B : Int) / 2) 1 = ((f : Nat) : Int) := by rw [HV.out]; exact HB.out 2
    exact ⟨by rw [← e]; rfl, ba _ _⟩
  · go_enter Try.func36, Try.ntmps36
    go_wp2
    go_ret
    have e : bits BinOp.and IntKind.i64 (B : Int) 1 = ((f : Nat) : Int) := by rw [HV.out]; have := HB.out 1; simpa using this
    exact ⟨by rw [← e]; rfl, ba _ _⟩
/-- The document's Check. -/
theorem rcheck_any (p : Pf) (w : World) : Calls Try.prog 26 #[(Value.agg (pcells p).toArray)] w (Gives w (.int .i64 (chk p))) := by
  obtain ⟨n, hn⟩ : ∃ n, p.n = n := ⟨_, rfl⟩
  have hP := LP.new w p 26
  have c0 := hP.n
  rw [hn] at c0
  simp only [Nat.zero_add] at c0
  by_cases c1 : n < 0
  · have e : chk p = 21 := by unfold chk; rw [if_neg (by rw [hn]; omega)]
    rw [e]
    clear e hP
    go_enter Try.func26, Try.ntmps26
    go_wp2
    go_ret
    exact ⟨rfl, ba _ _⟩
  by_cases c2 : 128 < n
  · have e : chk p = 21 := by unfold chk; rw [if_neg (by rw [hn]; omega)]
    rw [e]
    clear e hP
    go_enter Try.func26, Try.ntmps26
    go_wp2
    go_ret
    exact ⟨rfl, ba _ _⟩
  obtain ⟨k, rfl⟩ : ∃ k : Nat, n = k := ⟨n.toNat, by omega⟩
  have hk : k ≤ 128 := by omega
  have HY : Hid ((∀ i, k ≤ i → i < 128 → bitA p.a i = 0) → chk p = 0) := fun h => by
    unfold chk; rw [hn, if_pos ⟨by omega, by omega, (cut_same p.a _).2 (by simpa using h)⟩]
  have HN : Hid (∀ i, k ≤ i → i < 128 → bitA p.a i = 1 → chk p = 21) := fun i h1 h2 h3 => by
    unfold chk; rw [hn, if_neg]
    intro h
    have := (cut_same p.a _).1 h.2.2 i (by simpa using h1) h2
    omega
  have HB : Hid (∀ i, i < 128 → bitA p.a i = 0 ∨ bitA p.a i = 1) := fun i _ => by unfold bitA; omega
  generalize chk p = f at *
  clear hn c1 c2
  go_enter Try.func26, Try.ntmps26
  go_wp2
  refine name_world (R := fun W => Code.wp _ _ _ _ W) (P := fun W => Below w.heap.size w W ∧ LP W w.heap.size 0 p ∧ w.heap.size < W.heap.size) _ ⟨ba _ _, hP, by simp⟩ ?_
  clear hP c0
  rintro X ⟨hb, hP, hs⟩
  go_loopw [3] (fun i wr => ∃ j : Nat, k ≤ j ∧ j ≤ 128 ∧ i = .int .i64 j ∧ (∀ i, k ≤ i → i < j → bitA p.a i = 0) ∧ Below X.heap.size X wr) (fun i _ => 128 - (intOf i).toNat)
  case atStart => exact ⟨k, Nat.le_refl _, hk, rfl, (fun i h1 h2 => by omega), Below.refl _ _⟩
  case round =>
    obtain ⟨j, hkj, hj, rfl, hok, hw⟩ := hrel
    have hA := (hP.below hw hs).a
    by_cases hlt : j < 128
    · have hbit := rbit_any p.a j hlt
      rcases HB.out j hlt with h0 | h1
      · rw [h0] at hbit
        have HO : Hid (∀ i, k ≤ i → i < j + 1 → bitA p.a i = 0) := fun i h1 h2 => by
          by_cases hij : i < j
          · exact hok i h1 hij
          · obtain rfl : i = j := by omega
            exact h0
        clear hok h0 HY HN HB
        go_wp2_with (first
          | (refine ldA (.tmp 18) (by rfl) rfl _ _ p.a rfl hA ?_)
          | (go_at_call 36; refine (hbit _).mono ?_; rintro e w2 ⟨rfl, hB2⟩))
        go_roundw
        case rel => exact ⟨j + 1, by omega, by omega, by go_num, HO.out, hw.trans (hB2.mono hw.size)⟩
        case measure => simp [intOf]; omega
      · rw [h1] at hbit
        have e := HN.out j hkj hlt h1
        subst e
        clear hok h1 HY HN HB
        go_wp2_with (first
          | (refine ldA (.tmp 18) (by rfl) rfl _ _ p.a rfl hA ?_)
          | (go_at_call 36; refine (hbit _).mono ?_; rintro e w2 ⟨rfl, hB2⟩))
        go_ret
        exact ⟨rfl, hb.trans ((hw.trans (hB2.mono hw.size)).mono hb.size)⟩
    · obtain rfl : j = 128 := by omega
      have e := HY.out hok
      subst e
      clear hok HY HN HB
      go_wp2
      go_ret
      exact ⟨rfl, hb.trans (hw.mono hb.size)⟩
end Go.Proofs.Ytfohknbgfpbmiaa
