/-
  The document's PrintId.
-/
import Derived.Test.YtldpocbnkggnnaaDoorJ2
namespace Go.Proofs.YtldpocbnkggnnaaDoor
open Go.RowKit
set_option linter.unusedSimpArgs false
set_option maxRecDepth 20000
abbrev hexT : ByteArray := ⟨#[48, 49, 50, 51, 52, 53, 54, 55, 56, 57, 97, 98, 99, 100, 101, 102]⟩
theorem hex_ext (n : Nat) (h : n < 16) : ((⟨#[48, 49, 50, 51, 52, 53, 54, 55, 56, 57, 97, 98, 99, 100, 101, 102]⟩ : ByteArray).extract n (n + 1)).data.toList = [hx n] := by
  exact (ext_one ⟨#[48, 49, 50, 51, 52, 53, 54, 55, 56, 57, 97, 98, 99, 100, 101, 102]⟩ n h).trans (by rw [hexat n h])
theorem half_facts (m : Nat) (h : m < 2 ^ 8) : ∃ p q : Nat, (m / 16 = p ∧ m % 16 = q) ∧ p < 16 ∧ q < 16 ∧ Int.tdiv (m : Int) 16 = (p : Int) ∧ Int.tmod (m : Int) 16 = (q : Int) ∧ IntKind.u8.wrap (p : Int) = (p : Int) ∧ IntKind.u8.wrap (q : Int) = (q : Int) ∧ wrap64 ((p : Int) + 1) = (p : Int) + 1 ∧ wrap64 ((q : Int) + 1) = (q : Int) + 1 ∧ IntKind.i64.wrap ((p : Int) + 1) = (p : Int) + 1 ∧ IntKind.i64.wrap ((q : Int) + 1) = (q : Int) + 1 ∧ ((p : Int) + 1).toNat = p + 1 ∧ ((q : Int) + 1).toNat = q + 1 ∧ (p : Int) + 1 ≤ 16 ∧ (q : Int) + 1 ≤ 16 ∧ (p : Int) ≤ (p : Int) + 1 ∧ (q : Int) ≤ (q : Int) + 1 ∧ IntKind.i64.wrap (p : Int) = (p : Int) ∧ IntKind.i64.wrap (q : Int) = (q : Int) := by
  refine ⟨m / 16, m % 16, ⟨rfl, rfl⟩, by omega, by omega, ?_, ?_, ?_, ?_, ?_, ?_, ?_, ?_, by omega, by omega, by omega, by omega, by omega, by omega, by rw [IntKind.wrap_i64]; omega, by rw [IntKind.wrap_i64]; omega⟩
  · rw [Int.tdiv_eq_ediv_of_nonneg (by omega)]; omega
  · rw [Int.tmod_eq_emod_of_nonneg (by omega)]; omega
  · simp [IntKind.wrap, IntKind.signed, IntKind.bits]; omega
  · simp [IntKind.wrap, IntKind.signed, IntKind.bits]; omega
  · unfold wrap64; omega
  · unfold wrap64; omega
  · rw [IntKind.wrap_i64]; omega
  · rw [IntKind.wrap_i64]; omega
theorem no_wrap (a b : Nat) (ha : a ≤ 30) (hb : b ≤ 30) : ¬ 9223372036854775807 < a + b := by omega
theorem le_30 {a b : Nat} (h : a ≤ 24) (hb : b = a + 1) : b ≤ 30 := by omega
theorem le_33 {a b c : Nat} (h : a ≤ 24) (hb : b = a + 1) (hc : c = b + 1) : c ≤ 30 := by omega
theorem meas3 {j n : Nat} (h : j < n) : n - (intOf (.int .i64 ((j : Int) + 1))).toNat < n - (intOf (.int .i64 (j : Int))).toNat := by simp [intOf]; omega
theorem le_31 {b : Nat} (hb : b = 1) : b ≤ 30 := by omega
theorem le_32 {b : Nat} (hb : b ≤ 24) : b ≤ 30 := by omega
theorem w64j (j : Nat) (h : j ≤ 8) : wrap64 ((j : Int) + 1) = (j : Int) + 1 := by unfold wrap64; omega
set_option maxHeartbeats 2000000 in
theorem rprintId_any (l : List UInt8) (h8 : l.length = 8) (w : World) : Calls Tryd.prog 24 #[idV l] w (Gives w (.string (str (prI l)))) := by
  have HT : Hid (∀ j (h : j < l.length), prI (l.take (j + 1)) = (if j = 0 then [] else prI (l.take j) ++ [58]) ++ two l[j]) := prI_take l
  have HE : Hid (prI (l.take 8) = prI l) := by show _ = _; rw [List.take_of_length_le (by omega)]
  have HJ : Hid (∀ j, j ≤ 8 → (prI (l.take j)).length ≤ 24) := fun j h => by have := prI_len (l.take j); rw [List.length_take] at this; omega
  have hr := Row.new w 39 (bcells l)
  have H8 : Hid (l.length = 8) := h8
  go_enter Tryd.func24, Tryd.ntmps24
  go_wp2
  go_loopw [3, 4] (fun u i wr => ∃ (j : Nat) (ot : ByteArray), j ≤ 8 ∧ i = .int .i64 j ∧ u = .string ot ∧ Hid (ot.data.toList = prI (l.take j)) ∧ Row wr w.heap.size 39 (bcells l) ∧ Below w.heap.size w wr) (fun _ i _ => 8 - (intOf i).toNat)
  case atStart => exact ⟨0, ⟨#[]⟩, Nat.zero_le _, rfl, rfl, (rfl : _ = _), hr, ba _ _⟩
  case round =>
    clear hr h8
    rename_i wr
    obtain ⟨j, ot, hj, rfl, rfl, hD, hr, hb⟩ := hrel
    by_cases hlt : j < 8
    · have jl : j < l.length := by rw [H8.out]; exact hlt
      have hT := HT.out j jl
      have hJ := HJ.out j hj
      have hos : ot.size ≤ 24 := by rw [← len_t, hD.out]; exact hJ
      have v1 := w64j j hj
      have c1 : wr.cell? ⟨w.heap.size, j, none⟩ = some (.int .u8 (l[j].toNat : Int)) := (hr.cell j).trans (bcells_get (List.getElem?_eq_getElem jl))
      have HW : Hid (two l[j] = [hx (l[j].toNat / 16), hx (l[j].toNat % 16)]) := rfl
      have hv8 := l[j].toNat_lt
      obtain ⟨m, hm⟩ : ∃ m, m = l[j].toNat := ⟨_, rfl⟩
      rw [← hm] at c1 HW hv8
      rw [HW.out] at hT
      clear HW hm
      obtain ⟨p, q, hpq, hp16, hq16, t1, t2, u1, u2, v2, v3, v4, v5, n1, n2, k1, k2, k3, k4, i1, i2⟩ := half_facts m hv8
      rw [hpq.1, hpq.2] at hT
      clear hpq hv8
      obtain ⟨x1, e1⟩ : ∃ x, (⟨#[48, 49, 50, 51, 52, 53, 54, 55, 56, 57, 97, 98, 99, 100, 101, 102]⟩ : ByteArray).extract p (p + 1) = x := ⟨_, rfl⟩
      obtain ⟨x2, e2⟩ : ∃ x, (⟨#[48, 49, 50, 51, 52, 53, 54, 55, 56, 57, 97, 98, 99, 100, 101, 102]⟩ : ByteArray).extract q (q + 1) = x := ⟨_, rfl⟩
      have d1 : x1.data.toList = [hx p] := by rw [← e1]; exact hex_ext p hp16
      have d2 : x2.data.toList = [hx q] := by rw [← e2]; exact hex_ext q hq16
      have s1 : x1.size = 1 := by rw [← len_t, d1]; rfl
      have s2 : x2.size = 1 := by rw [← len_t, d2]; rfl
      by_cases h0 : j = 0
      · have hoe : ot.data.toList = [] := by rw [hD.out, h0]; rfl
        rw [if_pos h0] at hT
        obtain ⟨y1, f1⟩ : ∃ x, ot ++ x1 = x := ⟨_, rfl⟩
        obtain ⟨y2, f2⟩ : ∃ x, y1 ++ x2 = x := ⟨_, rfl⟩
        have z1 : y1.size = ot.size + 1 := by rw [← f1, ByteArray.size_append, s1]
        have g1 := no_wrap ot.size x1.size (le_32 hos) (le_31 s1)
        have g2 := no_wrap y1.size x2.size (le_30 hos z1) (le_31 s2)
        have hD2 : Hid (y2.data.toList = prI (l.take (j + 1))) := by show _ = _; rw [← f2, app_t, ← f1, app_t, hoe, d1, d2, hT]; rfl
        have h0' : ¬ (0 : Int) < (j : Int) := by rw [h0]; decide
        have H0 : Hid (j = 0) := h0
        clear hD hT d1 d2 hoe h0 s1 s2 z1 hos hp16 hq16
        go_wp2
        go_quiet (fail)
        go_wp2
        go_quiet (fail)
        go_wp2
        exact ⟨⟨j + 1, y2, hlt, rfl, rfl, hD2, hr.below (below_drewN (Below.refl _ _) _) hr.lt, below_drewN hb _⟩, meas3 hlt⟩
      · rw [if_neg h0] at hT
        obtain ⟨y0, f0⟩ : ∃ x, ot ++ ⟨#[58]⟩ = x := ⟨_, rfl⟩
        have z0 : y0.size = ot.size + 1 := by rw [← f0, ByteArray.size_append]; rfl
        have g0 := no_wrap ot.size 1 (le_32 hos) (by decide)
        obtain ⟨y1, f1⟩ : ∃ x, y0 ++ x1 = x := ⟨_, rfl⟩
        obtain ⟨y2, f2⟩ : ∃ x, y1 ++ x2 = x := ⟨_, rfl⟩
        have z1 : y1.size = y0.size + 1 := by rw [← f1, ByteArray.size_append, s1]
        have g1 := no_wrap y0.size x1.size (le_30 hos z0) (le_31 s1)
        have g2 := no_wrap y1.size x2.size (le_33 hos z0 z1) (le_31 s2)
        have hD2 : Hid (y2.data.toList = prI (l.take (j + 1))) := by show _ = _; rw [← f2, app_t, ← f1, app_t, ← f0, app_t, hD.out, d1, d2, hT]; simp
        have h0' : (0 : Int) < (j : Int) := Int.ofNat_lt.2 (Nat.pos_of_ne_zero h0)
        clear hD hT d1 d2 h0 s1 s2 z1 z0 hos hp16 hq16
        go_wp2
        go_quiet (fail)
        go_wp2
        go_quiet (fail)
        go_wp2
        exact ⟨⟨j + 1, y2, hlt, rfl, rfl, hD2, hr.below (below_drewN (Below.refl _ _) _) hr.lt, below_drewN hb _⟩, meas3 hlt⟩
    · obtain rfl : j = 8 := by omega
      rw [HE.out] at hD
      have hx : Hid (ot = str (prI l)) := by show _ = _; rw [← hD.out, str_t]
      go_wp2
      go_ret
      exact ⟨by rw [← hx.out]; rfl, hb⟩
end Go.Proofs.YtldpocbnkggnnaaDoor
