/-
  The contracts of number, U8, U16 and U32 of octet.Reader for every reader that is there.
-/
import Derived.Test.YtaleclmccmeglaaTake
import Derived.Laws.BitsAllLaws
namespace Go.Proofs.Ytaleclmccmeglaa
open Go.RowKit
variable {bv : Option Addr}

/-- The number that bytes are, the highest first. -/
def nv (l : List UInt8) : Nat := l.foldl (fun a b => a * 256 + b.toNat) 0
theorem nv_snoc (l : List UInt8) (b : UInt8) : nv (l ++ [b]) = nv l * 256 + b.toNat := by simp [nv]
theorem nv_fold (l : List UInt8) (a : Nat) : l.foldl (fun a b => a * 256 + b.toNat) a < (a + 1) * 256 ^ l.length := by
  induction l generalizing a with
  | nil => simp
  | cons b l ih =>
    have h1 := ih (a * 256 + b.toNat)
    have h2 := b.toNat_lt
    simp only [List.foldl_cons, List.length_cons, Nat.pow_succ]
    refine Nat.lt_of_lt_of_le h1 ?_
    rw [Nat.mul_comm (256 ^ l.length) 256, ← Nat.mul_assoc]
    exact Nat.mul_le_mul_right _ (by omega)
theorem nv_lt (l : List UInt8) : nv l < 256 ^ l.length := by simpa [nv] using nv_fold l 0

theorem Src.byteAt {w : World} {ad : Addr} {n c : Nat} {l : List UInt8} (h : Src w (some ad) n c (bcells l)) (j : Nat) (hj : j < l.length) : w.cell? (ad.add j) = some (.int .u8 (l[j].toNat : Int)) :=
  h.cell ad rfl j _ (by simp [bcells, hj])

theorem or_low (V z : Nat) (hv : V < 16777216) (hz : z < 256) : bits BinOp.or IntKind.u32 ((V : Int) * 256) (z : Int) = ((V * 256 + z : Nat) : Int) := by
  have e : ((V : Int) * 256) = ((V * 256 : Nat) : Int) := by omega
  rw [e, u32_or_nat _ _ (by omega) (by omega)]
  have h := Nat.two_pow_add_eq_or_of_lt (i := 8) (b := z) (by omega) V
  have e2 : V * 256 = 2 ^ 8 * V := by omega
  rw [e2, ← h]

theorem number_any (g : Nat) (l : List UInt8) (p k : Nat) (y : Int) (w : World) (h : Rd w g bv l p y) (hk : k ≤ 4) :
    Calls Try.prog 68 #[.pointer (some ⟨g, 0, none⟩), .int .i64 k] w fun e w' => e = .returned (.int .u32 (nv (tkB l p y k))) ∧ Now w w' g bv l (p + (tkB l p y k).length) (tkE l p y k) := by
  have ht4 : (tkB l p y k).length ≤ 4 := by unfold tkB; split <;> simp <;> omega
  go_enter Try.func68, Try.ntmps68
  go_wp2_with (go_at_call 69; refine (take_any g l p y k w h).mono ?_; rintro e w0 ⟨a0, c0, rfl, hs0, hn0⟩; generalize hT : tkB l p y k = T at *; have HT : Hid (tkB l p y k = T) := hT; clear hT)
  go_loopw [5, 12] (fun v i wr => ∃ j : Nat, j ≤ T.length ∧ i = .int .i64 j ∧ v = .int .u32 (nv (T.take j)) ∧ wr = w0) (fun _ i _ => T.length - (intOf i).toNat)
  case atStart => exact ⟨0, Nat.zero_le _, rfl, rfl, rfl⟩
  case round =>
    obtain ⟨j, hj, rfl, rfl, rfl⟩ := hrel
    by_cases hlt : j < T.length
    · cases a0 with
      | none => exact absurd (hs0.bare rfl).1 (by omega)
      | some ad =>
        have hc := hs0.byteAt j hlt
        have hz := T[j].toNat_lt
        generalize hZ : T[j].toNat = z at *
        have hv : nv (T.take j) < 16777216 := by
          have h1 := nv_lt (T.take j)
          have h2 : (T.take j).length ≤ 3 := by simp; omega
          have h3 : 256 ^ (T.take j).length ≤ 256 ^ 3 := Nat.pow_le_pow_right (by decide) h2
          omega
        have hs1 : nv (T.take (j + 1)) = nv (T.take j) * 256 + z := by
          rw [List.take_succ_eq_append_getElem hlt, nv_snoc, hZ]
        generalize nv (T.take j) = V at *
        have HS : Hid (nv (T.take (j + 1)) = V * 256 + z) := hs1
        clear hs1 hZ
        go_wp2
        go_roundw
        case rel => exact ⟨j + 1, by omega, by go_num, by rw [HS.out, or_low V z hv hz], trivial⟩
        case measure => simp [intOf]; omega
    · go_wp2
      go_ret
      rw [HT.out]
      refine ⟨?_, hn0⟩
      show Ending.returned (Value.int .u32 (nv (T.take j))) = _
      rw [List.take_of_length_le (by omega)]

theorem nv_lt_of (l : List UInt8) (p k : Nat) (y : Int) : nv (tkB l p y k) < 256 ^ k := by
  refine Nat.lt_of_lt_of_le (nv_lt _) (Nat.pow_le_pow_right (by decide) ?_)
  unfold tkB; split <;> simp <;> omega

theorem u8_any (g : Nat) (l : List UInt8) (p : Nat) (y : Int) (w : World) (h : Rd w g bv l p y) :
    Calls Try.prog 35 #[.pointer (some ⟨g, 0, none⟩)] w fun e w' => e = .returned (.int .u8 (nv (tkB l p y 1))) ∧ Now w w' g bv l (p + (tkB l p y 1).length) (tkE l p y 1) := by
  have hlt : nv (tkB l p y 1) < 256 := by simpa using nv_lt_of l p 1 y
  go_enter Try.func35, Try.ntmps35
  go_wp2_with (go_at_call 68; refine (number_any g l p 1 y w h (by decide)).mono ?_; rintro e w0 ⟨rfl, hn0⟩)
  go_ret
  exact ⟨rfl, hn0⟩
theorem u16_any (g : Nat) (l : List UInt8) (p : Nat) (y : Int) (w : World) (h : Rd w g bv l p y) :
    Calls Try.prog 36 #[.pointer (some ⟨g, 0, none⟩)] w fun e w' => e = .returned (.int .u16 (nv (tkB l p y 2))) ∧ Now w w' g bv l (p + (tkB l p y 2).length) (tkE l p y 2) := by
  have hlt : nv (tkB l p y 2) < 65536 := by simpa using nv_lt_of l p 2 y
  go_enter Try.func36, Try.ntmps36
  go_wp2_with (go_at_call 68; refine (number_any g l p 2 y w h (by decide)).mono ?_; rintro e w0 ⟨rfl, hn0⟩)
  go_ret
  exact ⟨rfl, hn0⟩
theorem u32_any (g : Nat) (l : List UInt8) (p : Nat) (y : Int) (w : World) (h : Rd w g bv l p y) :
    Calls Try.prog 94 #[.pointer (some ⟨g, 0, none⟩)] w fun e w' => e = .returned (.int .u32 (nv (tkB l p y 4))) ∧ Now w w' g bv l (p + (tkB l p y 4).length) (tkE l p y 4) := by
  go_enter Try.func94, Try.ntmps94
  go_wp2_with (go_at_call 68; refine (number_any g l p 4 y w h (by decide)).mono ?_; rintro e w0 ⟨rfl, hn0⟩)
  go_ret
  exact ⟨rfl, hn0⟩

end Go.Proofs.Ytaleclmccmeglaa
