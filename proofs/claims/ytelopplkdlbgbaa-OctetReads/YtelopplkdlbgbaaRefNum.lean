/-
  The contracts of the reference reader's Num and Rest for every reader that is there.
-/
import Derived.Test.YtelopplkdlbgbaaRefBytes
import Derived.Deep.RegionWith
namespace Go.Proofs.Ytelopplkdlbgbaa
open Go.RowKit
variable {bv : Option Addr}

theorem rnum_any (g : Nat) (l : List UInt8) (p k : Nat) (y s : Int) (w : World) (h : RR w g bv l p y s) (hk : k ≤ 4) :
    Calls Try.prog 18 #[.pointer (some ⟨g, 0, none⟩), .int .i64 k] w fun e w' => e = .returned (.int .u32 (nv (tkB l p y k))) ∧ RNow w w' g bv l (p + (tkB l p y k).length) (tkE l p y k) (spT l p y s k) := by
  have ht4 : (tkB l p y k).length ≤ 4 := by unfold tkB; split <;> simp <;> omega
  have hC : Calls Try.prog 22 #[.pointer (some ⟨g, 0, none⟩), .int .i64 k] w fun e w' => ∃ a m c, e = .returned (.slice a m c) ∧ Src w' a m c (bcells (tkB l p y k)) ∧ RNow w w' g bv l (p + (tkB l p y k).length) (tkE l p y k) (spT l p y s k) := by
    refine (rbytes_any g l p y s k w h).mono ?_
    rintro e w' ⟨a, m, c, rfl, hs, _, hn⟩
    exact ⟨a, m, c, rfl, hs, hn⟩
  generalize tkB l p y k = T at *
  generalize tkE l p y k = E at *
  generalize spT l p y s k = P at *
  go_enter Try.func18, Try.ntmps18
  go_wp2_with (go_at_call 22; refine hC.mono ?_; rintro e w0 ⟨a0, m0, c0, rfl, hs0, hn0⟩; clear hC)
  have hm0 := hs0.blen
  have HM : Hid (m0 = T.length) := hm0
  have hm4 : m0 ≤ 4 := by omega
  clear hm0 ht4
  go_loopw [5, 7] (fun v i wr => ∃ j : Nat, j ≤ m0 ∧ i = .int .i64 j ∧ v = .int .u32 (nv (T.take j)) ∧ w0 = wr) (fun _ i _ => m0 - (intOf i).toNat)
  case atStart => exact ⟨0, Nat.zero_le _, rfl, rfl, rfl⟩
  case round =>
    obtain ⟨j, hj, rfl, rfl, rfl⟩ := hrel
    by_cases hlt : j < m0
    · cases a0 with
      | none => exact absurd (hs0.bare rfl).1 (by omega)
      | some ad =>
        have hjl : j < T.length := by have := HM.out; omega
        have hc := hs0.byteAt j hjl
        have hz := T[j].toNat_lt
        generalize hZ : T[j].toNat = z at *
        have hv : nv (T.take j) < 16777216 := by
          have h1 := nv_lt (T.take j)
          have h2 : (T.take j).length ≤ 3 := by simp; omega
          have h3 : 256 ^ (T.take j).length ≤ 256 ^ 3 := Nat.pow_le_pow_right (by decide) h2
          omega
        have hs1 : nv (T.take (j + 1)) = nv (T.take j) * 256 + z := by
          rw [List.take_succ_eq_append_getElem hjl, nv_snoc, hZ]
        generalize nv (T.take j) = V at *
        have HS : Hid (nv (T.take (j + 1)) = V * 256 + z) := hs1
        clear hs1 hZ
        go_wp2
        go_roundw
        case rel => exact ⟨j + 1, by omega, by go_num, by rw [HS.out, or_low V z hv hz], trivial⟩
        case measure => simp [intOf]; omega
    · go_wp2
      go_ret
      refine ⟨?_, hn0⟩
      have e : T.take j = T := List.take_of_length_le (by have := HM.out; omega)
      show Ending.returned (Value.int .u32 (nv (T.take j))) = _
      rw [e]

set_option maxHeartbeats 2000000 in
theorem rrest_any (g : Nat) (l : List UInt8) (p : Nat) (y s : Int) (w : World) (h : RR w g bv l p y s) :
    Calls Try.prog 24 #[.pointer (some ⟨g, 0, none⟩)] w (RTook w g bv l p y s ((l.length - p : Nat) : Int)) := by
  obtain ⟨c, c0, c1, c2, c3, hf, hc, hs⟩ := h.cells
  clear hf
  have hle := h.le
  have hbig := h.big
  have e : ((l.length - p : Nat) : Int) = (l.length : Int) - (p : Int) := by omega
  have hC : Calls Try.prog 22 #[.pointer (some ⟨g, 0, none⟩), .int .i64 ((l.length : Int) - (p : Int))] w.drew fun e w' => ∃ a m c, e = .returned (.slice a m c) ∧ RTook w g bv l p y s ((l.length - p : Nat) : Int) (.returned (.slice a m c)) w' := by
    have hq := rbytes_any g l p y s ((l.length - p : Nat) : Int) _ (show RR w.drew g bv l p y s from (h.drewN 1).rd)
    rw [e] at hq
    refine hq.mono ?_
    rintro e' w' ⟨a, m, c, rfl, hs, hz, hn⟩
    rw [e]
    exact ⟨a, m, c, rfl, a, m, c, rfl, hs, fun ad had => hz ad had, ⟨hn.rd, grownBy_trans (grownBy_drewN w 1 _) hn.grown⟩⟩
  have HC : Hid (Calls Try.prog 22 #[.pointer (some ⟨g, 0, none⟩), .int .i64 ((l.length : Int) - (p : Int))] w.drew fun e w' => ∃ a m c, e = .returned (.slice a m c) ∧ RTook w g bv l p y s ((l.length - p : Nat) : Int) (.returned (.slice a m c)) w') := hC
  clear hC e
  have x1 : IntKind.i64.wrap ((l.length : Int) - (p : Int)) = (l.length : Int) - (p : Int) := by rw [IntKind.wrap_i64]; omega
  go_enter Try.func24, Try.ntmps24
  go_wp2
  go_region_with ((go_at_call 22; refine HC.out.mono ?_; rintro e w1 ⟨a1, m1, d1, rfl, ht⟩))
  all_goals
    go_wp2
    go_ret
    exact ht
end Go.Proofs.Ytelopplkdlbgbaa
