/-
  The law OctetBack returns true for every three lists that lie in memory, and turns nothing that was there.
-/
import Derived.Test.YtelopplkdlbgbaaNext
namespace Go.Proofs.Ytelopplkdlbgbaa
open Go.RowKit

theorem Laid.src {w w' : World} {l : List UInt8} {e : Ending} (h : Laid w l e w') : ∃ a n c, e = .returned (.slice a n c) ∧ Src w' a n c (bcells l) ∧ Below w.heap.size w w' := by
  obtain ⟨a, c, rfl, hown, hb⟩ := h
  obtain ⟨_, _, hv, hs, _⟩ := Src.ofOwn hown
  cases hv
  exact ⟨a, _, c, rfl, hs, hb⟩

theorem back_long (a0 : Option Addr) (n0 c0 : Nat) (a1 : Option Addr) (n1 c1 : Nat) (a2 : Option Addr) (n2 c2 : Nat) (w : World) (h : 60 < n0 ∨ 60 < n1 ∨ 60 < n2) :
    Calls Try.prog 5 #[.slice a0 n0 c0, .slice a1 n1 c1, .slice a2 n2 c2] w fun e w' => e = .returned (.bool true) ∧ Below w.heap.size w w' := by
  by_cases h0 : 60 < n0
  · go_enter Try.func5, Try.ntmps5
    go_wp2_with (go_at_call 9; refine (live_any _).mono ?_; rintro e w' ⟨rfl, hb⟩)
    go_ret
    exact ⟨rfl, hb⟩
  · by_cases h1 : 60 < n1
    · go_enter Try.func5, Try.ntmps5
      go_wp2_with (go_at_call 9; refine (live_any _).mono ?_; rintro e w' ⟨rfl, hb⟩)
      go_ret
      exact ⟨rfl, hb⟩
    · have h2 : 60 < n2 := by omega
      clear h
      go_enter Try.func5, Try.ntmps5
      go_wp2_with (go_at_call 9; refine (live_any _).mono ?_; rintro e w' ⟨rfl, hb⟩)
      go_ret
      exact ⟨rfl, hb⟩

/-- What OctetBack's reader is good for, at place p. -/
structure BackAt (w wr : World) (g : Nat) (bv : Option Addr) (L : List UInt8) (p : Nat) : Prop where
  rd : Rd wr g bv L p 0
  bel : Below w.heap.size w wr
  hi : w.heap.size ≤ g
theorem BackAt.step {w wr w' : World} {g : Nat} {bv : Option Addr} {L : List UInt8} {p q : Nat} (h : BackAt w wr g bv L p) (k : Now wr w' g bv L q 0) : BackAt w w' g bv L q :=
  ⟨k.rd, h.bel.grown k.grown h.bel.size (fun k hk => by cases hk; exact h.hi), h.hi⟩
theorem BackAt.drew {w wr : World} {g : Nat} {bv : Option Addr} {L : List UInt8} {p : Nat} (h : BackAt w wr g bv L p) : BackAt w wr.drew g bv L p := h.step (h.rd.drewN 1)

set_option maxHeartbeats 1000000 in
theorem back_walk (a0 : Option Addr) (n0 c0 : Nat) (l : List UInt8) (a1 : Option Addr) (n1 c1 : Nat) (m : List UInt16) (a2 : Option Addr) (n2 c2 : Nat) (k : List UInt32) (w : World) (h0 : Src w a0 n0 c0 (bcells l)) (h1 : Src w a1 n1 c1 (hcells m)) (h2 : Src w a2 n2 c2 (wcells k)) (b0 : n0 ≤ 60) (b1 : n1 ≤ 60) (b2 : n2 ≤ 60) :
    Calls Try.prog 5 #[.slice a0 n0 c0, .slice a1 n1 c1, .slice a2 n2 c2] w fun e w' => e = .returned (.bool true) ∧ Below w.heap.size w w' := by
  have HL : Hid (n0 = l.length ∧ n1 = m.length ∧ n2 = k.length) := ⟨h0.blen, h1.hlen, h2.wlen⟩
  have d0 : decide (60 < (n0 : Int)) = false := by simp; omega
  have d1 : decide (60 < (n1 : Int)) = false := by simp; omega
  have d2 : decide (60 < (n2 : Int)) = false := by simp; omega
  obtain ⟨L, hL⟩ : ∃ L, Hid (L = (l ++ m.flatMap be16) ++ k.flatMap be32) := ⟨_, rfl⟩
  have hLl : Hid (L.length = n0 + 2 * n1 + 4 * n2) := by have h := HL.out; show _ = _; rw [hL.out]; simp only [List.length_append, be16_len, be32_len]; omega
  go_enter Try.func5, Try.ntmps5
  go_wp2_with (first
    | (go_at_call 15; refine (new_any a5 n5 c5 L w5 (by rw [hL.out]; exact hs5) (by have := hLl.out; have h5 := hs5.blen; rw [← hL.out] at h5; omega)).mono ?_; rintro e w6 ⟨g, bv, rfl, hg, hv, hr6, hb6⟩; have t : BackAt w w6 g bv L 0 := ⟨hr6, hk5.trans (hb6.mono hk5.size), Nat.le_trans hk5.size hg⟩; clear hr6 hb6 hg hv hs5 hk5)
    | (go_at_call 13; refine (put32_any a4 n4 c4 _ a2 n2 c2 k w4 hs4 (h2.below hk4 h2.lt) (by have := HL.out; have h4 := hs4.blen; simp only [List.length_append, be16_len] at h4; omega)).mono ?_; intro e w5 hlaid5; obtain ⟨a5, n5, c5, rfl, hs5, hb5⟩ := hlaid5.src; have hk5 := hk4.trans (hb5.mono hk4.size); clear hs4 hk4 hb5 hlaid5)
    | (go_at_call 12; refine (put16_any a3 n3 c3 l a1 n1 c1 m w3 hs3 (h1.below hb3 h1.lt) (by have := HL.out; have h3 : n3 = l.length := hs3.blen; omega)).mono ?_; intro e w4 hlaid4; obtain ⟨a4, n4, c4, rfl, hs4, hb4⟩ := hlaid4.src; have hk4 := hb3.trans (hb4.mono hb3.size); clear hs3 hb3 hb4 hlaid4)
    | (go_at_call 11; refine (put8_any none 0 0 [] a0 n0 c0 l w (Src.nil w) h0 (by omega)).mono ?_; intro e w3 hlaid3; obtain ⟨a3, n3, c3, rfl, hs3, hb3⟩ := hlaid3.src; clear hlaid3))
  go_loopw [8] (fun i wr => ∃ j : Nat, j ≤ n0 ∧ i = .int .i64 j ∧ BackAt w wr g bv L j) (fun i _ => n0 - (intOf i).toNat)
  case atStart => exact ⟨0, Nat.zero_le _, rfl, t⟩
  case round =>
    clear t
    obtain ⟨j, hj, rfl, tr⟩ := hrel
    by_cases hlt : j < n0
    · cases a0 with
      | none => exact absurd (h0.bare rfl).1 (by omega)
      | some ad =>
        have hjl : j < l.length := by have := HL.out; omega
        have hcl : ∀ w' q, BackAt w w' g bv L q → w'.cell? (ad.add j) = some (.int .u8 (l[j].toNat : Int)) := fun w' q tq => (h0.below tq.bel h0.lt).byteAt j hjl
        have hc := hcl _ _ tr
        have HNX : Hid (∀ w0, Rd w0 g bv L j 0 → Calls Try.prog 17 #[.pointer (some ⟨g, 0, none⟩)] w0 fun e w' => e = .returned (.int .u8 (l[j].toNat : Int)) ∧ Now w0 w' g bv L (j + 1) 0) := fun w0 hr => next8 l (m.flatMap be16 ++ k.flatMap be32) (by rw [hL.out, List.append_assoc]) hjl hr
        have HCL : Hid (∀ w' q, BackAt w w' g bv L q → w'.cell? (ad.add j) = some (.int .u8 (l[j].toNat : Int))) := hcl
        clear hcl
        generalize l[j].toNat = z at *
        go_wp2
        go_region_with ((go_at_call 17; refine (HNX.out _ (by first | exact tr.rd | exact tr.drew.rd)).mono ?_; rintro e w7 ⟨rfl, hn7⟩; have t7 := (by first | exact tr.step hn7 | exact tr.drew.step hn7 : BackAt w w7 g bv L (j + 1)); have hc7 := HCL.out _ _ t7))
        all_goals
          go_wp2
          go_roundw
          case rel => exact ⟨j + 1, by omega, by go_num, t7⟩
          case measure => simp [intOf]; omega
    · obtain rfl : n0 = j := by omega
      go_wp2
      go_loopw [9] (fun i wr => ∃ j : Nat, j ≤ n1 ∧ i = .int .i64 j ∧ BackAt w wr g bv L (n0 + 2 * j)) (fun i _ => n1 - (intOf i).toNat)
      case atStart => exact ⟨0, Nat.zero_le _, rfl, tr⟩
      case round =>
        clear tr
        obtain ⟨j, hj, rfl, tr⟩ := hrel
        by_cases hlt : j < n1
        · cases a1 with
          | none => exact absurd (h1.bare rfl).1 (by omega)
          | some ad =>
            have hjl : j < m.length := by have := HL.out; omega
            have hcl : ∀ w' q, BackAt w w' g bv L q → w'.cell? (ad.add j) = some (.int .u16 (m[j].toNat : Int)) := fun w' q tq => (h1.below tq.bel h1.lt).halfAt j hjl
            have hc := hcl _ _ tr
            have HNX : Hid (∀ w0, Rd w0 g bv L (n0 + 2 * j) 0 → Calls Try.prog 19 #[.pointer (some ⟨g, 0, none⟩)] w0 fun e w' => e = .returned (.int .u16 (m[j].toNat : Int)) ∧ Now w0 w' g bv L (n0 + 2 * j + 2) 0) := fun w0 hr => next16 l m (k.flatMap be32) j hL.out hjl (by rw [HL.out.1]) hr
            have HCL : Hid (∀ w' q, BackAt w w' g bv L q → w'.cell? (ad.add j) = some (.int .u16 (m[j].toNat : Int))) := hcl
            clear hcl
            generalize m[j].toNat = z at *
            go_wp2
            go_region_with ((go_at_call 19; refine (HNX.out _ (by first | exact tr.rd | exact tr.drew.rd)).mono ?_; rintro e w7 ⟨rfl, hn7⟩; have t7 := (by first | exact tr.step hn7 | exact tr.drew.step hn7 : BackAt w w7 g bv L (n0 + 2 * j + 2)); have hc7 := HCL.out _ _ t7))
            all_goals
              go_wp2
              go_roundw
              case rel => exact ⟨j + 1, by omega, by go_num, t7⟩
              case measure => simp [intOf]; omega
        · obtain rfl : n1 = j := by omega
          go_wp2
          go_loopw [10] (fun i wr => ∃ j : Nat, j ≤ n2 ∧ i = .int .i64 j ∧ BackAt w wr g bv L (n0 + 2 * n1 + 4 * j)) (fun i _ => n2 - (intOf i).toNat)
          case atStart => exact ⟨0, Nat.zero_le _, rfl, tr⟩
          case round =>
            clear tr
            obtain ⟨j, hj, rfl, tr⟩ := hrel
            by_cases hlt : j < n2
            · cases a2 with
              | none => exact absurd (h2.bare rfl).1 (by omega)
              | some ad =>
                have hjl : j < k.length := by have := HL.out; omega
                have hcl : ∀ w' q, BackAt w w' g bv L q → w'.cell? (ad.add j) = some (.int .u32 (k[j].toNat : Int)) := fun w' q tq => (h2.below tq.bel h2.lt).wordAt j hjl
                have hc := hcl _ _ tr
                have HNX : Hid (∀ w0, Rd w0 g bv L (n0 + 2 * n1 + 4 * j) 0 → Calls Try.prog 20 #[.pointer (some ⟨g, 0, none⟩)] w0 fun e w' => e = .returned (.int .u32 (k[j].toNat : Int)) ∧ Now w0 w' g bv L (n0 + 2 * n1 + 4 * j + 4) 0) := fun w0 hr => next32 (l ++ m.flatMap be16) k [] j (by rw [List.append_nil]; exact hL.out) hjl (by rw [List.length_append, be16_len, ← HL.out.1, ← HL.out.2.1]) hr
                have HCL : Hid (∀ w' q, BackAt w w' g bv L q → w'.cell? (ad.add j) = some (.int .u32 (k[j].toNat : Int))) := hcl
                clear hcl
                generalize k[j].toNat = z at *
                go_wp2
                go_region_with ((go_at_call 20; refine (HNX.out _ (by first | exact tr.rd | exact tr.drew.rd)).mono ?_; rintro e w7 ⟨rfl, hn7⟩; have t7 := (by first | exact tr.step hn7 | exact tr.drew.step hn7 : BackAt w w7 g bv L (n0 + 2 * n1 + 4 * j + 4)); have hc7 := HCL.out _ _ t7))
                all_goals
                  go_wp2
                  go_roundw
                  case rel => exact ⟨j + 1, by omega, by go_num, t7⟩
                  case measure => simp [intOf]; omega
            · obtain rfl : n2 = j := by omega
              go_wp2_with (first
                | (go_at_call 31; refine (done_end (by rw [hLl.out]) tr.rd).mono ?_; rintro e w8 ⟨rfl, hn8⟩; have t8 := tr.step hn8)
                | (go_at_call 28; refine (num_any _ _).mono ?_; rintro e wn ⟨rfl, rfl⟩)
                | (go_at_call 9; refine (live_any w8).mono ?_; rintro e w9 ⟨rfl, hb9⟩))
              go_ret
              exact ⟨rfl, t8.bel.trans (hb9.mono t8.bel.size)⟩
end Go.Proofs.Ytelopplkdlbgbaa
