/-
  The law OctetPlaces returns true for every bytes and counts that lie in memory, and turns nothing that was there.
-/
import Derived.Test.YtelopplkdlbgbaaNext
import Derived.Deep.RegionHeld3
namespace Go.Proofs.Ytelopplkdlbgbaa
open Go.RowKit

/-- Bytes as a string. -/
def bs (l : List UInt8) : ByteArray := ⟨l.toArray⟩
theorem bs_size (l : List UInt8) : (bs l).size = l.length := by simp [bs, ByteArray.size]
theorem bs_append (l m : List UInt8) : bs l ++ bs m = bs (l ++ m) := by
  apply ByteArray.ext
  simp [bs, ByteArray.data_append]
theorem Src.bs {w : World} {a : Option Addr} {n c : Nat} {l : List UInt8} (h : Src w a n c (bcells l)) : (convert 22 9 (.slice a n c)).run Try.prog w = .ok (.string (Ytelopplkdlbgbaa.bs l)) w := h.str

theorem tk_zero {L : List UInt8} {p : Nat} {y x : Int} (h : tkE L p y x = 0) : y = 0 ∧ ((tkB L p y x).length : Int) = x := by
  unfold tkE at h
  split at h
  · omega
  · rename_i hy
    have hy0 : y = 0 := by omega
    subst hy0
    refine ⟨rfl, ?_⟩
    split at h
    · omega
    · split at h
      · unfold tkB
        rw [if_pos (by omega)]
        simp
        omega
      · omega
theorem tk_grow {L : List UInt8} {p : Nat} {y x : Int} (_hp : p ≤ L.length) : L.take p ++ tkB L p y x = L.take (p + (tkB L p y x).length) := by
  unfold tkB
  split
  · rename_i h
    have hl : ((L.drop p).take x.toNat).length = x.toNat := by simp; omega
    rw [hl, List.take_add]
  · simp
theorem tk_rest {L : List UInt8} {p : Nat} : tkB L p 0 ((L.length - p : Nat) : Int) = L.drop p := by
  unfold tkB
  rw [if_pos (by omega), Int.toNat_natCast]
  exact List.take_of_length_le (by simp)
theorem tk_none {L : List UInt8} {p : Nat} {y x : Int} (h : y ≠ 0) : tkB L p y x = [] := by simp [tkB, h]

/-- What OctetPlaces' reader is good for. -/
structure At (w wr : World) (g : Nat) (bv : Option Addr) (L : List UInt8) (p : Nat) (y : Int) : Prop where
  rd : Rd wr g bv L p y
  bel : Below w.heap.size w wr
  hi : w.heap.size ≤ g
theorem At.step {w wr w' : World} {g : Nat} {bv : Option Addr} {L : List UInt8} {p q : Nat} {y z : Int} (h : At w wr g bv L p y) (k : Now wr w' g bv L q z) : At w w' g bv L q z :=
  ⟨k.rd, h.bel.grown k.grown h.bel.size (fun k hk => by cases hk; exact h.hi), h.hi⟩

theorem Src.off {w w' : World} {g : Nat} {bv : Option Addr} {L : List UInt8} {q : Nat} {z : Int} {a : Option Addr} {n c : Nat} {xs : List Value} (h : Src w a n c xs) (k : Now w w' g bv L q z) (hne : ∀ ad, a = some ad → ad.block ≠ g) : Src w' a n c xs :=
  h.grown k.grown (fun ad had _ e => hne ad had (Option.some.inj e))
theorem bytes_of {g : Nat} {bv : Option Addr} {L : List UInt8} {p m : Nat} {y x z : Int} {out : List UInt8} (ho : out = tkB L p y x) (hz : z = tkE L p y x) (hm : m = out.length) {w : World} (h : Rd w g bv L p y) :
    Calls Try.prog 21 #[.pointer (some ⟨g, 0, none⟩), .int .i64 x] w fun e w' => ∃ a c, e = .returned (.slice a m c) ∧ Src w' a m c (bcells out) ∧ (∀ ad, a = some ad → ad.block ≠ g) ∧ Now w w' g bv L (p + m) z := by
  subst hm ho hz
  refine (bytes_any g L p y x w h).mono ?_
  rintro e w' ⟨a, c, rfl, hs, hge, hn⟩
  exact ⟨a, c, rfl, hs, fun ad had e => by have := hge ad had; have := h.lt; omega, hn⟩
theorem why_of {g : Nat} {bv : Option Addr} {L : List UInt8} {p : Nat} {y : Int} {w : World} (h : Rd w g bv L p y) :
    Calls Try.prog 27 #[.pointer (some ⟨g, 0, none⟩)] w fun e w' => ∃ q, e = .returned (.tuple #[.int .i64 y, .int .i64 q]) ∧ Now w w' g bv L p y :=
  (why_any g L p y w h).mono fun _ _ h => ⟨_, h.1, h.2⟩
theorem left_of {g : Nat} {bv : Option Addr} {L : List UInt8} {p f : Nat} {y : Int} (hf : f = L.length - p) {w : World} (h : Rd w g bv L p y) :
    Calls Try.prog 30 #[.pointer (some ⟨g, 0, none⟩)] w fun e w' => e = .returned (.int .i64 f) ∧ Now w w' g bv L p y := by
  subst hf
  exact left_any g L p y w h

theorem rest_of {g : Nat} {bv : Option Addr} {L : List UInt8} {p m : Nat} {y : Int} {out : List UInt8} (ho : out = tkB L p y ((L.length - p : Nat) : Int)) (hm : m = out.length) {w : World} (h : Rd w g bv L p y) :
    Calls Try.prog 23 #[.pointer (some ⟨g, 0, none⟩)] w fun e w' => ∃ a c, e = .returned (.slice a m c) ∧ Src w' a m c (bcells out) ∧ (∀ ad, a = some ad → ad.block ≠ g) ∧ Now w w' g bv L (p + m) (tkE L p y ((L.length - p : Nat) : Int)) := by
  subst hm ho
  refine (rest_any g L p y w h).mono ?_
  rintro e w' ⟨a, c, rfl, hs, hge, hn⟩
  exact ⟨a, c, rfl, hs, fun ad had e => by have := hge ad had; have := h.lt; omega, hn⟩
theorem Src.pre {w : World} {a : Option Addr} {n c : Nat} {L : List UInt8} (h : Src w a n c (bcells L)) (p : Nat) (hp : p ≤ L.length) : Src w a p c (bcells (L.take p)) := by
  refine ⟨by simp [bcells]; omega, fun ha => ?_, fun ad had j u hu => h.cell ad had j u ?_⟩
  · have := h.bare ha; have := h.blen; omega
  · unfold bcells at *
    rw [List.map_take, List.getElem?_take] at hu
    split at hu
    · exact hu
    · cases hu

set_option maxRecDepth 100000 in
set_option maxHeartbeats 1000000 in
theorem places_walk (a0 : Option Addr) (n0 c0 : Nat) (L : List UInt8) (a1 : Option Addr) (n1 c1 : Nat) (X : List Int) (w : World) (h0 : Src w a0 n0 c0 (bcells L)) (hc0 : n0 ≤ c0) (h1 : Src w a1 n1 c1 (X.map (Value.int .i64))) (b0 : n0 ≤ 20000) (b1 : n1 ≤ 60) :
    Calls Try.prog 8 #[.slice a0 n0 c0, .slice a1 n1 c1] w fun e w' => e = .returned (.bool true) ∧ Below w.heap.size w w' := by
  have HL : Hid (n0 = L.length ∧ n1 = X.length) := ⟨h0.blen, by simpa using h1.len.symm⟩
  have d0 : decide (20000 < (n0 : Int)) = false := by simp; omega
  have d1 : decide (60 < (n1 : Int)) = false := by simp; omega
  go_enter Try.func8, Try.ntmps8
  go_wp2_with (go_at_call 15; refine (new_any a0 n0 c0 L w h0 (by omega)).mono ?_; rintro e w6 ⟨g, bv, rfl, hg, hv, hr6, hb6⟩; have t : At w w6 g bv L 0 0 := ⟨hr6, hb6, hg⟩; clear hr6 hb6 hg hv)
  go_loopw [6, 7] (fun s i wr => ∃ (j p : Nat) (y : Int), j ≤ n1 ∧ i = .int .i64 j ∧ s = .string (bs (L.take p)) ∧ At w wr g bv L p y) (fun _ i _ => n1 - (intOf i).toNat)
  case atStart => exact ⟨0, 0, 0, Nat.zero_le _, rfl, rfl, t⟩
  case round =>
    clear t
    obtain ⟨j, p, y, hj, rfl, rfl, tr⟩ := hrel
    by_cases hlt : j < n1
    · cases a1 with
      | none => exact absurd (h1.bare rfl).1 (by omega)
      | some ad =>
        have hjl : j < X.length := by have := HL.out; omega
        have hcl : ∀ w' q z, At w w' g bv L q z → w'.cell? (ad.add j) = some (.int .i64 X[j]) := fun w' q z tq => (h1.below tq.bel h1.lt).cell ad rfl j _ (by simp [hjl])
        have HCL : Hid (∀ w' q z, At w w' g bv L q z → w'.cell? (ad.add j) = some (.int .i64 X[j])) := hcl
        clear hcl
        generalize X[j] = x at *
        obtain ⟨out, hout⟩ : ∃ out, Hid (out = tkB L p y x) := ⟨_, rfl⟩
        obtain ⟨z, hz⟩ : ∃ z, Hid (z = tkE L p y x) := ⟨_, rfl⟩
        obtain ⟨m, hm⟩ : ∃ m, Hid (m = out.length) := ⟨_, rfl⟩
        obtain ⟨f, hf⟩ : ∃ f, Hid (f = L.length - (p + m)) := ⟨_, rfl⟩
        have hle : p + m ≤ L.length := by rw [hm.out, hout.out]; exact tkB_len L p y x tr.rd.le
        have f1 : p + m + f ≤ n0 := by have := hf.out; have := HL.out; omega
        have f2 : n0 ≤ p + m + f := by have := hf.out; have := HL.out; omega
        have hgot : Hid (bs (L.take p) ++ bs out = bs (L.take (p + m))) := by show _ = _; rw [bs_append, hout.out, tk_grow tr.rd.le, hm.out, hout.out]
        have hzx : Hid (z = 0 → (m : Int) = x) := by intro h; rw [hm.out, hout.out]; exact (tk_zero (hz.out ▸ h)).2
        have hsz : (bs (L.take p)).size + (bs out).size ≤ 9223372036854775807 := by
          have e1 := HL.out
          have e2 := hm.out
          rw [bs_size, bs_size, List.length_take]
          omega
        have key : ((z == 0) = true ∧ ((m : Int) != x) = false) ∨ (z == 0) = false := by
          by_cases hz0 : z = 0
          · exact .inl ⟨by simpa using hz0, by simpa using hzx.out hz0⟩
          · exact .inr (by simpa using hz0)
        clear hle
        rcases key with ⟨hz1, hmx⟩ | hz1
        all_goals
          go_wp2_with (first
            | (go_at_call 28; refine (num_any _ _).mono ?_; rintro e wn ⟨rfl, rfl⟩)
            | (go_at_call 29; refine (at_any g L (p + m) z _ t5.rd).mono ?_; rintro e w6 ⟨rfl, hn6⟩; have t6 := t5.step hn6; have hc6 := HCL.out _ _ _ t6; have hcv := (hs5.off hn6 ho2.out).bs; clear t5 hn6 hs5)
            | (go_at_call 30; refine (left_of hf.out t4.rd).mono ?_; rintro e w5 ⟨rfl, hn5⟩; have t5 := t4.step hn5; have hs5 := hs4.off hn5 ho2.out; clear t4 hn5 hs4)
            | (go_at_call 29; refine (at_any g L (p + m) z _ t3.rd).mono ?_; rintro e w4 ⟨rfl, hn4⟩; have t4 := t3.step hn4; have hs4 := hs3.off hn4 ho2.out; clear t3 hn4 hs3)
            | (go_at_call 27; refine (why_of t2.rd).mono ?_; rintro e w3 ⟨wh, rfl, hn3⟩; have t3 := t2.step hn3; have hs3 := hs2.off hn3 ho2.out; clear t2 hn3 hs2)
            | (go_at_call 21; refine (bytes_of hout.out hz.out hm.out t1.rd).mono ?_; rintro e w2 ⟨a2, c2, rfl, hs2, hne2, hn2⟩; have t2 := t1.step hn2; have ho2 : Hid (∀ ad, a2 = some ad → ad.block ≠ g) := hne2; clear t1 hn2 hne2 hc1)
            | (go_at_call 29; refine (at_any g L p y _ tr.rd).mono ?_; rintro e w1 ⟨rfl, hn1⟩; have t1 := tr.step hn1; have hc1 := HCL.out _ _ _ t1; clear tr hn1))
          go_roundw
          case rel => exact ⟨j + 1, p + m, z, by omega, by go_num, by rw [hgot.out], t6⟩
          case measure => simp [intOf]; omega
    · obtain rfl : n1 = j := by omega
      have hp := tr.rd.le
      by_cases hy : y = 0
      · subst hy
        obtain ⟨m, hm⟩ : ∃ m, Hid (m = (L.drop p).length) := ⟨_, rfl⟩
        have hrest : Hid (L.drop p = tkB L p 0 ((L.length - p : Nat) : Int)) := tk_rest.symm
        have hgot : bs (L.take p) ++ bs (L.drop p) = bs L := by rw [bs_append, List.take_append_drop]
        have hsz : (bs (L.take p)).size + (bs (L.drop p)).size ≤ 9223372036854775807 := by
          have := HL.out
          rw [bs_size, bs_size, List.length_take, List.length_drop]; omega
        have hl0 : Hid (0 = L.length - (p + m)) := by have := hm.out; rw [List.length_drop] at this; show _ = _; omega
        go_wp2_with (first
            | (go_at_call 28; refine (num_any _ _).mono ?_; rintro e wn ⟨rfl, rfl⟩)
            | (go_at_call 9; refine (live_any _).mono ?_; rintro e w4 ⟨rfl, hb4⟩)
            | (go_at_call 30; refine (left_of hl0.out t2.rd).mono ?_; rintro e w3 ⟨rfl, hn3⟩; have t3 := t2.step hn3)
            | (go_at_call 23; refine (rest_of hrest.out hm.out t1.rd).mono ?_; rintro e w2 ⟨a2, c2, rfl, hs2, hne2, hn2⟩; have t2 := t1.step hn2; have hcv := hs2.bs; have hcw := (h0.below t2.bel h0.lt).bs; clear t1 hn2)
            | (go_at_call 27; refine (why_of tr.rd).mono ?_; rintro e w1 ⟨wh, rfl, hn1⟩; have t1 := tr.step hn1; clear tr hn1))
        go_ret
        exact ⟨rfl, t3.bel.trans (hb4.mono t3.bel.size)⟩
      · have hy1 : (y == 0) = false := by simpa using hy
        have hsz : (bs (L.take p)).size = p := by rw [bs_size, List.length_take]; omega
        have hrest : Hid (([] : List UInt8) = tkB L p y ((L.length - p : Nat) : Int)) := (tk_none hy).symm
        have hpc : p ≤ c0 := by have := HL.out; omega
        cases a0
        all_goals
          go_wp2_with (first
            | (go_at_call 28; refine (num_any _ _).mono ?_; rintro e wn ⟨rfl, rfl⟩)
            | (go_at_call 9; refine (live_any _).mono ?_; rintro e w3 ⟨rfl, hb3⟩)
            | (go_at_call 23; refine (rest_of hrest.out rfl t1.rd).mono ?_; rintro e w2 ⟨a2, c2, rfl, hs2, hne2, hn2⟩; have t2 := t1.step hn2; have hcv := ((h0.below t2.bel h0.lt).pre p hp).bs; clear t1 hn2)
            | (go_at_call 27; refine (why_of tr.rd).mono ?_; rintro e w1 ⟨wh, rfl, hn1⟩; have t1 := tr.step hn1; clear tr hn1))
          go_ret
          exact ⟨rfl, t2.bel.trans (hb3.mono t2.bel.size)⟩

theorem places_long (a0 : Option Addr) (n0 c0 : Nat) (a1 : Option Addr) (n1 c1 : Nat) (w : World) (h : 20000 < n0 ∨ 60 < n1) :
    Calls Try.prog 8 #[.slice a0 n0 c0, .slice a1 n1 c1] w fun e w' => e = .returned (.bool true) ∧ Below w.heap.size w w' := by
  by_cases h0 : 20000 < n0
  · go_enter Try.func8, Try.ntmps8
    go_wp2_with (go_at_call 9; refine (live_any _).mono ?_; rintro e w' ⟨rfl, hb⟩)
    go_ret
    exact ⟨rfl, hb⟩
  · have h1 : 60 < n1 := by omega
    clear h
    go_enter Try.func8, Try.ntmps8
    go_wp2_with (go_at_call 9; refine (live_any _).mono ?_; rintro e w' ⟨rfl, hb⟩)
    go_ret
    exact ⟨rfl, hb⟩
end Go.Proofs.Ytelopplkdlbgbaa
