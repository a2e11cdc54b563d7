/-
  The law OctetReads returns true for every bytes and steps that lie in memory, and turns nothing that was there.
-/
import Derived.Test.YtelopplkdlbgbaaBoth
import Derived.Deep.RegionWith
namespace Go.Proofs.Ytelopplkdlbgbaa
open Go.RowKit
set_option linter.unusedSimpArgs false

/-- The cells of steps. -/
def stcells (X : List (Int × Int)) : List Value := X.flatMap fun q => [.int .i64 q.1, .int .i64 q.2]

theorem xor_byte (z : Nat) (h : z < 256) : ∃ x : Nat, x < 256 ∧ bits BinOp.xor IntKind.u8 (z : Int) 85 = (x : Int) := by
  refine ⟨z ^^^ 85, Nat.xor_lt_two_pow (n := 8) h (by decide), ?_⟩
  have := u8_xor_nat z 85 (by omega) (by decide)
  simpa using this

/-- The row that was handed to New, scrambled: it is there, apart from both readers. -/
structure Given (w wr : World) (v : Value) (n : Nat) (g1 : Nat) (b1 : Option Addr) (g2 : Nat) (b2 : Option Addr) (L : List UInt8) : Prop where
  both : Both w wr g1 b1 g2 b2 L 0 0 0
  own : ∃ cs, wr.ownsRow w.heap.size 5 1 v n cs ∧ ∀ u ∈ cs, ∃ z : Nat, z < 256 ∧ u = .int .u8 z
  far : ∀ k, v.ownBlock = some k → k ≠ g1 ∧ k ≠ g2 ∧ (∀ ad, b1 = some ad → L ≠ [] → ad.block ≠ k) ∧ (∀ ad, b2 = some ad → L ≠ [] → ad.block ≠ k)

theorem Given.at' {w wr : World} {v : Value} {n : Nat} {g1 : Nat} {b1 : Option Addr} {g2 : Nat} {b2 : Option Addr} {L : List UInt8} (h : Given w wr v n g1 b1 g2 b2 L) (j : Nat) (hj : j < n) : ∃ gg cap z, v = .slice (some ⟨gg, 0, none⟩) n cap ∧ z < 256 ∧ wr.cell? ⟨gg, j, none⟩ = some (.int .u8 (z : Nat)) ∧ wr.frozen? ⟨gg, j, none⟩ = false ∧ ∀ x : Nat, x < 256 → Given w (wr.setCell ⟨gg, j, none⟩ (.int .u8 x)) v n g1 b1 g2 b2 L := by
  obtain ⟨cs, ho, hz⟩ := h.own
  rcases ho.2 with ⟨h1, h2⟩ | ⟨gg, cap, cur, rfl, hb, hh, hr⟩
  · omega
  have hl := ho.1
  have hc := ho.cellAt j (by omega)
  have hjc : j < cs.length := by omega
  rw [List.getElem?_eq_getElem hjc] at hc
  obtain ⟨z, hz1, hz2⟩ := hz cs[j] (List.getElem_mem hjc)
  refine ⟨gg, cap, z, rfl, hz1, by rw [hc, hz2], ho.frozenAt j, fun x hx => ?_⟩
  obtain ⟨f1, f2, f3, f4⟩ := h.far gg rfl
  have hg := grownBy_setCell wr gg j (.int .u8 (x : Int))
  refine ⟨⟨h.both.r1.kept hg (fun e => f1 (Option.some.inj e).symm) (fun ad had hl e => f3 ad had hl (Option.some.inj e)), h.both.r2.kept hg (fun e => f2 (Option.some.inj e).symm) (fun ad had hl e => f4 ad had hl (Option.some.inj e)), h.both.ne, h.both.n1, h.both.n2, h.both.l1, h.both.l2, h.both.bel.setCell hb _, h.both.sp⟩, ?_, h.far⟩
  refine ⟨_, (ho.stored j _).1, fun u hu => ?_⟩
  rcases List.mem_or_eq_of_mem_set hu with hu | rfl
  · exact hz u hu
  · exact ⟨x, hx, rfl⟩

theorem given_start {w w4 w5 w6 : World} {n0 : Nat} {aw : Option Addr} {cw : Nat} {g1 : Nat} {b1 : Option Addr} {g2 : Nat} {b2 : Option Addr} {L : List UInt8} (hb4 : Below w.heap.size w w4) (ho4 : w4.ownsRow w.heap.size 5 1 (.slice aw n0 cw) n0 (bcells L))
    (hg1 : w4.heap.size ≤ g1) (hv1 : ∀ ad, b1 = some ad → w4.heap.size ≤ ad.block) (hr1 : Rd w5 g1 b1 L 0 0) (hb5 : Below w4.heap.size w4 w5) (hg2 : w5.heap.size ≤ g2) (hv2 : ∀ ad, b2 = some ad → w5.heap.size ≤ ad.block) (hr2 : RR w6 g2 b2 L 0 0 0) (hb6 : Below w5.heap.size w5 w6) : Given w w6 (.slice aw n0 cw) n0 g1 b1 g2 b2 L := by
  have s4 := hb4.size
  have s5 := hb5.size
  have l1 := hr1.lt
  refine ⟨⟨hr1.below hb6, hr2, by omega, fun ad had hl e => ?_, fun ad had hl e => ?_, by omega, by omega, (hb4.trans (hb5.mono s4)).trans (hb6.mono (by omega)), by simp⟩, ⟨bcells L, ?_, fun u hu => ?_⟩, fun k hk => ?_⟩
  · have := hr1.blt hl ad had
    omega
  · have := hv2 ad had
    omega
  · have k5 := ho4.kept (grownBy_below none hb5) (by cases (Value.slice aw n0 cw).ownBlock <;> simp)
    exact k5.kept (grownBy_below none hb6) (by cases (Value.slice aw n0 cw).ownBlock <;> simp)
  · obtain ⟨b, _, rfl⟩ := List.mem_map.1 hu
    exact ⟨b.toNat, b.toNat_lt, rfl⟩
  · have hk4 := (ho4.lt k hk).2
    refine ⟨by omega, by omega, fun ad had _ e => ?_, fun ad had _ e => ?_⟩
    · have := hv1 ad had; omega
    · have := hv2 ad had; omega

theorem stc (X : List (Int × Int)) : ∀ j (h : j < X.length), (stcells X)[j * 2]? = some (.int .i64 X[j].1) ∧ (stcells X)[j * 2 + 1]? = some (.int .i64 X[j].2) := by
  induction X with
  | nil => intro j h; simp at h
  | cons q X ih =>
    intro j h
    cases j with
    | zero => simp [stcells]
    | succ j =>
      have := ih j (by simpa using h)
      have e : stcells (q :: X) = [.int .i64 q.1, .int .i64 q.2] ++ stcells X := by simp [stcells]
      rw [e]
      constructor
      · rw [List.getElem?_append_right (by simp; omega)]
        have e2 : (j + 1) * 2 - [Value.int IntKind.i64 q.1, Value.int IntKind.i64 q.2].length = j * 2 := by simp; omega
        rw [e2]
        simpa using this.1
      · rw [List.getElem?_append_right (by simp; omega)]
        have e2 : (j + 1) * 2 + 1 - [Value.int IntKind.i64 q.1, Value.int IntKind.i64 q.2].length = j * 2 + 1 := by simp; omega
        rw [e2]
        simpa using this.2
theorem add_one (a : Addr) (i : Nat) : a.add (i + 1) = ⟨(a.add i).block, (a.add i).off + 1, none⟩ := by
  unfold Addr.add
  by_cases hp : i = 0 <;> simp [hp, Nat.add_assoc]
theorem step_cells {w w' : World} {ad : Addr} {X : List (Int × Int)} {j : Nat} (h : ∀ a, some ad = some a → ∀ j u, (stcells X)[j]? = some u → w.cell? (a.add j) = some u) (hb : Below w.heap.size w w') (hj : j < X.length) : w'.cell? (ad.add (j * 2)) = some (.int .i64 X[j].1) ∧ w'.cell? (ad.add (j * 2 + 1)) = some (.int .i64 X[j].2) := by
  have h1 := h ad rfl _ _ (stc X j hj).1
  have h2 := h ad rfl _ _ (stc X j hj).2
  exact ⟨(hb.cell (block_lt_of_cell h1)).trans h1, (hb.cell (block_lt_of_cell h2)).trans h2⟩
theorem why_two {w wr : World} {g1 : Nat} {b1 : Option Addr} {g2 : Nat} {b2 : Option Addr} {L : List UInt8} {q : Nat} {z t : Int} (h : Both w wr g1 b1 g2 b2 L q z t) : Calls Try.prog 27 #[.pointer (some ⟨g1, 0, none⟩)] wr fun e w' => e = .returned (.tuple #[.int .i64 z, .int .i64 t]) ∧ Both w w' g1 b1 g2 b2 L q z t := by
  have hw := why_drew g1 L q z wr h.r1
  rw [← h.sp] at hw
  refine hw.mono ?_
  rintro e w' ⟨rfl, n, rfl⟩
  exact ⟨rfl, h.drewN n⟩
theorem left_two {w wr : World} {g1 : Nat} {b1 : Option Addr} {g2 : Nat} {b2 : Option Addr} {L : List UInt8} {q n0 : Nat} {z t : Int} (hn : n0 = L.length) (h : Both w wr g1 b1 g2 b2 L q z t) : Calls Try.prog 30 #[.pointer (some ⟨g1, 0, none⟩)] wr fun e w' => e = .returned (.int .i64 ((n0 : Int) - (q : Int))) ∧ ∃ n, w' = wr.drewN n := by
  have hl := left_drew g1 L q z wr h.r1
  have e : ((L.length - q : Nat) : Int) = (n0 : Int) - (q : Int) := by have := h.r1.le; omega
  rw [e] at hl
  exact hl
theorem Both.one {w wr u : World} {g1 : Nat} {b1 : Option Addr} {g2 : Nat} {b2 : Option Addr} {L : List UInt8} {p q : Nat} {y s z : Int} (h : Both w wr g1 b1 g2 b2 L p y s) (k1 : Now wr u g1 b1 L q z) : Below w.heap.size w u :=
  h.bel.grown k1.grown h.bel.size (fun k hk => by cases hk; exact h.l1)
theorem two_b {g1 : Nat} {b1 : Option Addr} {g2 : Nat} {b2 : Option Addr} {L : List UInt8} {p : Nat} {y s n : Int} (hs : s = if y = 0 then 0 else (p : Int)) : ∃ (T : List UInt8) (q : Nat) (z t : Int), (∀ w', Rd w' g1 b1 L p y → Calls Try.prog 21 #[.pointer (some ⟨g1, 0, none⟩), .int .i64 n] w' fun e u => ∃ a m c, e = .returned (.slice a m c) ∧ Src u a m c (bcells T) ∧ (∀ ad, a = some ad → w'.heap.size ≤ ad.block) ∧ Now w' u g1 b1 L q z) ∧
    (∀ w', RR w' g2 b2 L p y s → Calls Try.prog 22 #[.pointer (some ⟨g2, 0, none⟩), .int .i64 n] w' fun e u => ∃ a m c, e = .returned (.slice a m c) ∧ Src u a m c (bcells T) ∧ RNow w' u g2 b2 L q z t) ∧ t = if z = 0 then 0 else (q : Int) := by
  refine ⟨tkB L p y n, p + (tkB L p y n).length, tkE L p y n, spT L p y s n, fun w' h => ?_, fun w' h => ?_, sp_take hs⟩
  · refine (bytes_any g1 L p y n w' h).mono ?_
    rintro e u ⟨a, c, rfl, h1, h2, h3⟩
    exact ⟨a, _, c, rfl, h1, h2, h3⟩
  · refine (rbytes_any g2 L p y s n w' h).mono ?_
    rintro e u ⟨a, m, c, rfl, h1, _, h3⟩
    exact ⟨a, m, c, rfl, h1, h3⟩
theorem two_r {g1 : Nat} {b1 : Option Addr} {g2 : Nat} {b2 : Option Addr} {L : List UInt8} {p : Nat} {y s : Int} (hs : s = if y = 0 then 0 else (p : Int)) : ∃ (T : List UInt8) (q : Nat) (z t : Int), (∀ w', Rd w' g1 b1 L p y → Calls Try.prog 23 #[.pointer (some ⟨g1, 0, none⟩)] w' fun e u => ∃ a m c, e = .returned (.slice a m c) ∧ Src u a m c (bcells T) ∧ (∀ ad, a = some ad → w'.heap.size ≤ ad.block) ∧ Now w' u g1 b1 L q z) ∧
    (∀ w', RR w' g2 b2 L p y s → Calls Try.prog 24 #[.pointer (some ⟨g2, 0, none⟩)] w' fun e u => ∃ a m c, e = .returned (.slice a m c) ∧ Src u a m c (bcells T) ∧ RNow w' u g2 b2 L q z t) ∧ t = if z = 0 then 0 else (q : Int) := by
  refine ⟨tkB L p y ((L.length - p : Nat) : Int), p + (tkB L p y ((L.length - p : Nat) : Int)).length, tkE L p y ((L.length - p : Nat) : Int), spT L p y s ((L.length - p : Nat) : Int), fun w' h => ?_, fun w' h => ?_, sp_take hs⟩
  · refine (rest_any g1 L p y w' h).mono ?_
    rintro e u ⟨a, c, rfl, h1, h2, h3⟩
    exact ⟨a, _, c, rfl, h1, h2, h3⟩
  · refine (rrest_any g2 L p y s w' h).mono ?_
    rintro e u ⟨a, m, c, rfl, h1, _, h3⟩
    exact ⟨a, m, c, rfl, h1, h3⟩
theorem sp_fail {p : Nat} {y s v : Int} (h : s = if y = 0 then 0 else (p : Int)) : (if y = 0 ∧ v ≠ 0 then (p : Int) else s) = if (if y = 0 then v else y) = 0 then 0 else (p : Int) := by
  by_cases hy : y = 0
  · by_cases hv : v = 0
    · simp [hy, hv, h]
    · simp [hy, hv]
  · simp [hy, h]
theorem two_8 {g1 : Nat} {b1 : Option Addr} {g2 : Nat} {b2 : Option Addr} {L : List UInt8} {p : Nat} {y s : Int} (hs : s = if y = 0 then 0 else (p : Int)) : ∃ (V q : Nat) (z t : Int), V < 256 ∧ (∀ w', Rd w' g1 b1 L p y → Calls Try.prog 17 #[.pointer (some ⟨g1, 0, none⟩)] w' fun e u => e = .returned (.int .u8 (V : Nat)) ∧ Now w' u g1 b1 L q z) ∧
    (∀ w', RR w' g2 b2 L p y s → Calls Try.prog 18 #[.pointer (some ⟨g2, 0, none⟩), .int .i64 1] w' fun e u => e = .returned (.int .u32 (V : Nat)) ∧ RNow w' u g2 b2 L q z t) ∧ t = if z = 0 then 0 else (q : Int) :=
  ⟨_, _, _, _, by simpa using nv_lt_of L p 1 y, fun w' h => u8_any g1 L p y w' h, fun w' h => rnum_any g2 L p 1 y s w' h (by decide), sp_take hs⟩
theorem two_16 {g1 : Nat} {b1 : Option Addr} {g2 : Nat} {b2 : Option Addr} {L : List UInt8} {p : Nat} {y s : Int} (hs : s = if y = 0 then 0 else (p : Int)) : ∃ (V q : Nat) (z t : Int), V < 65536 ∧ (∀ w', Rd w' g1 b1 L p y → Calls Try.prog 19 #[.pointer (some ⟨g1, 0, none⟩)] w' fun e u => e = .returned (.int .u16 (V : Nat)) ∧ Now w' u g1 b1 L q z) ∧
    (∀ w', RR w' g2 b2 L p y s → Calls Try.prog 18 #[.pointer (some ⟨g2, 0, none⟩), .int .i64 2] w' fun e u => e = .returned (.int .u32 (V : Nat)) ∧ RNow w' u g2 b2 L q z t) ∧ t = if z = 0 then 0 else (q : Int) :=
  ⟨_, _, _, _, by simpa using nv_lt_of L p 2 y, fun w' h => u16_any g1 L p y w' h, fun w' h => rnum_any g2 L p 2 y s w' h (by decide), sp_take hs⟩
theorem two_32 {g1 : Nat} {b1 : Option Addr} {g2 : Nat} {b2 : Option Addr} {L : List UInt8} {p : Nat} {y s : Int} (hs : s = if y = 0 then 0 else (p : Int)) : ∃ (V q : Nat) (z t : Int), V < 4294967296 ∧ (∀ w', Rd w' g1 b1 L p y → Calls Try.prog 20 #[.pointer (some ⟨g1, 0, none⟩)] w' fun e u => e = .returned (.int .u32 (V : Nat)) ∧ Now w' u g1 b1 L q z) ∧
    (∀ w', RR w' g2 b2 L p y s → Calls Try.prog 18 #[.pointer (some ⟨g2, 0, none⟩), .int .i64 4] w' fun e u => e = .returned (.int .u32 (V : Nat)) ∧ RNow w' u g2 b2 L q z t) ∧ t = if z = 0 then 0 else (q : Int) :=
  ⟨_, _, _, _, by simpa using nv_lt_of L p 4 y, fun w' h => u32_any g1 L p y w' h, fun w' h => rnum_any g2 L p 4 y s w' h (by decide), sp_take hs⟩

set_option maxRecDepth 100000 in
set_option maxHeartbeats 8000000 in
theorem reads_walk (a0 : Option Addr) (n0 c0 : Nat) (L : List UInt8) (a1 : Option Addr) (n1 c1 : Nat) (X : List (Int × Int)) (w : World) (h0 : Src w a0 n0 c0 (bcells L)) (hX : X.length = n1) (h1 : a1 = none → n1 = 0) (hc1 : ∀ ad, a1 = some ad → ∀ j u, (stcells X)[j]? = some u → w.cell? (ad.add j) = some u) (b0 : n0 ≤ 20000) (b1 : n1 ≤ 60) :
    Calls Try.prog 4 #[.slice a0 n0 c0, .slice a1 n1 c1] w fun e w' => e = .returned (.bool true) ∧ Below w.heap.size w w' := by
  have HL : Hid (n0 = L.length) := h0.blen
  have HC1 : Hid (∀ ad, a1 = some ad → ∀ j u, (stcells X)[j]? = some u → w.cell? (ad.add j) = some u) := hc1
  have HX : Hid (X.length = n1) := hX
  clear hc1 hX
  have d0 : decide (20000 < (n0 : Int)) = false := by simp; omega
  have d1 : decide (60 < (n1 : Int)) = false := by simp; omega
  go_enter Try.func4, Try.ntmps4
  go_wp2_with (first
    | (go_at_call 16; refine (rnew_any a0 n0 c0 L w5 (h0.below hk5 h0.lt) (by omega)).mono ?_; rintro e w6 ⟨g2, bb2, rfl, hg2, hv2, hr2, hb6⟩; have hG : Given w w6 (.slice aw n0 cw) n0 g1 bb1 g2 bb2 L := given_start hb4 ho4 hg1 hv1 hr1 hb5 hg2 hv2 hr2 hb6; clear hb4 ho4 hg1 hv1 hr1 hb5 hg2 hv2 hr2 hb6 hk5 hs4)
    | (go_at_call 15; refine (new_any aw n0 cw L w4 hs4 (by omega)).mono ?_; rintro e w5 ⟨g1, bb1, rfl, hg1, hv1, hr1, hb5⟩; have hk5 := hb4.trans (hb5.mono hb4.size))
    | (at_builtin; refine append_new rfl (.tmp 22) (.tmp 23) rfl rfl a0 n0 c0 L rfl h0 (by omega) ?_; intro aw cw w4 hs4 hb4 _ ho4))
  go_loopw [8] (fun i wr => ∃ j : Nat, j ≤ n0 ∧ i = .int .i64 j ∧ Given w wr (.slice aw n0 cw) n0 g1 bb1 g2 bb2 L) (fun i _ => n0 - (intOf i).toNat)
  case atStart => exact ⟨0, Nat.zero_le _, rfl, hG⟩
  case round =>
    clear hG
    obtain ⟨j, hj, rfl, hG⟩ := hrel
    by_cases hlt : j < n0
    · obtain ⟨gg, cap, z, hv, hz, hc, hf, HG⟩ := hG.at' j hlt
      obtain ⟨x, hx, hxor⟩ := xor_byte z hz
      have HG2 : Hid (∀ x : Nat, x < 256 → Given w (wr.setCell ⟨gg, j, none⟩ (.int .u8 x)) (.slice aw n0 cw) n0 g1 bb1 g2 bb2 L) := HG
      clear HG hG
      obtain ⟨rfl, rfl⟩ : aw = some ⟨gg, 0, none⟩ ∧ cw = cap := by cases hv; exact ⟨rfl, rfl⟩
      clear hv
      go_wp2
      go_roundw
      case rel => exact ⟨j + 1, by omega, by go_num, HG2.out x hx⟩
      case measure => simp [intOf]; omega
    · obtain rfl : n0 = j := by omega
      have hB := hG.both
      clear hG
      go_wp2
      go_loopw [9] (fun i wr => ∃ (j p : Nat) (y s : Int), j ≤ n1 ∧ i = .int .i64 j ∧ Both w wr g1 bb1 g2 bb2 L p y s) (fun i _ => n1 - (intOf i).toNat)
      case atStart => exact ⟨0, 0, 0, 0, Nat.zero_le _, rfl, hB⟩
      case round =>
        clear hB
        obtain ⟨j, p, y, s, hj, rfl, hB⟩ := hrel
        by_cases hlt : j < n1
        · cases a1 with
          | none => exact absurd (h1 rfl) (by omega)
          | some ad =>
            have hjl : j < X.length := by have := HX.out; omega
            have HCF : Hid (∀ w', Below w.heap.size w w' → w'.cell? (ad.add (j * 2)) = some (.int .i64 X[j].1) ∧ w'.cell? (ad.add (j * 2 + 1)) = some (.int .i64 X[j].2)) := fun w' hb => step_cells HC1.out hb hjl
            have hcc := HCF.out _ hB.bel
            obtain ⟨hk0, hk1⟩ := hcc
            have hk2 := hk1
            rw [add_one ad (j * 2)] at hk2
            have hpL := hB.r1.le
            have hLn := HL.out
            have hpn : p ≤ n0 := by omega
            clear hLn hpL
            generalize X[j].1 = κ at *
            generalize X[j].2 = ν at *
            by_cases q0 : κ = 0
            · subst q0
              obtain ⟨V, q, z, t, hVb, HU, HN, ht⟩ := two_8 (g1 := g1) (b1 := bb1) (g2 := g2) (b2 := bb2) hB.sp (L := L) (p := p)
              have HU2 : Hid (∀ w', Rd w' g1 bb1 L p y → Calls Try.prog 17 #[.pointer (some ⟨g1, 0, none⟩)] w' fun e u => e = .returned (.int .u8 (V : Nat)) ∧ Now w' u g1 bb1 L q z) := HU
              have HN2 : Hid (∀ w', RR w' g2 bb2 L p y s → Calls Try.prog 18 #[.pointer (some ⟨g2, 0, none⟩), .int .i64 1] w' fun e u => e = .returned (.int .u32 (V : Nat)) ∧ RNow w' u g2 bb2 L q z t) := HN
              have HT : Hid (t = if z = 0 then 0 else (q : Int)) := ht
              clear HU HN ht

              go_wp2_with (first
                | (go_at_call 27; refine (why_two tB).mono ?_; rintro e w9 ⟨rfl, tB2⟩; clear tB; obtain ⟨cc, e0, e1, e2, e3, _⟩ := tB2.r2.cells; have hqn : q ≤ n0 := (by have h1 := tB2.r1.le; have h2 := HL.out; omega); have x1 : IntKind.i64.wrap ((n0 : Int) - (q : Int)) = (n0 : Int) - (q : Int) := (by rw [IntKind.wrap_i64]; omega))
                | (go_at_call 17; refine (HU2.out _ hB.r1).mono ?_; rintro e u1 ⟨rfl, k1⟩)
                | (go_at_call 18; refine (HN2.out _ (hB.mid k1)).mono ?_; rintro e u2 ⟨rfl, k2⟩; have tB := hB.read k1 k2 HT.out; clear hB))
              go_quiet ((first | (go_at_call 28; exact Calls.quiet_of (num_drew _ _)) | (go_at_call 29; exact Calls.quiet_of (at_drew g1 L q z _ (tB2.drewN _).r1)) | (go_at_call 30; exact Calls.quiet_of (left_two HL.out (tB2.drewN _))) | (go_at_call 31; exact Calls.quiet_of (done_drew g1 L q z _ (tB2.drewN _).r1)) | (go_at_call 32; exact Calls.quiet_of (rdone_any g2 L q z t _ (tB2.drewN _).r2))))
              go_wp2
              go_roundw
              case rel => exact ⟨j + 1, q, z, t, by omega, by go_num, tB2.drewN _⟩
              case measure => simp [intOf]; omega
            · have r0 : (κ == 0) = false := by simpa using q0
              by_cases q1 : κ = 1
              · subst q1
                obtain ⟨V, q, z, t, hVb, HU, HN, ht⟩ := two_16 (g1 := g1) (b1 := bb1) (g2 := g2) (b2 := bb2) hB.sp (L := L) (p := p)
                have HU2 : Hid (∀ w', Rd w' g1 bb1 L p y → Calls Try.prog 19 #[.pointer (some ⟨g1, 0, none⟩)] w' fun e u => e = .returned (.int .u16 (V : Nat)) ∧ Now w' u g1 bb1 L q z) := HU
                have HN2 : Hid (∀ w', RR w' g2 bb2 L p y s → Calls Try.prog 18 #[.pointer (some ⟨g2, 0, none⟩), .int .i64 2] w' fun e u => e = .returned (.int .u32 (V : Nat)) ∧ RNow w' u g2 bb2 L q z t) := HN
                have HT : Hid (t = if z = 0 then 0 else (q : Int)) := ht
                clear HU HN ht

                go_wp2_with (first
                  | (go_at_call 27; refine (why_two tB).mono ?_; rintro e w9 ⟨rfl, tB2⟩; clear tB; obtain ⟨cc, e0, e1, e2, e3, _⟩ := tB2.r2.cells; have hqn : q ≤ n0 := (by have h1 := tB2.r1.le; have h2 := HL.out; omega); have x1 : IntKind.i64.wrap ((n0 : Int) - (q : Int)) = (n0 : Int) - (q : Int) := (by rw [IntKind.wrap_i64]; omega))
                  | (go_at_call 19; refine (HU2.out _ hB.r1).mono ?_; rintro e u1 ⟨rfl, k1⟩)
                  | (go_at_call 18; refine (HN2.out _ (hB.mid k1)).mono ?_; rintro e u2 ⟨rfl, k2⟩; have tB := hB.read k1 k2 HT.out; clear hB))
                go_quiet ((first | (go_at_call 28; exact Calls.quiet_of (num_drew _ _)) | (go_at_call 29; exact Calls.quiet_of (at_drew g1 L q z _ (tB2.drewN _).r1)) | (go_at_call 30; exact Calls.quiet_of (left_two HL.out (tB2.drewN _))) | (go_at_call 31; exact Calls.quiet_of (done_drew g1 L q z _ (tB2.drewN _).r1)) | (go_at_call 32; exact Calls.quiet_of (rdone_any g2 L q z t _ (tB2.drewN _).r2))))
                go_wp2
                go_roundw
                case rel => exact ⟨j + 1, q, z, t, by omega, by go_num, tB2.drewN _⟩
                case measure => simp [intOf]; omega
              · have r1 : (κ == 1) = false := by simpa using q1
                by_cases q2 : κ = 2
                · subst q2
                  obtain ⟨V, q, z, t, hVb, HU, HN, ht⟩ := two_32 (g1 := g1) (b1 := bb1) (g2 := g2) (b2 := bb2) hB.sp (L := L) (p := p)
                  have HU2 : Hid (∀ w', Rd w' g1 bb1 L p y → Calls Try.prog 20 #[.pointer (some ⟨g1, 0, none⟩)] w' fun e u => e = .returned (.int .u32 (V : Nat)) ∧ Now w' u g1 bb1 L q z) := HU
                  have HN2 : Hid (∀ w', RR w' g2 bb2 L p y s → Calls Try.prog 18 #[.pointer (some ⟨g2, 0, none⟩), .int .i64 4] w' fun e u => e = .returned (.int .u32 (V : Nat)) ∧ RNow w' u g2 bb2 L q z t) := HN
                  have HT : Hid (t = if z = 0 then 0 else (q : Int)) := ht
                  clear HU HN ht

                  go_wp2_with (first
                    | (go_at_call 27; refine (why_two tB).mono ?_; rintro e w9 ⟨rfl, tB2⟩; clear tB; obtain ⟨cc, e0, e1, e2, e3, _⟩ := tB2.r2.cells; have hqn : q ≤ n0 := (by have h1 := tB2.r1.le; have h2 := HL.out; omega); have x1 : IntKind.i64.wrap ((n0 : Int) - (q : Int)) = (n0 : Int) - (q : Int) := (by rw [IntKind.wrap_i64]; omega))
                    | (go_at_call 20; refine (HU2.out _ hB.r1).mono ?_; rintro e u1 ⟨rfl, k1⟩)
                    | (go_at_call 18; refine (HN2.out _ (hB.mid k1)).mono ?_; rintro e u2 ⟨rfl, k2⟩; have tB := hB.read k1 k2 HT.out; clear hB))
                  go_quiet ((first | (go_at_call 28; exact Calls.quiet_of (num_drew _ _)) | (go_at_call 29; exact Calls.quiet_of (at_drew g1 L q z _ (tB2.drewN _).r1)) | (go_at_call 30; exact Calls.quiet_of (left_two HL.out (tB2.drewN _))) | (go_at_call 31; exact Calls.quiet_of (done_drew g1 L q z _ (tB2.drewN _).r1)) | (go_at_call 32; exact Calls.quiet_of (rdone_any g2 L q z t _ (tB2.drewN _).r2))))
                  go_wp2
                  go_roundw
                  case rel => exact ⟨j + 1, q, z, t, by omega, by go_num, tB2.drewN _⟩
                  case measure => simp [intOf]; omega
                · have r2 : (κ == 2) = false := by simpa using q2
                  by_cases q3 : κ = 3
                  · subst q3
                    obtain ⟨T, q, z, t, HU, HN, ht⟩ := two_b (g1 := g1) (b1 := bb1) (g2 := g2) (b2 := bb2) hB.sp (L := L) (p := p) (n := ν)
                    have HB1 : Hid (∀ w', Rd w' g1 bb1 L p y → Calls Try.prog 21 #[.pointer (some ⟨g1, 0, none⟩), .int .i64 ν] w' fun e u => ∃ a m c, e = .returned (.slice a m c) ∧ Src u a m c (bcells T) ∧ (∀ ad, a = some ad → w'.heap.size ≤ ad.block) ∧ Now w' u g1 bb1 L q z) := HU
                    have HB2 : Hid (∀ w', RR w' g2 bb2 L p y s → Calls Try.prog 22 #[.pointer (some ⟨g2, 0, none⟩), .int .i64 ν] w' fun e u => ∃ a m c, e = .returned (.slice a m c) ∧ Src u a m c (bcells T) ∧ RNow w' u g2 bb2 L q z t) := HN
                    have HT : Hid (t = if z = 0 then 0 else (q : Int)) := ht
                    clear HU HN ht
                    have HK : Hid (∀ w', Below w.heap.size w w' → Below w.heap.size w w' ∧ w'.cell? ⟨(ad.add (j * 2)).block, (ad.add (j * 2)).off + 1, none⟩ = some (.int .i64 ν)) := fun w' h => ⟨h, by have := (HCF.out w' h).2; rwa [add_one] at this⟩
                    have i0 : (0 : Int) ≤ (j : Int) := by omega
                    have i1 : (j : Int) < (n1 : Int) := by omega
                    have hBd : Both w wr.drew g1 bb1 g2 bb2 L p y s := hB.drewN 1
                    go_wp2
                    refine wp_region_noPanic ?_
                    refine wp_region_held_drew (S := fun w' => Below w.heap.size w w' ∧ w'.cell? ⟨(ad.add (j * 2)).block, (ad.add (j * 2)).off + 1, none⟩ = some (.int .i64 ν)) (by kernel_rfl) (HK.out _ hBd.bel) (fun hHeld => ?_)
                    refine take_lit (i := 0) (v := ?_) rfl (by kernel_rfl) (by kernel_rfl) (by kernel_rfl) (fun _ _ _ h => h) (Or.inl ⟨by rfl, ?_⟩) (by assumption) ?_
                    rotate_left
                    · (intro w hSw; (try dsimp only at hSw); go_simp <;> with_reducible rfl)
                    try simp only [Act.put, List.setIfInBounds_toArray, List.set_cons_zero, List.set_cons_succ]
                    refine take_lit (i := 1) (v := ?_) rfl (by kernel_rfl) (by kernel_rfl) (by kernel_rfl) (fun _ _ _ h => h) (Or.inl ⟨by rfl, ?_⟩) (by assumption) ?_
                    rotate_left
                    · (intro w hSw; (try dsimp only at hSw); go_simp <;> with_reducible rfl)
                    try simp only [Act.put, List.setIfInBounds_toArray, List.set_cons_zero, List.set_cons_succ]
                    refine take_lit (i := 2) (v := ?_) rfl (by kernel_rfl) (by kernel_rfl) (by kernel_rfl) (fun _ _ _ h => h) (Or.inl ⟨by rfl, ?_⟩) (by assumption) ?_
                    rotate_left
                    · (intro w hSw; (try dsimp only at hSw); go_simp <;> with_reducible rfl)
                    try simp only [Act.put, List.setIfInBounds_toArray, List.set_cons_zero, List.set_cons_succ]
                    refine take_lit (i := 3) (v := ?_) rfl (by kernel_rfl) (by kernel_rfl) (by kernel_rfl) (fun _ _ _ h => h) (Or.inl ⟨by rfl, ?_⟩) (by assumption) ?_
                    rotate_left
                    · (intro w hSw; (try dsimp only at hSw); go_simp <;> with_reducible rfl)
                    try simp only [Act.put, List.setIfInBounds_toArray, List.set_cons_zero, List.set_cons_succ]
                    refine take_lit (i := 4) (v := ?_) rfl (by kernel_rfl) (by kernel_rfl) (by kernel_rfl) (fun _ _ _ h => h) (Or.inl ⟨by rfl, ?_⟩) (by assumption) ?_
                    rotate_left
                    · (intro w hSw; (try dsimp only at hSw); go_simp <;> with_reducible rfl)
                    try simp only [Act.put, List.setIfInBounds_toArray, List.set_cons_zero, List.set_cons_succ]
                    refine take_lit (i := 5) (v := ?_) rfl (by kernel_rfl) (by kernel_rfl) (by kernel_rfl) (fun _ _ _ h => h) (Or.inl ⟨by rfl, ?_⟩) (by assumption) ?_
                    rotate_left
                    · (intro w hSw; (try dsimp only at hSw); go_simp <;> with_reducible rfl)
                    try simp only [Act.put, List.setIfInBounds_toArray, List.set_cons_zero, List.set_cons_succ]
                    refine take_lit (i := 8) (v := ?_) rfl (by kernel_rfl) (by kernel_rfl) (by kernel_rfl) (fun _ _ _ h => h) (Or.inl ⟨by rfl, ?_⟩) (by assumption) ?_
                    rotate_left
                    · (intro w hSw; (try dsimp only at hSw); go_simp <;> with_reducible rfl)
                    try simp only [Act.put, List.setIfInBounds_toArray, List.set_cons_zero, List.set_cons_succ]
                    refine take_lit (i := 9) (v := ?_) rfl (by kernel_rfl) (by kernel_rfl) (by kernel_rfl) (fun _ _ _ h => h) (Or.inl ⟨by rfl, ?_⟩) (by assumption) ?_
                    rotate_left
                    · (intro w hSw; (try dsimp only at hSw); go_simp <;> with_reducible rfl)
                    try simp only [Act.put, List.setIfInBounds_toArray, List.set_cons_zero, List.set_cons_succ]
                    refine take_lit (i := 10) (v := ?_) rfl (by kernel_rfl) (by kernel_rfl) (by kernel_rfl) (fun _ _ _ h => h) (Or.inl ⟨by rfl, ?_⟩) (by assumption) ?_
                    rotate_left
                    · (intro w hSw; (try dsimp only at hSw); go_simp <;> with_reducible rfl)
                    try simp only [Act.put, List.setIfInBounds_toArray, List.set_cons_zero, List.set_cons_succ]
                    refine take_lit (i := 11) (v := ?_) rfl (by kernel_rfl) (by kernel_rfl) (by kernel_rfl) (fun _ _ _ h => h) (Or.inl ⟨by rfl, ?_⟩) (by assumption) ?_
                    rotate_left
                    · (intro w hSw; (try dsimp only at hSw); go_simp <;> with_reducible rfl)
                    try simp only [Act.put, List.setIfInBounds_toArray, List.set_cons_zero, List.set_cons_succ]
                    refine take_lit (i := 12) (v := ?_) rfl (by kernel_rfl) (by kernel_rfl) (by kernel_rfl) (fun _ _ _ h => h) (Or.inl ⟨by rfl, ?_⟩) (by assumption) ?_
                    rotate_left
                    · (intro w hSw; (try dsimp only at hSw); go_simp <;> with_reducible rfl)
                    try simp only [Act.put, List.setIfInBounds_toArray, List.set_cons_zero, List.set_cons_succ]
                    refine take_lit (i := 13) (v := ?_) rfl (by kernel_rfl) (by kernel_rfl) (by kernel_rfl) (fun _ _ _ h => h) (Or.inl ⟨by rfl, ?_⟩) (by assumption) ?_
                    rotate_left
                    · (intro w hSw; (try dsimp only at hSw); go_simp <;> with_reducible rfl)
                    try simp only [Act.put, List.setIfInBounds_toArray, List.set_cons_zero, List.set_cons_succ]
                    refine wpAnyH_ready (rs := [6]) (by kernel_rfl) (by simp) ?_
                    refine cons_lit rfl (fun K hK => ?_) ?_
                    · skip
                      go_simp
                      go_at_call 21
                      refine (HB1.out _ hBd.r1).mono ?_
                      rintro e u1 ⟨a5, m5, c5, rfl, s5, z5, k1⟩
                      try go_wp2_with fail
                      refine hK.out _ _ ?_ (fun hHeld => ?_)
                      · exact HK.out _ (hBd.one k1)
                      clear hK K
                      try simp only [Act.put, List.setIfInBounds_toArray, List.set_cons_zero, List.set_cons_succ]
                      have HK1 : Hid (∀ w', Below w.heap.size w w' → Src w' a5 m5 c5 (bcells T) → (Below w.heap.size w w' ∧ w'.cell? ⟨(ad.add (j * 2)).block, (ad.add (j * 2)).off + 1, none⟩ = some (.int .i64 ν)) ∧ (convert 22 9 (.slice a5 m5 c5)).run Try.prog w' = .ok (.string (bs T)) w') := fun w' h h' => ⟨HK.out w' h, h'.bs⟩
                      refine wpAnyH_mono (S' := fun w' => (Below w.heap.size w w' ∧ w'.cell? ⟨(ad.add (j * 2)).block, (ad.add (j * 2)).off + 1, none⟩ = some (.int .i64 ν)) ∧ (convert 22 9 (.slice a5 m5 c5)).run Try.prog w' = .ok (.string (bs T)) w') (fun _ h => h.1) _ _ _ _ ?_
                      have hHeld := HK1.out u1 (hBd.one k1) s5
                      refine take_lit (i := 7) (v := ?_) rfl (by kernel_rfl) (by kernel_rfl) (by kernel_rfl) (fun _ _ _ h => h) (Or.inl ⟨by rfl, ?_⟩) (by assumption) ?_
                      rotate_left
                      · (intro w hSw; (try dsimp only at hSw); go_simp <;> with_reducible rfl)
                      try simp only [Act.put, List.setIfInBounds_toArray, List.set_cons_zero, List.set_cons_succ]
                      refine wpAnyH_ready (rs := [14]) (by kernel_rfl) (by simp) ?_
                      refine cons_lit rfl (fun K hK => ?_) ?_
                      · skip
                        go_simp
                        go_at_call 22
                        refine (HB2.out _ (hBd.mid k1)).mono ?_
                        rintro e u2 ⟨a6, m6, c6, rfl, s6, k2⟩
                        try go_wp2_with fail
                        refine hK.out _ _ ?_ (fun hHeld => ?_)
                        · exact HK1.out _ (hBd.read k1 k2 HT.out).bel (s5.grown k2.grown (fun ad had _ e => by have h1 := z5 ad had; have h2 := hBd.r2.lt; have h3 := Option.some.inj e; omega))
                        clear hK K
                        try simp only [Act.put, List.setIfInBounds_toArray, List.set_cons_zero, List.set_cons_succ]
                        refine wpAnyH_mono (S' := fun w' => ((Below w.heap.size w w' ∧ w'.cell? ⟨(ad.add (j * 2)).block, (ad.add (j * 2)).off + 1, none⟩ = some (.int .i64 ν)) ∧ (convert 22 9 (.slice a5 m5 c5)).run Try.prog w' = .ok (.string (bs T)) w') ∧ (convert 22 9 (.slice a6 m6 c6)).run Try.prog w' = .ok (.string (bs T)) w') (fun _ h => h.1) _ _ _ _ ?_
                        have hHeld := And.intro hHeld s6.bs
                        refine take_lit (i := 15) (v := ?_) rfl (by kernel_rfl) (by kernel_rfl) (by kernel_rfl) (fun _ _ _ h => h) (Or.inl ⟨by rfl, ?_⟩) (by assumption) ?_
                        rotate_left
                        · (intro w hSw; (try dsimp only at hSw); go_simp <;> with_reducible rfl)
                        try simp only [Act.put, List.setIfInBounds_toArray, List.set_cons_zero, List.set_cons_succ]
                        refine take_lit (i := 16) (v := ?_) rfl (by kernel_rfl) (by kernel_rfl) (by kernel_rfl) (fun _ _ _ h => h) (Or.inl ⟨by rfl, ?_⟩) (by assumption) ?_
                        rotate_left
                        · (intro w hSw; (try dsimp only at hSw); go_simp <;> with_reducible rfl)
                        try simp only [Act.put, List.setIfInBounds_toArray, List.set_cons_zero, List.set_cons_succ]
                        refine take_lit (i := 17) (v := ?_) rfl (by kernel_rfl) (by kernel_rfl) (by kernel_rfl) (fun _ _ _ h => h) (Or.inl ⟨by rfl, ?_⟩) (by assumption) ?_
                        rotate_left
                        · (intro w hSw; (try dsimp only at hSw); go_simp <;> with_reducible rfl)
                        try simp only [Act.put, List.setIfInBounds_toArray, List.set_cons_zero, List.set_cons_succ]
                        refine wpAnyH_done (by kernel_rfl) ?_ _
                        refine NoPanic.normal ?_
                        have tB := hBd.read k1 k2 HT.out
                        clear hB hBd HB1 HB2 HK HK1 hHeld s5 s6 z5 k1 k2
                        go_wp2_with (first
                          | (go_at_call 27; refine (why_two tB).mono ?_; rintro e w9 ⟨rfl, tB2⟩; clear tB; obtain ⟨cc, e0, e1, e2, e3, _⟩ := tB2.r2.cells; have hqn : q ≤ n0 := (by have h1 := tB2.r1.le; have h2 := HL.out; omega); have x1 : IntKind.i64.wrap ((n0 : Int) - (q : Int)) = (n0 : Int) - (q : Int) := (by rw [IntKind.wrap_i64]; omega))
                        )
                        go_quiet ((first | (go_at_call 28; exact Calls.quiet_of (num_drew _ _)) | (go_at_call 29; exact Calls.quiet_of (at_drew g1 L q z _ (tB2.drewN _).r1)) | (go_at_call 30; exact Calls.quiet_of (left_two HL.out (tB2.drewN _))) | (go_at_call 31; exact Calls.quiet_of (done_drew g1 L q z _ (tB2.drewN _).r1)) | (go_at_call 32; exact Calls.quiet_of (rdone_any g2 L q z t _ (tB2.drewN _).r2))))
                        go_wp2
                        go_roundw
                        case rel => exact ⟨j + 1, q, z, t, by omega, by go_num, tB2.drewN _⟩
                        case measure => simp [intOf]; omega
                      exact AllReadyH.nil
                    exact AllReadyH.nil
                  · have r3 : (κ == 3) = false := by simpa using q3
                    by_cases q4 : κ = 4
                    · subst q4
                      obtain ⟨T, q, z, t, HU, HN, ht⟩ := two_r (g1 := g1) (b1 := bb1) (g2 := g2) (b2 := bb2) hB.sp (L := L) (p := p)
                      have HB1 : Hid (∀ w', Rd w' g1 bb1 L p y → Calls Try.prog 23 #[.pointer (some ⟨g1, 0, none⟩)] w' fun e u => ∃ a m c, e = .returned (.slice a m c) ∧ Src u a m c (bcells T) ∧ (∀ ad, a = some ad → w'.heap.size ≤ ad.block) ∧ Now w' u g1 bb1 L q z) := HU
                      have HB2 : Hid (∀ w', RR w' g2 bb2 L p y s → Calls Try.prog 24 #[.pointer (some ⟨g2, 0, none⟩)] w' fun e u => ∃ a m c, e = .returned (.slice a m c) ∧ Src u a m c (bcells T) ∧ RNow w' u g2 bb2 L q z t) := HN
                      have HT : Hid (t = if z = 0 then 0 else (q : Int)) := ht
                      clear HU HN ht
                      have HK : Hid (∀ w', Below w.heap.size w w' → Below w.heap.size w w' ∧ w'.cell? ⟨(ad.add (j * 2)).block, (ad.add (j * 2)).off + 1, none⟩ = some (.int .i64 ν)) := fun w' h => ⟨h, by have := (HCF.out w' h).2; rwa [add_one] at this⟩
                      have i0 : (0 : Int) ≤ (j : Int) := by omega
                      have i1 : (j : Int) < (n1 : Int) := by omega
                      have hBd : Both w wr.drew g1 bb1 g2 bb2 L p y s := hB.drewN 1
                      go_wp2
                      refine wp_region_noPanic ?_
                      refine wp_region_held_drew (S := fun w' => Below w.heap.size w w' ∧ w'.cell? ⟨(ad.add (j * 2)).block, (ad.add (j * 2)).off + 1, none⟩ = some (.int .i64 ν)) (by kernel_rfl) (HK.out _ hBd.bel) (fun hHeld => ?_)
                      refine take_lit (i := 0) (v := ?_) rfl (by kernel_rfl) (by kernel_rfl) (by kernel_rfl) (fun _ _ _ h => h) (Or.inl ⟨by rfl, ?_⟩) (by assumption) ?_
                      rotate_left
                      · (intro w hSw; (try dsimp only at hSw); go_simp <;> with_reducible rfl)
                      try simp only [Act.put, List.setIfInBounds_toArray, List.set_cons_zero, List.set_cons_succ]
                      refine take_lit (i := 3) (v := ?_) rfl (by kernel_rfl) (by kernel_rfl) (by kernel_rfl) (fun _ _ _ h => h) (Or.inl ⟨by rfl, ?_⟩) (by assumption) ?_
                      rotate_left
                      · (intro w hSw; (try dsimp only at hSw); go_simp <;> with_reducible rfl)
                      try simp only [Act.put, List.setIfInBounds_toArray, List.set_cons_zero, List.set_cons_succ]
                      refine wpAnyH_ready (rs := [1]) (by kernel_rfl) (by simp) ?_
                      refine cons_lit rfl (fun K hK => ?_) ?_
                      · skip
                        go_simp
                        go_at_call 23
                        refine (HB1.out _ hBd.r1).mono ?_
                        rintro e u1 ⟨a5, m5, c5, rfl, s5, z5, k1⟩
                        try go_wp2_with fail
                        refine hK.out _ _ ?_ (fun hHeld => ?_)
                        · exact HK.out _ (hBd.one k1)
                        clear hK K
                        try simp only [Act.put, List.setIfInBounds_toArray, List.set_cons_zero, List.set_cons_succ]
                        have HK1 : Hid (∀ w', Below w.heap.size w w' → Src w' a5 m5 c5 (bcells T) → (Below w.heap.size w w' ∧ w'.cell? ⟨(ad.add (j * 2)).block, (ad.add (j * 2)).off + 1, none⟩ = some (.int .i64 ν)) ∧ (convert 22 9 (.slice a5 m5 c5)).run Try.prog w' = .ok (.string (bs T)) w') := fun w' h h' => ⟨HK.out w' h, h'.bs⟩
                        refine wpAnyH_mono (S' := fun w' => (Below w.heap.size w w' ∧ w'.cell? ⟨(ad.add (j * 2)).block, (ad.add (j * 2)).off + 1, none⟩ = some (.int .i64 ν)) ∧ (convert 22 9 (.slice a5 m5 c5)).run Try.prog w' = .ok (.string (bs T)) w') (fun _ h => h.1) _ _ _ _ ?_
                        have hHeld := HK1.out u1 (hBd.one k1) s5
                        refine take_lit (i := 2) (v := ?_) rfl (by kernel_rfl) (by kernel_rfl) (by kernel_rfl) (fun _ _ _ h => h) (Or.inl ⟨by rfl, ?_⟩) (by assumption) ?_
                        rotate_left
                        · (intro w hSw; (try dsimp only at hSw); go_simp <;> with_reducible rfl)
                        try simp only [Act.put, List.setIfInBounds_toArray, List.set_cons_zero, List.set_cons_succ]
                        refine wpAnyH_ready (rs := [4]) (by kernel_rfl) (by simp) ?_
                        refine cons_lit rfl (fun K hK => ?_) ?_
                        · skip
                          go_simp
                          go_at_call 24
                          refine (HB2.out _ (hBd.mid k1)).mono ?_
                          rintro e u2 ⟨a6, m6, c6, rfl, s6, k2⟩
                          try go_wp2_with fail
                          refine hK.out _ _ ?_ (fun hHeld => ?_)
                          · exact HK1.out _ (hBd.read k1 k2 HT.out).bel (s5.grown k2.grown (fun ad had _ e => by have h1 := z5 ad had; have h2 := hBd.r2.lt; have h3 := Option.some.inj e; omega))
                          clear hK K
                          try simp only [Act.put, List.setIfInBounds_toArray, List.set_cons_zero, List.set_cons_succ]
                          refine wpAnyH_mono (S' := fun w' => ((Below w.heap.size w w' ∧ w'.cell? ⟨(ad.add (j * 2)).block, (ad.add (j * 2)).off + 1, none⟩ = some (.int .i64 ν)) ∧ (convert 22 9 (.slice a5 m5 c5)).run Try.prog w' = .ok (.string (bs T)) w') ∧ (convert 22 9 (.slice a6 m6 c6)).run Try.prog w' = .ok (.string (bs T)) w') (fun _ h => h.1) _ _ _ _ ?_
                          have hHeld := And.intro hHeld s6.bs
                          refine take_lit (i := 5) (v := ?_) rfl (by kernel_rfl) (by kernel_rfl) (by kernel_rfl) (fun _ _ _ h => h) (Or.inl ⟨by rfl, ?_⟩) (by assumption) ?_
                          rotate_left
                          · (intro w hSw; (try dsimp only at hSw); go_simp <;> with_reducible rfl)
                          try simp only [Act.put, List.setIfInBounds_toArray, List.set_cons_zero, List.set_cons_succ]
                          refine take_lit (i := 6) (v := ?_) rfl (by kernel_rfl) (by kernel_rfl) (by kernel_rfl) (fun _ _ _ h => h) (Or.inl ⟨by rfl, ?_⟩) (by assumption) ?_
                          rotate_left
                          · (intro w hSw; (try dsimp only at hSw); go_simp <;> with_reducible rfl)
                          try simp only [Act.put, List.setIfInBounds_toArray, List.set_cons_zero, List.set_cons_succ]
                          refine take_lit (i := 7) (v := ?_) rfl (by kernel_rfl) (by kernel_rfl) (by kernel_rfl) (fun _ _ _ h => h) (Or.inl ⟨by rfl, ?_⟩) (by assumption) ?_
                          rotate_left
                          · (intro w hSw; (try dsimp only at hSw); go_simp <;> with_reducible rfl)
                          try simp only [Act.put, List.setIfInBounds_toArray, List.set_cons_zero, List.set_cons_succ]
                          refine wpAnyH_done (by kernel_rfl) ?_ _
                          refine NoPanic.normal ?_
                          have tB := hBd.read k1 k2 HT.out
                          clear hB hBd HB1 HB2 HK HK1 hHeld s5 s6 z5 k1 k2
                          go_wp2_with (first
                            | (go_at_call 27; refine (why_two tB).mono ?_; rintro e w9 ⟨rfl, tB2⟩; clear tB; obtain ⟨cc, e0, e1, e2, e3, _⟩ := tB2.r2.cells; have hqn : q ≤ n0 := (by have h1 := tB2.r1.le; have h2 := HL.out; omega); have x1 : IntKind.i64.wrap ((n0 : Int) - (q : Int)) = (n0 : Int) - (q : Int) := (by rw [IntKind.wrap_i64]; omega))
                          )
                          go_quiet ((first | (go_at_call 28; exact Calls.quiet_of (num_drew _ _)) | (go_at_call 29; exact Calls.quiet_of (at_drew g1 L q z _ (tB2.drewN _).r1)) | (go_at_call 30; exact Calls.quiet_of (left_two HL.out (tB2.drewN _))) | (go_at_call 31; exact Calls.quiet_of (done_drew g1 L q z _ (tB2.drewN _).r1)) | (go_at_call 32; exact Calls.quiet_of (rdone_any g2 L q z t _ (tB2.drewN _).r2))))
                          go_wp2
                          go_roundw
                          case rel => exact ⟨j + 1, q, z, t, by omega, by go_num, tB2.drewN _⟩
                          case measure => simp [intOf]; omega
                        exact AllReadyH.nil
                      exact AllReadyH.nil
                    · have r4 : (κ == 4) = false := by simpa using q4
                      by_cases q5 : κ = 5
                      · subst q5
                        obtain ⟨z, hz⟩ : ∃ z : Int, Hid (z = if y = 0 then ν else y) := ⟨_, rfl⟩
                        obtain ⟨t, ht⟩ : ∃ t : Int, Hid (t = if y = 0 ∧ ν ≠ 0 then (p : Int) else s) := ⟨_, rfl⟩
                        obtain ⟨q, hq⟩ : ∃ q, Hid (q = p) := ⟨p, rfl⟩
                        have HT : Hid (t = if z = 0 then 0 else (q : Int)) := by show _ = _; rw [ht.out, hz.out, hq.out]; exact sp_fail hB.sp
                        have HF1 : Hid (∀ w', Rd w' g1 bb1 L p y → Calls Try.prog 25 #[.pointer (some ⟨g1, 0, none⟩), .int .i64 ν] w' fun e u => e = .returned (.tuple #[]) ∧ Now w' u g1 bb1 L q z) := fun w' h => by rw [hz.out, hq.out]; exact fail_any g1 L p y ν w' h
                        have HF2 : Hid (∀ w', RR w' g2 bb2 L p y s → Calls Try.prog 26 #[.pointer (some ⟨g2, 0, none⟩), .int .i64 ν] w' fun e u => e = .returned (.tuple #[]) ∧ RNow w' u g2 bb2 L q z t) := fun w' h => by rw [hz.out, hq.out, ht.out]; exact rfail_any g2 L p y s ν w' h
                        go_wp2_with (first
                          | (go_at_call 27; refine (why_two tB).mono ?_; rintro e w9 ⟨rfl, tB2⟩; clear tB; obtain ⟨cc, e0, e1, e2, e3, _⟩ := tB2.r2.cells; have hqn : q ≤ n0 := (by have h1 := tB2.r1.le; have h2 := HL.out; omega); have x1 : IntKind.i64.wrap ((n0 : Int) - (q : Int)) = (n0 : Int) - (q : Int) := (by rw [IntKind.wrap_i64]; omega))
                          | (go_at_call 25; refine (HF1.out _ hB.r1).mono ?_; rintro e u1 ⟨rfl, k1⟩; have hcd := HCF.out _ (hB.one k1); have hce := hcd.2; rw [add_one ad (j * 2)] at hce)
                          | (go_at_call 26; refine (HF2.out _ (hB.mid k1)).mono ?_; rintro e u2 ⟨rfl, k2⟩; have tB := hB.read k1 k2 HT.out; clear hB))
                        go_quiet ((first | (go_at_call 28; exact Calls.quiet_of (num_drew _ _)) | (go_at_call 29; exact Calls.quiet_of (at_drew g1 L q z _ (tB2.drewN _).r1)) | (go_at_call 30; exact Calls.quiet_of (left_two HL.out (tB2.drewN _))) | (go_at_call 31; exact Calls.quiet_of (done_drew g1 L q z _ (tB2.drewN _).r1)) | (go_at_call 32; exact Calls.quiet_of (rdone_any g2 L q z t _ (tB2.drewN _).r2))))
                        go_wp2
                        go_roundw
                        case rel => exact ⟨j + 1, q, z, t, by omega, by go_num, tB2.drewN _⟩
                        case measure => simp [intOf]; omega
                      · have r5 : (κ == 5) = false := by simpa using q5
                        clear q0 q1 q2 q3 q4 q5
                        obtain ⟨q, hq⟩ : ∃ q, q = p := ⟨p, rfl⟩
                        obtain ⟨z, hz⟩ : ∃ z, z = y := ⟨y, rfl⟩
                        obtain ⟨t, ht⟩ : ∃ t, t = s := ⟨s, rfl⟩
                        have tB : Both w wr g1 bb1 g2 bb2 L q z t := by rw [hq, hz, ht]; exact hB
                        clear hB hq hz ht hpn
                        go_wp2_with (first
                          | (go_at_call 27; refine (why_two tB).mono ?_; rintro e w9 ⟨rfl, tB2⟩; clear tB; obtain ⟨cc, e0, e1, e2, e3, _⟩ := tB2.r2.cells; have hqn : q ≤ n0 := (by have h1 := tB2.r1.le; have h2 := HL.out; omega); have x1 : IntKind.i64.wrap ((n0 : Int) - (q : Int)) = (n0 : Int) - (q : Int) := (by rw [IntKind.wrap_i64]; omega))
                        )
                        go_quiet ((first | (go_at_call 28; exact Calls.quiet_of (num_drew _ _)) | (go_at_call 29; exact Calls.quiet_of (at_drew g1 L q z _ (tB2.drewN _).r1)) | (go_at_call 30; exact Calls.quiet_of (left_two HL.out (tB2.drewN _))) | (go_at_call 31; exact Calls.quiet_of (done_drew g1 L q z _ (tB2.drewN _).r1)) | (go_at_call 32; exact Calls.quiet_of (rdone_any g2 L q z t _ (tB2.drewN _).r2))))
                        go_wp2
                        go_roundw
                        case rel => exact ⟨j + 1, q, z, t, by omega, by go_num, tB2.drewN _⟩
                        case measure => simp [intOf]; omega
        · obtain rfl : n1 = j := by omega
          go_wp2_with (go_at_call 9; refine (live_any _).mono ?_; rintro e w7 ⟨rfl, hb7⟩)
          go_ret
          exact ⟨rfl, hB.bel.trans (hb7.mono hB.bel.size)⟩

set_option maxRecDepth 100000 in
theorem reads_long (a0 : Option Addr) (n0 c0 : Nat) (a1 : Option Addr) (n1 c1 : Nat) (w : World) (h : 20000 < n0 ∨ 60 < n1) :
    Calls Try.prog 4 #[.slice a0 n0 c0, .slice a1 n1 c1] w fun e w' => e = .returned (.bool true) ∧ Below w.heap.size w w' := by
  by_cases h0 : 20000 < n0
  · go_enter Try.func4, Try.ntmps4
    go_wp2_with (go_at_call 9; refine (live_any _).mono ?_; rintro e w' ⟨rfl, hb⟩)
    go_ret
    exact ⟨rfl, hb⟩
  · have h1 : 60 < n1 := by omega
    clear h
    go_enter Try.func4, Try.ntmps4
    go_wp2_with (go_at_call 9; refine (live_any _).mono ?_; rintro e w' ⟨rfl, hb⟩)
    go_ret
    exact ⟨rfl, hb⟩
end Go.Proofs.Ytelopplkdlbgbaa
