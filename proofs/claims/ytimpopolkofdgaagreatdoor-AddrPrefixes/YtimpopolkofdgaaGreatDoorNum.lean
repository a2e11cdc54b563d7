/-
  strconv.ParseUint and addr.number, for every text.
-/
import Derived.Test.YtimpopolkofdgaaGreatDoorUint
import Derived.Lib.LaidTab
namespace Go.Proofs.YtimpopolkofdgaaGreatDoor
open Go.RowKit
set_option linter.unusedSimpArgs false
set_option maxRecDepth 20000

/-- The package-level variables of the library that are read on the way. -/
structure Glob (w : World) : Prop where
  m : ∃ m, w.cell? ⟨0, 0, none⟩ = some (.int .i64 m)
  es : ∃ ev, w.cell? ⟨1, 0, none⟩ = some ev ∧ (ev = .nilIface ∨ ∃ te pe, ev = .iface te pe)
  er : ∃ ev, w.cell? ⟨2, 0, none⟩ = some ev ∧ (ev = .nilIface ∨ ∃ te pe, ev = .iface te pe)
  tab : Lib.TabIs Tryz.prog w "internal/strconv.uint64pow10" .u64 Lib.pow10Tab
theorem Glob.keep {w w' : World} {B : Nat} (h : Glob w) (hb : Below B w w') (hB : 8 ≤ B) : Glob w' := by
  obtain ⟨m, hm⟩ := h.m
  obtain ⟨e1, h1, h1'⟩ := h.es
  obtain ⟨e2, h2, h2'⟩ := h.er
  refine ⟨⟨m, (hb.cell (p := ⟨0, 0, none⟩) (by show 0 < B; omega)).trans hm⟩, ⟨e1, (hb.cell (p := ⟨1, 0, none⟩) (by show 1 < B; omega)).trans h1, h1'⟩, ⟨e2, (hb.cell (p := ⟨2, 0, none⟩) (by show 2 < B; omega)).trans h2, h2'⟩, ?_⟩
  exact var?_below (g := 3) hb (by kernel_rfl) (by omega) h.tab
/-- What ParseUint answers. -/
def PU2 (b : Nat) (l : List UInt8) (e : Ending) : Prop :=
  (∃ u, puE b l = some u ∧ e = .returned (.tuple #[.int .u64 (u : Int), .nilIface])) ∨ (puE b l = none ∧ ∃ (x : Int) (N : Nat), e = .returned (.tuple #[.int .u64 x, .iface 127 (.pointer (some ⟨N, 0, none⟩))]))
theorem parse_of (b : Nat) (t : ByteArray) (w : World) (hG : Glob w) (hs : 8 ≤ w.heap.size) (hlim : t.size ≤ 1000000)
    (hI : Calls Tryz.prog 95 #[.string t, .int .i64 (b : Int), .int .i64 16] w fun e w' => PU b t.data.toList e ∧ Below w.heap.size w w') :
    Calls Tryz.prog 82 #[.string t, .int .i64 (b : Int), .int .i64 16] w fun e w' => PU2 b t.data.toList e ∧ Below w.heap.size w w' := by
  obtain ⟨e1, h1, h1'⟩ := hG.es
  obtain ⟨e2, h2, h2'⟩ := hG.er
  have hE1 := fun (fn : ByteArray) (w' : World) (hb : Below w.heap.size w w') => Tryz.strconv_toError_syntax fn t b 16 e1 w' (by omega) ((hb.cell (p := ⟨1, 0, none⟩) (by show 1 < w.heap.size; omega)).trans h1) h1'
  have hE2 := fun (fn : ByteArray) (w' : World) (hb : Below w.heap.size w w') => Tryz.strconv_toError_range fn t b 16 e2 w' (by omega) ((hb.cell (p := ⟨2, 0, none⟩) (by show 2 < w.heap.size; omega)).trans h2) h2'
  have hE : ∀ (k : Int), (k = 1 ∨ k = 2) → ∀ (fn : ByteArray) (w' : World), Below w.heap.size w w' → Calls Tryz.prog 96 #[.string fn, .string t, .int .i64 (b : Int), .int .i64 16, .iface 125 (.int .i64 k)] w' fun e w'' => ∃ N, e = .returned (.iface 127 (.pointer (some ⟨N, 0, none⟩))) ∧ Below w'.heap.size w' w'' := by
    rintro k (rfl | rfl) fn w' hb
    · exact (hE2 fn w' hb).mono fun e w'' ⟨N, h, _, _, hB⟩ => ⟨N, h, hB⟩
    · exact (hE1 fn w' hb).mono fun e w'' ⟨N, h, _, _, hB⟩ => ⟨N, h, hB⟩
  clear h1 h2 h1' h2' hlim hE1 hE2
  go_enter Tryz.func82, Tryz.ntmps82
  go_wp2_with (first
    | (go_at_call 95; refine hI.mono ?_; rintro e w1 ⟨(⟨u, hu, rfl⟩ | ⟨hu, x, k, hk, rfl⟩), hB1⟩)
    | (go_at_call 96; refine (hE k hk _ _ hB1).mono ?_; rintro e w2 ⟨N, rfl, hB2⟩))
  · go_ret2
    exact ⟨.inl ⟨u, hu, rfl⟩, hB1⟩
  · go_ret2
    exact ⟨.inr ⟨hu, x, N, rfl⟩, bt hB1 hB2⟩
theorem parse10 (t : ByteArray) (w : World) (hG : Glob w) (hs : 8 ≤ w.heap.size) (hlim : t.size ≤ 1000000) :
    Calls Tryz.prog 82 #[.string t, .int .i64 10, .int .i64 16] w fun e w' => PU2 10 t.data.toList e ∧ Below w.heap.size w w' := by
  refine parse_of 10 t w hG hs hlim ?_
  by_cases h0 : t.size = 0
  · obtain rfl : t = ⟨#[]⟩ := by
      obtain ⟨⟨l⟩⟩ := t
      have : l = [] := List.eq_nil_of_length_eq_zero h0
      rw [this]
    exact (iparse_empty 10 w).mono fun e w' h => ⟨.inr ⟨rfl, 0, 2, .inr rfl, h.1⟩, by rw [h.2]; exact Below.refl _ _⟩
  · exact iparse_10 t h0 (by omega) w
theorem parse16 (t : ByteArray) (w : World) (hG : Glob w) (hs : 8 ≤ w.heap.size) (hlim : t.size ≤ 1000000) :
    Calls Tryz.prog 82 #[.string t, .int .i64 16, .int .i64 16] w fun e w' => PU2 16 t.data.toList e ∧ Below w.heap.size w w' := by
  refine parse_of 16 t w hG hs hlim ?_
  by_cases h0 : t.size = 0
  · obtain rfl : t = ⟨#[]⟩ := by
      obtain ⟨⟨l⟩⟩ := t
      have : l = [] := List.eq_nil_of_length_eq_zero h0
      rw [this]
    exact (iparse_empty 16 w).mono fun e w' h => ⟨.inr ⟨rfl, 0, 2, .inr rfl, h.1⟩, by rw [h.2]; exact Below.refl _ _⟩
  · exact iparse_16 t h0 (by omega) w
/-- A number of at most three digits, with no 0 ahead of another one. -/
def numS (l : List UInt8) : Option Nat := match puE 10 l with
  | some u => if 3 < l.length ∨ 1 < l.length ∧ l[0]? = some 48 then none else some u
  | none => none
def numV (l : List UInt8) : Value := match numS l with
  | some u => .tuple #[.int .i64 (u : Int), .bool true]
  | none => .tuple #[.int .i64 0, .bool false]
theorem first_byte (t : ByteArray) (h : 0 < t.size) : t.data.toList[0]? = some t[0] := by
  obtain ⟨⟨l⟩⟩ := t
  exact List.getElem?_eq_getElem h
theorem puE_le {b : Nat} {l : List UInt8} {u : Nat} (h : puE b l = some u) : u ≤ 65535 := by
  unfold puE at h
  split at h
  · cases h
  · exact pu_le b l 0 u (by omega) h
theorem wrap_small (u : Nat) (h : u ≤ 65535) : wrap64 (u : Int) = (u : Int) := by
  unfold wrap64; omega
theorem number_any (t : ByteArray) (w : World) (hG : Glob w) (hs : 8 ≤ w.heap.size) (hlim : t.size ≤ 1000000) :
    Calls Tryz.prog 59 #[.string t] w (Gives w (numV t.data.toList)) := by
  have hP := parse10 t w hG hs hlim
  have HL : Hid (t.size = t.data.toList.length) := (Lib.size_eq t).symm
  go_enter Tryz.func59, Tryz.ntmps59
  go_wp2_with (go_at_call 82; refine hP.mono ?_; rintro e w1 ⟨(⟨u, hu, rfl⟩ | ⟨hu, x, N, rfl⟩), hB1⟩)
  · rename_i h3 h1 h0 h
    have hz := first_byte t h0
    go_ret2
    refine ⟨?_, hB1⟩
    have hc : 3 < t.data.toList.length ∨ 1 < t.data.toList.length ∧ t.data.toList[0]? = some 48 := by
      rcases h with h | h
      · exact .inl (by rw [← HL.out]; omega)
      · exact .inr ⟨by rw [← HL.out]; omega, by rw [hz]; congr 1; apply UInt8.toNat.inj; have := eq_of_beq h; simp; omega⟩
    rw [numV, numS, hu]
    dsimp only
    rw [if_pos hc]
    rfl
  · rename_i h3 h1 h0 h
    have hz := first_byte t h0
    go_ret2
    refine ⟨?_, hB1⟩
    have hc : ¬ (3 < t.data.toList.length ∨ 1 < t.data.toList.length ∧ t.data.toList[0]? = some 48) := by
      rintro (q | ⟨_, q⟩)
      · rw [← HL.out] at q; omega
      · rw [hz] at q
        have e : t[0] = 48 := Option.some.inj q
        have := h.2
        rw [e] at this
        simp at this
    rw [numV, numS, hu]
    dsimp only
    rw [if_neg hc]
    rw [wrap_small u (puE_le hu)]
    rfl
  · rename_i h3 _ h1
    go_ret2
    refine ⟨?_, hB1⟩
    have hc : ¬ (3 < t.data.toList.length ∨ 1 < t.data.toList.length ∧ t.data.toList[0]? = some 48) := by
      rintro (q | ⟨q, _⟩)
      · rw [← HL.out] at q; omega
      · rw [← HL.out] at q; omega
    rw [numV, numS, hu]
    dsimp only
    rw [if_neg hc]
    rw [wrap_small u (puE_le hu)]
    rfl
  · rename_i h3
    go_ret2
    refine ⟨?_, hB1⟩
    have hc : 3 < t.data.toList.length ∨ 1 < t.data.toList.length ∧ t.data.toList[0]? = some 48 := .inl (by rw [← HL.out]; omega)
    rw [numV, numS, hu]
    dsimp only
    rw [if_pos hc]
    rfl
  · go_ret2
    refine ⟨?_, hB1⟩
    rw [numV, numS, hu]
    rfl
end Go.Proofs.YtimpopolkofdgaaGreatDoor
