/-
  Metric of package filter, for all rules and routes.
-/
import Derived.Test.YtfohknbgfpbmiaaWh
import Derived.Test.YtfohknbgfpbmiaaSum
namespace Go.Proofs.Ytfohknbgfpbmiaa
open Go.RowKit
set_option linter.unusedSimpArgs false
set_option maxRecDepth 20000
/-- What one rule makes of a metric. -/
def oneN (m : Nat) (r : Ru) : Nat := if r.deny = true then 65535 else capS [m, (r.add % 65536).toNat]
/-- What the first rule that matches makes of a metric. -/
def metN (m : Nat) (f : Ru → Bool) (l : List Ru) : Nat := match l.find? f with | none => m | some r => oneN m r
theorem metN_none {m : Nat} {f : Ru → Bool} {l : List Ru} (h : l.findIdx? f = none) : metN m f l = m := by
  have : l.find? f = none := by
    rw [List.find?_eq_none]
    intro x hx
    rw [List.findIdx?_eq_none_iff] at h
    simp [h x hx]
  simp [metN, this]
theorem metN_some {m : Nat} {f : Ru → Bool} {l : List Ru} {k : Nat} (h : l.findIdx? f = some k) : ∃ hk : k < l.length, metN m f l = oneN m l[k] := by
  rw [List.findIdx?_eq_some_iff_getElem] at h
  obtain ⟨hk, h1, h2⟩ := h
  have : l.find? f = some l[k] := by
    rw [List.find?_eq_some_iff_getElem]
    exact ⟨h1, k, hk, rfl, fun j hj => by simpa using h2 j hj⟩
  exact ⟨hk, by simp [metN, this]⟩
theorem mts2 (x y : Nat) (hx : x < 65536) (hy : y < 65536) (t : TypeId) (W : World) : Mts (W.alloc (.cells #[.int .u16 (x : Int), .int .u16 (y : Int)] t)) (some ⟨W.heap.size, 0, none⟩) 2 [x, y] :=
  ⟨rfl, (fun h => by cases h), (by simp [hx, hy]), fun ad had j hj => by
    cases had
    have h := Row.new W t [.int .u16 (x : Int), .int .u16 (y : Int)]
    rw [Addr.add_mid, Nat.zero_add, h.cell]
    match j, hj with
    | 0, _ => rfl
    | 1, _ => rfl⟩
set_option maxHeartbeats 4000000 in
theorem metric_any (chain : Int) (name : ByteArray) (p : Pr) (i : Id8) (m : Nat) (hm : m < 65536) (ad : Option Addr) (n c : Nat) (l : List Ru) (w : World) (hl : RlW w ad n l) (hn : n ≤ 140737488355328) :
    Calls Try.prog 11 #[.int .i64 chain, .string name, (Value.agg (qcells p).toArray), idV i, .int .u16 (m : Int), .slice ad n c] w (Gives w (.int .u16 (metN m (fun r => matB r chain name p i) l : Nat))) := by
  have hQ := (LQ.new w p 28).alloc (.cells (icells i).toArray 30)
  have hI : LI ((w.alloc (.cells (qcells p).toArray 28)).alloc (.cells (icells i).toArray 30)) (w.heap.size + 1) 0 i := by
    have := LI.new (w.alloc (.cells (qcells p).toArray 28)) i 30
    simpa using this
  have hl1 := hl.below (bt (ba w (.cells (qcells p).toArray 28)) (ba _ (.cells (icells i).toArray 30)))
  have hW := which_any chain name p i ad n c l _ hl1 hn
  have HB : Hid (Below w.heap.size w ((w.alloc (.cells (qcells p).toArray 28)).alloc (.cells (icells i).toArray 30))) := bt (ba _ _) (ba _ _)
  cases hf : l.findIdx? (fun r => matB r chain name p i) with
  | none =>
    rw [metN_none hf]
    rw [hf] at hW
    clear hf
    go_enter Try.func11, Try.ntmps11
    go_wp2_with (first
      | (refine ldQ (.tmp 8) rfl rfl _ _ p rfl hQ ?_)
      | (refine ldI (.tmp 9) rfl rfl _ _ i rfl hI ?_)
      | (go_at_call 9; refine hW.mono ?_; rintro e w1 ⟨rfl, hB1⟩; unfold whV))
    go_ret
    exact ⟨rfl, bt HB.out hB1⟩
  | some k =>
    obtain ⟨hk, hmet⟩ := metN_some (m := m) hf
    rw [hmet]
    rw [hf] at hW
    have hn0 : n ≠ 0 := by have := hl.len; omega
    obtain ⟨g, o, rfl, hg, hcell⟩ := hl.mem hn0
    have hkn : (k : Int) < (n : Int) := by have := hl.len; omega
    have hR := hcell k l[k] (List.getElem?_eq_getElem hk)
    clear hf hmet hcell hl1 hl hn0
    generalize l[k] = r at *
    have HC : Hid (∀ W, Below w.heap.size w W → W.cell? ⟨g, o + k * 50 + 48, none⟩ = some (.bool r.deny) ∧ W.cell? ⟨g, o + k * 50 + 49, none⟩ = some (.int .i64 r.add)) := fun W h => ⟨(hR.below h hg).deny, (hR.below h hg).add⟩
    have hw16 : IntKind.u16.wrap r.add = (((r.add % 65536).toNat : Nat) : Int) := by rw [wrap16]; omega
    have hx : (r.add % 65536).toNat < 65536 := by omega
    have HM : Hid (oneN m r = if r.deny = true then 65535 else capS [m, (r.add % 65536).toNat]) := rfl
    generalize (r.add % 65536).toNat = x at *
    have HS := fun W => sum_any (some ⟨W.heap.size, 0, none⟩) 2 2 [m, x] _ (by omega) (mts2 m x hm hx 31 W)
    clear hR
    cases hd : r.deny with
    | true =>
      rw [hd] at HC HM
      go_enter Try.func11, Try.ntmps11
      go_wp2_with (first
        | (refine ldQ (.tmp 8) rfl rfl _ _ p rfl hQ ?_)
        | (refine ldI (.tmp 9) rfl rfl _ _ i rfl hI ?_)
        | (go_at_call 9; refine hW.mono ?_; rintro e w1 ⟨rfl, hB1⟩; unfold whV; obtain ⟨c1, c2⟩ := HC.out _ (bt HB.out hB1)))
      go_ret
      exact ⟨by rw [HM.out]; rfl, bt HB.out hB1⟩
    | false =>
      rw [hd] at HC HM
      go_enter Try.func11, Try.ntmps11
      go_wp2_with (first
        | (refine ldQ (.tmp 8) rfl rfl _ _ p rfl hQ ?_)
        | (refine ldI (.tmp 9) rfl rfl _ _ i rfl hI ?_)
        | (go_at_call 19; refine (HS _).mono ?_; rintro e w2 ⟨rfl, rfl⟩)
        | (go_at_call 9; refine hW.mono ?_; rintro e w1 ⟨rfl, hB1⟩; unfold whV; obtain ⟨c1, c2⟩ := HC.out _ (bt HB.out hB1)))
      go_ret
      exact ⟨by rw [HM.out]; rfl, bt (bt HB.out hB1) (ba _ _)⟩
end Go.Proofs.Ytfohknbgfpbmiaa
