/-
  The document's queue in memory: Find, ahead, Pop.
-/
import Derived.Test.YtkamcnjofpamhaaTQp
import Derived.Test.YtkamcnjofpamhaaTCanW
import Derived.Deep.MidRow
namespace Go.Proofs.Ytkamcnjofpamhaa
open Go.RowKit
set_option linter.unusedSimpArgs false
/-- A slice's memory holds these. -/
def RowAt (W : World) (a : Option Addr) (c : Nat) (E : List (ByteArray × Int)) : Prop :=
  E.length ≤ c ∧ (a = none ∧ c = 0 ∨ ∃ g o arr, a = some ⟨g, o, none⟩ ∧ W.heap[g]? = some (.cells arr 39 (0, 0)) ∧ ∀ j d, E[j]? = some d → arr[o + j * 2]? = some (.string d.1) ∧ arr[o + j * 2 + 1]? = some (.int .i64 d.2))
/-- The document's queue. -/
structure Rq (W : World) (r : Nat) (a : Option Addr) (c : Nat) (E : List (ByteArray × Int)) : Prop where
  que : W.heap[r]? = some (.cells #[.slice a E.length c] 31 (0, 0))
  row : RowAt W a c E
theorem Rq.lt {W : World} {r : Nat} {a : Option Addr} {c : Nat} {E : List (ByteArray × Int)} (h : Rq W r a c E) : r < W.heap.size := (Array.getElem?_eq_some_iff.1 h.que).1
theorem RowAt.kept {W W' : World} {a : Option Addr} {c : Nat} {E : List (ByteArray × Int)} (h : RowAt W a c E) (hb : ∀ (g : Nat) (arr : Array Value), W.heap[g]? = some (Obj.cells arr 39 (0, 0)) → W'.heap[g]? = some (Obj.cells arr 39 (0, 0))) : RowAt W' a c E := by
  refine ⟨h.1, ?_⟩
  rcases h.2 with h0 | ⟨g, o, arr, e, h1, h2⟩
  · exact .inl h0
  · exact .inr ⟨g, o, arr, e, hb _ _ h1, h2⟩
theorem Rq.kp {W W' : World} {n r : Nat} {a : Option Addr} {c : Nat} {E : List (ByteArray × Int)} (h : Rq W r a c E) (hk : Kp n W W') : Rq W' r a c E :=
  ⟨hk.cells _ _ _ h.que (by decide) (by decide) (by decide), h.row.kept fun _ _ h1 => hk.cells _ _ _ h1 (by decide) (by decide) (by decide)⟩
theorem Rq.below {W W' : World} {r : Nat} {a : Option Addr} {c : Nat} {E : List (ByteArray × Int)} (h : Rq W r a c E) (hb : Below W.heap.size W W') : Rq W' r a c E :=
  ⟨(hb.block _ h.lt).trans h.que, h.row.kept fun _ _ h1 => (hb.block _ (Array.getElem?_eq_some_iff.1 h1).1).trans h1⟩
theorem RowAt.dues {W : World} {a : Option Addr} {c : Nat} {E : List (ByteArray × Int)} (h : RowAt W a c E) (j : Nat) (hj : j < E.length) : ∃ g o, a = some ⟨g, o, none⟩ ∧ W.cell? ⟨g, o + j * 2, none⟩ = some (.string E[j].1) ∧ W.cell? ⟨g, o + j * 2 + 1, none⟩ = some (.int .i64 E[j].2) := by
  rcases h.2 with ⟨_, h0⟩ | ⟨g, o, arr, e, h1, h2⟩
  · have := h.1; omega
  · obtain ⟨h3, h4⟩ := h2 j E[j] (by simp [hj])
    exact ⟨g, o, e, one_cell h1 h3, one_cell h1 h4⟩
/-- Another queue stays where the document's changes. -/
theorem Qp.frm {n : Nat} {W W' : World} {q mb r : Nat} {D : List (ByteArray × Int)} {arr : Array Value} {f : Nat × Nat} (h : Qp n W q mb D) (hr : W.heap[r]? = some (.cells arr 31 f)) (hf : Frm (fun k => k = r) W W') : Qp n W' q mb D := by
  obtain ⟨L, ⟨v, h1, h2⟩, h3, h4⟩ := h
  exact ⟨L, ⟨v, h1.frm hf (fun k hk e => h1.not_foot hr (by decide) (by decide) (by decide) (e ▸ hk)), h2⟩, h3, h4⟩
theorem find_hit (W : World) (r : Nat) (a : Option Addr) (c : Nat) (E : List (ByteArray × Int)) (s : ByteArray) (h : Rq W r a c E) (hE : E.length ≤ 100000) (k : Nat) (hk : k < E.length) (hs : E[k].1 = s) (hf : ∀ j (hj : j < k), (E[j]'(by omega)).1 ≠ s) :
    Calls Try.prog 23 #[.pointer (some ⟨r, 0, none⟩), .string s] W (fun e w' => e = .returned (.int .i64 k) ∧ W = w') := by
  have c0 : W.cell? ⟨r, 0, none⟩ = some (.slice a E.length c) := one_cell h.que rfl
  have HD : Hid (∀ j (hj : j < E.length), ∃ g o, a = some ⟨g, o, none⟩ ∧ W.cell? ⟨g, o + j * 2, none⟩ = some (.string E[j].1) ∧ W.cell? ⟨g, o + j * 2 + 1, none⟩ = some (.int .i64 E[j].2)) := h.row.dues
  have HS : Hid (E[k].1 = s ∧ ∀ j (hj : j < k), (E[j]'(by omega)).1 ≠ s) := ⟨hs, hf⟩
  clear h hs hf
  go_enter Try.func23, Try.ntmps23
  go_wp2
  go_loopw [5] (fun u wr => ∃ j : Nat, u = .int .i64 j ∧ j ≤ k ∧ W = wr) (fun u _ => E.length - (intOf u).toNat)
  case atStart => exact ⟨0, rfl, Nat.zero_le _, rfl⟩
  case round =>
    obtain ⟨j, rfl, hj, rfl⟩ := hrel
    have hj' : (j : Int) < (E.length : Int) := by omega
    obtain ⟨g, o, rfl, c1, _⟩ := HD.out j (by omega)
    have hw : wrap64 ((j : Int) + 1) = (j : Int) + 1 := by unfold wrap64; omega
    by_cases hjk : j = k
    · subst hjk
      rw [HS.out.1] at c1
      go_wp2
      go_ret
      exact ⟨rfl, rfl⟩
    · have hne : (E[j].1.toList == s.toList) = false := by rw [nmB_list]; exact nmB_false (HS.out.2 j (by omega))
      generalize E[j].1 = x at *
      go_wp2
      go_roundw
      case rel => exact ⟨j + 1, by simp, by omega, by simp⟩
      case measure => simp [intOf]; omega
theorem find_miss (W : World) (r : Nat) (a : Option Addr) (c : Nat) (E : List (ByteArray × Int)) (s : ByteArray) (h : Rq W r a c E) (hE : E.length ≤ 100000) (hf : ∀ d ∈ E, d.1 ≠ s) :
    Calls Try.prog 23 #[.pointer (some ⟨r, 0, none⟩), .string s] W (fun e w' => e = .returned (.int .i64 (-1)) ∧ W = w') := by
  have c0 : W.cell? ⟨r, 0, none⟩ = some (.slice a E.length c) := one_cell h.que rfl
  have HD : Hid (∀ j (hj : j < E.length), ∃ g o, a = some ⟨g, o, none⟩ ∧ W.cell? ⟨g, o + j * 2, none⟩ = some (.string E[j].1) ∧ W.cell? ⟨g, o + j * 2 + 1, none⟩ = some (.int .i64 E[j].2)) := h.row.dues
  have HS : Hid (∀ d ∈ E, d.1 ≠ s) := hf
  clear h hf
  go_enter Try.func23, Try.ntmps23
  go_wp2
  go_loopw [5] (fun u wr => ∃ j : Nat, u = .int .i64 j ∧ j ≤ E.length ∧ W = wr) (fun u _ => E.length - (intOf u).toNat)
  case atStart => exact ⟨0, rfl, Nat.zero_le _, rfl⟩
  case round =>
    obtain ⟨j, rfl, hj, rfl⟩ := hrel
    by_cases hlt : j < E.length
    · have hj' : (j : Int) < (E.length : Int) := by omega
      obtain ⟨g, o, rfl, c1, _⟩ := HD.out j hlt
      have hw : wrap64 ((j : Int) + 1) = (j : Int) + 1 := by unfold wrap64; omega
      have hne : (E[j].1.toList == s.toList) = false := by rw [nmB_list]; exact nmB_false (HS.out _ (List.getElem_mem hlt))
      generalize E[j].1 = x at *
      go_wp2
      go_roundw
      case rel => exact ⟨j + 1, by simp, by omega, by simp⟩
      case measure => simp [intOf]; omega
    · have hj' : ¬ (j : Int) < (E.length : Int) := by omega
      go_wp2
      go_ret
      exact ⟨rfl, rfl⟩
/-- Does the one come ahead of the other? -/
def ahB (x y : ByteArray × Int) : Bool := decide (x.2 < y.2) || (x.2 == y.2 && Op.bytesLess x.1.toList y.1.toList)
theorem ahB_iff (x y : ByteArray × Int) : ahB x y = true ↔ Ah2 x y := by
  unfold ahB Ah2
  simp
theorem ahead_any (x y : ByteArray × Int) (W : World) : Calls Try.prog 29 #[.agg #[.string x.1, .int .i64 x.2], .agg #[.string y.1, .int .i64 y.2]] W (Gives W (.bool (ahB x y))) := by
  obtain ⟨x1, x2⟩ := x
  obtain ⟨y1, y2⟩ := y
  have hB := ((Below.refl W.heap.size W).alloc (Nat.le_refl _) (.cells #[.string x1, .int .i64 x2] 39)).alloc (by simp) (.cells #[.string y1, .int .i64 y2] 39)
  by_cases h1 : x2 < y2
  · have e : ahB (x1, x2) (y1, y2) = true := by unfold ahB; simp [h1]
    rw [e]
    go_enter Try.func29, Try.ntmps29
    go_wp2
    go_ret
    exact ⟨rfl, hB⟩
  · by_cases h2 : x2 = y2
    · have e : ahB (x1, x2) (y1, y2) = Op.bytesLess x1.toList y1.toList := by
        unfold ahB
        simp [h1, h2]
      rw [e]
      subst h2
      go_enter Try.func29, Try.ntmps29
      go_wp2
      go_ret
      exact ⟨rfl, hB⟩
    · have e : ahB (x1, x2) (y1, y2) = false := by unfold ahB; simp [h1, h2]
      have h2' : (x2 == y2) = false := by simp [h2]
      rw [e]
      go_enter Try.func29, Try.ntmps29
      go_wp2
      go_ret
      exact ⟨rfl, hB⟩
end Go.Proofs.Ytkamcnjofpamhaa
