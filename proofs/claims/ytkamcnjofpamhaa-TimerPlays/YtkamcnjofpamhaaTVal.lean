/-
  slices.Values of a line of timers: what it hands over, for every line and every body of a loop.
-/
import Derived.RangeFuncNested
import Derived.RangeFuncBound
import Derived.RangeFuncCalls
import Derived.RangeFuncLeaves
import Derived.Shelf.Abstract
import Derived.Shelf.RegionOpen
import Derived.OwnWalkIn
import Derived.TacticsInMore
import Derived.LoopNIn
import Derived.LoopIn
import Derived.Test.YtkamcnjofpamhaaTLv
namespace Go.Proofs.Ytkamcnjofpamhaa
open Go.RowKit Go.Shelf
set_option linter.unusedSimpArgs false
attribute [local go_sem] Oper.semAt_some
def encT (t : Tm) : Value := .pointer (some ⟨t.b, 0, none⟩)
def encA (t : Tm) : Array Value := #[encT t]
theorem ptrs_enc (L : List Tm) : ptrs L = L.map encT := rfl
/-- A line of timers in memory that lies below n0. -/
def LineAt (w : World) (n0 : Nat) (a : Option Addr) (L : List Tm) : Prop := ∀ i (hi : i < L.length), ∃ g, a = some ⟨g, 0, none⟩ ∧ g < n0 ∧ w.cell? ⟨g, i, none⟩ = some (encT L[i])
theorem LineAt.below {w W : World} {n0 : Nat} {a : Option Addr} {L : List Tm} (h : LineAt w n0 a L) (hb : Below n0 w W) : LineAt W n0 a L := fun i hi => by
  obtain ⟨g, h1, h2, h3⟩ := h i hi
  exact ⟨g, h1, h2, (hb.cell (p := ⟨g, i, none⟩) h2).trans h3⟩
theorem vals_any (a : Option Addr) (k cap : Nat) (w : World) : Calls Try.prog 34 #[.slice a k cap] w fun e w' => e = .returned (.func (.func 42) #[] #[.pointer (some ⟨w.heap.size, 0, none⟩)]) ∧ w' = w.alloc (.cells #[.slice a k cap] 61) := by
  have hmf : ∀ (fn : Fn) (first cap : Array Value) (w : World), (Instr.makeFunc fn first cap).run Try.prog w = .ok (.func fn first cap) w := fun _ _ _ _ => rfl
  go_enter Try.func34, Try.ntmps34
  go_wp2
  go_ret
  exact ⟨rfl, rfl⟩
set_option maxRecDepth 100000 in
set_option maxHeartbeats 2000000 in
theorem vals_stops (n : Nat) (hn : 1 ≤ n) (Bs n0 cap : Nat) (L : List Tm) (a : Option Addr) (w : World) (hL : L.length ≤ 10000) (h1 : Bs < w.heap.size) (hw : n0 ≤ w.heap.size)
    (c1 : w.cell? ⟨Bs, 0, none⟩ = some (.slice a L.length cap)) (hv : LineAt w n0 a L) :
    SeqStopsK Fence.wide n Try.prog 42 #[.pointer (some ⟨Bs, 0, none⟩)] encA (Below n0) (fun xs => xs = L) (fun pre => pre <+: L) L.length w := fun l J Jx W hbw hJ hJx hY h0 => by
  have k1 : W.cell? ⟨Bs, 0, none⟩ = some (.slice a L.length cap) := (hbw.cell (p := ⟨Bs, 0, none⟩) (by show Bs < _; omega)).trans c1
  have kv : LineAt W n0 a L := hv.below (hbw.mono hw)
  clear hv c1 hbw
  refine callsIn_of_wp Try.func42 rfl trivial ?_ rfl
  simp only [Try.ntmps42, List.size_toArray, List.length_cons, List.length_nil, Nat.reduceAdd, Nat.reduceSub, Array.replicate_succ, Array.replicate_zero, List.push_toArray, List.append_toArray, List.nil_append, List.cons_append]
  gi_wp2
  gi_loopw [7] (fun u wr => ∃ i : Nat, u = .int .i64 i ∧ i ≤ L.length ∧ Below n0 W wr ∧ J (L.take i) wr) (fun u _ => L.length - (intOf u).toNat)
  case atStart => exact ⟨0, rfl, Nat.zero_le _, Below.refl _ _, h0⟩
  case round =>
    obtain ⟨i, rfl, hi, hB, hj⟩ := hrel
    by_cases hlt : i < L.length
    · obtain ⟨g, rfl, hg, hc⟩ := kv i hlt
      have hc' : wr.cell? ⟨g, i, none⟩ = some (encT L[i]) := (hB.cell (p := ⟨g, i, none⟩) hg).trans hc
      have hi' : (i : Int) < (L.length : Int) := by omega
      have hlen : (L.take i).length < L.length := by rw [List.length_take]; omega
      have ht : L.take (i + 1) = L.take i ++ [L[i]] := by rw [List.take_add_one, List.getElem?_eq_getElem hlt]; rfl
      have hd : L.take i ++ [L[i]] <+: L := by rw [← ht]; exact List.take_prefix _ _
      obtain ⟨fn, tmps, assign, body, hy, hR⟩ := hY (L.take i) L[i] wr hj hlen
      rw [← ht] at hR hd
      simp only [encA, encT] at hy hc'
      generalize L[i].b = lb at *
      have HT : Hid (L.take (i + 1) <+: L) := hd
      clear hd ht hlen hc kv hY
      gi_wp2
      refine hR.mono ?_
      rintro e W3 (⟨rfl, hJ3, hk3⟩ | ⟨rfl, hJx3⟩)
      · gi_wp2
        go_roundw
        case rel => exact ⟨i + 1, by simp [wrap64], by omega, hB.trans hk3, hJ3⟩
        case measure => simp [intOf]; omega
      · gi_wp2
        refine bodyPost_ret (results_none rfl _ _ _) rfl ?_
        exact ⟨⟨_, rfl⟩, .inr ⟨_, HT.out, hJx3⟩⟩
    · have hi' : ¬ (i : Int) < (L.length : Int) := by omega
      gi_wp2
      go_end0
      have hj2 : J L wr := by rwa [List.take_of_length_le (by omega)] at hj
      first | exact hj2 | exact .inl hj2 | exact ⟨⟨_, rfl⟩, .inl hj2⟩
end Go.Proofs.Ytkamcnjofpamhaa
