/-
  The law SeqnoCounts returns true for every input.
-/
import Derived.Test.YtodemeilmaoodaaSLive
namespace Go.Proofs.Ytodemeilmaoodaa
open Go.RowKit
set_option linter.unusedSimpArgs false
theorem Mts.below {w w' : World} {a : Option Addr} {n : Nat} {l : List Nat} (h : Mts w a n l) (hb : Below w.heap.size w w') : Mts w' a n l :=
  ⟨h.len, h.bare, h.small, fun ad had j hj => by
    have h1 := h.cell ad had j hj
    exact (hb.cell (block_lt_of_cell h1)).trans h1⟩
theorem counts_walk (a b n : Int) (ad : Option Addr) (m c : Nat) (l : List Nat) (s t : Int) (w : World) (ha : 0 ≤ a) (ha' : a < 65536) (hb : 0 ≤ b) (hb' : b < 65536) (hs : 0 ≤ s) (hs' : s < 4294967296) (hm : Mts w ad m l) :
    Calls Try.prog 3 #[.int .u16 a, .int .u16 b, .int .i64 n, .slice ad m c, .int .u32 s, .int .u32 t] w (Gives w (.bool true)) := by
  have R1 := fun w => rless_any a b w ha ha' hb hb'
  have R2 := fun w => rplus_any a n w ha ha'
  have e : (t + (s - t) % 4294967296) % 4294967296 = s := by omega
  clear ha ha' hb hb' hs hs'
  by_cases hc : 200 < m
  · have hc' : (200 : Int) < (m : Int) := by omega
    clear hc hm R1 R2
    go_enter Try.func3, Try.ntmps3
    go_wp2_with (go_at_call 9; refine (live_any _).mono ?_; rintro e w' ⟨rfl, hw⟩)
    go_ret
    exact ⟨rfl, hw⟩
  · have hc' : ¬ (200 : Int) < (m : Int) := by omega
    have M1 := sum_any ad m c l w (by omega) hm
    have M2 := rsum_any ad m c l w (by omega) hm
    clear hc hm
    go_enter Try.func3, Try.ntmps3
    go_wp2_with (first
      | (go_at_call 10; refine (less_any _ _ _).mono ?_; rintro e w' ⟨rfl, rfl⟩)
      | (go_at_call 11; refine (R1 _).mono ?_; rintro e w' ⟨rfl, rfl⟩)
      | (go_at_call 12; refine (plus_any _ _ _).mono ?_; rintro e w' ⟨rfl, rfl⟩)
      | (go_at_call 13; refine (R2 _).mono ?_; rintro e w' ⟨rfl, rfl⟩)
      | (go_at_call 14; refine M1.mono ?_; rintro e w' ⟨rfl, rfl⟩)
      | (go_at_call 15; refine M2.mono ?_; rintro e w' ⟨rfl, rfl⟩)
      | (go_at_call 16; refine (since_any _ _ _).mono ?_; rintro e w' ⟨rfl, rfl⟩)
      | (go_at_call 9; refine (live_any _).mono ?_; rintro e w' ⟨rfl, hw⟩))
    go_ret
    exact ⟨rfl, hw⟩
end Go.Proofs.Ytodemeilmaoodaa
