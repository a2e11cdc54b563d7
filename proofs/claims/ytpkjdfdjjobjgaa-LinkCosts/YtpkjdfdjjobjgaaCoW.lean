/-
  The law LinkCosts returns true for every input.
-/
import Derived.Test.YtpkjdfdjjobjgaaG5
import Derived.Test.YtpkjdfdjjobjgaaG7
namespace Go.Proofs.Ytpkjdfdjjobjgaa
open Go.RowKit
set_option linter.unusedSimpArgs false
theorem costs_walk (kind cost : Int) (ad : Option Addr) (n c : Nat) (l : List Hi) (rx tx : Int) (w : World) (hc : 0 ≤ cost) (hc' : cost < 65536) (hr : 0 ≤ rx) (hr' : rx < 65536) (ht : 0 ≤ tx) (ht' : tx < 65536) (hs : Hs w ad n l) :
    Calls Try.prog 4 #[.int .i64 kind, .int .u16 cost, .slice ad n c, .int .u16 rx, .int .u16 tx] w (Gives w (.bool true)) := by
  by_cases h : 300 < n
  · have h' : (300 : Int) < (n : Int) := by omega
    clear h hs
    go_enter Try.func4, Try.ntmps4
    go_wp2_with (go_at_call 8; refine (live_any _).mono ?_; rintro e w' ⟨rfl, hw⟩)
    go_ret
    exact ⟨rfl, hw⟩
  · have h' : ¬ (300 : Int) < (n : Int) := by omega
    have A1 := rx_any kind cost ad n c l w hc hc' (by omega) hs
    have A2 := fun W (hb : Below w.heap.size w W) => rrx_any kind cost ad n c l W hc hc' (by omega) (hs.below hb)
    have A3 := fun W => cost_any kind rx tx W hr hr' ht ht'
    have A4 := fun W => rcost_any kind rx tx W hr hr' ht ht'
    clear h hs hc hc' hr hr' ht ht'
    generalize rxL kind cost l = x at *
    generalize costZ kind rx tx = y at *
    go_enter Try.func4, Try.ntmps4
    go_wp2_with (first
      | (go_at_call 13; refine A1.mono ?_; rintro e w1 ⟨rfl, hb⟩)
      | (go_at_call 14; refine (A2 _ hb).mono ?_; rintro e w2 ⟨rfl, rfl⟩)
      | (go_at_call 15; refine (A3 _).mono ?_; rintro e w2 ⟨rfl, rfl⟩)
      | (go_at_call 16; refine (A4 _).mono ?_; rintro e w2 ⟨rfl, rfl⟩)
      | (go_at_call 8; refine (live_any _).mono ?_; rintro e w' ⟨rfl, hw⟩))
    go_ret
    exact ⟨rfl, hb.trans (hw.mono hb.size)⟩
end Go.Proofs.Ytpkjdfdjjobjgaa
