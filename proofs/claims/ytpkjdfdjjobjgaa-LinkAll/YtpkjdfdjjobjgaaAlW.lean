/-
  The law LinkAll returns true for every input.
-/
import Derived.Test.YtpkjdfdjjobjgaaAl0
import Derived.Deep.Cut
namespace Go.Proofs.Ytpkjdfdjjobjgaa
open Go.RowKit
set_option linter.unusedSimpArgs false
theorem Row.new' (w : World) (t : TypeId) (cs : List Value) (g : Nat) (hg : g = w.heap.size) : Row (w.alloc (.cells cs.toArray t)) g t cs := by
  subst hg
  exact Row.new w t cs
set_option maxHeartbeats 8000000 in
theorem all_walk (cost first : Int) (n : Nat) (m : Int) (w : World) (hc : 0 ≤ cost) (hc' : cost < 65535) (hn : n ≤ 300) (m0 : 0 ≤ m) (m1 : m ≤ 300) :
    Calls Try.prog 5 #[.int .u16 cost, .int .u16 first, .int .i64 (n : Int), .int .i64 m] w (Gives w (.bool true)) := by
  have hn2 : ¬ (300 : Int) < (n : Int) := by omega
  have hn3 : ¬ (n : Int) < 0 := by omega
  have hm2 : ¬ (300 : Int) < m := by omega
  have hm3 : ¬ m < 0 := by omega
  have hc3 : (cost == 65535) = false := by simp; omega
  go_enter Try.func5, Try.ntmps5
  go_wp2
  go_loopw [10] (fun i wr => ∃ j : Nat, j ≤ n ∧ i = .int .i64 j ∧ Below w.heap.size w wr ∧ Row wr w.heap.size 24 (hcs (allH first j))) (fun i _ => n - (intOf i).toNat)
  case atStart => exact ⟨0, Nat.zero_le _, rfl, (Below.refl _ _).alloc (Nat.le_refl _) _, Row.new w 24 (hcs ⟨0, 0, false⟩)⟩
  case round =>
    obtain ⟨j, hj, rfl, hX, rH⟩ := hrel
    rename World => X
    by_cases hlt : j < n
    · have C := fun W => hear_any (allH first j) ((first + j) % 65536) W (all_ok first j)
      have HS : Hid (allH first (j + 1) = hearH (allH first j) ((first + j) % 65536)) := rfl
      have e1 : IntKind.u16.wrap (first + (j : Int)) = (first + j) % 65536 := wrap16 _
      have hj' : (j : Int) < (n : Int) := by omega
      generalize hearH (allH first j) ((first + j) % 65536) = G at *
      generalize allH first j = H at *
      generalize (first + (j : Int)) % 65536 = s at *
      obtain ⟨hb, hn', hk⟩ := H
      obtain ⟨gb, gn, gk⟩ := G
      dsimp only at C
      have z1 : X.cell? ⟨w.heap.size, 0, none⟩ = some (.int .u16 hb) := rH.cell 0
      have z2 : X.cell? ⟨w.heap.size, 1, none⟩ = some (.int .u16 hn') := rH.cell 1
      have z3 : X.cell? ⟨w.heap.size, 2, none⟩ = some (.bool hk) := rH.cell 2
      go_wp2_with (first
        | (go_at_call 11; refine (C _).mono ?_; rintro e w1 ⟨rfl, hw⟩; replace rH := rH.below hw rH.lt; replace hX := hX.trans (hw.mono hX.size); clear hw)
        | (refine stH (.tmp 9) (.tmp 42) (by rfl) rfl _ ⟨gb, gn, gk⟩ ⟨hb, hn', hk⟩ rfl rfl rH ?_; intro w2 hw _ r1; replace hX := hX.trans (hw.mono (Nat.le_refl _)); clear hw rH))
      go_roundw
      case rel => exact ⟨j + 1, by omega, by go_num, hX, by rw [HS.out]; exact r1⟩
      case measure => simp [intOf]; omega
    · obtain rfl : j = n := by omega
      have hi : ¬ (j : Int) < (j : Int) := by omega
      have RA0 := fun (h3 : 3 ≤ j) W g r => rx_at 0 cost (allH first j) g 1 24 W hc (by omega) (all_ok first j) r
      have RB0 := fun (h3 : 16 ≤ j) W g r => rx_at 1 cost (allH first j) g 1 24 W hc (by omega) (all_ok first j) r
      have CM := fun W => miss_any (allH first j) m W
      have okS := miss_ok m (all_ok first j)
      have RC0 : (missH (allH first j) m).b = 0 → ∀ (W : World) (g c : Nat), c = 1 → Row W g 24 (hcs (missH (allH first j) m)) → Calls Try.prog 13 #[.int .i64 1, .int .u16 cost, .slice (some ⟨g, 0, none⟩) 1 c] W (Gives W (.int .u16 65535)) := by
        intro h0 W g c hc1 r
        have := rx_at 1 cost _ g c _ W hc (by omega) okS r
        rwa [h0, show (0 : Int).toNat = 0 from rfl, rx_zero] at this
      have RD0 : 2 ≤ m → ∀ (W : World) (g c : Nat), c = 1 → Row W g 24 (hcs (missH (allH first j) m)) → Calls Try.prog 13 #[.int .i64 0, .int .u16 cost, .slice (some ⟨g, 0, none⟩) 1 c] W (Gives W (.int .u16 65535)) := by
        intro h0 W g c hc1 r
        have := rx_at 0 cost _ g c _ W hc (by omega) okS r
        rwa [silent_2 cost first j m h0] at this
      have RN := fun W => rx_nil 0 cost W hc (by omega)
      have F16 := silent_16 first j m
      have FN : 0 < j → IntKind.u16.wrap (first + ((j : Int) + m)) = (missH (allH first j) m).n := fun h => by rw [all_next first j m h m0, wrap16]
      have G3 := all_wired cost first j
      have G16 := fun h => all_wireless cost first j h hc hc'
      generalize missH (allH first j) m = S at *
      generalize allH first j = H at *
      obtain ⟨hb, hn, hk⟩ := H
      obtain ⟨sb, sn, sk⟩ := S
      dsimp only at *
      clear okS
      have z1 : X.cell? ⟨w.heap.size, 0, none⟩ = some (.int .u16 hb) := rH.cell 0
      have z2 : X.cell? ⟨w.heap.size, 1, none⟩ = some (.int .u16 hn) := rH.cell 1
      have z3 : X.cell? ⟨w.heap.size, 2, none⟩ = some (.bool hk) := rH.cell 2
      have st0 : True := trivial
      by_cases j0 : j = 0
      · subst j0
        clear RA0 RB0 FN G3 G16
        by_cases m16 : 16 ≤ m
        · have m2 : 2 ≤ m := by omega
          obtain rfl := F16 m16
          have RC := RC0 rfl
          have RD := RD0 m2
          clear RC0 RD0 F16
          go_wp2_with (first
            | (have kk := st0; go_at_call 9; refine (CM _).mono ?_; rintro e w3 ⟨rfl, hw⟩; clear kk st0 CM z1 z2 z3; have st3 : True := trivial; replace hX := hX.trans (hw.mono hX.size); clear hw rH)
            | (have kk := st3; go_at_call 13; refine (RC _ _ _ rfl (Row.new' _ 24 (hcs ⟨0, sn, sk⟩) _ (by simp))).mono ?_; rintro e w4 ⟨rfl, hw⟩; clear kk st3; have st4 : True := trivial; replace hX := (hX.alloc hX.size (.cells #[.int .u16 0, .int .u16 sn, .bool sk] 24)).trans ((Below.refl _ _).mono (by have := hX.size; simp; omega)); have rS := Row.new w3 24 (hcs ⟨0, sn, sk⟩); replace rS := (rS.alloc _).below hw (by have := rS.lt; simp at this ⊢; omega); replace hX := (hX.alloc hX.size _).trans (hw.mono (by have := hX.size; simp at this ⊢; omega)); clear hw; have y1 : w4.cell? ⟨w3.heap.size, 0, none⟩ = some (.int .u16 0) := rS.cell 0; have y2 : w4.cell? ⟨w3.heap.size, 1, none⟩ = some (.int .u16 sn) := rS.cell 1; have y3 : w4.cell? ⟨w3.heap.size, 2, none⟩ = some (.bool sk) := rS.cell 2)
            | (have kk := st4; go_at_call 13; refine (RD _ _ _ rfl (Row.new' _ 24 (hcs ⟨0, sn, sk⟩) _ (by simp))).mono ?_; rintro e w5 ⟨rfl, hw⟩; clear kk st4; have st5 : True := trivial; clear y1 y2 y3; replace rS := (rS.alloc _).below hw (by have := rS.lt; simp at this ⊢; omega); replace hX := (hX.alloc hX.size _).trans (hw.mono (by have := hX.size; simp at this ⊢; omega)); clear hw; have y1 : w5.cell? ⟨w3.heap.size, 0, none⟩ = some (.int .u16 0) := rS.cell 0; have y2 : w5.cell? ⟨w3.heap.size, 1, none⟩ = some (.int .u16 sn) := rS.cell 1; have y3 : w5.cell? ⟨w3.heap.size, 2, none⟩ = some (.bool sk) := rS.cell 2)
            | (have kk := st5; go_at_call 13; refine (RN _).mono ?_; rintro e w6 ⟨rfl, hw⟩; clear kk st5; have st6 : True := trivial; clear y1 y2 y3; replace rS := rS.below hw rS.lt; replace hX := hX.trans (hw.mono hX.size); clear hw; have y1 : w6.cell? ⟨w3.heap.size, 0, none⟩ = some (.int .u16 0) := rS.cell 0; have y2 : w6.cell? ⟨w3.heap.size, 1, none⟩ = some (.int .u16 sn) := rS.cell 1; have y3 : w6.cell? ⟨w3.heap.size, 2, none⟩ = some (.bool sk) := rS.cell 2)
            | (go_at_call 8; refine (live_any _).mono ?_; rintro e w7 ⟨rfl, hw⟩))
          go_ret
          exact ⟨rfl, hX.trans (hw.mono hX.size)⟩
        by_cases m2 : 2 ≤ m
        · have RD := RD0 m2
          clear RC0 RD0 F16
          go_wp2_with (first
            | (have kk := st0; go_at_call 9; refine (CM _).mono ?_; rintro e w3 ⟨rfl, hw⟩; clear kk st0 CM z1 z2 z3; have st3 : True := trivial; replace hX := hX.trans (hw.mono hX.size); clear hw rH)
            | (have kk := st3; go_at_call 13; refine (RD _ _ _ rfl (Row.new' _ 24 (hcs ⟨sb, sn, sk⟩) _ (by simp))).mono ?_; rintro e w5 ⟨rfl, hw⟩; clear kk st3; have st5 : True := trivial; replace hX := (hX.alloc hX.size (.cells #[.int .u16 sb, .int .u16 sn, .bool sk] 24)).trans ((Below.refl _ _).mono (by have := hX.size; simp; omega)); have rS := Row.new w3 24 (hcs ⟨sb, sn, sk⟩); replace rS := (rS.alloc _).below hw (by have := rS.lt; simp at this ⊢; omega); replace hX := (hX.alloc hX.size _).trans (hw.mono (by have := hX.size; simp at this ⊢; omega)); clear hw; have y1 : w5.cell? ⟨w3.heap.size, 0, none⟩ = some (.int .u16 sb) := rS.cell 0; have y2 : w5.cell? ⟨w3.heap.size, 1, none⟩ = some (.int .u16 sn) := rS.cell 1; have y3 : w5.cell? ⟨w3.heap.size, 2, none⟩ = some (.bool sk) := rS.cell 2)
            | (have kk := st5; go_at_call 13; refine (RN _).mono ?_; rintro e w6 ⟨rfl, hw⟩; clear kk st5; have st6 : True := trivial; clear y1 y2 y3; replace rS := rS.below hw rS.lt; replace hX := hX.trans (hw.mono hX.size); clear hw; have y1 : w6.cell? ⟨w3.heap.size, 0, none⟩ = some (.int .u16 sb) := rS.cell 0; have y2 : w6.cell? ⟨w3.heap.size, 1, none⟩ = some (.int .u16 sn) := rS.cell 1; have y3 : w6.cell? ⟨w3.heap.size, 2, none⟩ = some (.bool sk) := rS.cell 2)
            | (go_at_call 8; refine (live_any _).mono ?_; rintro e w7 ⟨rfl, hw⟩))
          go_ret
          exact ⟨rfl, hX.trans (hw.mono hX.size)⟩
        · clear RC0 RD0 F16
          go_wp2_with (first
            | (have kk := st0; go_at_call 9; refine (CM _).mono ?_; rintro e w3 ⟨rfl, hw⟩; clear kk st0 CM z1 z2 z3; have st3 : True := trivial; replace hX := hX.trans (hw.mono hX.size); clear hw rH)
            | (have kk := st3; go_at_call 13; refine (RN _).mono ?_; rintro e w6 ⟨rfl, hw⟩; clear kk st3; have st6 : True := trivial; replace hX := (hX.alloc hX.size (.cells #[.int .u16 sb, .int .u16 sn, .bool sk] 24)).trans ((Below.refl _ _).mono (by have := hX.size; simp; omega)); have rS := Row.new w3 24 (hcs ⟨sb, sn, sk⟩); replace rS := rS.below hw rS.lt; replace hX := hX.trans (hw.mono hX.size); clear hw; have y1 : w6.cell? ⟨w3.heap.size, 0, none⟩ = some (.int .u16 sb) := rS.cell 0; have y2 : w6.cell? ⟨w3.heap.size, 1, none⟩ = some (.int .u16 sn) := rS.cell 1; have y3 : w6.cell? ⟨w3.heap.size, 2, none⟩ = some (.bool sk) := rS.cell 2)
            | (go_at_call 8; refine (live_any _).mono ?_; rintro e w7 ⟨rfl, hw⟩))
          go_ret
          exact ⟨rfl, hX.trans (hw.mono hX.size)⟩
      replace FN := FN (by omega)
      have j0' : ((j : Int) == 0) = false := by simp; omega
      by_cases j3 : 3 ≤ j
      · have RA := RA0 j3
        have j3' : (3 : Int) ≤ (j : Int) := by omega
        rw [G3 j3] at RA
        by_cases j16 : 16 ≤ j
        · have RB := RB0 j16
          have j16' : (16 : Int) ≤ (j : Int) := by omega
          rw [G16 j16] at RB
          clear RA0 RB0 G3 G16
          by_cases m16 : 16 ≤ m
          · have m2 : 2 ≤ m := by omega
            obtain rfl := F16 m16
            have RC := RC0 rfl
            have RD := RD0 m2
            clear RC0 RD0 F16
            go_wp2_with (first
              | (have kk := st0; go_at_call 13; refine (RA _ _ (Row.new _ 24 (hcs ⟨hb, hn, hk⟩))).mono ?_; rintro e w1 ⟨rfl, hw⟩; clear kk st0; have st1 : True := trivial; replace rH := (rH.alloc _).below hw (by have := rH.lt; simp; omega); replace hX := (hX.alloc hX.size _).trans (hw.mono (by have := hX.size; simp; omega)); clear hw z1 z2 z3; have z1 : w1.cell? ⟨w.heap.size, 0, none⟩ = some (.int .u16 hb) := rH.cell 0; have z2 : w1.cell? ⟨w.heap.size, 1, none⟩ = some (.int .u16 hn) := rH.cell 1; have z3 : w1.cell? ⟨w.heap.size, 2, none⟩ = some (.bool hk) := rH.cell 2)
              | (have kk := st1; go_at_call 13; refine (RB _ _ (Row.new _ 24 (hcs ⟨hb, hn, hk⟩))).mono ?_; rintro e w2 ⟨rfl, hw⟩; clear kk st1; have st2 : True := trivial; replace rH := (rH.alloc _).below hw (by have := rH.lt; simp; omega); replace hX := (hX.alloc hX.size _).trans (hw.mono (by have := hX.size; simp; omega)); clear hw z1 z2 z3; have z1 : w2.cell? ⟨w.heap.size, 0, none⟩ = some (.int .u16 hb) := rH.cell 0; have z2 : w2.cell? ⟨w.heap.size, 1, none⟩ = some (.int .u16 hn) := rH.cell 1; have z3 : w2.cell? ⟨w.heap.size, 2, none⟩ = some (.bool hk) := rH.cell 2)
              | (have kk := st2; go_at_call 9; refine (CM _).mono ?_; rintro e w3 ⟨rfl, hw⟩; clear kk st2 CM z1 z2 z3; have st3 : True := trivial; replace hX := hX.trans (hw.mono hX.size); clear hw rH)
              | (have kk := st3; go_at_call 13; refine (RC _ _ _ rfl (Row.new' _ 24 (hcs ⟨0, sn, sk⟩) _ (by simp))).mono ?_; rintro e w4 ⟨rfl, hw⟩; clear kk st3; have st4 : True := trivial; replace hX := (hX.alloc hX.size (.cells #[.int .u16 0, .int .u16 sn, .bool sk] 24)).trans ((Below.refl _ _).mono (by have := hX.size; simp; omega)); have rS := Row.new w3 24 (hcs ⟨0, sn, sk⟩); replace rS := (rS.alloc _).below hw (by have := rS.lt; simp at this ⊢; omega); replace hX := (hX.alloc hX.size _).trans (hw.mono (by have := hX.size; simp at this ⊢; omega)); clear hw; have y1 : w4.cell? ⟨w3.heap.size, 0, none⟩ = some (.int .u16 0) := rS.cell 0; have y2 : w4.cell? ⟨w3.heap.size, 1, none⟩ = some (.int .u16 sn) := rS.cell 1; have y3 : w4.cell? ⟨w3.heap.size, 2, none⟩ = some (.bool sk) := rS.cell 2)
              | (have kk := st4; go_at_call 13; refine (RD _ _ _ rfl (Row.new' _ 24 (hcs ⟨0, sn, sk⟩) _ (by simp))).mono ?_; rintro e w5 ⟨rfl, hw⟩; clear kk st4; have st5 : True := trivial; clear y1 y2 y3; replace rS := (rS.alloc _).below hw (by have := rS.lt; simp at this ⊢; omega); replace hX := (hX.alloc hX.size _).trans (hw.mono (by have := hX.size; simp at this ⊢; omega)); clear hw; have y1 : w5.cell? ⟨w3.heap.size, 0, none⟩ = some (.int .u16 0) := rS.cell 0; have y2 : w5.cell? ⟨w3.heap.size, 1, none⟩ = some (.int .u16 sn) := rS.cell 1; have y3 : w5.cell? ⟨w3.heap.size, 2, none⟩ = some (.bool sk) := rS.cell 2)
              | (have kk := st5; go_at_call 13; refine (RN _).mono ?_; rintro e w6 ⟨rfl, hw⟩; clear kk st5; have st6 : True := trivial; clear y1 y2 y3; replace rS := rS.below hw rS.lt; replace hX := hX.trans (hw.mono hX.size); clear hw; have y1 : w6.cell? ⟨w3.heap.size, 0, none⟩ = some (.int .u16 0) := rS.cell 0; have y2 : w6.cell? ⟨w3.heap.size, 1, none⟩ = some (.int .u16 sn) := rS.cell 1; have y3 : w6.cell? ⟨w3.heap.size, 2, none⟩ = some (.bool sk) := rS.cell 2)
              | (go_at_call 8; refine (live_any _).mono ?_; rintro e w7 ⟨rfl, hw⟩))
            go_ret
            exact ⟨rfl, hX.trans (hw.mono hX.size)⟩
          by_cases m2 : 2 ≤ m
          · have RD := RD0 m2
            clear RC0 RD0 F16
            go_wp2_with (first
              | (have kk := st0; go_at_call 13; refine (RA _ _ (Row.new _ 24 (hcs ⟨hb, hn, hk⟩))).mono ?_; rintro e w1 ⟨rfl, hw⟩; clear kk st0; have st1 : True := trivial; replace rH := (rH.alloc _).below hw (by have := rH.lt; simp; omega); replace hX := (hX.alloc hX.size _).trans (hw.mono (by have := hX.size; simp; omega)); clear hw z1 z2 z3; have z1 : w1.cell? ⟨w.heap.size, 0, none⟩ = some (.int .u16 hb) := rH.cell 0; have z2 : w1.cell? ⟨w.heap.size, 1, none⟩ = some (.int .u16 hn) := rH.cell 1; have z3 : w1.cell? ⟨w.heap.size, 2, none⟩ = some (.bool hk) := rH.cell 2)
              | (have kk := st1; go_at_call 13; refine (RB _ _ (Row.new _ 24 (hcs ⟨hb, hn, hk⟩))).mono ?_; rintro e w2 ⟨rfl, hw⟩; clear kk st1; have st2 : True := trivial; replace rH := (rH.alloc _).below hw (by have := rH.lt; simp; omega); replace hX := (hX.alloc hX.size _).trans (hw.mono (by have := hX.size; simp; omega)); clear hw z1 z2 z3; have z1 : w2.cell? ⟨w.heap.size, 0, none⟩ = some (.int .u16 hb) := rH.cell 0; have z2 : w2.cell? ⟨w.heap.size, 1, none⟩ = some (.int .u16 hn) := rH.cell 1; have z3 : w2.cell? ⟨w.heap.size, 2, none⟩ = some (.bool hk) := rH.cell 2)
              | (have kk := st2; go_at_call 9; refine (CM _).mono ?_; rintro e w3 ⟨rfl, hw⟩; clear kk st2 CM z1 z2 z3; have st3 : True := trivial; replace hX := hX.trans (hw.mono hX.size); clear hw rH)
              | (have kk := st3; go_at_call 13; refine (RD _ _ _ rfl (Row.new' _ 24 (hcs ⟨sb, sn, sk⟩) _ (by simp))).mono ?_; rintro e w5 ⟨rfl, hw⟩; clear kk st3; have st5 : True := trivial; replace hX := (hX.alloc hX.size (.cells #[.int .u16 sb, .int .u16 sn, .bool sk] 24)).trans ((Below.refl _ _).mono (by have := hX.size; simp; omega)); have rS := Row.new w3 24 (hcs ⟨sb, sn, sk⟩); replace rS := (rS.alloc _).below hw (by have := rS.lt; simp at this ⊢; omega); replace hX := (hX.alloc hX.size _).trans (hw.mono (by have := hX.size; simp at this ⊢; omega)); clear hw; have y1 : w5.cell? ⟨w3.heap.size, 0, none⟩ = some (.int .u16 sb) := rS.cell 0; have y2 : w5.cell? ⟨w3.heap.size, 1, none⟩ = some (.int .u16 sn) := rS.cell 1; have y3 : w5.cell? ⟨w3.heap.size, 2, none⟩ = some (.bool sk) := rS.cell 2)
              | (have kk := st5; go_at_call 13; refine (RN _).mono ?_; rintro e w6 ⟨rfl, hw⟩; clear kk st5; have st6 : True := trivial; clear y1 y2 y3; replace rS := rS.below hw rS.lt; replace hX := hX.trans (hw.mono hX.size); clear hw; have y1 : w6.cell? ⟨w3.heap.size, 0, none⟩ = some (.int .u16 sb) := rS.cell 0; have y2 : w6.cell? ⟨w3.heap.size, 1, none⟩ = some (.int .u16 sn) := rS.cell 1; have y3 : w6.cell? ⟨w3.heap.size, 2, none⟩ = some (.bool sk) := rS.cell 2)
              | (go_at_call 8; refine (live_any _).mono ?_; rintro e w7 ⟨rfl, hw⟩))
            go_ret
            exact ⟨rfl, hX.trans (hw.mono hX.size)⟩
          · clear RC0 RD0 F16
            go_wp2_with (first
              | (have kk := st0; go_at_call 13; refine (RA _ _ (Row.new _ 24 (hcs ⟨hb, hn, hk⟩))).mono ?_; rintro e w1 ⟨rfl, hw⟩; clear kk st0; have st1 : True := trivial; replace rH := (rH.alloc _).below hw (by have := rH.lt; simp; omega); replace hX := (hX.alloc hX.size _).trans (hw.mono (by have := hX.size; simp; omega)); clear hw z1 z2 z3; have z1 : w1.cell? ⟨w.heap.size, 0, none⟩ = some (.int .u16 hb) := rH.cell 0; have z2 : w1.cell? ⟨w.heap.size, 1, none⟩ = some (.int .u16 hn) := rH.cell 1; have z3 : w1.cell? ⟨w.heap.size, 2, none⟩ = some (.bool hk) := rH.cell 2)
              | (have kk := st1; go_at_call 13; refine (RB _ _ (Row.new _ 24 (hcs ⟨hb, hn, hk⟩))).mono ?_; rintro e w2 ⟨rfl, hw⟩; clear kk st1; have st2 : True := trivial; replace rH := (rH.alloc _).below hw (by have := rH.lt; simp; omega); replace hX := (hX.alloc hX.size _).trans (hw.mono (by have := hX.size; simp; omega)); clear hw z1 z2 z3; have z1 : w2.cell? ⟨w.heap.size, 0, none⟩ = some (.int .u16 hb) := rH.cell 0; have z2 : w2.cell? ⟨w.heap.size, 1, none⟩ = some (.int .u16 hn) := rH.cell 1; have z3 : w2.cell? ⟨w.heap.size, 2, none⟩ = some (.bool hk) := rH.cell 2)
              | (have kk := st2; go_at_call 9; refine (CM _).mono ?_; rintro e w3 ⟨rfl, hw⟩; clear kk st2 CM z1 z2 z3; have st3 : True := trivial; replace hX := hX.trans (hw.mono hX.size); clear hw rH)
              | (have kk := st3; go_at_call 13; refine (RN _).mono ?_; rintro e w6 ⟨rfl, hw⟩; clear kk st3; have st6 : True := trivial; replace hX := (hX.alloc hX.size (.cells #[.int .u16 sb, .int .u16 sn, .bool sk] 24)).trans ((Below.refl _ _).mono (by have := hX.size; simp; omega)); have rS := Row.new w3 24 (hcs ⟨sb, sn, sk⟩); replace rS := rS.below hw rS.lt; replace hX := hX.trans (hw.mono hX.size); clear hw; have y1 : w6.cell? ⟨w3.heap.size, 0, none⟩ = some (.int .u16 sb) := rS.cell 0; have y2 : w6.cell? ⟨w3.heap.size, 1, none⟩ = some (.int .u16 sn) := rS.cell 1; have y3 : w6.cell? ⟨w3.heap.size, 2, none⟩ = some (.bool sk) := rS.cell 2)
              | (go_at_call 8; refine (live_any _).mono ?_; rintro e w7 ⟨rfl, hw⟩))
            go_ret
            exact ⟨rfl, hX.trans (hw.mono hX.size)⟩
        · have j16' : ¬ (16 : Int) ≤ (j : Int) := by omega
          clear RA0 RB0 G3 G16
          by_cases m16 : 16 ≤ m
          · have m2 : 2 ≤ m := by omega
            obtain rfl := F16 m16
            have RC := RC0 rfl
            have RD := RD0 m2
            clear RC0 RD0 F16
            go_wp2_with (first
              | (have kk := st0; go_at_call 13; refine (RA _ _ (Row.new _ 24 (hcs ⟨hb, hn, hk⟩))).mono ?_; rintro e w1 ⟨rfl, hw⟩; clear kk st0; have st1 : True := trivial; replace rH := (rH.alloc _).below hw (by have := rH.lt; simp; omega); replace hX := (hX.alloc hX.size _).trans (hw.mono (by have := hX.size; simp; omega)); clear hw z1 z2 z3; have z1 : w1.cell? ⟨w.heap.size, 0, none⟩ = some (.int .u16 hb) := rH.cell 0; have z2 : w1.cell? ⟨w.heap.size, 1, none⟩ = some (.int .u16 hn) := rH.cell 1; have z3 : w1.cell? ⟨w.heap.size, 2, none⟩ = some (.bool hk) := rH.cell 2)
              | (have kk := st1; go_at_call 9; refine (CM _).mono ?_; rintro e w3 ⟨rfl, hw⟩; clear kk st1 CM z1 z2 z3; have st3 : True := trivial; replace hX := hX.trans (hw.mono hX.size); clear hw rH)
              | (have kk := st3; go_at_call 13; refine (RC _ _ _ rfl (Row.new' _ 24 (hcs ⟨0, sn, sk⟩) _ (by simp))).mono ?_; rintro e w4 ⟨rfl, hw⟩; clear kk st3; have st4 : True := trivial; replace hX := (hX.alloc hX.size (.cells #[.int .u16 0, .int .u16 sn, .bool sk] 24)).trans ((Below.refl _ _).mono (by have := hX.size; simp; omega)); have rS := Row.new w3 24 (hcs ⟨0, sn, sk⟩); replace rS := (rS.alloc _).below hw (by have := rS.lt; simp at this ⊢; omega); replace hX := (hX.alloc hX.size _).trans (hw.mono (by have := hX.size; simp at this ⊢; omega)); clear hw; have y1 : w4.cell? ⟨w3.heap.size, 0, none⟩ = some (.int .u16 0) := rS.cell 0; have y2 : w4.cell? ⟨w3.heap.size, 1, none⟩ = some (.int .u16 sn) := rS.cell 1; have y3 : w4.cell? ⟨w3.heap.size, 2, none⟩ = some (.bool sk) := rS.cell 2)
              | (have kk := st4; go_at_call 13; refine (RD _ _ _ rfl (Row.new' _ 24 (hcs ⟨0, sn, sk⟩) _ (by simp))).mono ?_; rintro e w5 ⟨rfl, hw⟩; clear kk st4; have st5 : True := trivial; clear y1 y2 y3; replace rS := (rS.alloc _).below hw (by have := rS.lt; simp at this ⊢; omega); replace hX := (hX.alloc hX.size _).trans (hw.mono (by have := hX.size; simp at this ⊢; omega)); clear hw; have y1 : w5.cell? ⟨w3.heap.size, 0, none⟩ = some (.int .u16 0) := rS.cell 0; have y2 : w5.cell? ⟨w3.heap.size, 1, none⟩ = some (.int .u16 sn) := rS.cell 1; have y3 : w5.cell? ⟨w3.heap.size, 2, none⟩ = some (.bool sk) := rS.cell 2)
              | (have kk := st5; go_at_call 13; refine (RN _).mono ?_; rintro e w6 ⟨rfl, hw⟩; clear kk st5; have st6 : True := trivial; clear y1 y2 y3; replace rS := rS.below hw rS.lt; replace hX := hX.trans (hw.mono hX.size); clear hw; have y1 : w6.cell? ⟨w3.heap.size, 0, none⟩ = some (.int .u16 0) := rS.cell 0; have y2 : w6.cell? ⟨w3.heap.size, 1, none⟩ = some (.int .u16 sn) := rS.cell 1; have y3 : w6.cell? ⟨w3.heap.size, 2, none⟩ = some (.bool sk) := rS.cell 2)
              | (go_at_call 8; refine (live_any _).mono ?_; rintro e w7 ⟨rfl, hw⟩))
            go_ret
            exact ⟨rfl, hX.trans (hw.mono hX.size)⟩
          by_cases m2 : 2 ≤ m
          · have RD := RD0 m2
            clear RC0 RD0 F16
            go_wp2_with (first
              | (have kk := st0; go_at_call 13; refine (RA _ _ (Row.new _ 24 (hcs ⟨hb, hn, hk⟩))).mono ?_; rintro e w1 ⟨rfl, hw⟩; clear kk st0; have st1 : True := trivial; replace rH := (rH.alloc _).below hw (by have := rH.lt; simp; omega); replace hX := (hX.alloc hX.size _).trans (hw.mono (by have := hX.size; simp; omega)); clear hw z1 z2 z3; have z1 : w1.cell? ⟨w.heap.size, 0, none⟩ = some (.int .u16 hb) := rH.cell 0; have z2 : w1.cell? ⟨w.heap.size, 1, none⟩ = some (.int .u16 hn) := rH.cell 1; have z3 : w1.cell? ⟨w.heap.size, 2, none⟩ = some (.bool hk) := rH.cell 2)
              | (have kk := st1; go_at_call 9; refine (CM _).mono ?_; rintro e w3 ⟨rfl, hw⟩; clear kk st1 CM z1 z2 z3; have st3 : True := trivial; replace hX := hX.trans (hw.mono hX.size); clear hw rH)
              | (have kk := st3; go_at_call 13; refine (RD _ _ _ rfl (Row.new' _ 24 (hcs ⟨sb, sn, sk⟩) _ (by simp))).mono ?_; rintro e w5 ⟨rfl, hw⟩; clear kk st3; have st5 : True := trivial; replace hX := (hX.alloc hX.size (.cells #[.int .u16 sb, .int .u16 sn, .bool sk] 24)).trans ((Below.refl _ _).mono (by have := hX.size; simp; omega)); have rS := Row.new w3 24 (hcs ⟨sb, sn, sk⟩); replace rS := (rS.alloc _).below hw (by have := rS.lt; simp at this ⊢; omega); replace hX := (hX.alloc hX.size _).trans (hw.mono (by have := hX.size; simp at this ⊢; omega)); clear hw; have y1 : w5.cell? ⟨w3.heap.size, 0, none⟩ = some (.int .u16 sb) := rS.cell 0; have y2 : w5.cell? ⟨w3.heap.size, 1, none⟩ = some (.int .u16 sn) := rS.cell 1; have y3 : w5.cell? ⟨w3.heap.size, 2, none⟩ = some (.bool sk) := rS.cell 2)
              | (have kk := st5; go_at_call 13; refine (RN _).mono ?_; rintro e w6 ⟨rfl, hw⟩; clear kk st5; have st6 : True := trivial; clear y1 y2 y3; replace rS := rS.below hw rS.lt; replace hX := hX.trans (hw.mono hX.size); clear hw; have y1 : w6.cell? ⟨w3.heap.size, 0, none⟩ = some (.int .u16 sb) := rS.cell 0; have y2 : w6.cell? ⟨w3.heap.size, 1, none⟩ = some (.int .u16 sn) := rS.cell 1; have y3 : w6.cell? ⟨w3.heap.size, 2, none⟩ = some (.bool sk) := rS.cell 2)
              | (go_at_call 8; refine (live_any _).mono ?_; rintro e w7 ⟨rfl, hw⟩))
            go_ret
            exact ⟨rfl, hX.trans (hw.mono hX.size)⟩
          · clear RC0 RD0 F16
            go_wp2_with (first
              | (have kk := st0; go_at_call 13; refine (RA _ _ (Row.new _ 24 (hcs ⟨hb, hn, hk⟩))).mono ?_; rintro e w1 ⟨rfl, hw⟩; clear kk st0; have st1 : True := trivial; replace rH := (rH.alloc _).below hw (by have := rH.lt; simp; omega); replace hX := (hX.alloc hX.size _).trans (hw.mono (by have := hX.size; simp; omega)); clear hw z1 z2 z3; have z1 : w1.cell? ⟨w.heap.size, 0, none⟩ = some (.int .u16 hb) := rH.cell 0; have z2 : w1.cell? ⟨w.heap.size, 1, none⟩ = some (.int .u16 hn) := rH.cell 1; have z3 : w1.cell? ⟨w.heap.size, 2, none⟩ = some (.bool hk) := rH.cell 2)
              | (have kk := st1; go_at_call 9; refine (CM _).mono ?_; rintro e w3 ⟨rfl, hw⟩; clear kk st1 CM z1 z2 z3; have st3 : True := trivial; replace hX := hX.trans (hw.mono hX.size); clear hw rH)
              | (have kk := st3; go_at_call 13; refine (RN _).mono ?_; rintro e w6 ⟨rfl, hw⟩; clear kk st3; have st6 : True := trivial; replace hX := (hX.alloc hX.size (.cells #[.int .u16 sb, .int .u16 sn, .bool sk] 24)).trans ((Below.refl _ _).mono (by have := hX.size; simp; omega)); have rS := Row.new w3 24 (hcs ⟨sb, sn, sk⟩); replace rS := rS.below hw rS.lt; replace hX := hX.trans (hw.mono hX.size); clear hw; have y1 : w6.cell? ⟨w3.heap.size, 0, none⟩ = some (.int .u16 sb) := rS.cell 0; have y2 : w6.cell? ⟨w3.heap.size, 1, none⟩ = some (.int .u16 sn) := rS.cell 1; have y3 : w6.cell? ⟨w3.heap.size, 2, none⟩ = some (.bool sk) := rS.cell 2)
              | (go_at_call 8; refine (live_any _).mono ?_; rintro e w7 ⟨rfl, hw⟩))
            go_ret
            exact ⟨rfl, hX.trans (hw.mono hX.size)⟩
      · have j3' : ¬ (3 : Int) ≤ (j : Int) := by omega
        have j16' : ¬ (16 : Int) ≤ (j : Int) := by omega
        clear RA0 RB0 G3 G16
        by_cases m16 : 16 ≤ m
        · have m2 : 2 ≤ m := by omega
          obtain rfl := F16 m16
          have RC := RC0 rfl
          have RD := RD0 m2
          clear RC0 RD0 F16
          go_wp2_with (first
            | (have kk := st0; go_at_call 9; refine (CM _).mono ?_; rintro e w3 ⟨rfl, hw⟩; clear kk st0 CM z1 z2 z3; have st3 : True := trivial; replace hX := hX.trans (hw.mono hX.size); clear hw rH)
            | (have kk := st3; go_at_call 13; refine (RC _ _ _ rfl (Row.new' _ 24 (hcs ⟨0, sn, sk⟩) _ (by simp))).mono ?_; rintro e w4 ⟨rfl, hw⟩; clear kk st3; have st4 : True := trivial; replace hX := (hX.alloc hX.size (.cells #[.int .u16 0, .int .u16 sn, .bool sk] 24)).trans ((Below.refl _ _).mono (by have := hX.size; simp; omega)); have rS := Row.new w3 24 (hcs ⟨0, sn, sk⟩); replace rS := (rS.alloc _).below hw (by have := rS.lt; simp at this ⊢; omega); replace hX := (hX.alloc hX.size _).trans (hw.mono (by have := hX.size; simp at this ⊢; omega)); clear hw; have y1 : w4.cell? ⟨w3.heap.size, 0, none⟩ = some (.int .u16 0) := rS.cell 0; have y2 : w4.cell? ⟨w3.heap.size, 1, none⟩ = some (.int .u16 sn) := rS.cell 1; have y3 : w4.cell? ⟨w3.heap.size, 2, none⟩ = some (.bool sk) := rS.cell 2)
            | (have kk := st4; go_at_call 13; refine (RD _ _ _ rfl (Row.new' _ 24 (hcs ⟨0, sn, sk⟩) _ (by simp))).mono ?_; rintro e w5 ⟨rfl, hw⟩; clear kk st4; have st5 : True := trivial; clear y1 y2 y3; replace rS := (rS.alloc _).below hw (by have := rS.lt; simp at this ⊢; omega); replace hX := (hX.alloc hX.size _).trans (hw.mono (by have := hX.size; simp at this ⊢; omega)); clear hw; have y1 : w5.cell? ⟨w3.heap.size, 0, none⟩ = some (.int .u16 0) := rS.cell 0; have y2 : w5.cell? ⟨w3.heap.size, 1, none⟩ = some (.int .u16 sn) := rS.cell 1; have y3 : w5.cell? ⟨w3.heap.size, 2, none⟩ = some (.bool sk) := rS.cell 2)
            | (have kk := st5; go_at_call 13; refine (RN _).mono ?_; rintro e w6 ⟨rfl, hw⟩; clear kk st5; have st6 : True := trivial; clear y1 y2 y3; replace rS := rS.below hw rS.lt; replace hX := hX.trans (hw.mono hX.size); clear hw; have y1 : w6.cell? ⟨w3.heap.size, 0, none⟩ = some (.int .u16 0) := rS.cell 0; have y2 : w6.cell? ⟨w3.heap.size, 1, none⟩ = some (.int .u16 sn) := rS.cell 1; have y3 : w6.cell? ⟨w3.heap.size, 2, none⟩ = some (.bool sk) := rS.cell 2)
            | (go_at_call 8; refine (live_any _).mono ?_; rintro e w7 ⟨rfl, hw⟩))
          go_ret
          exact ⟨rfl, hX.trans (hw.mono hX.size)⟩
        by_cases m2 : 2 ≤ m
        · have RD := RD0 m2
          clear RC0 RD0 F16
          go_wp2_with (first
            | (have kk := st0; go_at_call 9; refine (CM _).mono ?_; rintro e w3 ⟨rfl, hw⟩; clear kk st0 CM z1 z2 z3; have st3 : True := trivial; replace hX := hX.trans (hw.mono hX.size); clear hw rH)
            | (have kk := st3; go_at_call 13; refine (RD _ _ _ rfl (Row.new' _ 24 (hcs ⟨sb, sn, sk⟩) _ (by simp))).mono ?_; rintro e w5 ⟨rfl, hw⟩; clear kk st3; have st5 : True := trivial; replace hX := (hX.alloc hX.size (.cells #[.int .u16 sb, .int .u16 sn, .bool sk] 24)).trans ((Below.refl _ _).mono (by have := hX.size; simp; omega)); have rS := Row.new w3 24 (hcs ⟨sb, sn, sk⟩); replace rS := (rS.alloc _).below hw (by have := rS.lt; simp at this ⊢; omega); replace hX := (hX.alloc hX.size _).trans (hw.mono (by have := hX.size; simp at this ⊢; omega)); clear hw; have y1 : w5.cell? ⟨w3.heap.size, 0, none⟩ = some (.int .u16 sb) := rS.cell 0; have y2 : w5.cell? ⟨w3.heap.size, 1, none⟩ = some (.int .u16 sn) := rS.cell 1; have y3 : w5.cell? ⟨w3.heap.size, 2, none⟩ = some (.bool sk) := rS.cell 2)
            | (have kk := st5; go_at_call 13; refine (RN _).mono ?_; rintro e w6 ⟨rfl, hw⟩; clear kk st5; have st6 : True := trivial; clear y1 y2 y3; replace rS := rS.below hw rS.lt; replace hX := hX.trans (hw.mono hX.size); clear hw; have y1 : w6.cell? ⟨w3.heap.size, 0, none⟩ = some (.int .u16 sb) := rS.cell 0; have y2 : w6.cell? ⟨w3.heap.size, 1, none⟩ = some (.int .u16 sn) := rS.cell 1; have y3 : w6.cell? ⟨w3.heap.size, 2, none⟩ = some (.bool sk) := rS.cell 2)
            | (go_at_call 8; refine (live_any _).mono ?_; rintro e w7 ⟨rfl, hw⟩))
          go_ret
          exact ⟨rfl, hX.trans (hw.mono hX.size)⟩
        · clear RC0 RD0 F16
          go_wp2_with (first
            | (have kk := st0; go_at_call 9; refine (CM _).mono ?_; rintro e w3 ⟨rfl, hw⟩; clear kk st0 CM z1 z2 z3; have st3 : True := trivial; replace hX := hX.trans (hw.mono hX.size); clear hw rH)
            | (have kk := st3; go_at_call 13; refine (RN _).mono ?_; rintro e w6 ⟨rfl, hw⟩; clear kk st3; have st6 : True := trivial; replace hX := (hX.alloc hX.size (.cells #[.int .u16 sb, .int .u16 sn, .bool sk] 24)).trans ((Below.refl _ _).mono (by have := hX.size; simp; omega)); have rS := Row.new w3 24 (hcs ⟨sb, sn, sk⟩); replace rS := rS.below hw rS.lt; replace hX := hX.trans (hw.mono hX.size); clear hw; have y1 : w6.cell? ⟨w3.heap.size, 0, none⟩ = some (.int .u16 sb) := rS.cell 0; have y2 : w6.cell? ⟨w3.heap.size, 1, none⟩ = some (.int .u16 sn) := rS.cell 1; have y3 : w6.cell? ⟨w3.heap.size, 2, none⟩ = some (.bool sk) := rS.cell 2)
            | (go_at_call 8; refine (live_any _).mono ?_; rintro e w7 ⟨rfl, hw⟩))
          go_ret
          exact ⟨rfl, hX.trans (hw.mono hX.size)⟩
theorem all_any (cost first n m : Int) (w : World) (hc : 0 ≤ cost) (hc' : cost < 65536) :
    Calls Try.prog 5 #[.int .u16 cost, .int .u16 first, .int .i64 n, .int .i64 m] w (Gives w (.bool true)) := by
  by_cases h : n < 0 ∨ 300 < n ∨ m < 0 ∨ 300 < m ∨ cost = 65535
  · exact all_short cost first n m w h
  · obtain ⟨k, rfl⟩ := Int.eq_ofNat_of_zero_le (show 0 ≤ n by omega)
    exact all_walk cost first k m w hc (by omega) (by omega) (by omega) (by omega)
end Go.Proofs.Ytpkjdfdjjobjgaa
