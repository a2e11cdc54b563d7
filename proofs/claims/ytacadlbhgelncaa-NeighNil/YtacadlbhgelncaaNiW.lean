/-
  The walk of NeighNil: a nil Table.
-/
import Derived.Test.YtacadlbhgelncaaN18
namespace Go.Proofs.Ytacadlbhgelncaa
open Lk (Hi hcs hcs_one)
open Rk (Rt rcs rtV)
open Go.RowKit Go.Maps Go.Shelf
set_option linter.unusedSimpArgs false
set_option linter.unusedVariables false
set_option maxRecDepth 20000
theorem hello_nil (now i : Int) (c : Ad) (h : Tl) (w : World) : Calls Try.prog 11 #[.pointer none, .int .i64 now, .int .i64 i, (Value.agg (acells c).toArray), .agg (tcells h).toArray] w (Gives w (.int .i64 7)) := by
  go_enter Try.func11, Try.ntmps11
  go_wp2
  go_ret
  exact ⟨rfl, bt (ba _ _) (ba _ _)⟩
theorem ihu_nil (now i : Int) (c : Ad) (h : Tl) (w : World) : Calls Try.prog 14 #[.pointer none, .int .i64 now, .int .i64 i, (Value.agg (acells c).toArray), .agg (tcells h).toArray] w (Gives w (.int .i64 7)) := by
  go_enter Try.func14, Try.ntmps14
  go_wp2
  go_ret
  exact ⟨rfl, bt (ba _ _) (ba _ _)⟩
theorem next_nil (w : World) : Calls Try.prog 15 #[.pointer none] w (Gives w (.tuple #[.int .i64 0, .bool false])) := by
  go_enter Try.func15, Try.ntmps15
  go_wp2
  go_ret2
  exact ⟨rfl, Below.refl _ _⟩
theorem drop_nil (v : Value) (w : World) : Calls Try.prog 21 #[.pointer none, v] w (Gives w (.int .i64 0)) := by
  go_enter Try.func21, Try.ntmps21
  go_wp2
  go_ret
  exact ⟨rfl, Below.refl _ _⟩
theorem tick_nil (now : Int) (w : World) : Calls Try.prog 12 #[.pointer none, .int .i64 now] w (Gives w (.slice none 0 0)) := by
  go_enter Try.func12, Try.ntmps12
  go_wp2_with (go_at_call 13; refine (list_nil _).mono ?_; rintro e w1 ⟨rfl, rfl⟩)
  go_loopw [5, 11] (fun v i wr => v = .slice none 0 0 ∧ i = .int .i64 0 ∧ w = wr) (fun _ _ _ => 0)
  case atStart => exact ⟨rfl, rfl, rfl⟩
  case round =>
    obtain ⟨rfl, rfl, rfl⟩ := hrel
    go_wp2
    go_ret
    exact ⟨rfl, Below.refl _ _⟩
theorem gv_none : getV none = .tuple #[nV zeroN, .bool false] := rfl
theorem rx_nil (i : Int) (c : Ad) (w : World) : Calls Try.prog 19 #[.pointer none, .int .i64 i, (Value.agg (acells c).toArray)] w (Gives w (.int .u16 65535)) := by
  have hG := get_nil i c
  rw [gv_none] at hG
  have r0 := Row.new w 29 (acells c)
  go_enter Try.func19, Try.ntmps19
  go_upto_region 1 with fail
  refine name_world (R := fun W => Code.wp _ _ _ _ W) (P := fun W => Below w.heap.size w W ∧ Row W w.heap.size 29 (acells c)) _ ⟨ba _ _, r0⟩ ?_
  clear r0
  rintro X ⟨hB, r0⟩
  go_wp2_with (first
    | (have kk := r2; refine stN _ _ rfl rfl g2 zeroN _ rfl rfl r2 ?_; intro W3 g3 r3; have b3 := grown_below g3 (bt b1 hB2) (Nat.le_trans b1.size hge2) (bt b1 hB2).size; clear r2)
    | (have kk := b1; refine alG infoNz rfl rfl ?_; intro g2 W2 hge2 hgl2 hB2 r2)
    | (go_at_call 17; refine (hG _).mono ?_; rintro e w1 ⟨rfl, b1⟩)
    | (refine ldA _ rfl rfl _ _ c rfl r0.range ?_))
  go_ret
  exact ⟨rfl, bt hB b3⟩
theorem cost_nil (i : Int) (c : Ad) (w : World) : Calls Try.prog 20 #[.pointer none, .int .i64 i, (Value.agg (acells c).toArray)] w (Gives w (.int .u16 65535)) := by
  have hG := get_nil i c
  rw [gv_none] at hG
  have r0 := Row.new w 29 (acells c)
  go_enter Try.func20, Try.ntmps20
  go_upto_region 1 with fail
  refine name_world (R := fun W => Code.wp _ _ _ _ W) (P := fun W => Below w.heap.size w W ∧ Row W w.heap.size 29 (acells c)) _ ⟨ba _ _, r0⟩ ?_
  clear r0
  rintro X ⟨hB, r0⟩
  go_wp2_with (first
    | (have kk := r2; refine stN _ _ rfl rfl g2 zeroN _ rfl rfl r2 ?_; intro W3 g3 r3; have b3 := grown_below g3 (bt b1 hB2) (Nat.le_trans b1.size hge2) (bt b1 hB2).size; clear r2)
    | (have kk := b1; refine alG infoNz rfl rfl ?_; intro g2 W2 hge2 hgl2 hB2 r2)
    | (go_at_call 17; refine (hG _).mono ?_; rintro e w1 ⟨rfl, b1⟩)
    | (refine ldA _ rfl rfl _ _ c rfl r0.range ?_))
  go_ret
  exact ⟨rfl, bt hB b3⟩
set_option maxHeartbeats 8000000 in
theorem nil_walk (i : Int) (c : Ad) (h : Tl) (w : World) : Calls Try.prog 5 #[.int .i64 i, (Value.agg (acells c).toArray), .agg (tcells h).toArray] w (Gives w (.bool true)) := by
  have hG := get_nil i c
  rw [gv_none] at hG
  obtain ⟨hB, r0, rT⟩ := low_rows w (acells c) (tcells h) 29 39
  go_enter Try.func5, Try.ntmps5
  go_upto_region 2 with fail
  refine name_world (R := fun W => Code.wp _ _ _ _ W) (P := fun W => Below w.heap.size w W ∧ Row W w.heap.size 29 (acells c) ∧ Row W (w.heap.size + 1) 39 (tcells h)) _ ⟨hB, r0, rT⟩ ?_
  clear hB r0 rT
  rintro X ⟨hB, r0, rT⟩
  have hs := r0.lt
  have hsT := rT.lt
  have hb := Below.refl X.heap.size X
  go_wp2_with (first
    | (go_at_call 17; refine (hG _).mono ?_; rintro e w1 ⟨rfl, hn⟩; replace hb := bt hb hn; clear hn)
    | (go_at_call 15; refine (next_nil _).mono ?_; rintro e w1 ⟨rfl, hn⟩; replace hb := bt hb hn; clear hn)
    | (go_at_call 11; refine (hello_nil _ _ _ _ _).mono ?_; rintro e w1 ⟨rfl, hn⟩; replace hb := bt hb hn; clear hn)
    | (go_at_call 14; refine (ihu_nil _ _ _ _ _).mono ?_; rintro e w1 ⟨rfl, hn⟩; replace hb := bt hb hn; clear hn)
    | (go_at_call 18; refine (num_any _ _).mono ?_; rintro e w6 ⟨rfl, rfl⟩)
    | (go_at_call 12; refine (tick_nil _ _).mono ?_; rintro e w1 ⟨rfl, hn⟩; replace hb := bt hb hn; clear hn)
    | (go_at_call 19; refine (rx_nil _ _ _).mono ?_; rintro e w1 ⟨rfl, hn⟩; replace hb := bt hb hn; clear hn)
    | (go_at_call 20; refine (cost_nil _ _ _).mono ?_; rintro e w1 ⟨rfl, hn⟩; replace hb := bt hb hn; clear hn)
    | (go_at_call 13; refine (list_nil _).mono ?_; rintro e w1 ⟨rfl, rfl⟩)
    | (go_at_call 21; refine (drop_nil _ _).mono ?_; rintro e w1 ⟨rfl, hn⟩; replace hb := bt (bt hb (ba _ _)) hn; clear hn)
    | (go_at_call 9; refine (live_any _).mono ?_; rintro e w1 ⟨rfl, hn⟩; replace hb := bt hb hn; clear hn)
    | (have kk := r2; refine stN (.tmp 8) (.tmp 17) rfl rfl g2 zeroN _ rfl rfl r2 ?_; intro W3 g3 r3; replace hb := grown_below g3 (bt hb hB2) (Nat.le_trans hb.size hge2) (bt hb hB2).size; clear r2)
    | (refine alG infoNz rfl rfl ?_; intro g2 W2 hge2 hgl2 hB2 r2)
    | (refine ldA (.tmp 4) rfl rfl _ _ c rfl (r0.below hb hs).range ?_)
    | (refine ldT (.tmp 5) rfl rfl _ h rfl (rT.below hb hsT) ?_))
  go_ret
  exact ⟨rfl, bt hB hb⟩
end Go.Proofs.Ytacadlbhgelncaa
