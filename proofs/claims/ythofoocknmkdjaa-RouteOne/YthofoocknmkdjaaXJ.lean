/-
  The acts on a nil Table.
-/
import Derived.Test.YthofoocknmkdjaaXI
import Derived.Test.YthofoocknmkdjaaXH
namespace Go.Proofs.Ythofoocknmkdjaa
open Go.RowKit Go.Maps Go.Shelf
set_option linter.unusedSimpArgs false
set_option linter.unusedVariables false
set_option maxRecDepth 20000
theorem retract_nil (now i : Int) (a : Ad) (w : World) : Calls Try.prog 27 #[.pointer none, .int .i64 now, .int .i64 i, (Value.agg (acells a).toArray)] w (Gives w (.int .i64 0)) := by
  have hmf : ∀ (fn : Fn) (first cap : Array Value) (w : World), (Instr.makeFunc fn first cap).run Try.prog w = .ok (.func fn first cap) w := fun _ _ _ _ => rfl
  obtain ⟨hB, r0, r1⟩ := low_rows w [.int .i64 i] (acells a) 3 32
  clear r0 r1
  go_enter Try.func27, Try.ntmps27
  go_upto_region 1 with fail
  refine name_world (R := fun W => Code.wp _ _ _ _ W) (P := fun W => Below w.heap.size w W) _ hB ?_
  clear hB
  intro X hB
  go_wp2_with (go_at_call 42; refine (where_nil _ _).mono ?_; rintro e w1 ⟨rfl, rfl⟩)
  go_loopw [17] (fun u wr => u = .int .i64 0 ∧ Below w.heap.size w wr) (fun _ _ => 0)
  case atStart => exact ⟨rfl, hB⟩
  case round =>
    obtain ⟨rfl, hB2⟩ := hrel
    go_wp2_with fail
    go_ret
    exact ⟨rfl, hB2⟩
theorem tick_nil (now : Int) (w : World) : Calls Try.prog 28 #[.pointer none, .int .i64 now] w (Gives w (.tuple #[.slice none 0 0, .slice none 0 0])) := by
  have hmf : ∀ (fn : Fn) (first cap : Array Value) (w : World), (Instr.makeFunc fn first cap).run Try.prog w = .ok (.func fn first cap) w := fun _ _ _ _ => rfl
  go_enter Try.func28, Try.ntmps28
  go_upto_region 1 with fail
  refine name_world (R := fun W => Code.wp _ _ _ _ W) (P := fun W => Below w.heap.size w W) _ (ba _ _) ?_
  intro X hB
  go_wp2_with (go_at_call 42; refine (where_nil _ _).mono ?_; rintro e w1 ⟨rfl, rfl⟩)
  go_loopw [4, 5, 12] (fun v z u wr => v = .slice none 0 0 ∧ z = .slice none 0 0 ∧ u = .int .i64 0 ∧ Below w.heap.size w wr) (fun _ _ _ _ => 0)
  case atStart => exact ⟨rfl, rfl, rfl, hB⟩
  case round =>
    obtain ⟨rfl, rfl, rfl, hB2⟩ := hrel
    go_wp2_with fail
    go_ret2
    exact ⟨rfl, hB2⟩
theorem drop_nil (i : Int) (a : Option Addr) (n c : Nat) (w : World) : Calls Try.prog 34 #[.pointer none, .int .i64 i, .slice a n c] w (Gives w (.slice none 0 0)) := by
  have hmf : ∀ (fn : Fn) (first cap : Array Value) (w : World), (Instr.makeFunc fn first cap).run Try.prog w = .ok (.func fn first cap) w := fun _ _ _ _ => rfl
  obtain ⟨hB, r0, r1⟩ := low_rows w [.int .i64 i] [.slice a n c] 3 81
  clear r0 r1
  go_enter Try.func34, Try.ntmps34
  go_upto_region 1 with fail
  refine name_world (R := fun W => Code.wp _ _ _ _ W) (P := fun W => Below w.heap.size w W) _ hB ?_
  clear hB
  intro X hB
  go_wp2_with (go_at_call 42; refine (where_nil _ _).mono ?_; rintro e w1 ⟨rfl, rfl⟩)
  go_loopw [15] (fun u wr => u = .int .i64 0 ∧ Below w.heap.size w wr) (fun _ _ => 0)
  case atStart => exact ⟨rfl, hB⟩
  case round =>
    obtain ⟨rfl, hB2⟩ := hrel
    go_wp2_with fail
    go_ret
    exact ⟨rfl, hB2⟩
theorem select_nil (k : Ky) (w : World) : Calls Try.prog 32 #[.pointer none, (Value.agg (qcells k.p).toArray), .int .i64 k.i, (Value.agg (acells k.a).toArray)] w (Gives w (.int .i64 7)) := by
  obtain ⟨hB, r0, r1⟩ := low_rows w (qcells k.p) (acells k.a) 36 32
  have hG := get_nil k
  rw [show getV (none : Option Ro) = .tuple #[rV zeroR, .bool false] from rfl] at hG
  go_enter Try.func32, Try.ntmps32
  go_upto_region 1 with fail
  refine name_world (R := fun W => Code.wp _ _ _ _ W) (P := fun W => Below w.heap.size w W ∧ Row W w.heap.size 36 (qcells k.p) ∧ Row W (w.heap.size + 1) 32 (acells k.a)) _ ⟨hB, r0, r1⟩ ?_
  clear hB r0 r1
  rintro X ⟨hB, r0, r1⟩
  go_wp2_with (first
    | (have kk := r2; refine stS (.tmp 9) (.tmp 17) rfl rfl g2 zeroR _ rfl rfl r2 ?_; intro W3 g3 r3; have b3 := grown_below g3 b2 (Nat.le_trans b1.size hge2) b2.size; clear r2)
    | (have kk := b1; refine alG infoRz rfl rfl ?_; intro g2 W2 hge2 hgl2 hB2 r2; have b2 := bt b1 hB2)
    | (go_at_call 15; refine (hG _).mono ?_; rintro e w1 ⟨rfl, b1⟩)
    | (refine ldA (.tmp 7) rfl rfl _ _ k.a rfl r1.range ?_)
    | (refine ldQ (.tmp 5) rfl rfl _ _ k.p rfl r0.range ?_))
  go_ret
  exact ⟨rfl, bt hB b3⟩
set_option maxHeartbeats 4000000 in
theorem unsel_nil1 (p : Pr) (g c : Nat) (w : World) (hr : Row w g 36 (qcells p)) : Calls Try.prog 33 #[.pointer none, .slice (some ⟨g, 0, none⟩) 1 c] w (Gives w (.int .i64 0)) := by
  have hS := sel_nil p
  have hgl := hr.lt
  go_enter Try.func33, Try.ntmps33
  go_wp2_with fail
  go_loopw [5, 12] (fun v u wr => v = .int .i64 0 ∧ (∃ j : Nat, j ≤ 1 ∧ u = .int .i64 j) ∧ Below w.heap.size w wr) (fun _ u _ => 1 - (intOf u).toNat)
  case atStart => exact ⟨rfl, ⟨0, by omega, rfl⟩, Below.refl _ _⟩
  case round =>
    obtain ⟨rfl, ⟨j, hj, rfl⟩, hB⟩ := hrel
    have r0 := hr.below hB hgl
    clear hr
    rcases Nat.lt_or_ge j 1 with h1 | h1
    · obtain rfl : j = 0 := by omega
      go_wp2_with (first
        | (have kk := r4; refine stS (.tmp 8) (.tmp 20) rfl rfl g4 zeroR _ rfl rfl r4 ?_; intro W5 g5 r5; have b5 := grown_below g5 b4 (Nat.le_trans b3.size hge4) b4.size; clear r4)
        | (have kk := b3; refine alG infoRz rfl rfl ?_; intro g4 W4 hge4 hgl4 hB4 r4; have b4 := bt b3 hB4)
        | (have kk := q2; go_at_call 17; refine (hS _).mono ?_; rintro e w3 ⟨rfl, k3⟩; have b3 := bt b2 k3; clear q2)
        | (have kk := q2; refine ldQ (.tmp 7) rfl rfl _ _ p rfl q2.range ?_)
        | (have kk := r1; refine inL rfl fun KK hKK => ?_; refine wp_store_mid _ (.tmp 7) (.tmp 15) rfl g1 0 (qcells p).toArray rfl rfl (by simpa [qcells_len] using r1.there (n := 34) (by rw [qcells_len]; omega)) (by rw [infoQ]; simp [qcells_len]) (all_oneCell_toArray (qcells_one p)) ?_; refine hKK _ _ ?_; have q2 := Row.setCells (qcells p) [] _ (qcells zeroQ) r1 (by rw [qcells_len, qcells_len]); have b2 := grown_below (grownBy_setCells g1 (qcells p) 0 _) hB1 hge1 hB1.size; clear r1)
        | (refine alG infoQz rfl rfl ?_; intro g1 W1 hge1 hgl1 hB1 r1)
        | (refine ldQ (.tmp 14) rfl rfl _ _ p rfl r0.range ?_))
      go_roundw
      case rel => exact ⟨rfl, ⟨1, by omega, by first | rfl | go_num⟩, bt hB b5⟩
      case measure => decide
    · obtain rfl : j = 1 := by omega
      go_wp2_with fail
      go_ret
      exact ⟨rfl, hB⟩
end Go.Proofs.Ythofoocknmkdjaa
