/-
  The document's table without routes and without room: every act on it; Same and SamePairs with none.
-/
import Derived.Test.YthofoocknmkdjaaE1
namespace Go.Proofs.Ythofoocknmkdjaa
open Go.RowKit Go.Maps Go.Shelf
set_option linter.unusedSimpArgs false
set_option linter.unusedVariables false
set_option maxRecDepth 20000
/-- The document's table: without routes, without room. -/
def Em (w : World) (r : Nat) : Prop := Row w r 30 [.int .i64 0, .slice none 0 0]
theorem Em.rb {w : World} {r : Nat} (h : Em w r) : Rb w 0 r 0 [] := ⟨⟨none, 0, h, World.ownsRow_nil _ _ _ _⟩, (fun n hn => by cases hn), by simp⟩
theorem Em.below {w w' : World} {r : Nat} (h : Em w r) (hb : Below w.heap.size w w') : Em w' r := Row.below h hb (Row.lt h)
/-- What an act on it leaves. -/
def ActE (w : World) (r : Nat) (w' : World) : Prop := Em w' r ∧ w.grownBy w' (some r)
theorem ActE.of {w w' : World} {r : Nat} (h : Em w r) (hb : Below w.heap.size w w') : ActE w r w' := ⟨h.below hb, ⟨hb.os, hb.tape, hb.output, hb.size, fun i hi _ => hb.block i hi⟩⟩
theorem Em.cells {w : World} {r : Nat} (h : Em w r) : w.cell? ⟨r, 0, none⟩ = some (.int .i64 0) ∧ w.cell? ⟨r, 1, none⟩ = some (.slice none 0 0) ∧ w.frozen? ⟨r, 1, none⟩ = false := ⟨h.cell 0, h.cell 1, h.frozen 1⟩
theorem rfind0 {w : World} {r : Nat} (h : Em w r) (k : Ky) : Calls Try.prog 16 #[.pointer (some ⟨r, 0, none⟩), (Value.agg (qcells k.p).toArray), .int .i64 k.i, (Value.agg (acells k.a).toArray)] w (Gives w (.int .i64 (-1))) := rfind_any h.rb k
theorem rretract0 {w : World} {r : Nat} (h : Em w r) (now i : Int) (a : Ad) : Calls Try.prog 36 #[.pointer (some ⟨r, 0, none⟩), .int .i64 now, .int .i64 i, (Value.agg (acells a).toArray)] w (Gives w (.int .i64 0)) := by
  have b0 := ba w (.cells (acells a).toArray 32)
  have h1 := h.below b0
  go_enter Try.func36, Try.ntmps36
  go_wp2_with fail
  go_loopw [9, 10] (fun n v wr => n = .int .i64 0 ∧ v = .int .i64 0 ∧ Below w.heap.size w wr ∧ Em wr r) (fun _ v _ => 0)
  case atStart => exact ⟨rfl, rfl, b0, h1⟩
  case round =>
    clear b0 h1 h
    obtain ⟨rfl, rfl, hb, h1⟩ := hrel
    obtain ⟨c0, c1, f1⟩ := h1.cells
    go_wp2_with fail
    go_ret
    exact ⟨rfl, hb⟩
theorem runselect0 {w : World} {r : Nat} (h : Em w r) (p : Pr) : Calls Try.prog 39 #[.pointer (some ⟨r, 0, none⟩), (Value.agg (qcells p).toArray)] w (Gives w (.int .i64 0)) := by
  have b0 := ba w (.cells (qcells p).toArray 36)
  have h1 := h.below b0
  go_enter Try.func39, Try.ntmps39
  go_wp2_with fail
  go_loopw [5, 6] (fun n v wr => n = .int .i64 0 ∧ v = .int .i64 0 ∧ Below w.heap.size w wr ∧ Em wr r) (fun _ v _ => 0)
  case atStart => exact ⟨rfl, rfl, b0, h1⟩
  case round =>
    clear b0 h1 h
    obtain ⟨rfl, rfl, hb, h1⟩ := hrel
    obtain ⟨c0, c1, f1⟩ := h1.cells
    go_wp2_with fail
    go_ret
    exact ⟨rfl, hb⟩
theorem rselect0 {w : World} {r : Nat} (h : Em w r) (k : Ky) : Calls Try.prog 38 #[.pointer (some ⟨r, 0, none⟩), (Value.agg (qcells k.p).toArray), .int .i64 k.i, (Value.agg (acells k.a).toArray)] w (Gives w (.int .i64 7)) := by
  obtain ⟨hB, r0, r1⟩ := low_rows w (qcells k.p) (acells k.a) 36 32
  have h1 := h.below hB
  have hF := rfind0 h1 k
  have q0 := r0.range
  have q1 := r1.range
  go_enter Try.func38, Try.ntmps38
  go_wp2_with (first
    | (go_at_call 16; refine hF.mono ?_; rintro e w3 ⟨rfl, k3⟩)
    | (refine ldA (.tmp 7) rfl rfl _ _ k.a rfl q1 ?_)
    | (refine ldQ (.tmp 5) rfl rfl _ _ k.p rfl q0 ?_))
  go_ret
  exact ⟨rfl, bt hB k3⟩
theorem rtick0 {w : World} {r : Nat} (h : Em w r) (now : Int) : Calls Try.prog 40 #[.pointer (some ⟨r, 0, none⟩), .int .i64 now] w fun e w' => e = .returned (.tuple #[.slice none 0 0, .slice none 0 0]) ∧ ActE w r w' := by
  go_enter Try.func40, Try.ntmps40
  go_wp2_with fail
  go_loopw [6, 7, 8, 9] (fun a b c v wr => a = .slice none 0 0 ∧ b = .slice none 0 0 ∧ c = .slice none 0 0 ∧ v = .int .i64 0 ∧ Below w.heap.size w wr ∧ Em wr r) (fun _ _ _ v _ => 0)
  case atStart => exact ⟨rfl, rfl, rfl, rfl, Below.refl _ _, h⟩
  case round =>
    obtain ⟨rfl, rfl, rfl, rfl, hb, h1⟩ := hrel
    obtain ⟨c0, c1, f1⟩ := h1.cells
    have hz : Em (wr.setCell ⟨r, 1, none⟩ (.slice none 0 0)) r := Row.set h1 1 (.slice none 0 0)
    have hg := grown_pre hb (grownBy_setCell wr r 1 (.slice none 0 0))
    go_wp2_with fail
    go_ret2
    exact ⟨rfl, hz, hg⟩
theorem rdrop0 {w : World} {r : Nat} (h : Em w r) (i : Int) (v : Value) : Calls Try.prog 41 #[.pointer (some ⟨r, 0, none⟩), .int .i64 i, v] w fun e w' => e = .returned (.slice none 0 0) ∧ ActE w r w' := by
  go_enter Try.func41, Try.ntmps41
  go_wp2_with fail
  go_loopw [7, 8, 9] (fun a b v wr => a = .slice none 0 0 ∧ b = .slice none 0 0 ∧ v = .int .i64 0 ∧ Below w.heap.size w wr ∧ Em wr r) (fun _ _ v _ => 0)
  case atStart => exact ⟨rfl, rfl, rfl, Below.refl _ _, h⟩
  case round =>
    obtain ⟨rfl, rfl, rfl, hb, h1⟩ := hrel
    obtain ⟨c0, c1, f1⟩ := h1.cells
    have hz : Em (wr.setCell ⟨r, 1, none⟩ (.slice none 0 0)) r := Row.set h1 1 (.slice none 0 0)
    have hg := grown_pre hb (grownBy_setCell wr r 1 (.slice none 0 0))
    go_wp2_with fail
    go_ret
    exact ⟨rfl, hz, hg⟩
theorem rtell0 {w : World} {r : Nat} (h : Em w r) (now : Int) (n : Ro) (f : Bool) : Calls Try.prog 35 #[.pointer (some ⟨r, 0, none⟩), .int .i64 now, rV n, .bool f] w fun e w' => ∃ a b, e = .returned (.tuple #[.int .i64 a, .int .i64 b]) ∧ Below w.heap.size w w' := by
  have r0 := Row.new w 41 (ocs n)
  have b0 := ba w (.cells (ocs n).toArray 41)
  go_enter Try.func35, Try.ntmps35
  go_upto_region 1 with fail
  refine name_world (R := fun W => Code.wp _ _ _ _ W) (P := fun W => Below w.heap.size w W ∧ Row W w.heap.size 41 (ocs n)) _ ⟨b0, r0⟩ ?_
  clear r0 b0
  rintro X ⟨hB, r0⟩
  have h1 := h.below hB
  have hF := rfind0 h1 n.k
  have c79 := (r0.cell 79).trans (oc79 n)
  have c34 := (r0.cell 34).trans (oc34 n)
  have qq : LQ X w.heap.size 0 n.p := r0.ro.q
  have qa : LA X w.heap.size 35 n.a := by have := r0.ro.a; simpa using this
  have HX : Hid (∀ W, Below X.heap.size X W → Below w.heap.size w W ∧ W.cell? ⟨w.heap.size, 60, none⟩ = some (.int .u16 n.r) ∧ W.cell? ⟨r, 0, none⟩ = some (.int .i64 0) ∧ W.cell? ⟨r, 1, none⟩ = some (.slice none 0 0)) := fun W hW => ⟨bt hB hW, ((r0.below hW r0.lt).cell 60).trans (oc60 n), (h1.below hW).cells.1, (h1.below hW).cells.2.1⟩
  clear r0 h h1
  by_cases d0 : n.d < 1
  · go_wp2_with fail
    go_ret2
    first | exact ⟨⟨_, _, rfl⟩, hB⟩ | exact ⟨_, _, rfl, hB⟩ | exact hB
  by_cases d1 : 2147483648 < n.d
  · go_wp2_with fail
    go_ret2
    first | exact ⟨⟨_, _, rfl⟩, hB⟩ | exact ⟨_, _, rfl, hB⟩ | exact hB
  go_wp2_with (first
    | (go_at_call 16; refine hF.mono ?_; rintro e w3 ⟨rfl, k3⟩; obtain ⟨hB3, c60, e0, e1⟩ := HX.out _ k3; refine Hid.out ?_)
    | (refine ldA (.tmp 26) rfl rfl _ _ n.a rfl qa ?_)
    | (refine ldQ (.tmp 22) rfl rfl _ _ n.p rfl qq ?_))
  unfold Hid
  by_cases hr : n.r = 65535
  · rw [hr] at c60
    go_wp2_with fail
    go_ret2
    first | exact ⟨⟨_, _, rfl⟩, hB3⟩ | exact ⟨_, _, rfl, hB3⟩ | exact hB3
  have hr' : (n.r == 65535) = false := by simpa using hr
  cases f with
  | false =>
    go_wp2_with fail
    go_ret2
    first | exact ⟨⟨_, _, rfl⟩, hB3⟩ | exact ⟨_, _, rfl, hB3⟩ | exact hB3
  | true =>
    go_wp2_with fail
    go_quiet (fail)
    go_wp2_with fail
    go_ret2
    first | exact ⟨⟨_, _, rfl⟩, below_drewN hB3 _⟩ | exact ⟨_, _, rfl, below_drewN hB3 _⟩ | exact below_drewN hB3 _
theorem same0 (a : Option Addr) (n c : Nat) (w : World) : Calls Try.prog 13 #[.slice a n c, .slice none 0 0] w fun e w' => ∃ b, e = .returned (.bool b) ∧ Below w.heap.size w w' := by
  rcases Nat.eq_zero_or_pos n with h0 | h0
  · subst h0
    go_enter Try.func13, Try.ntmps13
    go_wp2_with fail
    go_loopw [5] (fun v wr => v = .int .i64 0 ∧ Below w.heap.size w wr) (fun v _ => 0)
    case atStart => exact ⟨rfl, Below.refl _ _⟩
    case round =>
      obtain ⟨rfl, hb⟩ := hrel
      go_wp2_with fail
      go_ret
      exact ⟨_, rfl, hb⟩
  · have hne : ((n : Int) != 0) = true := by simp; omega
    go_enter Try.func13, Try.ntmps13
    go_wp2_with fail
    go_ret
    exact ⟨_, rfl, Below.refl _ _⟩
theorem samePairs0 (a : Option Addr) (n c : Nat) (w : World) : Calls Try.prog 23 #[.slice a n c, .slice none 0 0] w fun e w' => ∃ b, e = .returned (.bool b) ∧ Below w.heap.size w w' := by
  rcases Nat.eq_zero_or_pos n with h0 | h0
  · subst h0
    go_enter Try.func23, Try.ntmps23
    go_wp2_with fail
    go_loopw [5] (fun v wr => v = .int .i64 0 ∧ Below w.heap.size w wr) (fun v _ => 0)
    case atStart => exact ⟨rfl, Below.refl _ _⟩
    case round =>
      obtain ⟨rfl, hb⟩ := hrel
      go_wp2_with fail
      go_ret
      exact ⟨_, rfl, hb⟩
  · have hne : ((n : Int) != 0) = true := by simp; omega
    go_enter Try.func23, Try.ntmps23
    go_wp2_with fail
    go_ret
    exact ⟨_, rfl, Below.refl _ _⟩
end Go.Proofs.Ythofoocknmkdjaa
