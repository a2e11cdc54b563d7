/-
  The law's own three timers come in order.
-/
import Derived.Test.YtkamcnjofpamhaaTLv
namespace Go.Proofs.Ytkamcnjofpamhaa
open Go.RowKit Go.Maps
set_option linter.unusedSimpArgs false
def dueC (s : ByteArray) (a : Int) : Array Value := #[.string s, .int .i64 a]
theorem Lv.alloc {n : Nat} {W : World} {q mb : Nat} {L : List Tm} (h : Lv n W q mb L) (o : Obj) : Lv n (W.alloc o) q mb L := h.below ((Below.refl _ _).alloc (Nat.le_refl _) _)
theorem Kp.alloc {n : Nat} {w W : World} (h : Kp n w W) (hl : n ≤ W.heap.size) (o : Obj) : Kp n w (W.alloc o) := h.trans (Kp.of_below ((Below.refl _ _).alloc (Nat.le_refl _) _) hl)
theorem Kp.le {n : Nat} {w W : World} (h : Kp n w W) (hl : n ≤ w.heap.size) : n ≤ W.heap.size := Nat.le_trans hl h.below.size
theorem leA {n : Nat} {W : World} (h : n ≤ W.heap.size) (o : Obj) : n ≤ (W.alloc o).heap.size := by simp; omega
theorem small (s : ByteArray) (h : s.size ≤ 1) : s.size ≤ maxLen := by unfold maxLen; omega
theorem hn1 (x : Nat) : ∀ t ∈ [(⟨x, 5, sb⟩ : Tm)], t.nm ≠ sa := by
  intro t ht
  simp at ht
  subst ht
  intro e
  have := congrArg (fun s : ByteArray => s.data.toList) e
  simp [sa, sb] at this
theorem hn2 (x y : Nat) : ∀ t ∈ [(⟨y, 5, sa⟩ : Tm), ⟨x, 5, sb⟩], t.nm ≠ sc := by
  intro t ht
  simp at ht
  rcases ht with rfl | rfl
  · intro e
    have := congrArg (fun s : ByteArray => s.data.toList) e
    simp [sa, sc] at this
  · intro e
    have := congrArg (fun s : ByteArray => s.data.toList) e
    simp [sb, sc] at this
set_option maxHeartbeats 4000000 in
set_option maxRecDepth 100000 in
theorem live_any (w : World) : Calls Try.prog 9 #[] w (Gives w (.bool true)) := by
  have J := jit_one
  have N := lv_new w
  have hle := Nat.le_refl w.heap.size
  go_enter Try.func9, Try.ntmps9
  go_wp2_with (first
    | (go_at_call 11; refine (num_any _ _).mono ?_; rintro e wn ⟨rfl, rfl⟩)
    | (go_at_call 24; refine Ln.mono ?_; rintro e w8 ⟨rfl, l8, k8⟩; have k08 := k07.trans k8)
    | (go_at_call 25; refine (J _).mono ?_; rintro e w9 ⟨rfl, rfl⟩)
    | (go_at_call 16; have hh := P3; refine P3.mono ?_; rintro e w7 ⟨rfl, l7, k7⟩; have z7 := k7.le (leA z6 _); have b1 := k7.cells _ _ _ ((Below.heap_alloc w6 _ _ (Array.getElem?_eq_some_iff.1 b6).1).trans b6) (by decide) (by decide) (by decide); have k07 := (k06.trans k7).alloc z7 (.cells #[.string ⟨#[97]⟩, .int .i64 5] 39); have b7 := (Below.heap_alloc w7 (.cells #[.string ⟨#[97]⟩, .int .i64 5] 39) _ (Array.getElem?_eq_some_iff.1 b1).1).trans b1; have c1 : (w7.alloc (.cells #[.string ⟨#[97]⟩, .int .i64 5] 39)).cell? ⟨w5.heap.size, 0, none⟩ = some (.string ⟨#[99]⟩) := one_cell b7 rfl; have c2 : (w7.alloc (.cells #[.string ⟨#[97]⟩, .int .i64 5] 39)).cell? ⟨w5.heap.size, 1, none⟩ = some (.int .i64 3) := one_cell b7 rfl; have Ln := (l7.alloc (.cells #[.string ⟨#[97]⟩, .int .i64 5] 39)).len (leA z7 _); clear hh P3)
    | (go_at_call 16; have hh := P2; refine P2.mono ?_; rintro e w6 ⟨rfl, l6, k6⟩; have z6 := k6.le (leA z5 _); have b6 := k6.cells _ _ _ (new_block w5 #[.string ⟨#[99]⟩, .int .i64 3] 39) (by decide) (by decide) (by decide); have P3 := (l6.alloc (.cells #[.string ⟨#[]⟩, .int .i64 0] 39)).pop_due (leA z6 _) 5 (by simp) (by simp) (by simp); rw [live4] at P3; replace P3 : Calls Try.prog 16 #[.pointer (some ⟨w.heap.size + 1, 0, none⟩), .int .i64 5] (w6.alloc (.cells #[.string ⟨#[]⟩, .int .i64 0] 39)) (Post w.heap.size (w6.alloc (.cells #[.string ⟨#[]⟩, .int .i64 0] 39)) (w.heap.size + 1) w.heap.size [⟨w1.heap.size, 5, sb⟩] (.tuple #[.agg #[.string ⟨#[97]⟩, .int .i64 5], .bool true])) := P3; have k06 := (k05.trans k6).alloc z6 (.cells #[.string ⟨#[]⟩, .int .i64 0] 39); clear hh P2)
    | (go_at_call 16; have hh := P1; refine P1.mono ?_; rintro e w5 ⟨rfl, l5, k5⟩; have z5 := k5.le z4; have P2 := (l5.alloc (.cells #[.string ⟨#[99]⟩, .int .i64 3] 39)).pop_late (leA z5 _) 4 (by simp) (by simp); replace P2 : Calls Try.prog 16 #[.pointer (some ⟨w.heap.size + 1, 0, none⟩), .int .i64 4] (w5.alloc (.cells #[.string ⟨#[99]⟩, .int .i64 3] 39)) (Post w.heap.size (w5.alloc (.cells #[.string ⟨#[99]⟩, .int .i64 3] 39)) (w.heap.size + 1) w.heap.size [⟨w2.heap.size, 5, sa⟩, ⟨w1.heap.size, 5, sb⟩] (.tuple #[.agg #[.string ⟨#[]⟩, .int .i64 0], .bool false])) := P2; have k05 := (k04.trans k5).alloc z5 (.cells #[.string ⟨#[99]⟩, .int .i64 3] 39); clear hh P1)
    | (go_at_call 10; refine N.mono ?_; rintro e w1 ⟨rfl, l1, k1⟩; have z1 := k1.le hle; have S1 := l1.set_new z1 sb 5 (small _ (by decide)) (fun _ h => by cases h) (by decide); clear N)
    | (go_at_call 12; have hh := S3; refine S3.mono ?_; rintro e w4 ⟨rfl, l4', k4⟩; have l4 : Lv w.heap.size w4 (w.heap.size + 1) w.heap.size [⟨w3.heap.size, 3, sc⟩, ⟨w1.heap.size, 5, sb⟩, ⟨w2.heap.size, 5, sa⟩] := (by rw [← live2]; exact l4'); have z4 := k4.le z3; have P1 := l4.pop_due z4 4 (by simp) (by simp) (by simp); rw [live3] at P1; replace P1 : Calls Try.prog 16 #[.pointer (some ⟨w.heap.size + 1, 0, none⟩), .int .i64 4] w4 (Post w.heap.size w4 (w.heap.size + 1) w.heap.size [⟨w2.heap.size, 5, sa⟩, ⟨w1.heap.size, 5, sb⟩] (.tuple #[.agg #[.string ⟨#[99]⟩, .int .i64 3], .bool true])) := P1; have k04 := ((k1.trans k2).trans k3).trans k4; clear hh S3 l4' k1 k2 k3 k4 l1 l2 l3 z1 z2 z3)
    | (go_at_call 12; have hh := S2; refine S2.mono ?_; rintro e w3 ⟨rfl, l3', k3⟩; have l3 : Lv w.heap.size w3 (w.heap.size + 1) w.heap.size [⟨w2.heap.size, 5, sa⟩, ⟨w1.heap.size, 5, sb⟩] := (by rw [← live1]; exact l3'); have z3 := k3.le z2; have S3 := l3.set_new z3 sc 3 (small _ (by decide)) (hn2 _ _) (by simp); clear hh S2 l3')
    | (go_at_call 12; have hh := S1; refine S1.mono ?_; rintro e w2 ⟨rfl, l2', k2⟩; have z2 := k2.le z1; have l2 : Lv w.heap.size w2 (w.heap.size + 1) w.heap.size [⟨w1.heap.size, 5, sb⟩] := l2'; have S2 := l2.set_new z2 sa 5 (small _ (by decide)) (hn1 _) (by simp); clear hh S1 l2'))
  go_ret
  exact ⟨rfl, k08.below⟩
end Go.Proofs.Ytkamcnjofpamhaa
