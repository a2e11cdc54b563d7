/-
  A nil queue: what each call answers, for every name and time.
-/
import Derived.Test.YtkamcnjofpamhaaTLive
namespace Go.Proofs.Ytkamcnjofpamhaa
open Go.RowKit Go.Maps
set_option linter.unusedSimpArgs false
theorem bt {a b c : World} (h : Below a.heap.size a b) (k : Below b.heap.size b c) : Below a.heap.size a c := h.trans (k.mono h.size)
theorem ba (w : World) (o : Obj) : Below w.heap.size w (w.alloc o) := (Below.refl _ _).alloc (Nat.le_refl _) _
theorem cancel_nil (w : World) (a : Option Addr) (n c : Nat) : Calls Try.prog 15 #[.pointer none, .slice a n c] w (Gives w (.int .i64 0)) := by
  go_enter Try.func15, Try.ntmps15
  go_wp2
  go_ret
  exact ⟨rfl, Below.refl _ _⟩
theorem list_nil (w : World) : Calls Try.prog 20 #[.pointer none] w (Gives w (.slice none 0 0)) := by
  go_enter Try.func20, Try.ntmps20
  go_wp2
  go_ret
  exact ⟨rfl, Below.refl _ _⟩
theorem copy_nil (w : World) : Calls Try.prog 18 #[.pointer none] w (Gives w (.pointer none)) := by
  go_enter Try.func18, Try.ntmps18
  go_wp2
  go_ret
  exact ⟨rfl, Below.refl _ _⟩
set_option maxHeartbeats 4000000 in
set_option maxRecDepth 100000 in
theorem nil_walk (s : ByteArray) (a : Int) (w : World) : Calls Try.prog 6 #[.string s, .int .i64 a] w (Gives w (.bool true)) := by
  have N : ∀ W, Calls Try.prog 21 #[.pointer none] W (Gives W (.tuple #[.agg #[.string ⟨#[]⟩, .int .i64 0], .bool false])) := next_nil
  have P : ∀ W, Calls Try.prog 16 #[.pointer none, .int .i64 a] W (Gives W (.tuple #[.agg #[.string ⟨#[]⟩, .int .i64 0], .bool false])) := fun W => pop_nil W a
  go_enter Try.func6, Try.ntmps6
  go_wp2_with (first
    | (go_at_call 11; refine (num_any _ _).mono ?_; rintro e wn ⟨rfl, rfl⟩)
    | (go_at_call 22; refine (at_nil _ _).mono ?_; rintro e w1 ⟨rfl, b1⟩)
    | (go_at_call 21; refine (N _).mono ?_; rintro e w2 ⟨rfl, b2⟩)
    | (go_at_call 16; refine (P _).mono ?_; rintro e w3 ⟨rfl, b3⟩)
    | (go_at_call 12; refine (set_nil _ _ _).mono ?_; rintro e w4 ⟨rfl, b4⟩)
    | (go_at_call 15; refine (cancel_nil _ _ _ _).mono ?_; rintro e w5 ⟨rfl, b5⟩)
    | (go_at_call 24; refine (qlen_nil _).mono ?_; rintro e w6 ⟨rfl, rfl⟩)
    | (go_at_call 20; refine (list_nil _).mono ?_; rintro e w7 ⟨rfl, b7⟩)
    | (go_at_call 18; refine (copy_nil _).mono ?_; rintro e w8 ⟨rfl, b8⟩)
    | (go_at_call 9; refine (live_any _).mono ?_; rintro e w9 ⟨rfl, b9⟩))
  go_ret
  exact ⟨rfl, bt (bt (bt (bt (bt (bt (bt (bt (bt (bt (bt b1 b2) (ba _ _)) b3) (ba _ _)) b4) (ba _ _)) b5) b7) b8) b9) (Below.refl _ _)⟩
end Go.Proofs.Ytkamcnjofpamhaa
