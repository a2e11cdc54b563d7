/-
  The contracts of the reference reader's New, Fail and Done for every reader that is there.
-/
import Derived.Test.YtelopplkdlbgbaaDrawn
namespace Go.Proofs.Ytelopplkdlbgbaa
open Go.RowKit

/-- The document's reader that is there: its block g, where its bytes lie, its bytes, its place, its error, the error's place. -/
structure RR (w : World) (g : Nat) (bv : Option Addr) (l : List UInt8) (p : Nat) (y s : Int) : Prop where
  le : p ≤ l.length
  big : l.length ≤ 140737488355328
  ne : ∀ ad, bv = some ad → ad.block ≠ g
  ex : ∃ c, w.heap[g]? = some (.cells #[.slice bv l.length c, .int .i64 p, .int .i64 y, .int .i64 s] 55 (0, 0)) ∧ l.length ≤ c ∧ Src w bv l.length c (bcells l)
structure RNow (w w' : World) (g : Nat) (bv : Option Addr) (l : List UInt8) (p : Nat) (y s : Int) : Prop where
  rd : RR w' g bv l p y s
  grown : w.grownBy w' (some g)

variable {bv : Option Addr}
theorem RR.kept {w w' : World} {g : Nat} {l : List UInt8} {p : Nat} {y s : Int} {row : Option Nat} (h : RR w g bv l p y s) (hg : w.grownBy w' row) (h1 : some g ≠ row) (h2 : ∀ ad, bv = some ad → l ≠ [] → some ad.block ≠ row) : RR w' g bv l p y s := by
  obtain ⟨c, hb, hc, hs⟩ := h.ex
  refine ⟨h.le, h.big, h.ne, c, ?_, hc, hs.grown hg ?_⟩
  · rw [hg.block g (lt_of_block hb) h1]; exact hb
  · intro ad had hx
    exact h2 ad had (by rintro rfl; exact hx rfl)
theorem RR.below {w w' : World} {g : Nat} {l : List UInt8} {p : Nat} {y s : Int} (h : RR w g bv l p y s) (hb : Below w.heap.size w w') : RR w' g bv l p y s :=
  h.kept (grownBy_below none hb) (by simp) (fun _ _ _ => by simp)
theorem RR.set {w : World} {g : Nat} {l : List UInt8} {p : Nat} {y s : Int} (h : RR w g bv l p y s) (j : Nat) (v : Value) {p' : Nat} {y' s' : Int} (hp : p' ≤ l.length)
    (hv : ∀ c, (#[Value.slice bv l.length c, .int .i64 p, .int .i64 y, .int .i64 s] : Array Value).setIfInBounds j v = #[.slice bv l.length c, .int .i64 p', .int .i64 y', .int .i64 s']) : RNow w (w.setCell ⟨g, j, none⟩ v) g bv l p' y' s' := by
  obtain ⟨c, hb, hc, hs⟩ := h.ex
  refine ⟨⟨hp, h.big, h.ne, c, ?_, hc, hs.grown (grownBy_setCell w g j _) (fun ad had _ e => h.ne ad had (Option.some.inj e))⟩, grownBy_setCell _ _ _ _⟩
  rw [heap_setCell_same _ _ _ _ _ _ hb, hv]
theorem RR.now {w : World} {g : Nat} {l : List UInt8} {p : Nat} {y s : Int} (h : RR w g bv l p y s) : RNow w w g bv l p y s := ⟨h, World.grownBy.refl _ _⟩
theorem RR.drewN {w : World} {g : Nat} {l : List UInt8} {p : Nat} {y s : Int} (h : RR w g bv l p y s) (n : Nat) : RNow w (w.drewN n) g bv l p y s := ⟨h.below (below_drewN (Below.refl _ _) n), grownBy_drewN _ _ _⟩
theorem RNow.trans {a b c : World} {g : Nat} {bw : Option Addr} {l m : List UInt8} {p q : Nat} {y z s t : Int} (h : RNow a b g bv l p y s) (k : RNow b c g bw m q z t) : RNow a c g bw m q z t := ⟨k.rd, grownBy_trans h.grown k.grown⟩
theorem RR.lt {w : World} {g : Nat} {l : List UInt8} {p : Nat} {y s : Int} (h : RR w g bv l p y s) : g < w.heap.size := by
  obtain ⟨c, hb, _⟩ := h.ex
  exact lt_of_block hb
theorem RR.cells {w : World} {g : Nat} {l : List UInt8} {p : Nat} {y s : Int} (h : RR w g bv l p y s) : ∃ c, w.cell? ⟨g, 0, none⟩ = some (.slice bv l.length c) ∧ w.cell? ⟨g, 1, none⟩ = some (.int .i64 p) ∧ w.cell? ⟨g, 2, none⟩ = some (.int .i64 y) ∧ w.cell? ⟨g, 3, none⟩ = some (.int .i64 s) ∧ (∀ j, w.frozen? ⟨g, j, none⟩ = false) ∧ l.length ≤ c ∧ Src w bv l.length c (bcells l) := by
  obtain ⟨c, hb, hc, hs⟩ := h.ex
  exact ⟨c, cell_of_row w g 0 _ _ _ hb, cell_of_row w g 1 _ _ _ hb, cell_of_row w g 2 _ _ _ hb, cell_of_row w g 3 _ _ _ hb, fun j => frozen_of_row w g j _ _ hb, hc, hs⟩

theorem rnew_any (a : Option Addr) (n c : Nat) (l : List UInt8) (w : World) (hs : Src w a n c (bcells l)) (hn : n ≤ 140737488355328) :
    Calls Try.prog 16 #[.slice a n c] w fun e w' => ∃ g bv, e = .returned (.pointer (some ⟨g, 0, none⟩)) ∧ w.heap.size ≤ g ∧ (∀ ad, bv = some ad → w.heap.size ≤ ad.block) ∧ RR w' g bv l 0 0 0 ∧ Below w.heap.size w w' := by
  go_enter Try.func16, Try.ntmps16
  go_wp2_with (at_builtin; refine append_new rfl (.tmp 3) (.tmp 4) rfl rfl a n c l rfl hs hn ?_; intro a' c' w0 hs0 hb0 hge hown)
  go_ret
  have e := hs.blen
  refine ⟨_, a', rfl, hb0.size, hge, ⟨Nat.zero_le _, by omega, ?_, c', by rw [← e]; exact heap_alloc_new _ _, ?_, by rw [← e]; exact hs0.alloc _⟩, hb0.alloc hb0.size _⟩
  · intro ad had h
    obtain ⟨_, _, hv, _, hlt⟩ := Src.ofOwn hown
    cases hv
    have := (hlt ad had).2
    omega
  · rcases hown.2 with ⟨h1, h2⟩ | ⟨g, cap, cur, h1, _, _, h4, _⟩
    · omega
    · cases h1; omega

theorem rfail_any (g : Nat) (l : List UInt8) (p : Nat) (y s z : Int) (w : World) (h : RR w g bv l p y s) :
    Calls Try.prog 26 #[.pointer (some ⟨g, 0, none⟩), .int .i64 z] w fun e w' => e = .returned (.tuple #[]) ∧ RNow w w' g bv l p (if y = 0 then z else y) (if y = 0 ∧ z ≠ 0 then (p : Int) else s) := by
  obtain ⟨c, c0, c1, c2, c3, hf, _⟩ := h.cells
  have f2 := hf 2
  have f3 := hf 3
  clear hf
  have hle := h.le
  by_cases hy : y = 0
  · subst hy
    by_cases hz : z = 0
    · subst hz
      simp only [if_true, ne_eq, not_true_eq_false, and_false, if_false]
      go_enter Try.func26, Try.ntmps26
      go_wp2
      go_end0
      exact ⟨rfl, h.now⟩
    · have hz' : (z == 0) = false := by simpa using hz
      have e1 : (if (0 : Int) = 0 then z else 0) = z := by simp
      have e2 : (if (0 : Int) = 0 ∧ z ≠ 0 then (p : Int) else s) = p := by simp [hz]
      rw [e1, e2]
      clear e1 e2 hz
      go_enter Try.func26, Try.ntmps26
      go_wp2
      go_end0
      have t1 := h.set 2 (.int .i64 z) (p' := p) (y' := z) (s' := s) hle (fun _ => rfl)
      exact ⟨rfl, t1.trans (t1.rd.set 3 (.int .i64 p) (p' := p) (y' := z) (s' := p) hle (fun _ => rfl))⟩
  · have hy' : (y == 0) = false := by simpa using hy
    simp only [hy, if_false, false_and]
    clear hy
    go_enter Try.func26, Try.ntmps26
    go_wp2
    go_end0
    exact ⟨rfl, h.now⟩

theorem rdone_any (g : Nat) (l : List UInt8) (p : Nat) (y s : Int) (w : World) (h : RR w g bv l p y s) :
    Calls Try.prog 32 #[.pointer (some ⟨g, 0, none⟩)] w fun e w' => e = .returned (.int .i64 (dnE l p y)) ∧ ∃ n, w' = w.drewN n := by
  obtain ⟨c, c0, c1, c2, c3, hf, _⟩ := h.cells
  clear hf
  by_cases hy : y = 0
  · subst hy
    by_cases hp : p < l.length
    · have e : dnE l p 0 = 4 := by simp [dnE, hp]
      rw [e]
      clear e
      have hd : decide ((p : Int) < (l.length : Int)) = true := by simp; omega
      go_enter Try.func32, Try.ntmps32
      go_wp2
      go_quiet (fail)
      go_wp2
      go_ret
      exact ⟨rfl, _, rfl⟩
    · have e : dnE l p 0 = 0 := by simp [dnE, hp]
      rw [e]
      clear e
      have hd : decide ((p : Int) < (l.length : Int)) = false := by simp; omega
      go_enter Try.func32, Try.ntmps32
      go_wp2
      go_quiet (fail)
      go_wp2
      go_ret
      exact ⟨rfl, _, rfl⟩
  · have e : dnE l p y = y := by simp [dnE, hy]
    rw [e]
    clear e
    have hy' : (y == 0) = false := by simpa using hy
    clear hy
    go_enter Try.func32, Try.ntmps32
    go_wp2
    go_quiet (fail)
    go_wp2
    go_ret
    exact ⟨rfl, _, rfl⟩
end Go.Proofs.Ytelopplkdlbgbaa
