/-
  The contracts of the small methods of octet.Reader (Fail, Left, Why) for every reader that is there.
-/
import Derived.Test.YtaleclmccmeglaaBase
import Derived.Deep.QuietTactic
import Derived.BigQuiet
namespace Go.Proofs.Ytaleclmccmeglaa
open Go.RowKit

theorem grownBy_trans {a b c : World} {row : Option Nat} (h : a.grownBy b row) (k : b.grownBy c row) : a.grownBy c row :=
  ⟨k.os.trans h.os, k.tape.trans h.tape, k.output.trans h.output, Nat.le_trans h.size k.size, fun i hi hne => (k.block i (Nat.lt_of_lt_of_le hi h.size) hne).trans (h.block i hi hne)⟩
theorem grownBy_below {w w' : World} (row : Option Nat) (h : Below w.heap.size w w') : w.grownBy w' row := ⟨h.os, h.tape, h.output, h.size, fun k hk _ => h.block k hk⟩
theorem grownBy_drewN (w : World) (n : Nat) (row : Option Nat) : w.grownBy (w.drewN n) row := grownBy_below row (below_drewN (Below.refl _ _) n)
theorem grownBy_setCell (w : World) (g j : Nat) (v : Value) : w.grownBy (w.setCell ⟨g, j, none⟩ v) (some g) :=
  ⟨rfl, rfl, rfl, by simp [World.setCell], fun k _ hne => Below.heap_setCell _ _ _ _ (fun e => hne (by rw [e]))⟩

/-- What a method of a reader leaves besides its answer: the reader in its new state; nothing turned but the reader's own block. -/
structure Now (w w' : World) (g : Nat) (bv : Option Addr) (l : List UInt8) (p : Nat) (y : Int) : Prop where
  rd : Rd w' g bv l p y
  grown : w.grownBy w' (some g)

variable {bv : Option Addr}

/-- The reader behind a change that leaves its block and its bytes. -/
theorem Rd.kept {w w' : World} {g : Nat} {l : List UInt8} {p : Nat} {y : Int} {row : Option Nat} (h : Rd w g bv l p y) (hg : w.grownBy w' row) (h1 : some g ≠ row) (h2 : ∀ ad, bv = some ad → l ≠ [] → some ad.block ≠ row) : Rd w' g bv l p y := by
  obtain ⟨c, hb, hc, hs⟩ := h.ex
  refine ⟨h.le, h.big, h.ne, c, ?_, hc, hs.grown hg ?_⟩
  · rw [hg.block g (lt_of_block hb) h1]; exact hb
  · intro ad had hx
    exact h2 ad had (by rintro rfl; exact hx rfl)
theorem Rd.below {w w' : World} {g : Nat} {l : List UInt8} {p : Nat} {y : Int} (h : Rd w g bv l p y) (hb : Below w.heap.size w w') : Rd w' g bv l p y :=
  h.kept (grownBy_below none hb) (by simp) (fun _ _ _ => by simp)
/-- A new place or error, stored. -/
theorem Rd.setAt {w : World} {g : Nat} {l : List UInt8} {p : Nat} {y : Int} (h : Rd w g bv l p y) (p' : Nat) (hp : p' ≤ l.length) : Now w (w.setCell ⟨g, 1, none⟩ (.int .i64 p')) g bv l p' y := by
  obtain ⟨c, hb, hc, hs⟩ := h.ex
  refine ⟨⟨hp, h.big, h.ne, c, ?_, hc, hs.grown (grownBy_setCell w g 1 _) (fun ad had _ e => h.ne ad had (Option.some.inj e))⟩, grownBy_setCell _ _ _ _⟩
  rw [heap_setCell_same _ _ _ _ _ _ hb]
  rfl
theorem Rd.setWhy {w : World} {g : Nat} {l : List UInt8} {p : Nat} {y : Int} (h : Rd w g bv l p y) (y' : Int) : Now w (w.setCell ⟨g, 2, none⟩ (.int .i64 y')) g bv l p y' := by
  obtain ⟨c, hb, hc, hs⟩ := h.ex
  refine ⟨⟨h.le, h.big, h.ne, c, ?_, hc, hs.grown (grownBy_setCell w g 2 _) (fun ad had _ e => h.ne ad had (Option.some.inj e))⟩, grownBy_setCell _ _ _ _⟩
  rw [heap_setCell_same _ _ _ _ _ _ hb]
  rfl
theorem Rd.now {w : World} {g : Nat} {l : List UInt8} {p : Nat} {y : Int} (h : Rd w g bv l p y) : Now w w g bv l p y := ⟨h, World.grownBy.refl _ _⟩
theorem Rd.drewN {w : World} {g : Nat} {l : List UInt8} {p : Nat} {y : Int} (h : Rd w g bv l p y) (n : Nat) : Now w (w.drewN n) g bv l p y := ⟨h.below (below_drewN (Below.refl _ _) n), grownBy_drewN _ _ _⟩
theorem Now.trans {a b c : World} {g : Nat} {bw : Option Addr} {l m : List UInt8} {p q : Nat} {y z : Int} (h : Now a b g bv l p y) (k : Now b c g bw m q z) : Now a c g bw m q z := ⟨k.rd, grownBy_trans h.grown k.grown⟩

/-- The reader's cells, as the walk reads them. -/
theorem Rd.cells {w : World} {g : Nat} {l : List UInt8} {p : Nat} {y : Int} (h : Rd w g bv l p y) : ∃ c, w.cell? ⟨g, 0, none⟩ = some (.slice bv l.length c) ∧ w.cell? ⟨g, 1, none⟩ = some (.int .i64 p) ∧ w.cell? ⟨g, 2, none⟩ = some (.int .i64 y) ∧ (∀ j, w.frozen? ⟨g, j, none⟩ = false) ∧ l.length ≤ c ∧ Src w bv l.length c (bcells l) := by
  obtain ⟨c, hb, hc, hs⟩ := h.ex
  exact ⟨c, cell_of_row w g 0 _ _ _ hb, cell_of_row w g 1 _ _ _ hb, cell_of_row w g 2 _ _ _ hb, fun j => frozen_of_row w g j _ _ hb, hc, hs⟩

theorem fail_any (g : Nat) (l : List UInt8) (p : Nat) (y z : Int) (w : World) (h : Rd w g bv l p y) :
    Calls Try.prog 92 #[.pointer (some ⟨g, 0, none⟩), .int .i64 z] w fun e w' => e = .returned (.tuple #[]) ∧ Now w w' g bv l p (if y = 0 then z else y) := by
  obtain ⟨c, c0, c1, c2, hf, _⟩ := h.cells
  have f2 := hf 2
  clear hf
  by_cases hy : y = 0
  · have hy' : (y == 0) = true := by simpa using hy
    rw [if_pos hy]
    have HY : Hid (y = 0) := hy
    clear hy
    go_enter Try.func92, Try.ntmps92
    go_wp2
    go_end0
    exact ⟨rfl, h.setWhy z⟩
  · have hy' : (y == 0) = false := by simpa using hy
    rw [if_neg hy]
    clear hy
    go_enter Try.func92, Try.ntmps92
    go_wp2
    go_end0
    exact ⟨rfl, h.now⟩

theorem left_any (g : Nat) (l : List UInt8) (p : Nat) (y : Int) (w : World) (h : Rd w g bv l p y) :
    Calls Try.prog 38 #[.pointer (some ⟨g, 0, none⟩)] w fun e w' => e = .returned (.int .i64 ((l.length - p : Nat) : Int)) ∧ Now w w' g bv l p y := by
  obtain ⟨c, c0, c1, c2, hf, _⟩ := h.cells
  have hle := h.le
  have hbig := h.big
  have e : ((l.length - p : Nat) : Int) = (l.length : Int) - (p : Int) := by omega
  rw [e]
  clear hf e
  go_enter Try.func38, Try.ntmps38
  go_wp2
  go_quiet (fail)
  go_wp2
  go_ret
  exact ⟨rfl, h.drewN _⟩

theorem why_any (g : Nat) (l : List UInt8) (p : Nat) (y : Int) (w : World) (h : Rd w g bv l p y) :
    Calls Try.prog 37 #[.pointer (some ⟨g, 0, none⟩)] w fun e w' => e = .returned (.tuple #[.int .i64 y, .int .i64 (if y = 0 then 0 else (p : Int))]) ∧ Now w w' g bv l p y := by
  obtain ⟨c, c0, c1, c2, hf, _⟩ := h.cells
  clear hf
  by_cases hy : y = 0
  · subst hy
    rw [if_pos rfl]
    go_enter Try.func37, Try.ntmps37
    go_wp2
    go_ret2
    exact ⟨rfl, h.now⟩
  · have hy' : (y == 0) = false := by simpa using hy
    rw [if_neg hy]
    clear hy
    go_enter Try.func37, Try.ntmps37
    go_wp2
    go_quiet (fail)
    go_wp2
    go_ret2
    exact ⟨rfl, h.drewN _⟩

end Go.Proofs.Ytaleclmccmeglaa
