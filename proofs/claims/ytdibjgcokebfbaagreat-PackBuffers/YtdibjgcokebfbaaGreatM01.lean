/-
  The memory that the readings and layings of package octet stand on, and the contracts of bytes.Clone, withRoom, Put8 and New, for every input within memory.
-/
import Derived.Test.YtdibjgcokebfbaaGreatRows
import Derived.WalkKit
import Derived.ProofKit
import Derived.WalkSpells
import Derived.WalkLawsBesides
import Derived.Laws.AppendOwnNone
import Derived.Laws.IdiomStrings
import Derived.Deep.QuietTactic
import Derived.BigQuiet
import Derived.Laws.BitsAllLaws
import Derived.Deep.RegionWith
namespace Go.Proofs.YtdibjgcokebfbaaGreat
open Go.RowKit

theorem info5 : (Tryz.prog.info? 5).map (fun i => (i.zero, i.size, i.bytes)) = some (some (.int .u8 0), 1, 1) := by kernel_rfl

/-- The cells of bytes. -/
def bcells (l : List UInt8) : List Value := l.map fun b => Value.int .u8 b.toNat
theorem bcells_length (l : List UInt8) : (bcells l).length = l.length := by simp [bcells]
theorem bcells_append (l m : List UInt8) : bcells (l ++ m) = bcells l ++ bcells m := by simp [bcells]
theorem bcells_one (l : List UInt8) : ∀ u ∈ bcells l, u.oneCell' = true := by
  intro u hu
  obtain ⟨_, _, rfl⟩ := List.mem_map.1 hu
  rfl

/-- What a slice value leads to: these cells, one a place. -/
structure Src (w : World) (a : Option Addr) (n c : Nat) (xs : List Value) : Prop where
  len : xs.length = n
  bare : a = none → n = 0 ∧ c = 0
  cell : ∀ ad, a = some ad → ∀ j u, xs[j]? = some u → w.cell? (ad.add j) = some u

theorem Src.nil (w : World) : Src w none 0 0 [] := ⟨rfl, fun _ => ⟨rfl, rfl⟩, fun _ h => by cases h⟩

theorem Src.grown {w w' : World} {row : Option Nat} {a : Option Addr} {n c : Nat} {xs : List Value} (h : Src w a n c xs) (hg : w.grownBy w' row) (hne : ∀ ad, a = some ad → xs ≠ [] → some ad.block ≠ row) : Src w' a n c xs :=
  ⟨h.len, h.bare, fun ad had j u hu => by
    have hx : xs ≠ [] := by rintro rfl; simp at hu
    have hb : (ad.add j).block = ad.block := by unfold Addr.add; split <;> rfl
    exact hg.cell (h.cell ad had j u hu) (by rw [hb]; exact hne ad had hx)⟩
theorem Src.alloc {w : World} {a : Option Addr} {n c : Nat} {xs : List Value} (h : Src w a n c xs) (o : Obj) : Src (w.alloc o) a n c xs := h.grown (World.grownBy_alloc w o none) (fun _ _ _ => by simp)
/-- Where the cells lie: below B. -/
def Src.under (a : Option Addr) (xs : List Value) (B : Nat) : Prop := ∀ ad, a = some ad → xs ≠ [] → ad.block < B
theorem Src.lt {w : World} {a : Option Addr} {n c : Nat} {xs : List Value} (h : Src w a n c xs) : Src.under a xs w.heap.size := by
  intro ad had hx
  cases xs with
  | nil => exact absurd rfl hx
  | cons u r =>
    have := block_lt_of_cell (h.cell ad had 0 u rfl)
    have hb : (ad.add 0).block = ad.block := by unfold Addr.add; split <;> rfl
    rwa [hb] at this
theorem Src.below {w w' : World} {B : Nat} {a : Option Addr} {n c : Nat} {xs : List Value} (h : Src w a n c xs) (hb : Below B w w') (hu : Src.under a xs B) : Src w' a n c xs :=
  ⟨h.len, h.bare, fun ad had j u hj => by
    have hx : xs ≠ [] := by rintro rfl; simp at hj
    have hbk : (ad.add j).block = ad.block := by unfold Addr.add; split <;> rfl
    exact (hb.cell (by rw [hbk]; exact hu ad had hx)).trans (h.cell ad had j u hj)⟩
/-- An owned row as a source. -/
theorem Src.ofOwn {w : World} {B : Nat} {v : Value} {n : Nat} {xs : List Value} (h : w.ownsRow B 5 1 v n xs) : ∃ a c, v = .slice a n c ∧ Src w a n c xs ∧ (∀ ad, a = some ad → B ≤ ad.block ∧ ad.block < w.heap.size) := by
  have hl := h.1
  rcases h.2 with ⟨rfl, rfl⟩ | ⟨g, cap, cur, rfl, hb, hh, hr⟩
  · have : xs = [] := List.eq_nil_of_length_eq_zero (by simpa using hl)
    subst this
    exact ⟨none, 0, rfl, Src.nil w, fun _ h => by cases h⟩
  · refine ⟨some ⟨g, 0, none⟩, cap, rfl, ⟨by simpa using hl, (fun h => by cases h), fun ad had j u hu => ?_⟩, fun ad had => ?_⟩
    · cases had
      exact h.cells rfl j u hu
    · cases had
      exact ⟨hb, lt_of_block hh⟩

/-- Append to a row of the call's own, whatever the source. -/
theorem append_src {w : World} {ops : Array Oper} {rest : List Oper} {o : Oper} {a : Act} {Q : Exit → Act → World → Prop} (hgd : o.guard = none) (s x : Operand)
    (ho : o.op = .call { callee := .builtin .append, args := #[s, x], argTypes := #[46, 46] })
    (base : Nat) (v : Value) (n : Nat) (xs : List Value) (hs : a.eval s = v) (hown : w.ownsRow base 5 1 v n xs)
    (ad : Option Addr) (m c : Nat) (news : List Value) (hx : a.eval x = .slice ad m c) (hsrc : Src w ad m c news) (h1 : ∀ u ∈ news, u.oneCell' = true)
    (hbytes : n + m ≤ 140737488355328) (hbase : base ≤ w.heap.size)
    (h : ∀ v' w', w'.ownsRow base 5 1 v' (n + m) (xs ++ news) → w.grownBy w' v.ownBlock → (v' = .slice none 0 0 ↔ v = .slice none 0 0 ∧ m = 0) → wpList Tryz.prog ops Q rest (a.put o.dst v') w') : wpList Tryz.prog ops Q (o :: rest) a w := by
  obtain ⟨i0, hi, hz0, hz1, hz2⟩ := info_parts info5
  cases ad with
  | some ad => exact wpList_append_own w hgd s x 46 ho base 5 i0 (.int .u8 0) 1 1 Tryz.underlying46 hi hz0 hz1 hz2 rfl (by decide) v n xs hs hown ad m c news hx (by simp [hsrc.len]) (hsrc.cell ad rfl) h1 (by unfold maxLen; omega) (by omega) hbase h
  | none =>
    obtain ⟨rfl, rfl⟩ := hsrc.bare rfl
    have hn : news = [] := List.eq_nil_of_length_eq_zero hsrc.len
    subst hn
    refine wpList_append_own_none hgd s x 46 ho base 5 i0 1 Tryz.underlying46 hi v n xs hs hown hx ?_
    exact h v w (by simpa using hown) (World.grownBy.refl _ _) (by simp)

theorem ownBlock_ge {w : World} {base : Nat} {v : Value} {n : Nat} {xs : List Value} (h : w.ownsRow base 5 1 v n xs) : ∀ k, v.ownBlock = some k → base ≤ k := fun k hk => (h.lt k hk).1

theorem own_shape {w : World} {B : Nat} {v : Value} {n : Nat} {xs : List Value} (h : w.ownsRow B 5 1 v n xs) : ∃ a c, v = .slice a n c := by
  obtain ⟨a, c, h1, _⟩ := Src.ofOwn h
  exact ⟨a, c, h1⟩

/-- What a call that lays bytes answers: a slice in new memory with these bytes; nothing old has turned. -/
def Laid (w : World) (l : List UInt8) (e : Ending) (w' : World) : Prop :=
  ∃ a c, e = .returned (.slice a l.length c) ∧ w'.ownsRow w.heap.size 5 1 (.slice a l.length c) l.length (bcells l) ∧ Below w.heap.size w w'
theorem Laid.mk {w : World} {l : List UInt8} {v : Value} {w' : World} {n : Nat} (hn : n = l.length) (h : w'.ownsRow w.heap.size 5 1 v n (bcells l)) (hb : Below w.heap.size w w') : Laid w l (.returned v) w' := by
  subst hn
  obtain ⟨a, c, rfl⟩ := own_shape h
  exact ⟨a, c, rfl, h, hb⟩

/-- bytes.Clone. -/
theorem clone_any (a : Option Addr) (n c : Nat) (l : List UInt8) (w : World) (hs : Src w a n c (bcells l)) (hn : n ≤ 140737488355328) :
    Calls Tryz.prog 105 #[.slice a n c] w (Laid w l) := by
  have hq := fun w => Lib.run_eql_slice_nil (P := Tryz.prog) w 46 5 a n c 0 0 Tryz.underlying46
  have HL : Hid (n = l.length) := by show n = l.length; simpa [bcells] using hs.len.symm
  cases a with
  | none =>
    go_enter Tryz.func105, Tryz.ntmps105
    go_wp2_with fail
    go_ret
    obtain ⟨rfl, rfl⟩ := hs.bare rfl
    have hl : l = [] := List.eq_nil_of_length_eq_zero HL.out.symm
    subst hl
    exact Laid.mk rfl (World.ownsRow_nil _ _ _ _) (Below.refl _ _)
  | some a =>
    go_enter Tryz.func105, Tryz.ntmps105
    go_wp2_with (at_builtin; refine append_src rfl (.tmp 5) (.tmp 6) rfl w.heap.size _ 0 [] rfl (World.ownsRow_made w #[] 0 (Nat.le_refl _) (by unfold maxLen; omega) rfl) (some a) n c (bcells l) rfl (hs.alloc _) (bcells_one l) (by omega) (by simp) ?_; intro v' w1 hown hg _)
    go_ret
    exact Laid.mk (by simpa using HL.out) hown (((Below.refl _ _).alloc (Nat.le_refl _) _).grown hg (by simp) (fun k hk => by cases hk; exact Nat.le_refl _))

/-- A slice that was laid anew, with room. -/
theorem room_any (a : Option Addr) (n c : Nat) (l : List UInt8) (m : Nat) (w : World) (hs : Src w a n c (bcells l)) (hn : n + m ≤ 140737488355328) :
    Calls Tryz.prog 120 #[.slice a n c, .int .i64 m] w (Laid w l) := by
  obtain ⟨i0, hi, hz0, hz1, hz2⟩ := info_parts info5
  have HL : Hid (n = l.length) := by show n = l.length; simpa [bcells] using hs.len.symm
  go_enter Tryz.func120, Tryz.ntmps120
  go_wp2_with (first
    | (at_make; refine wpList_make_own _ rfl _ _ 46 rfl w.heap.size 5 i0 (.int .u8 0) 1 Tryz.underlying46 hi hz0 hz1 _ _ _ (n + m) rfl rfl (by omega) (by rw [hz2]; omega) (by unfold maxLen; omega) (Nat.le_refl _) ?_; intro w0 hown0 hgrow0)
    | (at_builtin; refine append_src rfl (.tmp 9) (.tmp 10) rfl w.heap.size _ 0 [] rfl hown0 a n c (bcells l) rfl (hs.grown hgrow0 (fun _ _ _ => by simp)) (bcells_one l) (by omega) hgrow0.size ?_; intro v' w1 hown hg _))
  go_ret
  exact Laid.mk (by simpa using HL.out) hown (((Below.refl _ _).grown hgrow0 (Nat.le_refl _) (fun k h => by cases h)).grown hg hgrow0.size (fun k hk => by cases hk; exact Nat.le_refl _))

theorem Src.blen {w : World} {a : Option Addr} {n c : Nat} {l : List UInt8} (hs : Src w a n c (bcells l)) : n = l.length := by simpa [bcells] using hs.len.symm

theorem put8_any (a : Option Addr) (n c : Nat) (l : List UInt8) (b : Option Addr) (m d : Nat) (k : List UInt8) (w : World) (hs : Src w a n c (bcells l)) (ht : Src w b m d (bcells k)) (hn : n + m ≤ 140737488355328) :
    Calls Tryz.prog 90 #[.slice a n c, .slice b m d] w (Laid w (l ++ k)) := by
  go_enter Tryz.func90, Tryz.ntmps90
  go_wp2_with (first
    | (go_at_call 120; refine (room_any a n c l m w hs hn).mono ?_; rintro e w0 ⟨a0, c0, rfl, hown0, hb0⟩)
    | (at_builtin; refine append_src rfl (.tmp 8) (.tmp 9) rfl w.heap.size _ l.length (bcells l) rfl hown0 b m d (bcells k) rfl (ht.below hb0 ht.lt) (bcells_one k) (by have := hs.blen; omega) hb0.size ?_; intro v' w1 hown hg _))
  go_ret
  exact Laid.mk (n := l.length + m) (by rw [ht.blen]; simp) (by rw [bcells_append]; exact hown) (hb0.grown hg hb0.size (ownBlock_ge hown0))

/-- A reader that is there: its block g, where its bytes lie, its bytes, its place, its error. -/
structure Rd (w : World) (g : Nat) (bv : Option Addr) (l : List UInt8) (p : Nat) (y : Int) : Prop where
  le : p ≤ l.length
  big : l.length ≤ 140737488355328
  ne : ∀ ad, bv = some ad → ad.block ≠ g
  ex : ∃ c, w.heap[g]? = some (.cells #[.slice bv l.length c, .int .i64 p, .int .i64 y] 168 (0, 0)) ∧ l.length ≤ c ∧ Src w bv l.length c (bcells l)

/-- octet.New: the reader's block. -/
theorem new_any (a : Option Addr) (n c : Nat) (l : List UInt8) (w : World) (hs : Src w a n c (bcells l)) (hn : n ≤ 140737488355328) :
    Calls Tryz.prog 67 #[.slice a n c] w fun e w' => ∃ g bv, e = .returned (.pointer (some ⟨g, 0, none⟩)) ∧ w.heap.size ≤ g ∧ (∀ ad, bv = some ad → w.heap.size ≤ ad.block) ∧ Rd w' g bv l 0 0 ∧ Below w.heap.size w w' := by
  go_enter Tryz.func67, Tryz.ntmps67
  go_wp2_with (go_at_call 105; refine (clone_any a n c l w hs hn).mono ?_; rintro e w0 ⟨a0, c0, rfl, hown0, hb0⟩)
  go_ret
  obtain ⟨a1, c1, hv, hs1, hlt⟩ := Src.ofOwn hown0
  cases hv
  refine ⟨_, a0, rfl, hb0.size, fun ad had => (hlt ad had).1, ⟨Nat.zero_le _, by have := hs.blen; omega, ?_, _, heap_alloc_new _ _, ?_, hs1.alloc _⟩, hb0.alloc hb0.size _⟩
  · intro ad had h
    have := (hlt ad had).2
    omega
  · rcases hown0.2 with ⟨h1, h2⟩ | ⟨g, cap, cur, h1, _, _, h4, _⟩
    · omega
    · cases h1; exact h4
end Go.Proofs.YtdibjgcokebfbaaGreat

namespace Go.Proofs.YtdibjgcokebfbaaGreat
open Go.RowKit

theorem grownBy_trans {a b c : World} {row : Option Nat} (h : a.grownBy b row) (k : b.grownBy c row) : a.grownBy c row :=
  ⟨k.os.trans h.os, k.tape.trans h.tape, k.output.trans h.output, Nat.le_trans h.size k.size, fun i hi hne => (k.block i (Nat.lt_of_lt_of_le hi h.size) hne).trans (h.block i hi hne)⟩
theorem grownBy_below {w w' : World} (row : Option Nat) (h : Below w.heap.size w w') : w.grownBy w' row := ⟨h.os, h.tape, h.output, h.size, fun k hk _ => h.block k hk⟩
theorem grownBy_drewN (w : World) (n : Nat) (row : Option Nat) : w.grownBy (w.drewN n) row := grownBy_below row (below_drewN (Below.refl _ _) n)
theorem grownBy_setCell (w : World) (g j : Nat) (v : Value) : w.grownBy (w.setCell ⟨g, j, none⟩ v) (some g) :=
  ⟨rfl, rfl, rfl, by simp [World.setCell], fun k _ hne => Below.heap_setCell _ _ _ _ (fun e => hne (by rw [e]))⟩

/-- What a method of a reader leaves besides its answer: the reader in its new state; nothing turned but the reader's own block. -/
structure Now (w w' : World) (g : Nat) (bv : Option Addr) (l : List UInt8) (p : Nat) (y : Int) : Prop where
  rd : Rd w' g bv l p y
  grown : w.grownBy w' (some g)

variable {bv : Option Addr}

/-- The reader behind a change that leaves its block and its bytes. -/
theorem Rd.kept {w w' : World} {g : Nat} {l : List UInt8} {p : Nat} {y : Int} {row : Option Nat} (h : Rd w g bv l p y) (hg : w.grownBy w' row) (h1 : some g ≠ row) (h2 : ∀ ad, bv = some ad → l ≠ [] → some ad.block ≠ row) : Rd w' g bv l p y := by
  obtain ⟨c, hb, hc, hs⟩ := h.ex
  refine ⟨h.le, h.big, h.ne, c, ?_, hc, hs.grown hg ?_⟩
  · rw [hg.block g (lt_of_block hb) h1]; exact hb
  · intro ad had hx
    exact h2 ad had (by rintro rfl; exact hx rfl)
theorem Rd.below {w w' : World} {g : Nat} {l : List UInt8} {p : Nat} {y : Int} (h : Rd w g bv l p y) (hb : Below w.heap.size w w') : Rd w' g bv l p y :=
  h.kept (grownBy_below none hb) (by simp) (fun _ _ _ => by simp)
/-- A new place or error, stored. -/
theorem Rd.setAt {w : World} {g : Nat} {l : List UInt8} {p : Nat} {y : Int} (h : Rd w g bv l p y) (p' : Nat) (hp : p' ≤ l.length) : Now w (w.setCell ⟨g, 1, none⟩ (.int .i64 p')) g bv l p' y := by
  obtain ⟨c, hb, hc, hs⟩ := h.ex
  refine ⟨⟨hp, h.big, h.ne, c, ?_, hc, hs.grown (grownBy_setCell w g 1 _) (fun ad had _ e => h.ne ad had (Option.some.inj e))⟩, grownBy_setCell _ _ _ _⟩
  rw [heap_setCell_same _ _ _ _ _ _ hb]
  rfl
theorem Rd.setWhy {w : World} {g : Nat} {l : List UInt8} {p : Nat} {y : Int} (h : Rd w g bv l p y) (y' : Int) : Now w (w.setCell ⟨g, 2, none⟩ (.int .i64 y')) g bv l p y' := by
  obtain ⟨c, hb, hc, hs⟩ := h.ex
  refine ⟨⟨h.le, h.big, h.ne, c, ?_, hc, hs.grown (grownBy_setCell w g 2 _) (fun ad had _ e => h.ne ad had (Option.some.inj e))⟩, grownBy_setCell _ _ _ _⟩
  rw [heap_setCell_same _ _ _ _ _ _ hb]
  rfl
theorem Rd.now {w : World} {g : Nat} {l : List UInt8} {p : Nat} {y : Int} (h : Rd w g bv l p y) : Now w w g bv l p y := ⟨h, World.grownBy.refl _ _⟩
theorem Rd.drewN {w : World} {g : Nat} {l : List UInt8} {p : Nat} {y : Int} (h : Rd w g bv l p y) (n : Nat) : Now w (w.drewN n) g bv l p y := ⟨h.below (below_drewN (Below.refl _ _) n), grownBy_drewN _ _ _⟩
theorem Now.trans {a b c : World} {g : Nat} {bw : Option Addr} {l m : List UInt8} {p q : Nat} {y z : Int} (h : Now a b g bv l p y) (k : Now b c g bw m q z) : Now a c g bw m q z := ⟨k.rd, grownBy_trans h.grown k.grown⟩

/-- The reader's cells, as the walk reads them. -/
theorem Rd.cells {w : World} {g : Nat} {l : List UInt8} {p : Nat} {y : Int} (h : Rd w g bv l p y) : ∃ c, w.cell? ⟨g, 0, none⟩ = some (.slice bv l.length c) ∧ w.cell? ⟨g, 1, none⟩ = some (.int .i64 p) ∧ w.cell? ⟨g, 2, none⟩ = some (.int .i64 y) ∧ (∀ j, w.frozen? ⟨g, j, none⟩ = false) ∧ l.length ≤ c ∧ Src w bv l.length c (bcells l) := by
  obtain ⟨c, hb, hc, hs⟩ := h.ex
  exact ⟨c, cell_of_row w g 0 _ _ _ hb, cell_of_row w g 1 _ _ _ hb, cell_of_row w g 2 _ _ _ hb, fun j => frozen_of_row w g j _ _ hb, hc, hs⟩

theorem fail_any (g : Nat) (l : List UInt8) (p : Nat) (y z : Int) (w : World) (h : Rd w g bv l p y) :
    Calls Tryz.prog 126 #[.pointer (some ⟨g, 0, none⟩), .int .i64 z] w fun e w' => e = .returned (.tuple #[]) ∧ Now w w' g bv l p (if y = 0 then z else y) := by
  obtain ⟨c, c0, c1, c2, hf, _⟩ := h.cells
  have f2 := hf 2
  clear hf
  by_cases hy : y = 0
  · have hy' : (y == 0) = true := by simpa using hy
    rw [if_pos hy]
    have HY : Hid (y = 0) := hy
    clear hy
    go_enter Tryz.func126, Tryz.ntmps126
    go_wp2
    go_end0
    exact ⟨rfl, h.setWhy z⟩
  · have hy' : (y == 0) = false := by simpa using hy
    rw [if_neg hy]
    clear hy
    go_enter Tryz.func126, Tryz.ntmps126
    go_wp2
    go_end0
    exact ⟨rfl, h.now⟩

theorem left_any (g : Nat) (l : List UInt8) (p : Nat) (y : Int) (w : World) (h : Rd w g bv l p y) :
    Calls Tryz.prog 71 #[.pointer (some ⟨g, 0, none⟩)] w fun e w' => e = .returned (.int .i64 ((l.length - p : Nat) : Int)) ∧ Now w w' g bv l p y := by
  obtain ⟨c, c0, c1, c2, hf, _⟩ := h.cells
  have hle := h.le
  have hbig := h.big
  have e : ((l.length - p : Nat) : Int) = (l.length : Int) - (p : Int) := by omega
  rw [e]
  clear hf e
  go_enter Tryz.func71, Tryz.ntmps71
  go_wp2
  go_quiet (fail)
  go_wp2
  go_ret
  exact ⟨rfl, h.drewN _⟩

theorem why_any (g : Nat) (l : List UInt8) (p : Nat) (y : Int) (w : World) (h : Rd w g bv l p y) :
    Calls Tryz.prog 70 #[.pointer (some ⟨g, 0, none⟩)] w fun e w' => e = .returned (.tuple #[.int .i64 y, .int .i64 (if y = 0 then 0 else (p : Int))]) ∧ Now w w' g bv l p y := by
  obtain ⟨c, c0, c1, c2, hf, _⟩ := h.cells
  clear hf
  by_cases hy : y = 0
  · subst hy
    rw [if_pos rfl]
    go_enter Tryz.func70, Tryz.ntmps70
    go_wp2
    go_ret2
    exact ⟨rfl, h.now⟩
  · have hy' : (y == 0) = false := by simpa using hy
    rw [if_neg hy]
    clear hy
    go_enter Tryz.func70, Tryz.ntmps70
    go_wp2
    go_quiet (fail)
    go_wp2
    go_ret2
    exact ⟨rfl, h.drewN _⟩

end Go.Proofs.YtdibjgcokebfbaaGreat

namespace Go.Proofs.YtdibjgcokebfbaaGreat
open Go.RowKit
variable {bv : Option Addr}

/-- Left, its world told: it only draws. -/
theorem left_drew (g : Nat) (l : List UInt8) (p : Nat) (y : Int) (w : World) (h : Rd w g bv l p y) :
    Calls Tryz.prog 71 #[.pointer (some ⟨g, 0, none⟩)] w fun e w' => e = .returned (.int .i64 ((l.length - p : Nat) : Int)) ∧ ∃ n, w' = w.drewN n := by
  obtain ⟨c, c0, c1, c2, hf, _⟩ := h.cells
  have hle := h.le
  have hbig := h.big
  have e : ((l.length - p : Nat) : Int) = (l.length : Int) - (p : Int) := by omega
  rw [e]
  clear hf e
  go_enter Tryz.func71, Tryz.ntmps71
  go_wp2
  go_quiet (fail)
  go_wp2
  go_ret
  exact ⟨rfl, _, rfl⟩

/-- What a reading of n bytes gives, the place and the error behind it. -/
def tkB (l : List UInt8) (p : Nat) (y n : Int) : List UInt8 := if y = 0 ∧ 0 ≤ n ∧ n ≤ ((l.length - p : Nat) : Int) then (l.drop p).take n.toNat else []
def tkE (l : List UInt8) (p : Nat) (y n : Int) : Int := if y ≠ 0 then y else if n < 0 then 2 else if n ≤ ((l.length - p : Nat) : Int) then 0 else 3

/-- What take answers. -/
def Took (w : World) (g : Nat) (bv : Option Addr) (l : List UInt8) (p : Nat) (y n : Int) (e : Ending) (w' : World) : Prop :=
  ∃ a c, e = .returned (.slice a (tkB l p y n).length c) ∧ Src w' a (tkB l p y n).length c (bcells (tkB l p y n)) ∧ Now w w' g bv l (p + (tkB l p y n).length) (tkE l p y n)

theorem took_none {w w' : World} {g : Nat} {l : List UInt8} {p : Nat} {y n z : Int} (eb : tkB l p y n = []) (ee : tkE l p y n = z) (h : Now w w' g bv l p z) : Took w g bv l p y n (.returned (.slice none 0 0)) w' := by
  unfold Took; rw [eb, ee]; exact ⟨none, 0, rfl, Src.nil w', h⟩
theorem took_some {w w' : World} {g : Nat} {l : List UInt8} {p k : Nat} {a : Option Addr} {c : Nat} (hk : p + k ≤ l.length) (h : Now w w' g bv l (p + k) 0) (hs : Src w' a k c (bcells ((l.drop p).take k))) : Took w g bv l p 0 k (.returned (.slice a k c)) w' := by
  have eb : tkB l p 0 k = (l.drop p).take k := by unfold tkB; rw [if_pos (by omega)]; simp
  have ee : tkE l p 0 k = 0 := by unfold tkE; rw [if_neg (by simp), if_neg (by omega), if_pos (by omega)]
  have el : ((l.drop p).take k).length = k := by simp; omega
  unfold Took; rw [eb, ee, el]; exact ⟨a, c, rfl, hs, h⟩
/-- A part of what a slice leads to. -/
theorem Src.part {w : World} {ad : Addr} {n c p k : Nat} {xs : List Value} (h : Src w (some ad) n c xs) (d : Nat) : Src w (some (ad.add p)) ((xs.drop p).take k).length d ((xs.drop p).take k) := by
  refine ⟨rfl, (fun h => by cases h), fun ad' had j u hu => ?_⟩
  cases had
  have e : (ad.add p).add j = ad.add (p + j) := by
    unfold Addr.add
    by_cases hp : p = 0 <;> by_cases hj : j = 0 <;> simp [hp, hj, Nat.add_assoc]
  rw [e]
  refine h.cell ad rfl (p + j) u ?_
  rw [List.getElem?_take] at hu
  split at hu
  · rwa [List.getElem?_drop] at hu
  · cases hu
theorem bcells_part (l : List UInt8) (p k : Nat) : ((bcells l).drop p).take k = bcells ((l.drop p).take k) := by simp [bcells]

theorem take_no (g : Nat) (l : List UInt8) (p : Nat) (y n : Int) (w : World) (h : Rd w g bv l p y) (hy : y ≠ 0) : Calls Tryz.prog 107 #[.pointer (some ⟨g, 0, none⟩), .int .i64 n] w (Took w g bv l p y n) := by
  obtain ⟨c, c0, c1, c2, hf, hc, hs⟩ := h.cells
  have hne := h.ne
  clear hf
  have HY : Hid (y ≠ 0) := hy
  have hy' : (y == 0) = false := by simpa using hy
  clear hy
  go_enter Tryz.func107, Tryz.ntmps107
  go_wp2
  go_ret
  have hy := HY.out
  exact took_none (by simp [tkB, hy]) (by simp [tkE, hy]) h.now

theorem take_neg (g : Nat) (l : List UInt8) (p : Nat) (n : Int) (w : World) (h : Rd w g bv l p 0) (hn : n < 0) : Calls Tryz.prog 107 #[.pointer (some ⟨g, 0, none⟩), .int .i64 n] w (Took w g bv l p 0 n) := by
  obtain ⟨c, c0, c1, c2, hf, hc, hs⟩ := h.cells
  have hne := h.ne
  clear hf
  go_enter Tryz.func107, Tryz.ntmps107
  go_wp2_with (go_at_call 126; refine (fail_any g l p 0 2 w h).mono ?_; rintro e w0 ⟨rfl, hn0⟩)
  go_ret
  exact took_none (by unfold tkB; rw [if_neg (by omega)]) (by simp [tkE, hn]) hn0

theorem take_short (g : Nat) (l : List UInt8) (p : Nat) (n : Int) (w : World) (h : Rd w g bv l p 0) (hn : ((l.length - p : Nat) : Int) < n) : Calls Tryz.prog 107 #[.pointer (some ⟨g, 0, none⟩), .int .i64 n] w (Took w g bv l p 0 n) := by
  obtain ⟨c, c0, c1, c2, hf, hc, hs⟩ := h.cells
  have hne := h.ne
  clear hf
  have h0 : 0 ≤ n := by omega
  go_enter Tryz.func107, Tryz.ntmps107
  go_wp2_with (first
    | (go_at_call 126; refine (fail_any g l p 0 3 _ (h.drewN m).rd).mono ?_; rintro e w0 ⟨rfl, hn0⟩)
    | (go_at_call 71; refine (left_drew g l p 0 w h).mono ?_; rintro e w0 ⟨rfl, m, rfl⟩))
  go_ret
  exact took_none (by unfold tkB; rw [if_neg (by omega)]) (by unfold tkE; rw [if_neg (by simp), if_neg (by omega), if_neg (by omega)]; simp) ((h.drewN m).trans hn0)

theorem take_yes (g : Nat) (l : List UInt8) (p k : Nat) (w : World) (h : Rd w g bv l p 0) (hk : p + k ≤ l.length) : Calls Tryz.prog 107 #[.pointer (some ⟨g, 0, none⟩), .int .i64 k] w (Took w g bv l p 0 k) := by
  obtain ⟨c, c0, c1, c2, hf, hc, hs⟩ := h.cells
  have hne := h.ne
  have hr := h
  have f1 := hf 1
  have hbig := h.big
  clear hf
  have n1 : ¬ l.length - p < k := by omega
  have n0 : (0 : Int) ≤ (k : Int) := by omega
  have fin : ∀ m nq, Now w (((w.drewN m).setCell ⟨g, 1, none⟩ (.int .i64 ((p : Int) + (k : Int)))).drewN nq) g bv l (p + k) 0 := fun m nq => by
    have e : ((p : Int) + (k : Int)) = ((p + k : Nat) : Int) := by omega
    rw [e]
    have t1 := (h.drewN m).rd.setAt (p + k) hk
    exact (h.drewN m).trans (t1.trans (t1.rd.drewN nq))
  have FIN : Hid (∀ m nq, Now w (((w.drewN m).setCell ⟨g, 1, none⟩ (.int .i64 ((p : Int) + (k : Int)))).drewN nq) g bv l (p + k) 0) := fin
  clear fin
  cases bv with
  | none =>
    go_enter Tryz.func107, Tryz.ntmps107
    go_wp2_with (go_at_call 71; refine (left_drew g l p 0 w h).mono ?_; rintro e w0 ⟨rfl, m, rfl⟩)
    go_quiet (fail)
    go_wp2
    go_ret
    obtain ⟨hl, rfl⟩ := hs.bare rfl
    have hp0 : p = 0 := by omega
    have hk0 : k = 0 := by omega
    have hl0 : l = [] := List.eq_nil_of_length_eq_zero hl
    have hF := FIN.out m nq
    subst hp0 hk0 hl0
    exact took_some (Nat.le_refl _) hF (Src.nil _)
  | some ad =>
    have HN : Hid (∀ ad_1, some ad = some ad_1 → ad_1.block ≠ g) := hne
    clear hne
    go_enter Tryz.func107, Tryz.ntmps107
    go_wp2_with (go_at_call 71; refine (left_drew g l p 0 w h).mono ?_; rintro e w0 ⟨rfl, m, rfl⟩)
    go_quiet (fail)
    go_wp2
    all_goals
      go_ret
      have hF := FIN.out m nq
      have hs2 := hs.grown hF.grown (fun ad' had _ e => HN.out ad' had (Option.some.inj e))
    · have hk0 : k = 0 := by omega
      subst hk0
      exact took_some hk hF ⟨by simp [bcells], (fun h => by cases h), fun _ _ j u hu => by simp [bcells] at hu⟩
    · have h3 := hs2.part (p := p) (k := k) (c - p)
      rw [bcells_part] at h3
      have el : (bcells ((l.drop p).take k)).length = k := by simp [bcells]; omega
      rw [el] at h3
      exact took_some hk hF h3

/-- take, whatever is asked. -/
theorem take_any (g : Nat) (l : List UInt8) (p : Nat) (y n : Int) (w : World) (h : Rd w g bv l p y) : Calls Tryz.prog 107 #[.pointer (some ⟨g, 0, none⟩), .int .i64 n] w (Took w g bv l p y n) := by
  by_cases hy : y = 0
  · subst hy
    by_cases h0 : n < 0
    · exact take_neg g l p n w h h0
    · by_cases h1 : ((l.length - p : Nat) : Int) < n
      · exact take_short g l p n w h h1
      · obtain ⟨k, rfl⟩ : ∃ k : Nat, n = k := ⟨n.toNat, by omega⟩
        have := h.le
        exact take_yes g l p k w h (by omega)
  · exact take_no g l p y n w h hy

theorem tkB_len (l : List UInt8) (p : Nat) (y n : Int) (hp : p ≤ l.length) : p + (tkB l p y n).length ≤ l.length := by
  unfold tkB; split <;> simp <;> omega

/-- Reader.Bytes. -/
theorem bytes_any (g : Nat) (l : List UInt8) (p : Nat) (y n : Int) (w : World) (h : Rd w g bv l p y) :
    Calls Tryz.prog 72 #[.pointer (some ⟨g, 0, none⟩), .int .i64 n] w fun e w' => ∃ a c, e = .returned (.slice a (tkB l p y n).length c) ∧ Src w' a (tkB l p y n).length c (bcells (tkB l p y n)) ∧ (∀ ad, a = some ad → w.heap.size ≤ ad.block) ∧ Now w w' g bv l (p + (tkB l p y n).length) (tkE l p y n) := by
  have hb := h.big
  have hl := tkB_len l p y n h.le
  go_enter Tryz.func72, Tryz.ntmps72
  go_wp2_with (first
    | (go_at_call 107; refine (take_any g l p y n w h).mono ?_; rintro e w0 ⟨a0, c0, rfl, hs0, hn0⟩)
    | (go_at_call 105; refine (clone_any a0 _ c0 (tkB l p y n) w0 hs0 (by omega)).mono ?_; rintro e w1 ⟨a1, c1, rfl, hown, hb1⟩))
  go_ret
  obtain ⟨a2, c2, hv, hs2, hlt⟩ := Src.ofOwn hown
  cases hv
  exact ⟨a1, c1, rfl, hs2, fun ad had => Nat.le_trans hn0.grown.size (hlt ad had).1, ⟨hn0.rd.below hb1, grownBy_trans hn0.grown (grownBy_below _ hb1)⟩⟩

/-- Reader.Rest. -/
theorem rest_any (g : Nat) (l : List UInt8) (p : Nat) (y : Int) (w : World) (h : Rd w g bv l p y) :
    Calls Tryz.prog 73 #[.pointer (some ⟨g, 0, none⟩)] w fun e w' => ∃ a c, e = .returned (.slice a (tkB l p y (l.length - p : Nat)).length c) ∧ Src w' a (tkB l p y (l.length - p : Nat)).length c (bcells (tkB l p y (l.length - p : Nat))) ∧ (∀ ad, a = some ad → w.heap.size ≤ ad.block) ∧ Now w w' g bv l (p + (tkB l p y (l.length - p : Nat)).length) (tkE l p y (l.length - p : Nat)) := by
  go_enter Tryz.func73, Tryz.ntmps73
  go_wp2_with (first
    | (go_at_call 71; refine (left_any g l p y w h).mono ?_; rintro e w0 ⟨rfl, hn0⟩)
    | (go_at_call 72; refine (bytes_any g l p y _ w0 hn0.rd).mono ?_; rintro e w1 ⟨a1, c1, rfl, hs1, hge, hn1⟩))
  go_ret
  exact ⟨a1, c1, rfl, hs1, fun ad had => Nat.le_trans hn0.grown.size (hge ad had), hn0.trans hn1⟩

end Go.Proofs.YtdibjgcokebfbaaGreat

namespace Go.Proofs.YtdibjgcokebfbaaGreat
open Go.RowKit
variable {bv : Option Addr}

/-- The number that bytes are, the highest first. -/
def nv (l : List UInt8) : Nat := l.foldl (fun a b => a * 256 + b.toNat) 0
theorem nv_snoc (l : List UInt8) (b : UInt8) : nv (l ++ [b]) = nv l * 256 + b.toNat := by simp [nv]
theorem nv_fold (l : List UInt8) (a : Nat) : l.foldl (fun a b => a * 256 + b.toNat) a < (a + 1) * 256 ^ l.length := by
  induction l generalizing a with
  | nil => simp
  | cons b l ih =>
    have h1 := ih (a * 256 + b.toNat)
    have h2 := b.toNat_lt
    simp only [List.foldl_cons, List.length_cons, Nat.pow_succ]
    refine Nat.lt_of_lt_of_le h1 ?_
    rw [Nat.mul_comm (256 ^ l.length) 256, ← Nat.mul_assoc]
    exact Nat.mul_le_mul_right _ (by omega)
theorem nv_lt (l : List UInt8) : nv l < 256 ^ l.length := by simpa [nv] using nv_fold l 0

theorem Src.byteAt {w : World} {ad : Addr} {n c : Nat} {l : List UInt8} (h : Src w (some ad) n c (bcells l)) (j : Nat) (hj : j < l.length) : w.cell? (ad.add j) = some (.int .u8 (l[j].toNat : Int)) :=
  h.cell ad rfl j _ (by simp [bcells, hj])

theorem or_low (V z : Nat) (hv : V < 16777216) (hz : z < 256) : bits BinOp.or IntKind.u32 ((V : Int) * 256) (z : Int) = ((V * 256 + z : Nat) : Int) := by
  have e : ((V : Int) * 256) = ((V * 256 : Nat) : Int) := by omega
  rw [e, u32_or_nat _ _ (by omega) (by omega)]
  have h := Nat.two_pow_add_eq_or_of_lt (i := 8) (b := z) (by omega) V
  have e2 : V * 256 = 2 ^ 8 * V := by omega
  rw [e2, ← h]

theorem number_any (g : Nat) (l : List UInt8) (p k : Nat) (y : Int) (w : World) (h : Rd w g bv l p y) (hk : k ≤ 4) :
    Calls Tryz.prog 106 #[.pointer (some ⟨g, 0, none⟩), .int .i64 k] w fun e w' => e = .returned (.int .u32 (nv (tkB l p y k))) ∧ Now w w' g bv l (p + (tkB l p y k).length) (tkE l p y k) := by
  have ht4 : (tkB l p y k).length ≤ 4 := by unfold tkB; split <;> simp <;> omega
  go_enter Tryz.func106, Tryz.ntmps106
  go_wp2_with (go_at_call 107; refine (take_any g l p y k w h).mono ?_; rintro e w0 ⟨a0, c0, rfl, hs0, hn0⟩; generalize hT : tkB l p y k = T at *; have HT : Hid (tkB l p y k = T) := hT; clear hT)
  go_loopw [5, 12] (fun v i wr => ∃ j : Nat, j ≤ T.length ∧ i = .int .i64 j ∧ v = .int .u32 (nv (T.take j)) ∧ wr = w0) (fun _ i _ => T.length - (intOf i).toNat)
  case atStart => exact ⟨0, Nat.zero_le _, rfl, rfl, rfl⟩
  case round =>
    obtain ⟨j, hj, rfl, rfl, rfl⟩ := hrel
    by_cases hlt : j < T.length
    · cases a0 with
      | none => exact absurd (hs0.bare rfl).1 (by omega)
      | some ad =>
        have hc := hs0.byteAt j hlt
        have hz := T[j].toNat_lt
        generalize hZ : T[j].toNat = z at *
        have hv : nv (T.take j) < 16777216 := by
          have h1 := nv_lt (T.take j)
          have h2 : (T.take j).length ≤ 3 := by simp; omega
          have h3 : 256 ^ (T.take j).length ≤ 256 ^ 3 := Nat.pow_le_pow_right (by decide) h2
          omega
        have hs1 : nv (T.take (j + 1)) = nv (T.take j) * 256 + z := by
          rw [List.take_succ_eq_append_getElem hlt, nv_snoc, hZ]
        generalize nv (T.take j) = V at *
        have HS : Hid (nv (T.take (j + 1)) = V * 256 + z) := hs1
        clear hs1 hZ
        go_wp2
        go_roundw
        case rel => exact ⟨j + 1, by omega, by go_num, by rw [HS.out, or_low V z hv hz], trivial⟩
        case measure => simp [intOf]; omega
    · go_wp2
      go_ret
      rw [HT.out]
      refine ⟨?_, hn0⟩
      show Ending.returned (Value.int .u32 (nv (T.take j))) = _
      rw [List.take_of_length_le (by omega)]

theorem nv_lt_of (l : List UInt8) (p k : Nat) (y : Int) : nv (tkB l p y k) < 256 ^ k := by
  refine Nat.lt_of_lt_of_le (nv_lt _) (Nat.pow_le_pow_right (by decide) ?_)
  unfold tkB; split <;> simp <;> omega

theorem u8_any (g : Nat) (l : List UInt8) (p : Nat) (y : Int) (w : World) (h : Rd w g bv l p y) :
    Calls Tryz.prog 68 #[.pointer (some ⟨g, 0, none⟩)] w fun e w' => e = .returned (.int .u8 (nv (tkB l p y 1))) ∧ Now w w' g bv l (p + (tkB l p y 1).length) (tkE l p y 1) := by
  have hlt : nv (tkB l p y 1) < 256 := by simpa using nv_lt_of l p 1 y
  go_enter Tryz.func68, Tryz.ntmps68
  go_wp2_with (go_at_call 106; refine (number_any g l p 1 y w h (by decide)).mono ?_; rintro e w0 ⟨rfl, hn0⟩)
  go_ret
  exact ⟨rfl, hn0⟩
theorem u16_any (g : Nat) (l : List UInt8) (p : Nat) (y : Int) (w : World) (h : Rd w g bv l p y) :
    Calls Tryz.prog 69 #[.pointer (some ⟨g, 0, none⟩)] w fun e w' => e = .returned (.int .u16 (nv (tkB l p y 2))) ∧ Now w w' g bv l (p + (tkB l p y 2).length) (tkE l p y 2) := by
  have hlt : nv (tkB l p y 2) < 65536 := by simpa using nv_lt_of l p 2 y
  go_enter Tryz.func69, Tryz.ntmps69
  go_wp2_with (go_at_call 106; refine (number_any g l p 2 y w h (by decide)).mono ?_; rintro e w0 ⟨rfl, hn0⟩)
  go_ret
  exact ⟨rfl, hn0⟩
end Go.Proofs.YtdibjgcokebfbaaGreat

namespace Go.Proofs.YtdibjgcokebfbaaGreat
open Go.RowKit

def be16 (v : UInt16) : List UInt8 := [UInt8.ofNat (v.toNat / 256), UInt8.ofNat v.toNat]
def be32 (v : UInt32) : List UInt8 := [UInt8.ofNat (v.toNat / 16777216), UInt8.ofNat (v.toNat / 65536), UInt8.ofNat (v.toNat / 256), UInt8.ofNat v.toNat]
def hcells (l : List UInt16) : List Value := l.map fun b => Value.int .u16 b.toNat
def wcells (l : List UInt32) : List Value := l.map fun b => Value.int .u32 b.toNat

theorem Src.halfAt {w : World} {ad : Addr} {n c : Nat} {l : List UInt16} (h : Src w (some ad) n c (hcells l)) (j : Nat) (hj : j < l.length) : w.cell? (ad.add j) = some (.int .u16 (l[j].toNat : Int)) :=
  h.cell ad rfl j _ (by simp [hcells, hj])
theorem Src.wordAt {w : World} {ad : Addr} {n c : Nat} {l : List UInt32} (h : Src w (some ad) n c (wcells l)) (j : Nat) (hj : j < l.length) : w.cell? (ad.add j) = some (.int .u32 (l[j].toNat : Int)) :=
  h.cell ad rfl j _ (by simp [wcells, hj])
theorem Src.hlen {w : World} {a : Option Addr} {n c : Nat} {l : List UInt16} (hs : Src w a n c (hcells l)) : n = l.length := by simpa [hcells] using hs.len.symm
theorem Src.wlen {w : World} {a : Option Addr} {n c : Nat} {l : List UInt32} (hs : Src w a n c (wcells l)) : n = l.length := by simpa [wcells] using hs.len.symm

theorem be16_take (k : List UInt16) (j : Nat) (hj : j < k.length) : (k.take (j + 1)).flatMap be16 = (k.take j).flatMap be16 ++ be16 k[j] := by
  rw [List.take_succ_eq_append_getElem hj, List.flatMap_append]; simp
theorem be32_take (k : List UInt32) (j : Nat) (hj : j < k.length) : (k.take (j + 1)).flatMap be32 = (k.take j).flatMap be32 ++ be32 k[j] := by
  rw [List.take_succ_eq_append_getElem hj, List.flatMap_append]; simp
theorem be16_len (k : List UInt16) : (k.flatMap be16).length = 2 * k.length := by
  induction k with
  | nil => rfl
  | cons v k ih => simp [List.flatMap_cons, be16, ih]; omega
theorem be32_len (k : List UInt32) : (k.flatMap be32).length = 4 * k.length := by
  induction k with
  | nil => rfl
  | cons v k ih => simp [List.flatMap_cons, be32, ih]; omega

theorem new_src (w : World) (xs : Array Value) : Src (w.alloc (.cells xs 5)) (some ⟨w.heap.size, 0, none⟩) xs.size xs.size xs.toList := by
  refine ⟨by simp, (fun h => by cases h), fun ad had j u hu => ?_⟩
  cases had
  rw [Addr.add_lit, Nat.zero_add, cell_of_row _ _ _ _ _ _ (heap_alloc_new w _)]
  simpa using hu
theorem be16_cells (v : UInt16) : bcells (be16 v) = [.int .u8 ((v.toNat : Int) / 256), .int .u8 ((v.toNat : Int) % 256)] := by
  have h := v.toNat_lt
  simp [bcells, be16]
  omega
theorem be32_cells (v : UInt32) : bcells (be32 v) = [.int .u8 ((v.toNat : Int) / 16777216), .int .u8 ((v.toNat : Int) / 65536 % 256), .int .u8 ((v.toNat : Int) / 256 % 256), .int .u8 ((v.toNat : Int) % 256)] := by
  have h := v.toNat_lt
  simp [bcells, be32]
  omega

theorem put16_any (a : Option Addr) (n c : Nat) (l : List UInt8) (b : Option Addr) (m d : Nat) (k : List UInt16) (w : World) (hs : Src w a n c (bcells l)) (ht : Src w b m d (hcells k)) (hn : n + 2 * m ≤ 140737488355328) :
    Calls Tryz.prog 89 #[.slice a n c, .slice b m d] w (Laid w (l ++ k.flatMap be16)) := by
  have HM : Hid (m = k.length) := ht.hlen
  have HN : Hid (n = l.length) := hs.blen
  go_enter Tryz.func89, Tryz.ntmps89
  go_wp2_with (go_at_call 120; refine (room_any a n c l (2 * m) w hs hn).mono ?_; rintro e w0 ⟨a0, c0, rfl, hown0, hb0⟩)
  go_loopw [5, 15] (fun v i wr => ∃ j : Nat, j ≤ m ∧ i = .int .i64 j ∧ wr.ownsRow w.heap.size 5 1 v (l.length + 2 * j) (bcells (l ++ (k.take j).flatMap be16)) ∧ Below w.heap.size w wr) (fun _ i _ => m - (intOf i).toNat)
  case atStart => exact ⟨0, Nat.zero_le _, rfl, by simpa using hown0, hb0⟩
  case round =>
    obtain ⟨j, hj, rfl, hown, hbl⟩ := hrel
    by_cases hlt : j < m
    · cases b with
      | none => exact absurd (ht.bare rfl).1 (by omega)
      | some ad =>
        have hjk : j < k.length := by have := HM.out; omega
        have hc := (ht.below hbl ht.lt).halfAt j hjk
        have hz := k[j].toNat_lt
        have hnew := be16_cells k[j]
        have htk := be16_take k j hjk
        generalize hZ : k[j].toNat = z at *
        have hown2 : wr.ownsRow w.heap.size 5 1 _ _ _ := hown
        have HNEW : Hid (bcells (l ++ (k.take (j + 1)).flatMap be16) = bcells (l ++ (k.take j).flatMap be16) ++ [.int .u8 ((z : Int) / 256), .int .u8 ((z : Int) % 256)]) := by show _ = _; rw [htk, ← List.append_assoc, bcells_append _ (be16 _), hnew]
        clear hnew htk hZ
        go_wp2_with (at_builtin; refine append_src rfl (.tmp 19) (.tmp 25) rfl w.heap.size _ (l.length + 2 * j) _ rfl (hown.alloc _) (some ⟨wr.heap.size, 0, none⟩) 2 2 [.int .u8 ((z : Int) / 256), .int .u8 ((z : Int) % 256)] rfl (new_src wr #[.int .u8 ((z : Int) / 256), .int .u8 ((z : Int) % 256)]) (by intro u hu; simp at hu; rcases hu with rfl | rfl <;> rfl) (by have := HN.out; omega) (by have := hbl.size; simp; omega) ?_; intro v' w1 hown1 hg1 _)
        go_roundw
        case rel => exact ⟨j + 1, by omega, by go_num, by rw [HNEW.out]; exact hown1, (hbl.alloc hbl.size _).grown hg1 (by have := hbl.size; simp; omega) (ownBlock_ge hown)⟩
        case measure => simp [intOf]; omega
    · have hjm : j = m := by omega
      subst hjm
      go_wp2
      go_ret
      have hL := be16_len k
      have hM := HM.out
      exact Laid.mk (n := l.length + 2 * j) (by simp [hL, hM]) (by rw [List.take_of_length_le (by omega)] at hown; exact hown) hbl

theorem put32_any (a : Option Addr) (n c : Nat) (l : List UInt8) (b : Option Addr) (m d : Nat) (k : List UInt32) (w : World) (hs : Src w a n c (bcells l)) (ht : Src w b m d (wcells k)) (hn : n + 4 * m ≤ 140737488355328) :
    Calls Tryz.prog 123 #[.slice a n c, .slice b m d] w (Laid w (l ++ k.flatMap be32)) := by
  have HM : Hid (m = k.length) := ht.wlen
  have HN : Hid (n = l.length) := hs.blen
  go_enter Tryz.func123, Tryz.ntmps123
  go_wp2_with (go_at_call 120; refine (room_any a n c l (4 * m) w hs hn).mono ?_; rintro e w0 ⟨a0, c0, rfl, hown0, hb0⟩)
  go_loopw [5, 15] (fun v i wr => ∃ j : Nat, j ≤ m ∧ i = .int .i64 j ∧ wr.ownsRow w.heap.size 5 1 v (l.length + 4 * j) (bcells (l ++ (k.take j).flatMap be32)) ∧ Below w.heap.size w wr) (fun _ i _ => m - (intOf i).toNat)
  case atStart => exact ⟨0, Nat.zero_le _, rfl, by simpa using hown0, hb0⟩
  case round =>
    obtain ⟨j, hj, rfl, hown, hbl⟩ := hrel
    by_cases hlt : j < m
    · cases b with
      | none => exact absurd (ht.bare rfl).1 (by omega)
      | some ad =>
        have hjk : j < k.length := by have := HM.out; omega
        have hc := (ht.below hbl ht.lt).wordAt j hjk
        have hz := k[j].toNat_lt
        have hnew := be32_cells k[j]
        have htk := be32_take k j hjk
        generalize hZ : k[j].toNat = z at *
        have HNEW : Hid (bcells (l ++ (k.take (j + 1)).flatMap be32) = bcells (l ++ (k.take j).flatMap be32) ++ [.int .u8 ((z : Int) / 16777216), .int .u8 ((z : Int) / 65536 % 256), .int .u8 ((z : Int) / 256 % 256), .int .u8 ((z : Int) % 256)]) := by show _ = _; rw [htk, ← List.append_assoc, bcells_append _ (be32 _), hnew]
        clear hnew htk hZ
        go_wp2_with (at_builtin; refine append_src rfl (.tmp 19) (.tmp 31) rfl w.heap.size _ (l.length + 4 * j) _ rfl (hown.alloc _) (some ⟨wr.heap.size, 0, none⟩) 4 4 [.int .u8 ((z : Int) / 16777216), .int .u8 ((z : Int) / 65536 % 256), .int .u8 ((z : Int) / 256 % 256), .int .u8 ((z : Int) % 256)] rfl (new_src wr #[.int .u8 ((z : Int) / 16777216), .int .u8 ((z : Int) / 65536 % 256), .int .u8 ((z : Int) / 256 % 256), .int .u8 ((z : Int) % 256)]) (by intro u hu; simp at hu; rcases hu with rfl | rfl | rfl | rfl <;> rfl) (by have := HN.out; omega) (by have := hbl.size; simp; omega) ?_; intro v' w1 hown1 hg1 _)
        go_roundw
        case rel => exact ⟨j + 1, by omega, by go_num, by rw [HNEW.out]; exact hown1, (hbl.alloc hbl.size _).grown hg1 (by have := hbl.size; simp; omega) (ownBlock_ge hown)⟩
        case measure => simp [intOf]; omega
    · have hjm : j = m := by omega
      subst hjm
      go_wp2
      go_ret
      have hL := be32_len k
      have hM := HM.out
      exact Laid.mk (n := l.length + 4 * j) (by simp [hL, hM]) (by rw [List.take_of_length_le (by omega)] at hown; exact hown) hbl
end Go.Proofs.YtdibjgcokebfbaaGreat

namespace Go.Proofs.YtdibjgcokebfbaaGreat
open Go.RowKit
variable {bv : Option Addr}

theorem new_src_of (w : World) (xs : Array Value) (t : TypeId) : Src (w.alloc (.cells xs t)) (some ⟨w.heap.size, 0, none⟩) xs.size xs.size xs.toList := by
  refine ⟨by simp, (fun h => by cases h), fun ad had j u hu => ?_⟩
  cases had
  rw [Addr.add_lit, Nat.zero_add, cell_of_row _ _ _ _ _ _ (heap_alloc_new w _)]
  simpa using hu

/-- string(b). -/
theorem Src.str {w : World} {a : Option Addr} {n c : Nat} {l : List UInt8} (h : Src w a n c (bcells l)) : (convert 46 9 (.slice a n c)).run Tryz.prog w = .ok (.string ⟨l.toArray⟩) w := by
  cases a with
  | none =>
    obtain ⟨rfl, rfl⟩ := h.bare rfl
    have hl : l = [] := List.eq_nil_of_length_eq_zero (by simpa [bcells] using h.len)
    subst hl
    exact run_convert_bytes_nil w 46 5 Tryz.underlying46 Tryz.underlying5 0 0 9 Tryz.underlying9
  | some ad =>
    obtain rfl := h.blen
    exact run_convert_bytes_back w 46 9 5 ad c l Tryz.underlying46 Tryz.underlying5 Tryz.underlying9 (fun j hj => h.byteAt j hj)

/-- A reader behind what another one did. -/
theorem Rd.other {w w' : World} {g g' : Nat} {bw : Option Addr} {l l' : List UInt8} {p p' : Nat} {y y' : Int} (h : Rd w g bv l p y) (k : Now w w' g' bw l' p' y') (h1 : g ≠ g') (h2 : ∀ ad, bv = some ad → ad.block ≠ g') : Rd w' g bv l p y :=
  h.kept k.grown (fun e => h1 (Option.some.inj e)) (fun ad had _ e => h2 ad had (Option.some.inj e))
theorem Rd.lt {w : World} {g : Nat} {l : List UInt8} {p : Nat} {y : Int} (h : Rd w g bv l p y) : g < w.heap.size := by
  obtain ⟨c, hb, _⟩ := h.ex
  exact lt_of_block hb
theorem Rd.blt {w : World} {g : Nat} {l : List UInt8} {p : Nat} {y : Int} (h : Rd w g bv l p y) (hl : l ≠ []) : ∀ ad, bv = some ad → ad.block < w.heap.size := by
  obtain ⟨c, hb, _, hs⟩ := h.ex
  exact fun ad had => hs.lt ad had (by simpa [bcells] using hl)

end Go.Proofs.YtdibjgcokebfbaaGreat
