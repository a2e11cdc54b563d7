/-
  The memory that the readings and layings of package octet stand on, and the contracts of bytes.Clone, withRoom, Put8 and New, for every input within memory.
-/
import Derived.Test.YtaleclmccmeglaaRows
import Derived.WalkKit
import Derived.ProofKit
import Derived.WalkSpells
import Derived.WalkLawsBesides
import Derived.Laws.AppendOwnNone
import Derived.Laws.IdiomStrings
namespace Go.Proofs.Ytaleclmccmeglaa
open Go.RowKit

theorem info5 : (Try.prog.info? 5).map (fun i => (i.zero, i.size, i.bytes)) = some (some (.int .u8 0), 1, 1) := by kernel_rfl

/-- The cells of bytes. -/
def bcells (l : List UInt8) : List Value := l.map fun b => Value.int .u8 b.toNat
theorem bcells_length (l : List UInt8) : (bcells l).length = l.length := by simp [bcells]
theorem bcells_append (l m : List UInt8) : bcells (l ++ m) = bcells l ++ bcells m := by simp [bcells]
theorem bcells_one (l : List UInt8) : ∀ u ∈ bcells l, u.oneCell' = true := by
  intro u hu
  obtain ⟨_, _, rfl⟩ := List.mem_map.1 hu
  rfl

/-- What a slice value leads to: these cells, one a place. -/
structure Src (w : World) (a : Option Addr) (n c : Nat) (xs : List Value) : Prop where
  len : xs.length = n
  bare : a = none → n = 0 ∧ c = 0
  cell : ∀ ad, a = some ad → ∀ j u, xs[j]? = some u → w.cell? (ad.add j) = some u

theorem Src.nil (w : World) : Src w none 0 0 [] := ⟨rfl, fun _ => ⟨rfl, rfl⟩, fun _ h => by cases h⟩

theorem Src.grown {w w' : World} {row : Option Nat} {a : Option Addr} {n c : Nat} {xs : List Value} (h : Src w a n c xs) (hg : w.grownBy w' row) (hne : ∀ ad, a = some ad → xs ≠ [] → some ad.block ≠ row) : Src w' a n c xs :=
  ⟨h.len, h.bare, fun ad had j u hu => by
    have hx : xs ≠ [] := by rintro rfl; simp at hu
    have hb : (ad.add j).block = ad.block := by unfold Addr.add; split <;> rfl
    exact hg.cell (h.cell ad had j u hu) (by rw [hb]; exact hne ad had hx)⟩
theorem Src.alloc {w : World} {a : Option Addr} {n c : Nat} {xs : List Value} (h : Src w a n c xs) (o : Obj) : Src (w.alloc o) a n c xs := h.grown (World.grownBy_alloc w o none) (fun _ _ _ => by simp)
/-- Where the cells lie: below B. -/
def Src.under (a : Option Addr) (xs : List Value) (B : Nat) : Prop := ∀ ad, a = some ad → xs ≠ [] → ad.block < B
theorem Src.lt {w : World} {a : Option Addr} {n c : Nat} {xs : List Value} (h : Src w a n c xs) : Src.under a xs w.heap.size := by
  intro ad had hx
  cases xs with
  | nil => exact absurd rfl hx
  | cons u r =>
    have := block_lt_of_cell (h.cell ad had 0 u rfl)
    have hb : (ad.add 0).block = ad.block := by unfold Addr.add; split <;> rfl
    rwa [hb] at this
theorem Src.below {w w' : World} {B : Nat} {a : Option Addr} {n c : Nat} {xs : List Value} (h : Src w a n c xs) (hb : Below B w w') (hu : Src.under a xs B) : Src w' a n c xs :=
  ⟨h.len, h.bare, fun ad had j u hj => by
    have hx : xs ≠ [] := by rintro rfl; simp at hj
    have hbk : (ad.add j).block = ad.block := by unfold Addr.add; split <;> rfl
    exact (hb.cell (by rw [hbk]; exact hu ad had hx)).trans (h.cell ad had j u hj)⟩
/-- An owned row as a source. -/
theorem Src.ofOwn {w : World} {B : Nat} {v : Value} {n : Nat} {xs : List Value} (h : w.ownsRow B 5 1 v n xs) : ∃ a c, v = .slice a n c ∧ Src w a n c xs ∧ (∀ ad, a = some ad → B ≤ ad.block ∧ ad.block < w.heap.size) := by
  have hl := h.1
  rcases h.2 with ⟨rfl, rfl⟩ | ⟨g, cap, cur, rfl, hb, hh, hr⟩
  · have : xs = [] := List.eq_nil_of_length_eq_zero (by simpa using hl)
    subst this
    exact ⟨none, 0, rfl, Src.nil w, fun _ h => by cases h⟩
  · refine ⟨some ⟨g, 0, none⟩, cap, rfl, ⟨by simpa using hl, (fun h => by cases h), fun ad had j u hu => ?_⟩, fun ad had => ?_⟩
    · cases had
      exact h.cells rfl j u hu
    · cases had
      exact ⟨hb, lt_of_block hh⟩

/-- Append to a row of the call's own, whatever the source. -/
theorem append_src {w : World} {ops : Array Oper} {rest : List Oper} {o : Oper} {a : Act} {Q : Exit → Act → World → Prop} (hgd : o.guard = none) (s x : Operand)
    (ho : o.op = .call { callee := .builtin .append, args := #[s, x], argTypes := #[24, 24] })
    (base : Nat) (v : Value) (n : Nat) (xs : List Value) (hs : a.eval s = v) (hown : w.ownsRow base 5 1 v n xs)
    (ad : Option Addr) (m c : Nat) (news : List Value) (hx : a.eval x = .slice ad m c) (hsrc : Src w ad m c news) (h1 : ∀ u ∈ news, u.oneCell' = true)
    (hbytes : n + m ≤ 140737488355328) (hbase : base ≤ w.heap.size)
    (h : ∀ v' w', w'.ownsRow base 5 1 v' (n + m) (xs ++ news) → w.grownBy w' v.ownBlock → (v' = .slice none 0 0 ↔ v = .slice none 0 0 ∧ m = 0) → wpList Try.prog ops Q rest (a.put o.dst v') w') : wpList Try.prog ops Q (o :: rest) a w := by
  obtain ⟨i0, hi, hz0, hz1, hz2⟩ := info_parts info5
  cases ad with
  | some ad => exact wpList_append_own w hgd s x 24 ho base 5 i0 (.int .u8 0) 1 1 Try.underlying24 hi hz0 hz1 hz2 rfl (by decide) v n xs hs hown ad m c news hx (by simp [hsrc.len]) (hsrc.cell ad rfl) h1 (by unfold maxLen; omega) (by omega) hbase h
  | none =>
    obtain ⟨rfl, rfl⟩ := hsrc.bare rfl
    have hn : news = [] := List.eq_nil_of_length_eq_zero hsrc.len
    subst hn
    refine wpList_append_own_none hgd s x 24 ho base 5 i0 1 Try.underlying24 hi v n xs hs hown hx ?_
    exact h v w (by simpa using hown) (World.grownBy.refl _ _) (by simp)

theorem ownBlock_ge {w : World} {base : Nat} {v : Value} {n : Nat} {xs : List Value} (h : w.ownsRow base 5 1 v n xs) : ∀ k, v.ownBlock = some k → base ≤ k := fun k hk => (h.lt k hk).1

theorem own_shape {w : World} {B : Nat} {v : Value} {n : Nat} {xs : List Value} (h : w.ownsRow B 5 1 v n xs) : ∃ a c, v = .slice a n c := by
  obtain ⟨a, c, h1, _⟩ := Src.ofOwn h
  exact ⟨a, c, h1⟩

/-- What a call that lays bytes answers: a slice in new memory with these bytes; nothing old has turned. -/
def Laid (w : World) (l : List UInt8) (e : Ending) (w' : World) : Prop :=
  ∃ a c, e = .returned (.slice a l.length c) ∧ w'.ownsRow w.heap.size 5 1 (.slice a l.length c) l.length (bcells l) ∧ Below w.heap.size w w'
theorem Laid.mk {w : World} {l : List UInt8} {v : Value} {w' : World} {n : Nat} (hn : n = l.length) (h : w'.ownsRow w.heap.size 5 1 v n (bcells l)) (hb : Below w.heap.size w w') : Laid w l (.returned v) w' := by
  subst hn
  obtain ⟨a, c, rfl⟩ := own_shape h
  exact ⟨a, c, rfl, h, hb⟩

/-- bytes.Clone. -/
theorem clone_any (a : Option Addr) (n c : Nat) (l : List UInt8) (w : World) (hs : Src w a n c (bcells l)) (hn : n ≤ 140737488355328) :
    Calls Try.prog 67 #[.slice a n c] w (Laid w l) := by
  have hq := fun w => Lib.run_eql_slice_nil (P := Try.prog) w 24 5 a n c 0 0 Try.underlying24
  have HL : Hid (n = l.length) := by show n = l.length; simpa [bcells] using hs.len.symm
  cases a with
  | none =>
    go_enter Try.func67, Try.ntmps67
    go_wp2_with fail
    go_ret
    obtain ⟨rfl, rfl⟩ := hs.bare rfl
    have hl : l = [] := List.eq_nil_of_length_eq_zero HL.out.symm
    subst hl
    exact Laid.mk rfl (World.ownsRow_nil _ _ _ _) (Below.refl _ _)
  | some a =>
    go_enter Try.func67, Try.ntmps67
    go_wp2_with (at_builtin; refine append_src rfl (.tmp 5) (.tmp 6) rfl w.heap.size _ 0 [] rfl (World.ownsRow_made w #[] 0 (Nat.le_refl _) (by unfold maxLen; omega) rfl) (some a) n c (bcells l) rfl (hs.alloc _) (bcells_one l) (by omega) (by simp) ?_; intro v' w1 hown hg _)
    go_ret
    exact Laid.mk (by simpa using HL.out) hown (((Below.refl _ _).alloc (Nat.le_refl _) _).grown hg (by simp) (fun k hk => by cases hk; exact Nat.le_refl _))

theorem Src.blen {w : World} {a : Option Addr} {n c : Nat} {l : List UInt8} (hs : Src w a n c (bcells l)) : n = l.length := by simpa [bcells] using hs.len.symm

/-- A reader that is there: its block g, where its bytes lie, its bytes, its place, its error. -/
structure Rd (w : World) (g : Nat) (bv : Option Addr) (l : List UInt8) (p : Nat) (y : Int) : Prop where
  le : p ≤ l.length
  big : l.length ≤ 140737488355328
  ne : ∀ ad, bv = some ad → ad.block ≠ g
  ex : ∃ c, w.heap[g]? = some (.cells #[.slice bv l.length c, .int .i64 p, .int .i64 y] 118 (0, 0)) ∧ l.length ≤ c ∧ Src w bv l.length c (bcells l)

/-- octet.New: the reader's block. -/
theorem new_any (a : Option Addr) (n c : Nat) (l : List UInt8) (w : World) (hs : Src w a n c (bcells l)) (hn : n ≤ 140737488355328) :
    Calls Try.prog 34 #[.slice a n c] w fun e w' => ∃ g bv, e = .returned (.pointer (some ⟨g, 0, none⟩)) ∧ w.heap.size ≤ g ∧ (∀ ad, bv = some ad → w.heap.size ≤ ad.block) ∧ Rd w' g bv l 0 0 ∧ Below w.heap.size w w' := by
  go_enter Try.func34, Try.ntmps34
  go_wp2_with (go_at_call 67; refine (clone_any a n c l w hs hn).mono ?_; rintro e w0 ⟨a0, c0, rfl, hown0, hb0⟩)
  go_ret
  obtain ⟨a1, c1, hv, hs1, hlt⟩ := Src.ofOwn hown0
  cases hv
  refine ⟨_, a0, rfl, hb0.size, fun ad had => (hlt ad had).1, ⟨Nat.zero_le _, by have := hs.blen; omega, ?_, _, heap_alloc_new _ _, ?_, hs1.alloc _⟩, hb0.alloc hb0.size _⟩
  · intro ad had h
    have := (hlt ad had).2
    omega
  · rcases hown0.2 with ⟨h1, h2⟩ | ⟨g, cap, cur, h1, _, _, h4, _⟩
    · omega
    · cases h1; exact h4
end Go.Proofs.Ytaleclmccmeglaa
