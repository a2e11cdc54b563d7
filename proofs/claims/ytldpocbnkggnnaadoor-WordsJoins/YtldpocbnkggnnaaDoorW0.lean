/-
  Bytes, texts and rows of texts in memory.
-/
import Derived.Test.YtldpocbnkggnnaaDoorRows
import Derived.WalkKit
import Derived.ProofKit
import Derived.WalkSpells
import Derived.WalkLawsBesides
import Derived.Deep.MidRow
import Derived.Deep.RegionHeld3
import Derived.Laws.CopyOwn
import Derived.Laws.AppendOwnNone
import Derived.Laws.IdiomStrings
import Derived.ChangeKeysEq
import Derived.WalkSmall
namespace Go.Proofs.YtldpocbnkggnnaaDoor
open Go.RowKit
set_option linter.unusedSimpArgs false

abbrev str (l : List UInt8) : ByteArray := ⟨l.toArray⟩
/-- The cells of bytes. -/
def bcells (l : List UInt8) : List Value := l.map fun b => Value.int .u8 b.toNat
theorem bcells_length (l : List UInt8) : (bcells l).length = l.length := by simp [bcells]
theorem bcells_append (l m : List UInt8) : bcells (l ++ m) = bcells l ++ bcells m := by simp [bcells]
theorem bcells_one (l : List UInt8) : ∀ u ∈ bcells l, u.oneCell' = true := by
  intro u hu
  obtain ⟨_, _, rfl⟩ := List.mem_map.1 hu
  rfl
theorem bcells_get {l : List UInt8} {j : Nat} {b : UInt8} (h : l[j]? = some b) : (bcells l)[j]? = some (.int .u8 b.toNat) := by simp [bcells, h]
/-- The cells of texts. -/
def scells (l : List (List UInt8)) : List Value := l.map fun s => Value.string (str s)
theorem scells_append (l m : List (List UInt8)) : scells (l ++ m) = scells l ++ scells m := by simp [scells]
theorem scells_length (l : List (List UInt8)) : (scells l).length = l.length := by simp [scells]
theorem scells_at {ws : List (List UInt8)} {j : Nat} {x : List UInt8} (h : ws[j]? = some x) : (scells ws)[j]? = some (.string (str x)) := by simp [scells, h]
theorem scells_one (l : List (List UInt8)) : ∀ u ∈ scells l, u.oneCell' = true := by
  intro u hu
  obtain ⟨_, _, rfl⟩ := List.mem_map.1 hu
  rfl

theorem name_world {R P : World → Prop} (w : World) (h : P w) (k : ∀ W, P W → R W) : R w := k w h
theorem rangeAt_new (w : World) (cs : List Value) (t : TypeId) : (w.alloc (.cells cs.toArray t)).rangeAt w.heap.size 0 cs := by
  intro j v hv
  have h : (w.alloc (.cells cs.toArray t)).heap[w.heap.size]? = some (.cells cs.toArray t (0, 0)) := by
    show (w.heap.push _)[w.heap.size]? = _
    simp
  rw [Nat.zero_add, cell_of_row _ _ j cs.toArray t (0, 0) h]
  simpa using hv
/-- A block of the call's own that holds these cells. -/
def Row (w : World) (g : Nat) (t : TypeId) (cs : List Value) : Prop := w.heap[g]? = some (.cells cs.toArray t (0, 0))
theorem Row.lt {w : World} {g : Nat} {t : TypeId} {cs : List Value} (h : Row w g t cs) : g < w.heap.size := (Array.getElem?_eq_some_iff.1 h).1
theorem Row.new (w : World) (t : TypeId) (cs : List Value) : Row (w.alloc (.cells cs.toArray t)) w.heap.size t cs := by
  show (w.heap.push _)[w.heap.size]? = _
  simp
theorem Row.alloc {w : World} {g : Nat} {t : TypeId} {cs : List Value} (h : Row w g t cs) (o : Obj) : Row (w.alloc o) g t cs := by
  show (w.heap.push _)[g]? = _
  rw [Array.getElem?_push_lt h.lt]
  exact (Array.getElem?_eq_getElem h.lt).symm.trans h
theorem Row.drew {w : World} {g : Nat} {t : TypeId} {cs : List Value} (h : Row w g t cs) : Row w.drew g t cs := h
theorem Row.below {w w' : World} {B g : Nat} {t : TypeId} {cs : List Value} (h : Row w g t cs) (hb : Below B w w') (hlt : g < B) : Row w' g t cs := (hb.block g hlt).trans h
theorem Row.grown {w w' : World} {g : Nat} {t : TypeId} {cs : List Value} {row : Option Nat} (h : Row w g t cs) (hg : w.grownBy w' row) (hne : some g ≠ row) : Row w' g t cs := (hg.block g h.lt hne).trans h
theorem Row.cell {w : World} {g : Nat} {t : TypeId} {cs : List Value} (h : Row w g t cs) (j : Nat) : w.cell? ⟨g, j, none⟩ = cs[j]? := by
  rw [cell_of_row w g j cs.toArray t (0, 0) h]; simp
theorem Row.frozen {w : World} {g : Nat} {t : TypeId} {cs : List Value} (h : Row w g t cs) (j : Nat) : w.frozen? ⟨g, j, none⟩ = false := by
  unfold Row at h
  simp [World.frozen?, h]
theorem Row.range {w : World} {g : Nat} {t : TypeId} {cs : List Value} (h : Row w g t cs) : w.rangeAt g 0 cs := fun j v hv => by rw [Nat.zero_add, h.cell]; exact hv
theorem Row.there {w : World} {g : Nat} {t : TypeId} {cs : List Value} {n : Nat} (h : Row w g t cs) (hn : n ≤ cs.length) : w.there g 0 n := fun j hj => by
  rw [Nat.zero_add, h.cell, h.frozen]
  exact ⟨by simp; omega, rfl⟩
theorem Row.set {w : World} {g : Nat} {t : TypeId} {cs : List Value} (h : Row w g t cs) (j : Nat) (v : Value) : Row (w.setCell ⟨g, j, none⟩ v) g t (cs.set j v) := by
  unfold Row at *
  simp [World.setCell, Array.getElem?_modify, h]
theorem bt {w w1 w2 : World} (h : Below w.heap.size w w1) (k : Below w1.heap.size w1 w2) : Below w.heap.size w w2 := h.trans (k.mono h.size)
theorem len_t (t : ByteArray) : t.data.toList.length = t.size := by cases t; rfl
/-- What a slice value leads to: these cells, one a place. -/
structure Src (w : World) (a : Option Addr) (n c : Nat) (xs : List Value) : Prop where
  len : xs.length = n
  bare : a = none → n = 0 ∧ c = 0
  cell : ∀ ad, a = some ad → ∀ j u, xs[j]? = some u → w.cell? (ad.add j) = some u
theorem Src.nil (w : World) : Src w none 0 0 [] := ⟨rfl, fun _ => ⟨rfl, rfl⟩, fun _ h => by cases h⟩
theorem Src.grown {w w' : World} {row : Option Nat} {a : Option Addr} {n c : Nat} {xs : List Value} (h : Src w a n c xs) (hg : w.grownBy w' row) (hne : ∀ ad, a = some ad → xs ≠ [] → some ad.block ≠ row) : Src w' a n c xs :=
  ⟨h.len, h.bare, fun ad had j u hu => by
    have hx : xs ≠ [] := by rintro rfl; simp at hu
    have hb : (ad.add j).block = ad.block := by unfold Addr.add; split <;> rfl
    exact hg.cell (h.cell ad had j u hu) (by rw [hb]; exact hne ad had hx)⟩
theorem Src.alloc {w : World} {a : Option Addr} {n c : Nat} {xs : List Value} (h : Src w a n c xs) (o : Obj) : Src (w.alloc o) a n c xs := h.grown (World.grownBy_alloc w o none) (fun _ _ _ => by simp)
/-- Where the cells lie: below B. -/
def Src.under (a : Option Addr) (xs : List Value) (B : Nat) : Prop := ∀ ad, a = some ad → xs ≠ [] → ad.block < B
theorem Src.lt {w : World} {a : Option Addr} {n c : Nat} {xs : List Value} (h : Src w a n c xs) : Src.under a xs w.heap.size := by
  intro ad had hx
  cases xs with
  | nil => exact absurd rfl hx
  | cons u r =>
    have := block_lt_of_cell (h.cell ad had 0 u rfl)
    have hb : (ad.add 0).block = ad.block := by unfold Addr.add; split <;> rfl
    rwa [hb] at this
theorem Src.below {w w' : World} {B : Nat} {a : Option Addr} {n c : Nat} {xs : List Value} (h : Src w a n c xs) (hb : Below B w w') (hu : Src.under a xs B) : Src w' a n c xs :=
  ⟨h.len, h.bare, fun ad had j u hj => by
    have hx : xs ≠ [] := by rintro rfl; simp at hj
    have hbk : (ad.add j).block = ad.block := by unfold Addr.add; split <;> rfl
    exact (hb.cell (by rw [hbk]; exact hu ad had hx)).trans (h.cell ad had j u hj)⟩
theorem Src.stay {w w' : World} {a : Option Addr} {n c : Nat} {xs : List Value} (h : Src w a n c xs) (hb : Below w.heap.size w w') : Src w' a n c xs := h.below hb h.lt
/-- An owned row as a source. -/
theorem Src.ofOwn {w : World} {B t : Nat} {v : Value} {n : Nat} {xs : List Value} (h : w.ownsRow B t 1 v n xs) : ∃ a c, v = .slice a n c ∧ Src w a n c xs ∧ (∀ ad, a = some ad → B ≤ ad.block ∧ ad.block < w.heap.size) := by
  have hl := h.1
  rcases h.2 with ⟨rfl, rfl⟩ | ⟨g, cap, cur, rfl, hb, hh, hr⟩
  · have : xs = [] := List.eq_nil_of_length_eq_zero (by simpa using hl)
    subst this
    exact ⟨none, 0, rfl, Src.nil w, fun _ h => by cases h⟩
  · refine ⟨some ⟨g, 0, none⟩, cap, rfl, ⟨by simpa using hl, (fun h => by cases h), fun ad had j u hu => ?_⟩, fun ad had => ?_⟩
    · cases had
      exact h.cells rfl j u hu
    · cases had
      exact ⟨hb, lt_of_block hh⟩
theorem Src.slen {w : World} {a : Option Addr} {n c : Nat} {l : List (List UInt8)} (hs : Src w a n c (scells l)) : n = l.length := by simpa [scells] using hs.len.symm
theorem Src.blen {w : World} {a : Option Addr} {n c : Nat} {l : List UInt8} (hs : Src w a n c (bcells l)) : n = l.length := by simpa [bcells] using hs.len.symm
theorem own_stay {W W' : World} {B t k : Nat} {xs : List Value} {v : Value} (ho : W.ownsRow B t 1 v k xs) (hb : Below W.heap.size W W') : W'.ownsRow B t 1 v k xs :=
  ho.kept (row := none) ⟨hb.os, hb.tape, hb.output, hb.size, fun i hi _ => hb.block i hi⟩ (by cases v.ownBlock <;> simp)
theorem own_ge {w : World} {base t : Nat} {v : Value} {n : Nat} {xs : List Value} (h : w.ownsRow base t 1 v n xs) : ∀ k, v.ownBlock = some k → base ≤ k := fun k hk => (h.lt k hk).1

theorem info_b : (Tryd.prog.info? 5).map (fun i => (i.zero, i.size, i.bytes)) = some (some (.int .u8 0), 1, 1) := by kernel_rfl
theorem info_s : (Tryd.prog.info? 9).map (fun i => (i.zero, i.size, i.bytes)) = some (some (.string ⟨#[]⟩), 1, 16) := by kernel_rfl
/-- Append to a row of the call's own, whatever the source. -/
theorem append_b {w : World} {ops : Array Oper} {rest : List Oper} {o : Oper} {a : Act} {Q : Exit → Act → World → Prop} (hgd : o.guard = none) (s x : Operand)
    (ho : o.op = .call { callee := .builtin .append, args := #[s, x], argTypes := #[62, 62] })
    (base : Nat) (v : Value) (n : Nat) (xs : List Value) (hs : a.eval s = v) (hown : w.ownsRow base 5 1 v n xs)
    (ad : Option Addr) (m c : Nat) (news : List Value) (hx : a.eval x = .slice ad m c) (hsrc : Src w ad m c news) (h1 : ∀ u ∈ news, u.oneCell' = true)
    (hbytes : n + m ≤ 140737488355328) (hbase : base ≤ w.heap.size)
    (h : ∀ v' w', w'.ownsRow base 5 1 v' (n + m) (xs ++ news) → w.grownBy w' v.ownBlock → wpList Tryd.prog ops Q rest (a.put o.dst v') w') : wpList Tryd.prog ops Q (o :: rest) a w := by
  obtain ⟨i0, hi, hz0, hz1, hz2⟩ := info_parts info_b
  cases ad with
  | some ad => exact wpList_append_own w hgd s x 62 ho base 5 i0 (.int .u8 0) 1 1 Tryd.underlying62 hi hz0 hz1 hz2 rfl (by decide) v n xs hs hown ad m c news hx (by simp [hsrc.len]) (hsrc.cell ad rfl) h1 (by unfold maxLen; omega) (by omega) hbase (fun v' w' a1 a2 _ => h v' w' a1 a2)
  | none =>
    obtain ⟨rfl, rfl⟩ := hsrc.bare rfl
    have hn : news = [] := List.eq_nil_of_length_eq_zero hsrc.len
    subst hn
    refine wpList_append_own_none hgd s x 62 ho base 5 i0 1 Tryd.underlying62 hi v n xs hs hown hx ?_
    exact h v w (by simpa using hown) (World.grownBy.refl _ _)
/-- Append of a text behind a row of texts of the call's own. -/
theorem append_s {w : World} {ops : Array Oper} {rest : List Oper} {o : Oper} {a : Act} {Q : Exit → Act → World → Prop} (hgd : o.guard = none) (s x : Operand)
    (ho : o.op = .call { callee := .builtin .append, args := #[s, x], argTypes := #[23, 23] })
    (base : Nat) (v : Value) (n : Nat) (xs : List Value) (hs : a.eval s = v) (hown : w.ownsRow base 9 1 v n xs)
    (g : Nat) (u : ByteArray) (hx : a.eval x = .slice (some ⟨g, 0, none⟩) 1 1) (hr : w.cell? ⟨g, 0, none⟩ = some (.string u)) (hbytes : n ≤ 1000000) (hbase : base ≤ w.heap.size)
    (h : ∀ v' w', w'.ownsRow base 9 1 v' (n + 1) (xs ++ [.string u]) → w.grownBy w' v.ownBlock → wpList Tryd.prog ops Q rest (a.put o.dst v') w') : wpList Tryd.prog ops Q (o :: rest) a w := by
  obtain ⟨i0, hi, hz0, hz1, hz2⟩ := info_parts info_s
  exact wpList_append_own w hgd s x 23 ho base 9 i0 (.string ⟨#[]⟩) 1 16 Tryd.underlying23 hi hz0 hz1 hz2 rfl (by decide) v n xs hs hown ⟨g, 0, none⟩ 1 1 [.string u] hx rfl (fun j y hj => by
    rcases j with _ | j
    · simp at hj; subst hj; exact hr
    · simp at hj) (by simp [Value.oneCell']) (by unfold maxLen; omega) (by omega) hbase (fun v' w' a1 a2 _ => h v' w' a1 a2)
/-- What a function that only makes memory answers. -/
def Gives (w : World) (v : Value) (e : Ending) (w' : World) : Prop := e = .returned v ∧ Below w.heap.size w w'
theorem ext_str (t : ByteArray) (p j : Nat) : t.extract p j = str ((t.data.toList.drop p).take (j - p)) := by
  apply ByteArray.ext
  rw [ByteArray.data_extract]
  apply Array.toList_inj.1
  rw [Array.toList_extract, List.extract_eq_take_drop]
theorem ext_end (t : ByteArray) (p : Nat) : t.extract p t.size = str (t.data.toList.drop p) := by
  rw [ext_str, List.take_of_length_le]
  simp [len_t]
theorem at_byte (t : ByteArray) (j : Nat) (h : j < t.size) : t.data.toList[j]? = some t[j] := by
  rw [List.getElem?_eq_getElem (by rw [len_t]; exact h)]; rfl
theorem drop_byte (t : ByteArray) (j : Nat) (h : j < t.size) : t.data.toList.drop j = t[j] :: t.data.toList.drop (j + 1) := by
  rw [List.drop_eq_getElem_cons (by rw [len_t]; exact h)]; rfl
end Go.Proofs.YtldpocbnkggnnaaDoor
