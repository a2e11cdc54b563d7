/-
  addr.pairWords, and the words of a text.
-/
import Derived.Test.YtimpopolkofdgaaGreatDoorPrefix
namespace Go.Proofs.YtimpopolkofdgaaGreatDoor
open Go.RowKit Go.Shelf
set_option linter.unusedSimpArgs false
set_option maxRecDepth 20000
/-- Do the words stand as in the text of a pair? -/
def pwB (ws : List (List UInt8)) : Bool := decide (ws.length = 1) || (decide (ws.length = 3) && (decide (ws[1]? = some [102, 114, 111, 109]) && !decide (ws[2]? = some [])))
theorem pairWords_any (ws : List (List UInt8)) (g n c : Nat) (w : World) (hn : ws.length = n) (hc : ∀ j x, ws[j]? = some x → w.cell? ⟨g, j, none⟩ = some (.string (str x))) :
    Calls Tryz.prog 70 #[.slice (some ⟨g, 0, none⟩) n c] w fun e w' => e = .returned (.bool (pwB ws)) ∧ w' = w := by
  by_cases h1 : n = 1
  · have h1' : ((n : Int) == 1) = true := by simp; omega
    have HF : Hid (pwB ws = true) := by show _ = _; simp [pwB, hn, h1]
    clear hc hn h1
    go_enter Tryz.func70, Tryz.ntmps70
    go_wp2
    go_ret
    exact ⟨by rw [HF.out]; rfl, rfl⟩
  · have h1' : ((n : Int) == 1) = false := by simp; omega
    by_cases h3 : n = 3
    · have h3' : ((n : Int) == 3) = true := by simp; omega
      have i1 : (1 : Int) < (n : Int) := by omega
      have i2 : (2 : Int) < (n : Int) := by omega
      obtain ⟨x1, e1⟩ : ∃ x, ws[1]? = some x := ⟨_, List.getElem?_eq_getElem (by omega)⟩
      obtain ⟨x2, e2⟩ : ∃ x, ws[2]? = some x := ⟨_, List.getElem?_eq_getElem (by omega)⟩
      have c1 := hc 1 x1 e1
      have c2 := hc 2 x2 e2
      have HF : Hid (pwB ws = (decide (x1 = [102, 114, 111, 109]) && !decide (x2 = []))) := by
        show _ = _
        unfold pwB
        rw [e1, e2]
        simp [hn, h3]
      clear hc hn h1 h3 e1 e2
      go_enter Tryz.func70, Tryz.ntmps70
      go_wp2
      · rename_i hx
        go_ret
        refine ⟨?_, rfl⟩
        rw [HF.out, hx]
        cases x2 <;> rfl
      · rename_i hx
        go_ret
        refine ⟨?_, rfl⟩
        rw [HF.out, decide_eq_false hx]
        rfl
    · have h3' : ((n : Int) == 3) = false := by simp; omega
      have HF : Hid (pwB ws = false) := by show _ = _; simp [pwB, hn, h1, h3]
      clear hc hn h1 h3
      go_enter Tryz.func70, Tryz.ntmps70
      go_wp2
      go_ret
      exact ⟨by rw [HF.out]; rfl, rfl⟩
/-- The words of a text between blanks, four at most. -/
def words (s : List UInt8) : List (List UInt8) := (Lib.splitB ⟨#[32]⟩ 0 (min 4 (s.length + 1) - 1) (str s)).map (·.data.toList)
theorem splitB_len (sep : ByteArray) (k : Nat) : ∀ (s : ByteArray), (Lib.splitB sep 0 k s).length ≤ k + 1 ∧ 1 ≤ (Lib.splitB sep 0 k s).length ∧ ∀ x ∈ Lib.splitB sep 0 k s, x.size ≤ s.size := by
  induction k with
  | zero => intro s; exact ⟨by simp [Lib.splitB], by simp [Lib.splitB], fun x hx => by simp [Lib.splitB] at hx; rw [hx]; exact Nat.le_refl _⟩
  | succ k ih =>
    intro s
    unfold Lib.splitB
    split
    · exact ⟨by simp, by simp, fun x hx => by simp at hx; rw [hx]; exact Nat.le_refl _⟩
    · obtain ⟨h1, h2, h3⟩ := ih (s.extract ((Lib.indexB s sep).toNat + sep.size) s.size)
      refine ⟨by simp; omega, by simp, fun x hx => ?_⟩
      rcases List.mem_cons.1 hx with rfl | hx
      · rw [ByteArray.size_extract]; omega
      · have := h3 x hx
        rw [ByteArray.size_extract] at this
        omega
theorem words_facts (s : List UInt8) : 1 ≤ (words s).length ∧ (words s).length ≤ min 4 (s.length + 1) ∧ ∀ x ∈ words s, x.length ≤ s.length := by
  obtain ⟨h1, h2, h3⟩ := splitB_len ⟨#[32]⟩ (min 4 (s.length + 1) - 1) (str s)
  unfold words
  refine ⟨by simpa using h2, by simp; omega, fun x hx => ?_⟩
  obtain ⟨y, hy, rfl⟩ := List.mem_map.1 hx
  have := h3 y hy
  exact this
theorem split_any (s : List UInt8) (w : World) (hG : Glob w) (hl : s.length ≤ 1000000) :
    Calls Tryz.prog 69 #[.string (str s), .string ⟨#[32]⟩, .int .i64 4] w fun e w' => ∃ g c, e = .returned (.slice (some ⟨g, 0, none⟩) (words s).length c) ∧ w.heap.size ≤ g ∧ (∀ j x, (words s)[j]? = some x → w'.cell? ⟨g, j, none⟩ = some (.string (str x))) ∧ Below w.heap.size w w' := by
  obtain ⟨m, hm⟩ := hG.m
  refine (Tryz.strings_SplitN (str s) ⟨#[32]⟩ 4 m w (by show s.length < _; omega) hm (by decide) (by decide) (by decide)).mono fun e w' ⟨h1, h2⟩ => ?_
  subst h2
  have hz : (str s).size = s.length := rfl
  rw [hz] at h1
  refine ⟨w.heap.size, min 4 (s.length + 1), ?_, Nat.le_refl _, fun j x hx => ?_, ba w _⟩
  · rw [h1, words, List.length_map]
  · unfold words at hx
    rw [List.getElem?_map] at hx
    cases hy : (Lib.splitB ⟨#[32]⟩ 0 (min 4 (s.length + 1) - 1) (str s))[j]? with
    | none => rw [hy] at hx; cases hx
    | some y =>
      rw [hy] at hx
      cases hx
      have hr : (w.alloc (.cells (Lib.cellsOf (Lib.splitB ⟨#[32]⟩ 0 (min 4 (s.length + 1) - 1) (str s)) (min 4 (s.length + 1))) 9)).heap[w.heap.size]? = some (.cells (Lib.cellsOf (Lib.splitB ⟨#[32]⟩ 0 (min 4 (s.length + 1) - 1) (str s)) (min 4 (s.length + 1))) 9 (0, 0)) := by
        show (w.heap.push _)[w.heap.size]? = _
        simp
      rw [hz, cell_of_row _ _ j _ _ _ hr]
      unfold Lib.cellsOf
      have hj := (List.getElem?_eq_some_iff.1 hy).1
      have e1 : str (y.data.toList) = y := by cases y; rfl
      simp only [List.getElem?_toArray]
      rw [List.getElem?_append_left (by simpa using hj), List.getElem?_map, hy, e1]
      rfl
end Go.Proofs.YtimpopolkofdgaaGreatDoor
