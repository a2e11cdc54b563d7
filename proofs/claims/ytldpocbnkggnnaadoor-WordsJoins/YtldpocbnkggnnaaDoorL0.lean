/-
  The pieces of a text between its line feeds, and strings.Split.
-/
import Derived.Test.YtldpocbnkggnnaaDoorCoW
namespace Go.Proofs.YtldpocbnkggnnaaDoor
open Go.RowKit
set_option linter.unusedSimpArgs false
set_option maxRecDepth 20000
/-- What stands between the marks of a text. -/
def pieces (c : UInt8) : List UInt8 → List (List UInt8)
  | [] => [[]]
  | x :: r => if x = c then [] :: pieces c r else match pieces c r with
    | [] => [[x]]
    | p :: ps => (x :: p) :: ps
theorem pieces_cut (c : UInt8) (l : List UInt8) : (Lib.indexByte l c = -1 ∧ pieces c l = [l]) ∨ ∃ i : Nat, Lib.indexByte l c = i ∧ i < l.length ∧ pieces c l = l.take i :: pieces c (l.drop (i + 1)) := by
  induction l with
  | nil => exact .inl ⟨rfl, rfl⟩
  | cons x l ih =>
    by_cases hx : x = c
    · subst hx
      exact .inr ⟨0, by simp [Lib.indexByte], by simp, by simp [pieces]⟩
    · have hx' : (x == c) = false := by simpa using hx
      rcases ih with ⟨h1, h2⟩ | ⟨i, h1, h2, h3⟩
      · exact .inl ⟨by simp [Lib.indexByte, hx', h1], by simp [pieces, hx, h2]⟩
      · refine .inr ⟨i + 1, ?_, by simp; omega, ?_⟩
        · have h4 : ((i : Int) == -1) = false := by simp
          simp only [Lib.indexByte, hx', h1, h4]
          simp
        · simp [pieces, hx, h3]
theorem pieces_count (c : UInt8) : ∀ (m : List UInt8), (pieces c m).length ≤ m.length + 1
  | [] => by simp [pieces]
  | x :: m => by
    have ih := pieces_count c m
    simp only [pieces]
    split
    · simp; omega
    · split
      · simp
      · rename_i h
        rw [h] at ih
        simp at ih ⊢
        omega
theorem str_t (t : ByteArray) : str t.data.toList = t := by cases t; rfl
theorem split_pieces (c : UInt8) : ∀ (k : Nat) (s : ByteArray), s.size ≤ k → Lib.splitB ⟨#[c]⟩ 0 (Lib.countB s ⟨#[c]⟩) s = (pieces c s.data.toList).map str
  | k, s, hk => by
    have hix : Lib.indexB s ⟨#[c]⟩ = Lib.indexByte s.data.toList c := Lib.index_one s.data.toList c
    rcases pieces_cut c s.data.toList with ⟨h1, h2⟩ | ⟨i, h1, h2, h3⟩
    · rw [Lib.splitB_miss _ _ _ _ (hix.trans h1), h2, List.map_cons, List.map_nil, str_t]
    · cases k with
      | zero => rw [len_t] at h2; omega
      | succ k =>
        rw [len_t] at h2
        have e1 : (⟨#[c]⟩ : ByteArray).size = 1 := rfl
        rw [Lib.countB_hit s ⟨#[c]⟩ i (by show 1 ≤ 1; omega) (hix.trans h1), Nat.add_comm, Lib.splitB_hit _ _ _ _ i (hix.trans h1), e1, h3, List.map_cons]
        have ih := split_pieces c k (s.extract (i + 1) s.size) (by rw [ByteArray.size_extract]; omega)
        rw [ih, ext_l, ext_str]
        simp
theorem split_any (t : ByteArray) (w : World) (hM : Ml w) (hl : t.size ≤ 1000000) :
    Calls Tryd.prog 30 #[.string t, .string ⟨#[10]⟩] w fun e w' => e = .returned (.slice (some ⟨w.heap.size, 0, none⟩) (pieces 10 t.data.toList).length (pieces 10 t.data.toList).length) ∧ Row w' w.heap.size 9 (scells (pieces 10 t.data.toList)) ∧ Below w.heap.size w w' := by
  obtain ⟨m, hm⟩ := hM
  have hp := split_pieces 10 t.size t (Nat.le_refl _)
  have hc : Lib.countB t ⟨#[10]⟩ + 1 = (pieces 10 t.data.toList).length := by
    have := congrArg List.length hp
    rw [List.length_map, Lib.splitB_all _ (by decide) 0 _ t rfl] at this
    exact this
  refine (Tryd.strings_Split t ⟨#[10]⟩ m w (by omega) hm (by decide)).mono fun e w' ⟨h1, h2⟩ => ?_
  rw [hc] at h1
  refine ⟨h1, ?_, by rw [h2]; exact (Below.refl _ _).alloc (Nat.le_refl _) _⟩
  rw [h2, hp, List.map_map]
  exact Row.new w _ (scells (pieces 10 t.data.toList))
end Go.Proofs.YtldpocbnkggnnaaDoor
