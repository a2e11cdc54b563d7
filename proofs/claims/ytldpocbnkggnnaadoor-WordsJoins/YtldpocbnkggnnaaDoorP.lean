/-
  Words of a line in plain words: where one stands in a line, byte by byte; the words with which a line begins.
-/
import Derived.Test.YtldpocbnkggnnaaDoorW0
import Derived.Lib.IndexMore
import Derived.Lib.IndexLaws
import Derived.Lib.TrimByte
namespace Go.Proofs.YtldpocbnkggnnaaDoor
open Go.RowKit
set_option linter.unusedSimpArgs false

/-- A byte that may be. -/
def prn (c : UInt8) : Bool := decide (32 ≤ c.toNat) && decide (c.toNat ≤ 126)
/-- Where one stands in a line. -/
inductive At where
  | gap | note
  | word (a : List UInt8)
  | quo (a : List UInt8)
  | esc (a : List UInt8)
  | done (a : List UInt8)
abbrev Ans := List (List UInt8) × Nat
def wd : At → List UInt8 → List (List UInt8) → Ans
  | .gap, [], o => (o, 0)
  | .note, [], o => (o, 0)
  | .word a, [], o => (o ++ [a], 0)
  | .quo _, [], _ => ([], 80)
  | .esc _, [], _ => ([], 80)
  | .done a, [], o => (o ++ [a], 0)
  | .gap, c :: r, o => if prn c then (if c = 32 then wd .gap r o else if c = 35 then wd .note r o else if c = 34 then wd (.quo []) r o else wd (.word [c]) r o) else ([], 81)
  | .note, c :: r, o => if prn c then wd .note r o else ([], 81)
  | .word a, c :: r, o => if prn c then (if c = 32 then wd .gap r (o ++ [a]) else wd (.word (a ++ [c])) r o) else ([], 81)
  | .quo a, c :: r, o => if prn c then (if c = 34 then wd (.done a) r o else if c = 92 then wd (.esc a) r o else wd (.quo (a ++ [c])) r o) else ([], 81)
  | .esc a, c :: r, o => if prn c then (if c = 34 ∨ c = 92 then wd (.quo (a ++ [c])) r o else ([], 80)) else ([], 81)
  | .done a, c :: r, o => if prn c then (if c = 32 then wd .gap r (o ++ [a]) else ([], 80)) else ([], 81)
def wordsL (l : List UInt8) : Ans := if 1024 < l.length then ([], 1) else wd .gap l []

/-- What is wrong where a text ought to begin with one of these bytes. -/
def fol : List UInt8 → List UInt8 → Nat
  | [], _ => 80
  | c :: _, s => if prn c then (if c ∈ s then 0 else 80) else 81
/-- A word and what stands behind it, or an error. -/
abbrev Fst := Except Nat (List UInt8 × List UInt8)
/-- The rest of a quotation. -/
def qd : List UInt8 → List UInt8 → Fst
  | [], _ => .error 80
  | c :: r, a =>
    if c = 34 then (if fol (r ++ [32]) [32] = 0 then .ok (a, r) else .error (fol (r ++ [32]) [32]))
    else if c = 92 then
      match r with
      | [] => .error 80
      | d :: r' => if fol (d :: r') [34, 92] = 0 then qd r' (a ++ [d]) else .error (fol (d :: r') [34, 92])
    else if prn c then qd r (a ++ [c]) else .error 81
def fst (l : List UInt8) : Fst :=
  if l.head? = some 34 then qd l.tail [] else
  if (Lib.cut l [32]).1.all prn then .ok ((Lib.cut l [32]).1, (Lib.cut l [32]).2.1) else .error 81
def goOn (o : List (List UInt8)) : Fst → Ans
  | .ok (x, b) => wd .gap b (o ++ [x])
  | .error e => ([], e)

theorem qd_34 (r a : List UInt8) : qd (34 :: r) a = if fol (r ++ [32]) [32] = 0 then .ok (a, r) else .error (fol (r ++ [32]) [32]) := by cases r <;> simp [qd]
theorem qd_92 (d : UInt8) (r a : List UInt8) : qd (92 :: d :: r) a = if fol (d :: r) [34, 92] = 0 then qd r (a ++ [d]) else .error (fol (d :: r) [34, 92]) := by simp [qd]
theorem qd_92e (a : List UInt8) : qd [92] a = .error 80 := by simp [qd]
theorem qd_c (c : UInt8) (r a : List UInt8) (h1 : c ≠ 34) (h2 : c ≠ 92) : qd (c :: r) a = if prn c then qd r (a ++ [c]) else .error 81 := by cases r <;> simp [qd, h1, h2]
theorem prn_34 : prn 34 = true := by decide
theorem prn_92 : prn 92 = true := by decide
theorem prn_32 : prn 32 = true := by decide
theorem done_wd (a : List UInt8) (o : List (List UInt8)) (r : List UInt8) : wd (.done a) r o = if fol (r ++ [32]) [32] = 0 then wd .gap r (o ++ [a]) else ([], fol (r ++ [32]) [32]) := by
  cases r with
  | nil => simp [wd, fol, prn_32]
  | cons d r =>
    simp only [wd, fol, List.cons_append, List.mem_cons, List.mem_nil_iff, or_false]
    by_cases hp : prn d = true
    · by_cases hd : d = 32
      · subst hd; simp [prn_32]
      · simp [hp, hd]
    · simp [hp]
theorem qd_wd : ∀ (n : Nat) (l : List UInt8) (a : List UInt8) (o : List (List UInt8)), l.length ≤ n → wd (.quo a) l o = goOn o (qd l a)
  | _, [], a, o, _ => rfl
  | 0, c :: r, _, _, h => by simp at h
  | n + 1, c :: r, a, o, h => by
    have ih := qd_wd n
    by_cases h1 : c = 34
    · subst h1
      rw [qd_34]
      simp only [wd, prn_34, if_true, done_wd]
      by_cases hf : fol (r ++ [32]) [32] = 0
      · simp [hf, goOn]
      · simp [hf, goOn]
    · by_cases h2 : c = 92
      · subst h2
        simp only [wd, prn_92, if_true, if_neg h1]
        cases r with
        | nil => rw [qd_92e]; rfl
        | cons d r =>
          rw [qd_92]
          simp only [wd, fol, List.mem_cons, List.mem_nil_iff, or_false]
          by_cases hp : prn d = true
          · by_cases hd : d = 34 ∨ d = 92
            · simp only [hp, hd, if_true]
              exact ih r _ o (by simp at h; omega)
            · simp [hp, hd, goOn]
          · simp [hp, goOn]
      · rw [qd_c c r a h1 h2]
        simp only [wd, if_neg h1, if_neg h2]
        by_cases hp : prn c = true
        · simp only [hp, if_true]
          exact ih r _ o (by simp at h; omega)
        · simp [hp, goOn]
/-- A bare word. -/
theorem word_wd : ∀ (x b a : List UInt8) (o : List (List UInt8)), (∀ c ∈ x, c ≠ 32) → x.all prn = true → wd (.word a) (x ++ 32 :: b) o = wd .gap b (o ++ [a ++ x])
  | [], b, a, o, _, _ => by simp [wd, prn_32]
  | c :: x, b, a, o, h, hp => by
    simp only [List.all_cons, Bool.and_eq_true] at hp
    have hc := h c (by simp)
    simp only [List.cons_append, wd, hp.1, if_true, if_neg hc]
    rw [word_wd x b (a ++ [c]) o (fun d hd => h d (by simp [hd])) hp.2]
    simp
theorem word_end : ∀ (x a : List UInt8) (o : List (List UInt8)), (∀ c ∈ x, c ≠ 32) → x.all prn = true → wd (.word a) x o = (o ++ [a ++ x], 0)
  | [], a, o, _, _ => by simp [wd]
  | c :: x, a, o, h, hp => by
    simp only [List.all_cons, Bool.and_eq_true] at hp
    have hc := h c (by simp)
    simp only [wd, hp.1, if_true, if_neg hc]
    rw [word_end x (a ++ [c]) o (fun d hd => h d (by simp [hd])) hp.2]
    simp
theorem word_bad : ∀ (x b a : List UInt8) (o : List (List UInt8)), (∀ c ∈ x, c ≠ 32) → x.all prn = false → wd (.word a) (x ++ b) o = ([], 81)
  | [], b, a, o, _, h => by simp at h
  | c :: x, b, a, o, h, hp => by
    have hc := h c (by simp)
    by_cases h1 : prn c = true
    · simp only [List.all_cons, h1, Bool.true_and] at hp
      simp only [List.cons_append, wd, h1, if_true, if_neg hc]
      exact word_bad x b (a ++ [c]) o (fun d hd => h d (by simp [hd])) hp
    · simp [wd, h1]
theorem cut_32 (l : List UInt8) : (Lib.cut l [32] = (l, [], false) ∧ ∀ c ∈ l, c ≠ 32) ∨ ∃ x b, Lib.cut l [32] = (x, b, true) ∧ l = x ++ 32 :: b ∧ ∀ c ∈ x, c ≠ 32 := by
  unfold Lib.cut
  rw [Lib.index_one]
  have key : ∀ l : List UInt8, (Lib.indexByte l 32 = -1 ∧ ∀ c ∈ l, c ≠ 32) ∨ ∃ i : Nat, Lib.indexByte l 32 = i ∧ l = l.take i ++ 32 :: l.drop (i + 1) ∧ ∀ c ∈ l.take i, c ≠ 32 := by
    intro l
    induction l with
    | nil => exact .inl ⟨rfl, by simp⟩
    | cons y l ih =>
      by_cases hx : y = 32
      · subst hx
        exact .inr ⟨0, by simp [Lib.indexByte], by simp, by simp⟩
      · have hx' : (y == 32) = false := by simpa using hx
        rcases ih with ⟨h1, h2⟩ | ⟨i, h1, h2, h3⟩
        · exact .inl ⟨by simp [Lib.indexByte, hx', h1], by simpa [hx] using h2⟩
        · refine .inr ⟨i + 1, ?_, ?_, ?_⟩
          · have h4 : ((i : Int) == -1) = false := by simp
            simp only [Lib.indexByte, hx', h1, h4]
            simp
          · simp only [List.take_succ_cons, List.drop_succ_cons, List.cons_append]
            rw [← h2]
          · simpa [hx] using h3
  rcases key l with ⟨h1, h2⟩ | ⟨i, h1, h2, h3⟩
  · rw [h1]; exact .inl ⟨by simp, h2⟩
  · rw [h1]
    exact .inr ⟨l.take i, l.drop (i + 1), by rw [if_pos (by omega)]; simp, h2, h3⟩
/-- The word with which a line begins, and the rest. -/
theorem fst_wd (c : UInt8) (r : List UInt8) (o : List (List UInt8)) (h1 : c ≠ 32) (h2 : c ≠ 35) : wd .gap (c :: r) o = goOn o (fst (c :: r)) := by
  by_cases h3 : c = 34
  · subst h3
    simp only [wd, fst, prn_34, if_true, List.head?_cons, List.tail_cons]
    exact qd_wd _ r [] o (Nat.le_refl _)
  · have e : fst (c :: r) = if (Lib.cut (c :: r) [32]).1.all prn then .ok ((Lib.cut (c :: r) [32]).1, (Lib.cut (c :: r) [32]).2.1) else .error 81 := by
      simp [fst, h3]
    have e2 : ∀ o, wd .gap (c :: r) o = wd (.word []) (c :: r) o := fun o => by simp [wd, h1, h2, h3]
    rw [e, e2]
    rcases cut_32 (c :: r) with ⟨hc, hn⟩ | ⟨x, b, hc, hl, hn⟩
    · rw [hc]
      by_cases hp : (c :: r).all prn = true
      · rw [word_end (c :: r) [] o hn hp]
        simp only [hp, if_true, goOn]
        simp [wd]
      · have := word_bad (c :: r) [] [] o hn (by simpa using hp)
        rw [List.append_nil] at this
        rw [this]
        simp only [hp]; rfl
    · rw [hc]
      by_cases hp : x.all prn = true
      · rw [hl, word_wd x b [] o hn hp]
        simp only [hp, if_true, goOn]
        simp
      · rw [hl, word_bad x (32 :: b) [] o hn (by simpa using hp)]
        simp only [hp]; rfl
theorem qd_len : ∀ (n : Nat) (l a x b : List UInt8), l.length ≤ n → qd l a = .ok (x, b) → b.length < l.length
  | _, [], a, x, b, _, h => by simp [qd] at h
  | 0, c :: r, _, _, _, h, _ => by simp at h
  | n + 1, c :: r, a, x, b, h, hq => by
    have ih := qd_len n
    by_cases h1 : c = 34
    · subst h1
      rw [qd_34] at hq
      split at hq
      · simp at hq; simp [hq.2]
      · cases hq
    · by_cases h2 : c = 92
      · subst h2
        cases r with
        | nil => rw [qd_92e] at hq; cases hq
        | cons d r =>
          rw [qd_92] at hq
          split at hq
          · have := ih r _ x b (by simp at h; omega) hq
            simp; omega
          · cases hq
      · rw [qd_c c r a h1 h2] at hq
        split at hq
        · have := ih r _ x b (by simp at h; omega) hq
          simp; omega
        · cases hq
theorem fst_len (l x b : List UInt8) (h0 : l ≠ []) (h : fst l = .ok (x, b)) : b.length < l.length := by
  cases l with
  | nil => exact absurd rfl h0
  | cons c r =>
    unfold fst at h
    split at h
    · have := qd_len _ r [] x b (Nat.le_refl _) h
      simp; omega
    · split at h
      · rcases cut_32 (c :: r) with ⟨hc, hn⟩ | ⟨y, d, hc, hl, hn⟩
        · rw [hc] at h; simp at h; rw [h.2]; simp
        · rw [hc] at h
          simp at h
          rw [hl, ← h.2]
          simp; omega
      · cases h
theorem trim_wd (o : List (List UInt8)) : ∀ l, wd .gap (Lib.trimLeftB l 32) o = wd .gap l o
  | [] => rfl
  | c :: r => by
    by_cases h : c = 32
    · subst h
      have e : Lib.trimLeftB (32 :: r) 32 = Lib.trimLeftB r 32 := by simp [Lib.trimLeftB]
      rw [e, trim_wd o r]
      simp [wd, prn_32]
    · have e : Lib.trimLeftB (c :: r) 32 = c :: r := by
        have : (c == 32) = false := by simpa using h
        simp [Lib.trimLeftB, List.dropWhile, this]
      rw [e]
theorem trim_head (l : List UInt8) : (Lib.trimLeftB l 32).head? ≠ some 32 := by
  induction l with
  | nil => simp [Lib.trimLeftB]
  | cons c r ih =>
    by_cases h : c = 32
    · subst h
      have e : Lib.trimLeftB (32 :: r) 32 = Lib.trimLeftB r 32 := by simp [Lib.trimLeftB]
      rw [e]; exact ih
    · have e : Lib.trimLeftB (c :: r) 32 = c :: r := by
        have : (c == 32) = false := by simpa using h
        simp [Lib.trimLeftB, List.dropWhile, this]
      rw [e]; simpa using h
theorem trim_len (l : List UInt8) : (Lib.trimLeftB l 32).length ≤ l.length := by
  unfold Lib.trimLeftB
  induction l with
  | nil => simp
  | cons c r ih =>
    simp only [List.dropWhile]
    split
    · simp; omega
    · simp
theorem note_wd (o : List (List UInt8)) : ∀ l, wd .note l o = if l.all prn then (o, 0) else ([], 81)
  | [] => rfl
  | c :: r => by
    simp only [wd, note_wd o r, List.all_cons]
    by_cases h : prn c = true <;> simp [h]
theorem rest_wd (l : List UInt8) (o : List (List UInt8)) (h : l = [] ∨ l.head? = some 35) : wd .gap l o = if l.all prn then (o, 0) else ([], 81) := by
  rcases h with rfl | h
  · rfl
  · cases l with
    | nil => simp at h
    | cons c r =>
      simp at h
      subst h
      have e : wd .gap (35 :: r) o = wd .note r o := by simp [wd, show prn 35 = true by decide]
      rw [e, note_wd]
      simp [show prn 35 = true by decide]
/-- No more words than bytes. -/
theorem wd_out : ∀ (l : List UInt8) (s : At) (o : List (List UInt8)), (wd s l o).1.length ≤ o.length + l.length + 1
  | [], s, o => by cases s <;> simp [wd]
  | c :: r, s, o => by
    have ih := wd_out r
    cases s <;> simp only [wd] <;> repeat' split
    all_goals first
      | (simp; done)
      | (refine Nat.le_trans (ih _ _) ?_; simp; done)
      | (refine Nat.le_trans (ih _ _) ?_; simp; omega)
end Go.Proofs.YtldpocbnkggnnaaDoor
