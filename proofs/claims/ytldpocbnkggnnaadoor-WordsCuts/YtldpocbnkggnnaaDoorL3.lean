/-
  The lines of two texts, one behind the other: plain facts; rows of lines that are changed and joined.
-/
import Derived.Test.YtldpocbnkggnnaaDoorL2
namespace Go.Proofs.YtldpocbnkggnnaaDoor
open Go.RowKit
set_option linter.unusedSimpArgs false
set_option maxRecDepth 20000
theorem pieces_ne (c : UInt8) : ∀ l, pieces c l ≠ []
  | [] => by simp [pieces]
  | x :: r => by
    simp only [pieces]
    split
    · simp
    · split <;> simp
theorem pieces_app (c : UInt8) (t : List UInt8) : ∀ s, pieces c (s ++ c :: t) = pieces c s ++ pieces c t
  | [] => by simp [pieces]
  | x :: s => by
    have ih := pieces_app c t s
    by_cases h : x = c
    · simp [pieces, h, ih]
    · simp only [List.cons_append, pieces, if_neg h, ih]
      cases hp : pieces c s with
      | nil => exact absurd hp (pieces_ne c s)
      | cons p ps => simp
theorem pieces_num (c : UInt8) : ∀ l, (pieces c l).length = l.count c + 1
  | [] => by simp [pieces]
  | x :: r => by
    have ih := pieces_num c r
    by_cases h : x = c
    · subst h; simp [pieces, ih]
    · simp only [pieces, if_neg h]
      rw [List.count_cons_of_ne (by simpa using h), ← ih]
      cases hp : pieces c r with
      | nil => exact absurd hp (pieces_ne c r)
      | cons p ps => simp
theorem lnG_app : ∀ (ps qs : List (List UInt8)) (i : Nat) (o : List (Nat × List (List UInt8))), lnG i (ps ++ qs) o = if (lnG i ps o).2.1 = 0 then lnG (i + ps.length) qs (lnG i ps o).1 else lnG i ps o
  | [], qs, i, o => by simp [lnG]
  | p :: ps, qs, i, o => by
    simp only [List.cons_append, lnG]
    by_cases h : (wordsL p).2 = 0
    · simp only [h, if_true]
      rw [lnG_app ps qs (i + 1)]
      simp only [List.length_cons, show i + 1 + ps.length = i + (ps.length + 1) by omega]
    · simp only [if_neg h]
def shiftK (k : Nat) (x : Nat × List (List UInt8)) : Nat × List (List UInt8) := (x.1 + k, x.2)
theorem lnG_shift (k : Nat) : ∀ (qs : List (List UInt8)) (i : Nat) (o p : List (Nat × List (List UInt8))), lnG (i + k) qs (o ++ p.map (shiftK k)) = if (lnG i qs p).2.1 = 0 then (o ++ (lnG i qs p).1.map (shiftK k), 0, 0) else ([], (lnG i qs p).2.1, (lnG i qs p).2.2 + k)
  | [], i, o, p => by simp [lnG]
  | q :: qs, i, o, p => by
    simp only [lnG]
    by_cases h : (wordsL q).2 = 0
    · simp only [h, if_true]
      have ih := lnG_shift k qs (i + 1) o (if (wordsL q).1 = [] then p else p ++ [(i + 1, (wordsL q).1)])
      rw [← ih, show i + 1 + k = i + k + 1 by omega]
      congr 1
      by_cases hv : (wordsL q).1 = []
      · simp [hv]
      · simp only [if_neg hv, List.map_append, List.map_cons, List.map_nil, shiftK, List.append_assoc]
        rw [show i + 1 + k = i + k + 1 by omega]
    · simp only [if_neg h]
      rw [show i + 1 + k = i + k + 1 by omega]
theorem lnG_ok : ∀ (qs : List (List UInt8)) (i : Nat) (o : List (Nat × List (List UInt8))), (lnG i qs o).2.1 = 0 → (lnG i qs o).2.2 = 0
  | [], i, o, _ => rfl
  | q :: qs, i, o, h => by
    simp only [lnG] at h ⊢
    split at h
    · rw [if_pos (by assumption)]; exact lnG_ok qs _ _ h
    · exact absurd h (by assumption)
theorem lnG_bad : ∀ (qs : List (List UInt8)) (i : Nat) (o : List (Nat × List (List UInt8))), (lnG i qs o).2.1 ≠ 0 → (lnG i qs o).1 = []
  | [], i, o, h => absurd rfl h
  | q :: qs, i, o, h => by
    simp only [lnG] at h ⊢
    split at h
    · rw [if_pos (by assumption)]; exact lnG_bad qs _ _ h
    · rw [if_neg (by assumption)]
theorem lines_two (s t : List UInt8) (h : s.length + t.length ≤ 20000) : linesL (s ++ 10 :: t) =
    if (linesL s).2.1 = 0 then (if (linesL t).2.1 = 0 then ((linesL s).1 ++ (linesL t).1.map (shiftK (s.count 10 + 1)), 0, 0) else ([], (linesL t).2.1, (linesL t).2.2 + (s.count 10 + 1))) else ([], (linesL s).2.1, (linesL s).2.2) := by
  have e1 : linesL s = lnG 0 (pieces 10 s) [] := by unfold linesL; rw [if_neg (by omega)]
  have e2 : linesL t = lnG 0 (pieces 10 t) [] := by unfold linesL; rw [if_neg (by omega)]
  have e3 : linesL (s ++ 10 :: t) = lnG 0 (pieces 10 (s ++ 10 :: t)) [] := by unfold linesL; rw [if_neg (by simp; omega)]
  rw [e3, pieces_app, lnG_app, ← e1]
  by_cases h0 : (linesL s).2.1 = 0
  · rw [if_pos h0, if_pos h0, pieces_num]
    have hs := lnG_shift (s.count 10 + 1) (pieces 10 t) 0 (linesL s).1 []
    rw [List.map_nil, List.append_nil, ← e2] at hs
    exact hs
  · rw [if_neg h0, if_neg h0]
    have := lnG_bad (pieces 10 s) 0 [] (by rw [← e1]; exact h0)
    rw [← e1] at this
    exact Prod.ext this rfl
theorem lnG_few : ∀ (qs : List (List UInt8)) (i : Nat) (o : List (Nat × List (List UInt8))), (lnG i qs o).1.length ≤ o.length + qs.length ∧ ((∀ x ∈ o, x.2.length ≤ 1025 ∧ x.1 ≤ i) → ∀ x ∈ (lnG i qs o).1, x.2.length ≤ 1025 ∧ x.1 ≤ i + qs.length)
  | [], i, o => ⟨by simp [lnG], fun h x hx => by simp [lnG] at hx; have := h x hx; simpa using this⟩
  | q :: qs, i, o => by
    simp only [lnG]
    split
    · obtain ⟨h1, h2⟩ := lnG_few qs (i + 1) (if (wordsL q).1 = [] then o else o ++ [(i + 1, (wordsL q).1)])
      refine ⟨Nat.le_trans h1 (by split <;> simp <;> omega), fun h x hx => ?_⟩
      have := h2 (fun y hy => by
        split at hy
        · have := h y hy; exact ⟨this.1, by omega⟩
        · rcases List.mem_append.1 hy with hy | hy
          · have := h y hy; exact ⟨this.1, by omega⟩
          · simp at hy; subst hy; exact ⟨words_few q, Nat.le_refl _⟩) x hx
      exact ⟨this.1, by simp; omega⟩
    · exact ⟨by simp, fun _ x hx => by simp at hx⟩
theorem lines_few (l : List UInt8) : (linesL l).1.length ≤ 65537 ∧ ∀ x ∈ (linesL l).1, x.2.length ≤ 1025 ∧ x.1 ≤ 65537 := by
  unfold linesL
  split
  · exact ⟨by simp, fun x hx => by simp at hx⟩
  · have h1 := lnG_few (pieces 10 l) 0 []
    have h2 := pieces_count 10 l
    refine ⟨by have := h1.1; simp at this; omega, fun x hx => ?_⟩
    have := h1.2 (fun y hy => by cases hy) x hx
    exact ⟨this.1, by omega⟩
theorem lines_place (l : List UInt8) : (linesL l).2.2 ≤ 65537 := by
  have key : ∀ (qs : List (List UInt8)) (i : Nat) (o : List (Nat × List (List UInt8))), (lnG i qs o).2.2 ≤ i + qs.length := by
    intro qs
    induction qs with
    | nil => intro i o; simp [lnG]
    | cons q qs ih =>
      intro i o
      simp only [lnG]
      split
      · have := ih (i + 1) (if (wordsL q).1 = [] then o else o ++ [(i + 1, (wordsL q).1)])
        simp only [List.length_cons]; omega
      · simp only [List.length_cons]; omega
  unfold linesL
  split
  · simp
  · have h1 := key (pieces 10 l) 0 []
    have h2 := pieces_count 10 l
    omega
/-! ### Rows of lines -/
theorem own_set {w : World} {B : Nat} {e : TypeId} {s : Nat} {g n cap : Nat} {xs : List Value} (h : w.ownsRow B e s (.slice (some ⟨g, 0, none⟩) n cap) n xs) (i : Nat) (v : Value) : (w.setCell ⟨g, i, none⟩ v).ownsRow B e s (.slice (some ⟨g, 0, none⟩) n cap) n (xs.set i v) := by
  obtain ⟨h1, h2⟩ := h
  refine ⟨by rw [List.length_set]; exact h1, ?_⟩
  rcases h2 with ⟨h2, _⟩ | ⟨g', cap', cur, h3, h4, h5, h6, h7, h8, h9⟩
  · cases h2
  · cases h3
    refine .inr ⟨g, cap, cur.setIfInBounds i v, rfl, h4, ?_, h6, h7, by simpa using h8, ?_⟩
    · simp [World.setCell, Array.getElem?_modify, h5]
    · rw [Array.toList_setIfInBounds, List.take_set, h9]
theorem own_frozen {w : World} {B : Nat} {e : TypeId} {s : Nat} {g n cap : Nat} {xs : List Value} (h : w.ownsRow B e s (.slice (some ⟨g, 0, none⟩) n cap) n xs) (i : Nat) : w.frozen? ⟨g, i, none⟩ = false := by
  rcases h.2 with ⟨h2, _⟩ | ⟨g', cap', cur, h3, h4, h5, _⟩
  · cases h2
  · cases h3
    simp [World.frozen?, h5]
def shL (k : Nat) (x : Ln) : Ln := { x with n := x.n + k }
theorem lcs_set (k : Nat) : ∀ (ls : List Ln) (j : Nat) (h : j < ls.length), (lcs ls).set (j * 2) (.int .i64 (((ls[j].n + k : Nat)) : Int)) = lcs (ls.set j (shL k ls[j]))
  | x :: ls, 0, _ => by simp [lcs, lc, shL]
  | x :: ls, j + 1, h => by
    have ih := lcs_set k ls j (by simpa using h)
    have e : ∀ (y : Ln) (ys : List Ln), lcs (y :: ys) = .int .i64 (y.n : Int) :: .slice y.a y.k y.c :: lcs ys := fun y ys => by simp [lcs, lc]
    rw [e, List.getElem_cons_succ, List.set_cons_succ, e, show (j + 1) * 2 = j * 2 + 1 + 1 by omega, List.set_cons_succ, List.set_cons_succ, ih]
def partL (k : Nat) (ls : List Ln) (j : Nat) : List Ln := (ls.take j).map (shL k) ++ ls.drop j
theorem partL_len (k : Nat) (ls : List Ln) (j : Nat) : (partL k ls j).length = ls.length := by simp [partL]; omega
theorem partL_at (k : Nat) (ls : List Ln) (j : Nat) (h : j < ls.length) : (partL k ls j)[j]'(by rw [partL_len]; exact h) = ls[j] := by
  unfold partL
  rw [List.getElem_append_right (by simp; omega)]
  simp [Nat.min_eq_left (Nat.le_of_lt h)]
theorem partL_step (k : Nat) (ls : List Ln) (j : Nat) (h : j < ls.length) : (partL k ls j).set j (shL k ls[j]) = partL k ls (j + 1) := by
  unfold partL
  have hl : ((ls.take j).map (shL k)).length = j := by simp; omega
  rw [List.take_succ_eq_append_getElem h, List.drop_eq_getElem_cons h, List.map_append, List.set_append_right _ _ (by omega), hl, Nat.sub_self, List.set_cons_zero, List.append_assoc]
  rfl
theorem partL_all (k : Nat) (ls : List Ln) : partL k ls ls.length = ls.map (shL k) := by simp [partL]
section
variable {ops : Array Oper} {rest : List Oper} {op : Oper} {a : Act} {w : World} {Q : Exit → Act → World → Prop}
/-- Append a row of lines to a row of the call's own. -/
theorem append_ls (s x : Operand) (hw : Region.wanted op (yielded ops a.tmps) = true) (ho : op.op = .call { callee := .builtin .append, args := #[s, x], argTypes := #[29, 29] })
    (base : Nat) (v : Value) (n : Nat) (ps : List Ln) (hs : a.eval s = v) (hown : w.ownsRow base 52 2 v n (lcs ps))
    (ad : Option Addr) (m c B : Nat) (qs : List Ln) (hx : a.eval x = .slice ad m c) (hq : w.ownsRow B 52 2 (.slice ad m c) m (lcs qs))
    (hbytes : n + m ≤ 1000000) (hbase : base ≤ w.heap.size)
    (h : ∀ v' w', w'.ownsRow base 52 2 v' (n + m) (lcs (ps ++ qs)) → w.grownBy w' v.ownBlock → wpList Tryd.prog ops Q rest (a.put op.dst v') w') : wpList Tryd.prog ops Q (op :: rest) a w :=
  wpList_step fun K hK => by
    rw [if_pos hw]
    obtain ⟨i0, hi, hz0, hz1, hz2⟩ := info_parts infoL3
    rcases hq.2 with ⟨e, h0⟩ | ⟨g, cap, cur, e, _, _⟩
    · cases e
      have hz : qs = [] := by have := hq.1; rw [lcs_len] at this; exact List.eq_nil_of_length_eq_zero (by omega)
      subst hz
      have hrun := run_append_owned_none (P := Tryd.prog) (w := w) base 29 op.type 52 i0 2 Tryd.underlying29 hi v n (lcs ps) hown
      have h2 := h v w (by simpa using hown) (World.grownBy.refl _ _)
      unfold Oper.wp execOp
      simp only [ho, resolve, invoke, builtin, Sem.run_bind, Sem.run_pure, Result.andThen_ok, List.map_toArray, List.map_cons, List.map_nil, hs, hx, hrun]
      exact hK _ _ h2
    · cases e
      refine wp_append_own w s x 29 ho base 52 i0 (.agg #[.int .i64 0, .slice none 0 0]) 2 32 Tryd.underlying29 hi hz0 hz1 hz2 rfl (by decide) v n (lcs ps) hs hown ⟨g, 0, none⟩ m c (lcs qs) hx (by rw [hq.1]) (fun j u hu => hq.cells (g := g) rfl j u hu) (lcs_one qs) (by unfold maxLen; omega) (by omega) hbase (fun v' w' h1 h2 _ => hK _ _ (h v' w' (by rw [lcs_append]; exact h1) h2))
end
end Go.Proofs.YtldpocbnkggnnaaDoor
