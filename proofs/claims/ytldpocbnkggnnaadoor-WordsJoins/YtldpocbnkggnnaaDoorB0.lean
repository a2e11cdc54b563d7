/-
  Words that are joined are cut again; ids that are printed are read again: plain facts.
-/
import Derived.Test.YtldpocbnkggnnaaDoorD1
namespace Go.Proofs.YtldpocbnkggnnaaDoor
open Go.RowKit
set_option linter.unusedSimpArgs false
theorem esc_wd (o : List (List UInt8)) (tl : List UInt8) : ∀ (x a : List UInt8), x.all prn = true → wd (.quo a) (x.flatMap esc1 ++ 34 :: tl) o = wd (.done (a ++ x)) tl o
  | [], a, _ => by simp [wd, prn_34]
  | c :: x, a, h => by
    simp only [List.all_cons, Bool.and_eq_true] at h
    have ih := esc_wd o tl x (a ++ [c]) h.2
    rw [List.append_assoc] at ih
    by_cases hc : c = 34 ∨ c = 92
    · simp only [List.flatMap_cons, esc1, if_pos hc, List.cons_append, List.nil_append, wd, prn_92, h.1, if_true, hc]
      rw [if_neg (by decide)]
      exact ih
    · have h1 : c ≠ 34 := fun e => hc (.inl e)
      have h2 : c ≠ 92 := fun e => hc (.inr e)
      simp only [List.flatMap_cons, esc1, if_neg hc, List.cons_append, List.nil_append, wd, h.1, if_true, if_neg h1, if_neg h2]
      exact ih
theorem wrd_end (x : List UInt8) (o : List (List UInt8)) (h : x.all prn = true) : wd .gap (wrd x) o = (o ++ [x], 0) := by
  unfold wrd
  split
  · have e : wd .gap (quo x) o = wd (.quo []) (x.flatMap esc1 ++ 34 :: []) o := by simp [quo, wd, prn_34]
    rw [e, esc_wd o [] x [] h]
    simp [wd]
  · rename_i hm
    simp only [mq, Bool.or_eq_true, decide_eq_true_eq, not_or] at hm
    cases x with
    | nil => exact absurd rfl hm.1
    | cons c x =>
      have e2 : ∀ o, wd .gap (c :: x) o = wd (.word []) (c :: x) o := fun o => by
        have h1 : c ≠ 34 := fun e => hm.2.1 (by rw [e]; rfl)
        have h2 : c ≠ 35 := fun e => hm.2.2.1 (by rw [e]; rfl)
        have h3 : c ≠ 32 := fun e => hm.2.2.2 (by rw [e]; simp)
        simp [wd, h1, h2, h3]
      rw [e2, word_end (c :: x) [] o (fun d hd e => hm.2.2.2 (by rw [← e]; exact hd)) h]
      simp
theorem wrd_go (x tl : List UInt8) (o : List (List UInt8)) (h : x.all prn = true) : wd .gap (wrd x ++ 32 :: tl) o = wd .gap tl (o ++ [x]) := by
  unfold wrd
  split
  · have e : wd .gap (quo x ++ 32 :: tl) o = wd (.quo []) (x.flatMap esc1 ++ 34 :: 32 :: tl) o := by simp [quo, wd, prn_34]
    rw [e, esc_wd o (32 :: tl) x [] h]
    simp [wd, prn_32]
  · rename_i hm
    simp only [mq, Bool.or_eq_true, decide_eq_true_eq, not_or] at hm
    cases x with
    | nil => exact absurd rfl hm.1
    | cons c x =>
      have e2 : ∀ o, wd .gap (c :: x ++ 32 :: tl) o = wd (.word []) (c :: x ++ 32 :: tl) o := fun o => by
        have h1 : c ≠ 34 := fun e => hm.2.1 (by rw [e]; rfl)
        have h2 : c ≠ 35 := fun e => hm.2.2.1 (by rw [e]; rfl)
        have h3 : c ≠ 32 := fun e => hm.2.2.2 (by rw [e]; simp)
        simp [wd, h1, h2, h3]
      rw [e2, word_wd (c :: x) tl [] o (fun d hd e => hm.2.2.2 (by rw [← e]; exact hd)) h]
      simp
theorem join_back : ∀ (ws : List (List UInt8)) (o : List (List UInt8)), (∀ x ∈ ws, x.all prn = true) → wd .gap (joinW ws) o = (o ++ ws, 0)
  | [], o, _ => by simp [joinW, wd]
  | [x], o, h => by rw [joinW, wrd_end x o (h x (by simp))]
  | x :: y :: r, o, h => by
    rw [joinW, wrd_go x _ o (h x (by simp)), join_back (y :: r) _ (fun z hz => h z (by simp [hz]))]
    simp
theorem words_back (ws : List (List UInt8)) (h : ∀ x ∈ ws, x.all prn = true) : wordsL (joinW ws) = if 1024 < (joinW ws).length then ([], 1) else (ws, 0) := by
  unfold wordsL
  rw [join_back ws [] h]
  simp
theorem dgI_hx (n : Nat) (h : n < 16) : dgI (hx n) = n := by
  have : ∀ n : Fin 16, dgI (hx n.1) = n.1 := by decide
  exact this ⟨n, h⟩
theorem pair_back (v : UInt8) : UInt8.ofNat (16 * (v.toNat / 16) + v.toNat % 16) = v := by
  have e : 16 * (v.toNat / 16) + v.toNat % 16 = v.toNat := by omega
  rw [e]
  apply UInt8.toNat.inj
  simp
theorem id_back (l : List UInt8) (h : l.length = 8) : psI (prI l) = some l := by
  obtain ⟨b0, b1, b2, b3, b4, b5, b6, b7, rfl⟩ : ∃ b0 b1 b2 b3 b4 b5 b6 b7, l = [b0, b1, b2, b3, b4, b5, b6, b7] := by
    match l, h with
    | [b0, b1, b2, b3, b4, b5, b6, b7], _ => exact ⟨_, _, _, _, _, _, _, _, rfl⟩
  have q : ∀ v : UInt8, v.toNat / 16 < 16 := fun v => by have := v.toNat_lt; omega
  have r : ∀ v : UInt8, v.toNat % 16 < 16 := fun v => by omega
  have hall : (List.range 8).all (fun j => decide (okAt (prI [b0, b1, b2, b3, b4, b5, b6, b7]) j)) = true := by
    rw [List.all_eq_true]
    intro j hj
    apply decide_eq_true
    have hj8 := List.mem_range.1 hj
    rcases j with _ | _ | _ | _ | _ | _ | _ | _ | j
    all_goals first
      | (exfalso; omega)
      | (simp only [okAt, prI, two, List.cons_append, List.nil_append, List.getD, List.getElem?_cons_zero, List.getElem?_cons_succ, Option.getD_some, dgI_hx _ (q _), dgI_hx _ (r _), Nat.zero_add, Nat.mul_one, Nat.mul_zero, Nat.reduceMul, Nat.reduceAdd, Nat.reduceSub]; refine ⟨by omega, by omega, ?_⟩; simp)
  unfold psI
  rw [if_pos ⟨rfl, hall⟩]
  congr 1
  simp only [List.range, List.range.loop, List.map_cons, List.map_nil, bAt, prI, two, List.cons_append, List.nil_append, List.getD, List.getElem?_cons_zero, List.getElem?_cons_succ, Option.getD_some, dgI_hx _ (q _), dgI_hx _ (r _), Nat.zero_add, Nat.mul_one, Nat.mul_zero, Nat.reduceMul, Nat.reduceAdd, Nat.reduceSub, Int.toNat_natCast, pair_back]
end Go.Proofs.YtldpocbnkggnnaaDoor
