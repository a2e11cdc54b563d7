/-
  Facts on lists for the document's sixes.
-/
import Derived.Test.YtimpopolkofdgaaGreatDoorRefL
import Derived.Test.YtimpopolkofdgaaGreatDoorPGroups
namespace Go.Proofs.YtimpopolkofdgaaGreatDoor
open Go.RowKit
set_option linter.unusedSimpArgs false
set_option maxRecDepth 20000
/-! ### The longest run of zero groups, as the document counts it -/
/-- What the document's two numbers are behind the first k groups. -/
def StZ (l : List UInt8) (k : Nat) (b g : Int) : Prop := (b = -1 ∧ g = 1 ∧ lzF l k = (0, 0)) ∨ ∃ B G : Nat, b = B ∧ g = G ∧ 2 ≤ G ∧ B + G ≤ 8 ∧ lzF l k = (2 * B, 2 * B + 2 * G)
theorem StZ.zero (l : List UInt8) : StZ l 0 (-1) 1 := .inl ⟨rfl, rfl, rfl⟩
theorem StZ.more {l : List UInt8} {k n : Nat} {b g : Int} (h : StZ l k b g) (hz : zrl (l.drop (2 * k)) = 2 * n) (hk : k + n ≤ 8) (hn : g < n) : StZ l (k + 1) k n := by
  rcases h with ⟨rfl, rfl, h⟩ | ⟨B, G, rfl, rfl, hG, _, h⟩
  · refine .inr ⟨k, n, rfl, rfl, by omega, hk, ?_⟩
    simp only [lzF, hz, h]
    rw [if_pos ⟨by omega, by omega⟩]
  · refine .inr ⟨k, n, rfl, rfl, by omega, hk, ?_⟩
    simp only [lzF, hz, h]
    rw [if_pos ⟨by omega, by omega⟩]
theorem StZ.stay {l : List UInt8} {k n : Nat} {b g : Int} (h : StZ l k b g) (hz : zrl (l.drop (2 * k)) = 2 * n) (hn : ¬ g < n) : StZ l (k + 1) b g := by
  rcases h with ⟨rfl, rfl, h⟩ | ⟨B, G, rfl, rfl, hG, h8, h⟩
  · refine .inl ⟨rfl, rfl, ?_⟩
    simp only [lzF, hz, h]
    rw [if_neg (by omega)]
  · refine .inr ⟨B, G, rfl, rfl, hG, h8, ?_⟩
    simp only [lzF, hz, h]
    rw [if_neg (by omega)]
theorem zrl_end {l : List UInt8} {j : Nat} (h : l.length ≤ j) : zrl (l.drop j) = 0 := by
  rw [List.drop_eq_nil_of_le h]
  rfl
/-! ### Groups behind groups -/
theorem join_snoc (xs : List (List UInt8)) (y sep : List UInt8) : Lib.join (xs ++ [y]) sep = if xs = [] then y else Lib.join xs sep ++ sep ++ y := by
  unfold Lib.join
  induction xs with
  | nil => simp [List.intercalate]
  | cons x xs ih =>
    rw [if_neg (by simp)]
    cases xs with
    | nil => simp [List.intercalate]
    | cons z zs =>
      rw [if_neg (by simp)] at ih
      simp only [List.intercalate, List.cons_append, List.intersperse_cons_cons, List.flatten_cons] at ih ⊢
      simp [ih]
theorem grps_half : ∀ (l : List UInt8), (grps l).length = l.length / 2
  | [] => rfl
  | [_] => by simp [grps]
  | _ :: _ :: r => by simp [grps, grps_half r]; omega
theorem joinG_step (m : List UInt8) (k : Nat) (a b : UInt8) (ha : m[2 * k]? = some a) (hb : m[2 * k + 1]? = some b) : joinG (m.take (2 * (k + 1))) = if k = 0 then hexs (a.toNat * 256 + b.toNat) else joinG (m.take (2 * k)) ++ [58] ++ hexs (a.toNat * 256 + b.toNat) := by
  have hl := (List.getElem?_eq_some_iff.1 hb).1
  unfold joinG
  rw [show 2 * (k + 1) = 2 * k + 2 by omega, grps_two m (2 * k) a b (by omega) ha hb, join_snoc]
  by_cases hk : k = 0
  · subst hk
    simp [grps]
  · have : grps (m.take (2 * k)) ≠ [] := by
      intro e
      have := congrArg List.length e
      rw [grps_half, List.length_take] at this
      simp at this
      omega
    rw [if_neg this, if_neg hk]
/-- A text that ends in something else than a colon. -/
def EndsOk (o : List UInt8) : Prop := ∃ p c, o = p ++ [c] ∧ c ≠ 58
theorem hexd_ne (n : Nat) (h : n < 16) : hexd n ≠ 58 := by
  have : n = 0 ∨ n = 1 ∨ n = 2 ∨ n = 3 ∨ n = 4 ∨ n = 5 ∨ n = 6 ∨ n = 7 ∨ n = 8 ∨ n = 9 ∨ n = 10 ∨ n = 11 ∨ n = 12 ∨ n = 13 ∨ n = 14 ∨ n = 15 := by omega
  rcases this with rfl | rfl | rfl | rfl | rfl | rfl | rfl | rfl | rfl | rfl | rfl | rfl | rfl | rfl | rfl | rfl <;> decide
theorem ends_hexs (p : List UInt8) (n : Nat) : EndsOk (p ++ hexs n) := by
  rw [hexs_eq]
  split
  · exact ⟨p, hexd n, rfl, hexd_ne n (by omega)⟩
  · exact ⟨p ++ hexs (n / 16), hexd (n % 16), by rw [List.append_assoc], hexd_ne _ (by omega)⟩
theorem EndsOk.ne {o : List UInt8} (h : EndsOk o) : o ≠ [] := by
  obtain ⟨p, c, rfl, _⟩ := h
  simp
theorem EndsOk.last {o : List UInt8} (h : EndsOk o) : ∃ c, o[o.length - 1]? = some c ∧ c ≠ 58 := by
  obtain ⟨p, c, rfl, hc⟩ := h
  exact ⟨c, by simp, hc⟩
end Go.Proofs.YtimpopolkofdgaaGreatDoor
