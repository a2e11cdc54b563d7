/-
  Two colons: where they stand; an address out of groups: facts on lists alone.
-/
import Derived.Test.YtimpopolkofdgaaGreatDoorRefG
import Derived.Test.YtimpopolkofdgaaGreatDoorSix
namespace Go.Proofs.YtimpopolkofdgaaGreatDoor
open Go.RowKit
set_option linter.unusedSimpArgs false
set_option maxRecDepth 20000
/-! ### Two colons: where they stand; the answer's groups -/
def twoAt (l : List UInt8) (k : Nat) : Prop := l[k]? = some 58 ∧ l[k + 1]? = some 58
theorem idx_none : ∀ (l : List UInt8), (∀ k, ¬ twoAt l k) → Lib.index l [58, 58] = -1
  | [], _ => rfl
  | b :: l, h => by
    have ih := idx_none l (fun k hk => h (k + 1) (by unfold twoAt at *; simpa using hk))
    have h0 := h 0
    unfold Lib.index
    rw [if_neg, ih]
    · rfl
    · intro hp
      cases l with
      | nil => simp [List.isPrefixOf] at hp
      | cons c r =>
        simp [List.isPrefixOf] at hp
        exact h0 ⟨by simp [hp.1], by simp [hp.2]⟩
theorem idx_some : ∀ (l : List UInt8) (j : Nat), (∀ k, k < j → ¬ twoAt l k) → twoAt l j → Lib.index l [58, 58] = j
  | [], j, _, h => by unfold twoAt at h; simp at h
  | b :: l, 0, _, h => by
    unfold twoAt at h
    unfold Lib.index
    rw [if_pos]
    · rfl
    · cases l with
      | nil => simp at h
      | cons c r =>
        simp at h
        simp [List.isPrefixOf, h.1, h.2]
  | b :: l, j + 1, hn, h => by
    have ih := idx_some l j (fun k hk hk' => hn (k + 1) (by omega) (by unfold twoAt at *; simpa using hk')) (by unfold twoAt at *; simpa using h)
    have h0 := hn 0 (by omega)
    unfold Lib.index
    rw [if_neg, ih, if_neg (by simp)]
    · rfl
    · intro hp
      cases l with
      | nil => simp [List.isPrefixOf] at hp
      | cons c r =>
        simp [List.isPrefixOf] at hp
        exact h0 ⟨by simp [hp.1], by simp [hp.2]⟩
def adOf (L : List Nat) : Ad := ⟨(bytesG L ++ List.replicate 16 0).take 16, by simp⟩
def sixN (s : List UInt8) : Option (List Nat) := match grpI s with
  | some g => if g.length = 8 then some g else none
  | none => none
def sixT (s t : List UInt8) : Option (List Nat) := match grpI s, grpI t with
  | some g, some h => if g.length + h.length ≤ 7 then some (g ++ List.replicate (8 - g.length - h.length) 0 ++ h) else none
  | _, _ => none
def sixI (s : List UInt8) : Option (List Nat) := if 0 ≤ Lib.index s [58, 58] then sixT (s.take (Lib.index s [58, 58]).toNat) (s.drop ((Lib.index s [58, 58]).toNat + 2)) else sixN s
theorem bytesG_rep : ∀ n, bytesG (List.replicate n 0) = List.replicate (2 * n) 0
  | 0 => rfl
  | n + 1 => by
    rw [List.replicate_succ, bytesG, bytesG_rep n, show 2 * (n + 1) = 2 * n + 1 + 1 by omega, List.replicate_succ, List.replicate_succ]
    rfl
theorem grp_nil : grp [] = some [] := rfl
theorem six_eq (s : List UInt8) : six s = (sixI s).map adOf := by
  unfold six sixI Lib.cut
  by_cases hi : 0 ≤ Lib.index s [58, 58]
  · rw [if_pos hi, if_pos hi]
    dsimp only
    rw [show ([58, 58] : List UInt8).length = 2 from rfl]
    generalize s.take (Lib.index s [58, 58]).toNat = x
    generalize s.drop ((Lib.index s [58, 58]).toNat + 2) = y
    rw [grp_hex x, grp_hex y]
    unfold sixT
    cases grpI x with
    | none => rfl
    | some g =>
      cases grpI y with
      | none => dsimp only; cases (if g.length ≤ 8 then some (bytesG g) else none) <;> rfl
      | some h =>
        dsimp only
        by_cases hc : g.length + h.length ≤ 7
        · rw [if_pos (by omega), if_pos (by omega), if_pos hc]
          dsimp only
          rw [if_neg (by rw [bytesG_len, bytesG_len]; simp; omega), Option.map_some]
          congr 1
          apply Ad.ext
          show List.take 16 _ = List.take 16 _
          rw [bytesG_append, bytesG_append, bytesG_rep, bytesG_len, bytesG_len]
          rw [show 16 - 2 * g.length - 2 * h.length = 2 * (8 - g.length - h.length) by omega]
        · rw [if_neg hc]
          by_cases h8 : g.length ≤ 8
          · rw [if_pos h8]
            by_cases h8' : h.length ≤ 8
            · rw [if_pos h8']
              dsimp only
              rw [if_pos (.inl ⟨rfl, by rw [bytesG_len, bytesG_len]; omega⟩)]
              rfl
            · rw [if_neg h8']; rfl
          · rw [if_neg h8]; rfl
  · rw [if_neg hi, if_neg hi]
    dsimp only
    rw [grp_nil, grp_hex s]
    unfold sixN
    cases grpI s with
    | none => rfl
    | some g =>
      dsimp only
      by_cases h8 : g.length = 8
      · rw [if_pos (by omega), if_pos h8]
        dsimp only
        rw [if_neg (by rw [bytesG_len]; simp; omega), Option.map_some]
        congr 1
        apply Ad.ext
        show List.take 16 _ = List.take 16 _
        rw [bytesG_len, show 16 - 2 * g.length - ([] : List UInt8).length = 0 by simp; omega]
        simp
      · rw [if_neg h8]
        by_cases h8' : g.length ≤ 8
        · rw [if_pos h8']
          dsimp only
          rw [if_pos (.inr ⟨rfl, by rw [bytesG_len]; simp; omega⟩)]
          rfl
        · rw [if_neg h8']; rfl
end Go.Proofs.YtimpopolkofdgaaGreatDoor
