/-
  Bytes as pieces, and the contract of tlv.Split for every bytes.
-/
import Derived.Test.YtaleclmccmeglaaRd
namespace Go.Proofs.Ytaleclmccmeglaa
open Go.RowKit
set_option linter.unusedSimpArgs false
variable {bv : Option Addr}

/-- The pieces that bytes are, and the error. -/
def spl : Nat → List UInt8 → List (UInt8 × List UInt8) × Int
  | 0, _ => ([], 0)
  | _ + 1, [] => ([], 0)
  | f + 1, t :: r => if t.toNat = 0 then ((0, []) :: (spl f r).1, (spl f r).2) else match r with
    | [] => ([], 52)
    | k :: s => if s.length < k.toNat then ([], 52) else ((t, s.take k.toNat) :: (spl f (s.drop k.toNat)).1, (spl f (s.drop k.toNat)).2)
theorem spl_fuel : ∀ (f g : Nat) (l : List UInt8), l.length ≤ f → l.length ≤ g → spl f l = spl g l
  | 0, 0, _, _, _ => rfl
  | 0, g + 1, l, h, _ => by
    obtain rfl : l = [] := List.eq_nil_of_length_eq_zero (by omega)
    rfl
  | f + 1, 0, l, _, h => by
    obtain rfl : l = [] := List.eq_nil_of_length_eq_zero (by omega)
    rfl
  | f + 1, g + 1, [], _, _ => rfl
  | f + 1, g + 1, t :: r, h1, h2 => by
    simp only [List.length_cons] at h1 h2
    unfold spl
    rw [spl_fuel f g r (by omega) (by omega)]
    cases r with
    | nil => rfl
    | cons k s =>
      simp only [List.length_cons] at h1 h2
      simp only
      rw [spl_fuel f g (s.drop k.toNat) (by simp; omega) (by simp; omega)]
def splL (l : List UInt8) : List (UInt8 × List UInt8) × Int := spl l.length l
theorem spl_eq (f : Nat) (l : List UInt8) (h : l.length ≤ f) : spl f l = splL l := spl_fuel f l.length l h (Nat.le_refl _)
theorem splL_nil : splL [] = ([], 0) := rfl
theorem splL_cons (t : UInt8) (r : List UInt8) : splL (t :: r) = if t.toNat = 0 then ((0, []) :: (splL r).1, (splL r).2) else match r with
    | [] => ([], 52)
    | k :: s => if s.length < k.toNat then ([], 52) else ((t, s.take k.toNat) :: (splL (s.drop k.toNat)).1, (splL (s.drop k.toNat)).2) := by
  show spl (r.length + 1) (t :: r) = _
  unfold spl
  rw [spl_eq r.length r (Nat.le_refl _)]
  cases r with
  | nil => rfl
  | cons k s =>
    simp only
    rw [spl_eq _ (s.drop k.toNat) (by simp; omega)]
/-- At a place of the bytes. -/
theorem spl_pad {l : List UInt8} {p : Nat} (hp : p < l.length) (h0 : l[p].toNat = 0) : splL (l.drop p) = ((0, []) :: (splL (l.drop (p + 1))).1, (splL (l.drop (p + 1))).2) := by
  rw [List.drop_eq_getElem_cons hp, splL_cons, if_pos h0]
theorem spl_yes {l : List UInt8} {p : Nat} (hp : p + 1 < l.length) (h0 : l[p].toNat ≠ 0) (hk : p + 2 + l[p + 1].toNat ≤ l.length) : splL (l.drop p) = ((l[p], (l.drop (p + 2)).take l[p + 1].toNat) :: (splL (l.drop (p + 2 + l[p + 1].toNat))).1, (splL (l.drop (p + 2 + l[p + 1].toNat))).2) := by
  rw [List.drop_eq_getElem_cons (show p < l.length by omega), splL_cons, if_neg h0, List.drop_eq_getElem_cons hp]
  simp only
  rw [if_neg (by simp; omega), List.drop_drop]
theorem spl_no {l : List UInt8} {p : Nat} (hp : p < l.length) (h0 : l[p].toNat ≠ 0) (hk : ∀ hp1 : p + 1 < l.length, l.length < p + 2 + l[p + 1].toNat) : splL (l.drop p) = ([], 52) := by
  rw [List.drop_eq_getElem_cons hp, splL_cons, if_neg h0]
  by_cases hp1 : p + 1 < l.length
  · rw [List.drop_eq_getElem_cons hp1]
    have := hk hp1
    simp only
    rw [if_pos (by simp; omega)]
  · rw [List.drop_of_length_le (by omega)]
theorem spl_end {l : List UInt8} {p : Nat} (hp : l.length ≤ p) : splL (l.drop p) = ([], 0) := by
  rw [List.drop_of_length_le hp]; rfl

/-- Types and bodies of pieces. -/
def keys (ps : List Pc) : List (UInt8 × List UInt8) := ps.map fun p => (p.t, p.l)
/-- Pieces of which each body lies in memory of the call's own. -/
def Bods (B : Nat) (w : World) (ps : List Pc) : Prop := ∀ p ∈ ps, w.ownsRow B 5 1 (.slice p.a p.n p.c) p.n (bcells p.l)
theorem own_apart {w : World} {B B' : Nat} {e e' : TypeId} {s s' : Nat} {v v' : Value} {n n' : Nat} {xs xs' : List Value} (h : w.ownsRow B e s v n xs) (h' : w.ownsRow B' e' s' v' n' xs') (hne : e ≠ e') : v.ownBlock ≠ v'.ownBlock ∨ v'.ownBlock = none := by
  rcases h'.2 with ⟨rfl, _⟩ | ⟨g', cap', cur', rfl, _, hh', _⟩
  · exact .inr rfl
  · left
    rcases h.2 with ⟨rfl, _⟩ | ⟨g, cap, cur, rfl, _, hh, _⟩
    · simp [Value.ownBlock]
    · intro e
      simp [Value.ownBlock] at e
      subst e
      rw [hh] at hh'
      cases hh'
      exact hne rfl
theorem Bods.keep {B : Nat} {w w' : World} {ps : List Pc} {row : Option Nat} (h : Bods B w ps) (hg : w.grownBy w' row) (hne : ∀ p ∈ ps, (Value.slice p.a p.n p.c).ownBlock ≠ row ∨ row = none) : Bods B w' ps := fun p hp => own_keep (h p hp) hg (hne p hp)
theorem Rd.own_ne {w : World} {g : Nat} {l : List UInt8} {p : Nat} {y : Int} {B : Nat} {e : TypeId} {s : Nat} {v : Value} {n : Nat} {xs : List Value} (h : Rd w g bv l p y) (ho : w.ownsRow B e s v n xs) (he : e ≠ 118) : v.ownBlock ≠ some g := by
  obtain ⟨c, hb, _⟩ := h.ex
  intro ev
  rcases ho.2 with ⟨rfl, _⟩ | ⟨g', cap, cur, rfl, _, hh, _⟩
  · simp [Value.ownBlock] at ev
  · cases ev
    rw [hb] at hh
    cases hh
    exact he rfl
theorem Bods.now {B : Nat} {w w' : World} {ps : List Pc} {g : Nat} {l : List UInt8} {p q : Nat} {y z : Int} (h : Bods B w ps) (h0 : Rd w g bv l p y) (hn : Now w w' g bv l q z) : Bods B w' ps := h.keep hn.grown (fun r hr => .inl (h0.own_ne (h r hr) (by decide)))
theorem own_now {B : Nat} {w w' : World} {g : Nat} {l : List UInt8} {p q : Nat} {y z : Int} {e : TypeId} {s : Nat} {v : Value} {n : Nat} {xs : List Value} (h : w.ownsRow B e s v n xs) (h0 : Rd w g bv l p y) (hn : Now w w' g bv l q z) (he : e ≠ 118) : w'.ownsRow B e s v n xs := own_keep h hn.grown (.inl (h0.own_ne h he))
theorem Bods.alloc {B : Nat} {w : World} {ps : List Pc} (h : Bods B w ps) (o : Obj) : Bods B (w.alloc o) ps := fun p hp => (h p hp).alloc o
/-- A slice of pieces in memory of the call's own. -/
theorem own_rws {B : Nat} {w : World} {a : Option Addr} {n c : Nat} {ps : List Pc} (h : w.ownsRow B 60 2 (.slice a n c) n (rcs ps)) (hb : Bods B w ps) : Rws w a n ps := by
  have hl := h.1
  rw [rcs_len] at hl
  refine ⟨by omega, fun hne => ?_, fun p hp => ?_⟩
  · rcases h.2 with ⟨_, h2⟩ | ⟨g, cap, cur, hv, _, hh, _, _, _, ht⟩
    · exact absurd (List.eq_nil_of_length_eq_zero (by omega)) hne
    · cases hv
      refine ⟨g, 0, rfl, lt_of_block hh, fun j p hp k u hu => ?_⟩
      have hk : k < 2 := by have := (List.getElem?_eq_some_iff.1 hu).1; simpa [rc] using this
      have := h.cells rfl (j * 2 + k) u (by rw [rcs_get ps j p hp k hk]; exact hu)
      rw [Addr.add_mid] at this
      rw [Nat.add_assoc]
      exact this
  · obtain ⟨a', c', e, hs, _⟩ := Src.ofOwn (hb p hp)
    cases e
    exact hs
end Go.Proofs.Ytaleclmccmeglaa
