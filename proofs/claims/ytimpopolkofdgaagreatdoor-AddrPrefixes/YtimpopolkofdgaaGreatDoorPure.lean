/-
  Cutting addresses twice, the tree of prefixes, and orders: facts on lists and numbers alone.
-/
import Derived.Test.YtimpopolkofdgaaGreatDoorBest
namespace Go.Proofs.YtimpopolkofdgaaGreatDoor
/-! ### Cutting addresses -/
theorem keepB_nat (k : Nat) (b : UInt8) : (keepB k b).toNat = b.toNat - b.toNat % 2 ^ (8 - k) := by
  unfold keepB
  have := b.toNat_lt
  simp; omega
theorem keepB_8 {k : Nat} (h : 8 ≤ k) (b : UInt8) : keepB k b = keepB 8 b := by
  rw [keepB_all h, keepB_all (Nat.le_refl _)]
theorem keepB_small {k m : Nat} (hk : k ≤ 8) (hm : m ≤ 8) (b : UInt8) : keepB k (keepB m b) = keepB (min k m) b := by
  have h : ((List.range 9).all fun k => (List.range 9).all fun m => (List.range 256).all fun b => (b - b % 2 ^ (8 - m)) - (b - b % 2 ^ (8 - m)) % 2 ^ (8 - k) == b - b % 2 ^ (8 - min k m)) = true := by kernel_rfl
  have h1 := List.all_eq_true.1 (List.all_eq_true.1 (List.all_eq_true.1 h k (List.mem_range.2 (by omega))) m (List.mem_range.2 (by omega))) b.toNat (List.mem_range.2 b.toNat_lt)
  apply UInt8.toNat.inj
  rw [keepB_nat, keepB_nat, keepB_nat]
  exact eq_of_beq h1
theorem keepB_keepB (k m : Nat) (b : UInt8) : keepB k (keepB m b) = keepB (min k m) b := by
  by_cases hk : 8 ≤ k
  · rw [keepB_all hk]
    by_cases hm : 8 ≤ m
    · rw [keepB_all hm, keepB_all (by omega)]
    · rw [Nat.min_eq_right (by omega)]
  · by_cases hm : 8 ≤ m
    · rw [keepB_all hm, Nat.min_eq_left (by omega)]
    · exact keepB_small (by omega) (by omega) b
theorem cutA_cutA (a : Ad) (n m : Nat) : cutA (cutA a n) m = cutA a (min n m) := by
  apply Ad.ext
  apply List.ext_getElem?
  intro i
  simp only [cutA, List.getElem?_mapIdx, Option.map_map]
  congr 1
  funext b
  simp only [Function.comp]
  rw [keepB_keepB]
  congr 1
  omega
theorem cutA_zero (a : Ad) : cutA a 0 = zeroA := by
  apply Ad.ext
  apply List.ext_getElem?
  intro i
  simp only [cutA, zeroA, List.getElem?_mapIdx, Nat.zero_sub]
  by_cases hi : i < 16
  · rw [List.getElem?_replicate, if_pos hi, List.getElem?_eq_getElem (by rw [a.len]; exact hi), Option.map_some, keepB_none]
  · rw [List.getElem?_eq_none (by rw [a.len]; omega), List.getElem?_eq_none (by simp; omega)]; rfl
theorem chk_iff (p : Pf) : chk p = 0 ↔ 0 ≤ p.n ∧ p.n ≤ 128 ∧ cutA p.a p.n.toNat = p.a := by
  unfold chk
  constructor
  · intro h
    split at h
    · rename_i hh; exact ⟨hh.1, hh.2.1, Ad.ext hh.2.2⟩
    · cases h
  · rintro ⟨h0, h1, h2⟩
    rw [if_pos ⟨h0, h1, by rw [h2]⟩]
theorem con_iff (p : Pf) (a : Ad) : con p a = true ↔ chk p = 0 ∧ cutA a p.n.toNat = p.a := by
  unfold con
  simp only [Bool.and_eq_true, decide_eq_true_eq]
  exact ⟨fun h => ⟨h.1, Ad.ext h.2⟩, fun h => ⟨h.1, by rw [h.2]⟩⟩
theorem cov_iff (p q : Pf) : cov p q = true ↔ chk q = 0 ∧ p.n ≤ q.n ∧ con p q.a = true := by
  unfold cov
  simp only [Bool.and_eq_true, decide_eq_true_eq]
theorem Pf.ext {p q : Pf} (h : p.a = q.a) (h' : p.n = q.n) : p = q := by
  cases p; cases q; cases h; cases h'; rfl
theorem Pr.ext {p q : Pr} (h : p.d = q.d) (h' : p.s = q.s) : p = q := by
  cases p; cases q; cases h; cases h'; rfl
theorem eqPf (p q : Pf) : (decide (p.a.l = q.a.l) && decide (p.n = q.n)) = true ↔ p = q := by
  simp only [Bool.and_eq_true, decide_eq_true_eq]
  exact ⟨fun h => Pf.ext (Ad.ext h.1) h.2, fun h => by rw [h]; exact ⟨rfl, rfl⟩⟩
/-! ### The tree -/
theorem cov_self {p : Pf} (h : chk p = 0) : cov p p = true :=
  (cov_iff p p).2 ⟨h, Int.le_refl _, (con_iff p p.a).2 ⟨h, ((chk_iff p).1 h).2.2⟩⟩
theorem cov_of_both {p q : Pf} {a : Ad} (hp : con p a = true) (hq : con q a = true) (hn : p.n ≤ q.n) : cov p q = true := by
  obtain ⟨p1, p2⟩ := (con_iff p a).1 hp
  obtain ⟨q1, q2⟩ := (con_iff q a).1 hq
  have p3 := (chk_iff p).1 p1
  have q3 := (chk_iff q).1 q1
  refine (cov_iff p q).2 ⟨q1, hn, (con_iff p q.a).2 ⟨p1, ?_⟩⟩
  rw [← q2, cutA_cutA, Nat.min_eq_right (by omega)]
  exact p2
theorem tree_pure {p q : Pf} (a : Ad) : (con p a && con q a) = true → (cov p q || cov q p) = true := by
  intro h
  simp only [Bool.and_eq_true] at h
  simp only [Bool.or_eq_true]
  by_cases hn : p.n ≤ q.n
  · exact .inl (cov_of_both h.1 h.2 hn)
  · exact .inr (cov_of_both h.2 h.1 (by omega))
theorem same_pure {p q : Pf} (hp : chk p = 0) (hq : chk q = 0) : (cov p q && cov q p) = (decide (p.a.l = q.a.l) && decide (p.n = q.n)) := by
  rw [Bool.eq_iff_iff, eqPf]
  constructor
  · intro h
    simp only [Bool.and_eq_true] at h
    obtain ⟨_, n1, c1⟩ := (cov_iff p q).1 h.1
    obtain ⟨_, n2, _⟩ := (cov_iff q p).1 h.2
    have hn : p.n = q.n := by omega
    refine Pf.ext ?_ hn
    rw [← ((con_iff p q.a).1 c1).2, hn]
    exact ((chk_iff q).1 hq).2.2
  · rintro rfl
    rw [cov_self hp]; rfl
/-! ### Orders -/
/-- What an order's comparison keeps to. -/
structure Cmp3 {α : Type} (c : α → α → Int) : Prop where
  bd : ∀ x y, -1 ≤ c x y ∧ c x y ≤ 1
  anti : ∀ x y, c x y = - c y x
  zero : ∀ x y, c x y = 0 ↔ x = y
  lt : ∀ x y z, c x y < 0 → c y z < 0 → c x z < 0
theorem Cmp3.both {α β γ : Type} {c : α → α → Int} {d : β → β → Int} (hc : Cmp3 c) (hd : Cmp3 d) (f : γ → α) (g : γ → β) (hfg : ∀ x y, f x = f y → g x = g y → x = y) : Cmp3 fun x y : γ => orI (c (f x) (f y)) (d (g x) (g y)) := by
  have hz : ∀ x, c x x = 0 := fun x => (hc.zero x x).2 rfl
  refine ⟨fun x y => ?_, fun x y => ?_, fun x y => ?_, fun x y z h1 h2 => ?_⟩
  · dsimp only [orI]; split
    · exact hd.bd _ _
    · exact hc.bd _ _
  · dsimp only [orI]
    have h1 := hc.anti (f x) (f y)
    have h2 := hd.anti (g x) (g y)
    split <;> split <;> omega
  · dsimp only [orI]
    constructor
    · intro h
      split at h
      · rename_i h0; exact hfg _ _ ((hc.zero _ _).1 h0) ((hd.zero _ _).1 h)
      · rename_i h0; exact absurd h h0
    · rintro rfl
      rw [if_pos (hz _)]; exact (hd.zero _ _).2 rfl
  · dsimp only [orI] at h1 h2 ⊢
    by_cases e1 : c (f x) (f y) = 0
    · rw [if_pos e1] at h1
      have e := (hc.zero _ _).1 e1
      rw [e]
      by_cases e2 : c (f y) (f z) = 0
      · rw [if_pos e2] at h2 ⊢
        exact hd.lt _ _ _ h1 h2
      · rw [if_neg e2] at h2 ⊢
        exact h2
    · rw [if_neg e1] at h1
      by_cases e2 : c (f y) (f z) = 0
      · have e := (hc.zero _ _).1 e2
        rw [← e, if_neg e1]; exact h1
      · rw [if_neg e2] at h2
        have := hc.lt _ _ _ h1 h2
        rw [if_neg (by omega)]; exact this
theorem Cmp3.trans {α : Type} {c : α → α → Int} (h : Cmp3 c) (x y z : α) (h1 : c x y ≤ 0) (h2 : c y z ≤ 0) : c x z ≤ 0 := by
  by_cases e1 : c x y = 0
  · rw [(h.zero _ _).1 e1]; exact h2
  · by_cases e2 : c y z = 0
    · rw [← (h.zero _ _).1 e2]; exact h1
    · have := h.lt x y z (by omega) (by omega); omega
theorem cmp_bytes : ∀ l m : List UInt8, (-1 ≤ Lib.compareBytes l m ∧ Lib.compareBytes l m ≤ 1) ∧ Lib.compareBytes l m = - Lib.compareBytes m l ∧ (Lib.compareBytes l m = 0 ↔ l = m)
  | [], [] => by simp [Lib.compareBytes]
  | [], _ :: _ => by simp [Lib.compareBytes]
  | _ :: _, [] => by simp [Lib.compareBytes]
  | a :: l, b :: m => by
    have ih := cmp_bytes l m
    simp only [Lib.compareBytes]
    by_cases h1 : a < b
    · have h2 : ¬ b < a := fun h => by have := UInt8.lt_iff_toNat_lt.1 h1; have := UInt8.lt_iff_toNat_lt.1 h; omega
      have h3 : a ≠ b := fun h => by subst h; exact h2 h1
      rw [if_pos h1, if_neg h2, if_pos h1]
      exact ⟨by omega, rfl, ⟨fun h => by omega, fun h => by cases h; exact absurd rfl h3⟩⟩
    · by_cases h2 : b < a
      · have h3 : a ≠ b := fun h => by subst h; exact h1 h2
        rw [if_neg h1, if_pos h2, if_pos h2]
        exact ⟨by omega, rfl, ⟨fun h => by omega, fun h => by cases h; exact absurd rfl h3⟩⟩
      · have h3 : a = b := by
          apply UInt8.toNat.inj
          have q1 : ¬ a.toNat < b.toNat := fun h => h1 (UInt8.lt_iff_toNat_lt.2 h)
          have q2 : ¬ b.toNat < a.toNat := fun h => h2 (UInt8.lt_iff_toNat_lt.2 h)
          omega
        subst h3
        rw [if_neg h1, if_neg h1, if_neg h1, if_neg h1]
        exact ⟨ih.1, ih.2.1, ⟨fun h => by rw [ih.2.2.1 h], fun h => by cases h; exact ih.2.2.2 rfl⟩⟩
theorem cmp_bytes_lt : ∀ l m k : List UInt8, Lib.compareBytes l m < 0 → Lib.compareBytes m k < 0 → Lib.compareBytes l k < 0
  | [], [], _, h, _ => by simp [Lib.compareBytes] at h
  | [], _ :: _, [], _, h => by simp [Lib.compareBytes] at h
  | [], _ :: _, _ :: _, _, _ => by simp [Lib.compareBytes]
  | _ :: _, [], _, h, _ => by simp [Lib.compareBytes] at h
  | _ :: _, _ :: _, [], _, h => by simp [Lib.compareBytes] at h
  | a :: l, b :: m, c :: k, h, h' => by
    have ih := cmp_bytes_lt l m k
    simp only [Lib.compareBytes] at h h' ⊢
    simp only [UInt8.lt_iff_toNat_lt] at h h' ⊢
    split at h <;> split at h' <;> (try split at h) <;> (try split at h') <;> (try (exfalso; omega)) <;> split <;> (try omega) <;> (try split) <;> (try (exfalso; omega)) <;> exact ih h h'
theorem cmp3A : Cmp3 cmpA where
  bd x y := (cmp_bytes x.l y.l).1
  anti x y := (cmp_bytes x.l y.l).2.1
  zero x y := ⟨fun h => Ad.ext ((cmp_bytes x.l y.l).2.2.1 h), fun h => (cmp_bytes x.l y.l).2.2.2 (by rw [h])⟩
  lt x y z h1 h2 := cmp_bytes_lt _ _ _ h1 h2
theorem cmp3I : Cmp3 Lib.compareInt := by
  refine ⟨fun x y => ?_, fun x y => ?_, fun x y => ?_, fun x y z h1 h2 => ?_⟩ <;> simp only [Lib.compareInt] at * <;> (repeat' split at *) <;> omega
theorem cmp3P : Cmp3 cmpP := Cmp3.both cmp3A cmp3I Pf.a Pf.n fun _ _ h h' => Pf.ext h h'
theorem cmp3Q : Cmp3 cmpQ := Cmp3.both cmp3P cmp3P Pr.d Pr.s fun _ _ h h' => Pr.ext h h'
end Go.Proofs.YtimpopolkofdgaaGreatDoor
