/-
  The order in which timers come: a strict order of their times and names.
-/
import Derived.Test.YtkamcnjofpamhaaTSt
import Derived.Sort.Statements
namespace Go.Proofs.Ytkamcnjofpamhaa
open Go.RowKit
set_option linter.unusedSimpArgs false
theorem bl_irrefl : ∀ x : List UInt8, Op.bytesLess x x = false
  | [] => rfl
  | a :: x => by simp [Op.bytesLess, bl_irrefl x]
theorem bl_trans : ∀ x y z : List UInt8, Op.bytesLess x y = true → Op.bytesLess y z = true → Op.bytesLess x z = true
  | _, [], _, h, _ => by simp [Op.bytesLess] at h
  | _, _ :: _, [], _, h => by simp [Op.bytesLess] at h
  | [], _ :: _, _ :: _, _, _ => rfl
  | a :: x, b :: y, c :: z, h, k => by
    simp only [Op.bytesLess, Bool.or_eq_true, decide_eq_true_eq, Bool.and_eq_true, beq_iff_eq] at h k ⊢
    rcases h with h | ⟨rfl, h⟩
    · rcases k with k | ⟨rfl, k⟩
      · exact .inl (UInt8.lt_trans h k)
      · exact .inl h
    · rcases k with k | ⟨rfl, k⟩
      · exact .inl k
      · exact .inr ⟨rfl, bl_trans x y z h k⟩
theorem bl_tri : ∀ x y : List UInt8, Op.bytesLess x y = false → Op.bytesLess y x = false → x = y
  | [], [], _, _ => rfl
  | [], _ :: _, h, _ => by simp [Op.bytesLess] at h
  | _ :: _, [], _, h => by simp [Op.bytesLess] at h
  | a :: x, b :: y, h, k => by
    simp only [Op.bytesLess, Bool.or_eq_false_iff, decide_eq_false_iff_not, Bool.and_eq_false_iff, beq_eq_false_iff_ne] at h k
    have e : a = b := by
      have h1 := h.1
      have k1 := k.1
      rw [UInt8.not_lt] at h1 k1
      exact UInt8.le_antisymm k1 h1
    subst e
    have h2 : Op.bytesLess x y = false := by rcases h.2 with q | q; exact absurd rfl q; exact q
    have k2 : Op.bytesLess y x = false := by rcases k.2 with q | q; exact absurd rfl q; exact q
    rw [bl_tri x y h2 k2]
/-- One comes ahead of the other. -/
def Ah (s t : Tm) : Prop := s.tm < t.tm ∨ s.tm = t.tm ∧ Op.bytesLess s.nm.toList t.nm.toList = true
theorem cmpT_ah (s t : Tm) : cmpT s t < 0 ↔ Ah s t := by
  unfold cmpT orI cmpI cmpS Ah
  by_cases h1 : s.tm < t.tm
  · simp [h1]
  · by_cases h2 : t.tm < s.tm
    · have h3 : ¬ s.tm = t.tm := by omega
      simp [h1, h2, h3]
    · have h3 : s.tm = t.tm := by omega
      by_cases h4 : Op.bytesLess s.nm.toList t.nm.toList = true
      · simp [h3, h4]
      · by_cases h5 : (s.nm.toList == t.nm.toList) = true
        · simp [h3, h4, h5]
        · simp [h3, h4, h5]
theorem ah_irrefl (s : Tm) : ¬ Ah s s := by
  rintro (h | ⟨_, h⟩)
  · omega
  · rw [bl_irrefl] at h; cases h
theorem ah_trans {s t u : Tm} (h : Ah s t) (k : Ah t u) : Ah s u := by
  rcases h with h | ⟨e, h⟩ <;> rcases k with k | ⟨f, k⟩
  · exact .inl (by omega)
  · exact .inl (by omega)
  · exact .inl (by omega)
  · exact .inr ⟨by omega, bl_trans _ _ _ h k⟩
theorem ah_tri {s t : Tm} (h : ¬ Ah s t) (k : ¬ Ah t s) : s.tm = t.tm ∧ s.nm.toList = t.nm.toList := by
  have e : s.tm = t.tm := by
    have h1 : ¬ s.tm < t.tm := fun q => h (.inl q)
    have k1 : ¬ t.tm < s.tm := fun q => k (.inl q)
    omega
  refine ⟨e, bl_tri _ _ ?_ ?_⟩
  · cases q : Op.bytesLess s.nm.toList t.nm.toList with
    | false => rfl
    | true => exact absurd (.inr ⟨e, q⟩) h
  · cases q : Op.bytesLess t.nm.toList s.nm.toList with
    | false => rfl
    | true => exact absurd (.inr ⟨e.symm, q⟩) k
theorem ah_same {s s' : Tm} (h : s.tm = s'.tm ∧ s.nm.toList = s'.nm.toList) (t : Tm) : (Ah s t ↔ Ah s' t) ∧ (Ah t s ↔ Ah t s') := by
  unfold Ah
  rw [h.1, h.2]
  exact ⟨Iff.rfl, Iff.rfl⟩
theorem ah_ntrans {s t u : Tm} (h : ¬ Ah s t) (k : ¬ Ah t u) : ¬ Ah s u := by
  intro q
  by_cases h' : Ah t s
  · exact k (ah_trans h' q)
  · exact k ((ah_same (ah_tri h h') u).1.1 q)
theorem swo_cmpT {p : Tm → Prop} : Sort.SWO (fun x y : {t : Tm // p t} => decide (cmpT x.1 y.1 < 0)) :=
  ⟨fun _ => decide_eq_false (fun h => ah_irrefl _ ((cmpT_ah _ _).1 h)),
   fun _ _ _ h k => decide_eq_true ((cmpT_ah _ _).2 (ah_trans ((cmpT_ah _ _).1 (of_decide_eq_true h)) ((cmpT_ah _ _).1 (of_decide_eq_true k)))),
   fun _ _ _ h k => decide_eq_false (fun q => ah_ntrans (fun a => of_decide_eq_false h ((cmpT_ah _ _).2 a)) (fun a => of_decide_eq_false k ((cmpT_ah _ _).2 a)) ((cmpT_ah _ _).1 q))⟩
end Go.Proofs.Ytkamcnjofpamhaa
