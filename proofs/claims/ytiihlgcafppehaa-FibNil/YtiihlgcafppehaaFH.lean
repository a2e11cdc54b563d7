/-
  What a plan is: for the pairs of a list; what a round of makePlan's loops leaves.
-/
import Derived.Test.YtiihlgcafppehaaFG
import Derived.Maps.RangeWalk
namespace Go.Proofs.Ytiihlgcafppehaa
open Go.RowKit Go.Maps Go.Shelf
set_option linter.unusedSimpArgs false
set_option linter.unusedVariables false
set_option maxRecDepth 20000
def lays (W H : List En) (A : List (Pr × Int)) (now : Int) (ks : List Pr) : List Oq := ks.flatMap (layP W H A now)
def layTs (W H : List En) (A : List (Pr × Int)) (now t : Int) (ks : List Pr) : Int := ks.foldl (layT W H A now) t
def maxT : Int := 9223372036854775807
theorem lays_snoc (W H : List En) (A : List (Pr × Int)) (now : Int) (ks : List Pr) (p : Pr) : lays W H A now (ks ++ [p]) = lays W H A now ks ++ layP W H A now p := by simp [lays]
theorem layTs_snoc (W H : List En) (A : List (Pr × Int)) (now t : Int) (ks : List Pr) (p : Pr) : layTs W H A now t (ks ++ [p]) = layT W H A now (layTs W H A now t ks) p := by simp [layTs]
theorem todR_key {W H : List En} {p : Pr} {op : Oq} (h : todR W H p = some op) : op.e.p = p := by
  unfold todR at h
  cases h1 : getN mE H p with
  | none =>
    cases h2 : getN mE W p with
    | none => rw [h1, h2] at h; cases h
    | some e => rw [h1, h2] at h; cases h; exact (getN_some h2).2
  | some o =>
    cases h2 : getN mE W p with
    | none => rw [h1, h2] at h; cases h; exact (getN_some h1).2
    | some e =>
      rw [h1, h2] at h
      by_cases hb : eqEn o e = true
      · simp [todO, hb] at h
      · simp [todO, hb] at h
        rw [← h]
        exact (getN_some h2).2
theorem layP_one (W H : List En) (A : List (Pr × Int)) (now : Int) (p : Pr) : layP W H A now p = [] ∨ ∃ op, todR W H p = some op ∧ layP W H A now p = [op] := by
  unfold layP layO
  cases h : todR W H p with
  | none => exact .inl rfl
  | some op =>
    by_cases hw : waitB A now p = true
    · exact .inl (by simp [hw])
    · exact .inr ⟨op, rfl, by simp [hw]⟩
theorem lays_mem {W H : List En} {A : List (Pr × Int)} {now : Int} {ks : List Pr} {op : Oq} (h : op ∈ lays W H A now ks) : op.e.p ∈ ks ∧ todR W H op.e.p = some op := by
  obtain ⟨p, hp, ho⟩ := List.mem_flatMap.1 h
  rcases layP_one W H A now p with e | ⟨op', h1, e⟩
  · rw [e] at ho; cases ho
  · rw [e] at ho
    simp at ho
    subst ho
    have := todR_key h1
    rw [this]
    exact ⟨hp, h1⟩
theorem lays_len (W H : List En) (A : List (Pr × Int)) (now : Int) (ks : List Pr) : (lays W H A now ks).length ≤ ks.length := by
  induction ks with
  | nil => simp [lays]
  | cons p ks ih =>
    have e : lays W H A now (p :: ks) = layP W H A now p ++ lays W H A now ks := by simp [lays]
    rw [e, List.length_append]
    have : (layP W H A now p).length ≤ 1 := by
      rcases layP_one W H A now p with e | ⟨_, _, e⟩ <;> rw [e] <;> simp
    simp only [List.length_cons]
    omega
theorem lays_nd {W H : List En} {A : List (Pr × Int)} {now : Int} : ∀ {ks : List Pr}, ks.Nodup → ((lays W H A now ks).map Oo.oky).Nodup
  | [], _ => by simp [lays]
  | p :: ks, h => by
    rw [List.nodup_cons] at h
    have e : lays W H A now (p :: ks) = layP W H A now p ++ lays W H A now ks := by simp [lays]
    rw [e, List.map_append, List.nodup_append]
    refine ⟨?_, lays_nd h.2, ?_⟩
    · rcases layP_one W H A now p with e | ⟨_, _, e⟩ <;> rw [e] <;> simp
    · intro a ha b hb e2
      obtain ⟨o1, ho1, rfl⟩ := List.mem_map.1 ha
      obtain ⟨o2, ho2, rfl⟩ := List.mem_map.1 hb
      have h2 := (lays_mem ho2).1
      have e3 : o1.e.p = o2.e.p := congrArg Prod.snd e2
      rcases layP_one W H A now p with e4 | ⟨op, h4, e4⟩
      · rw [e4] at ho1; cases ho1
      · rw [e4] at ho1
        simp at ho1
        subst ho1
        rw [todR_key h4] at e3
        exact h.1 (e3 ▸ h2)
/-- The pairs about which something may be to be done: those that the kernel has, and the others that are wanted. -/
def keysP (W H : List En) : List Pr := H.map En.p ++ (W.filter fun e => (getN mE H e.p).isNone).map En.p
theorem ranges_turn {w w' : World} {k : TypeId} {mb it n f B : Nat} {D : DataW Value} {left : Lit → Bool} {cnt : Nat} (h : w.ranges Try.prog k elV mb it n D left cnt) (ht : LTurn w w' f B) (h1 : mb ≠ f) (h2 : it ≠ f) : w'.ranges Try.prog k elV mb it n D left cnt := by
  obtain ⟨es, clock, since, seen, c0, hb, F, hs, hD, hr, rest⟩ := h
  exact ⟨es, clock, since, seen, c0, (ht.map hb h1).trans hb, F, hs, hD, (ht.block it (Array.getElem?_eq_some_iff.1 hr).1 h2 (fun _ cs fr e => by rw [hr] at e; cases e)).trans hr, rest⟩
theorem ranges_it {w : World} {k : TypeId} {mb it n : Nat} {D : DataW Value} {left : Lit → Bool} {cnt : Nat} (h : w.ranges Try.prog k elV mb it n D left cnt) : ∃ m s1 s2 c0, w.heap[it]? = some (.mapIter m s1 s2 c0) := by
  obtain ⟨es, clock, since, seen, c0, hb, F, hs, hD, hr, rest⟩ := h
  exact ⟨_, _, _, _, hr⟩
section
variable {w w' : World} {f B bf bn it : Nat} {now : Int} {x : Fv} {W H : List En} {A : List (Pr × Int)} {P : List Oq}
/-- A range goes on: nothing of the plan has turned. -/
theorem Ly.iter (h : Ly w f B bf bn now x W H A P) {m : Option Nat} {s1 c0 : Nat} {s2 : Array Nat} (hi : w.heap[it]? = some (.mapIter m s1 s2 c0)) (hg : w.grownBy w' (some it)) : Ly w' f B bf bn now x W H A P := by
  have k1 : ∀ {g : Nat} {T : TypeId} {cs : List Value}, Row w g T cs → Row w' g T cs := fun {g T cs} hr => hr.keep hg (by
    rintro rfl
    unfold Row at hr
    rw [hi] at hr
    cases hr)
  have k2 : ∀ {α : Type} {k : Mk α} {mb : Nat} {L : List α}, Mp k w mb L → Mp k w' mb L := fun {α k mb L} hm => hm.keep hg (by
    rintro rfl
    obtain ⟨es, cl, e⟩ := hm.obj
    rw [hi] at e
    cases e)
  refine ⟨⟨k1 h.fb.row, k2 h.fb.mw, k2 h.fb.mh, k2 h.fb.ma, h.fb.wh, h.fb.wa, h.fb.ha, h.fb.lw, h.fb.lh, h.fb.la⟩, World.ownsRow.kept h.pl hg ?_, k1 h.bf, k1 h.bn, Nat.le_trans h.le hg.size⟩
  cases hv : x.pl.ownBlock with
  | none => exact .inl rfl
  | some b =>
    refine .inr (fun e => ?_)
    cases e
    obtain ⟨_, cs, h3⟩ := ownO_row h.pl hv
    unfold Row at h3
    rw [hi] at h3
    cases h3
end
end Go.Proofs.Ytiihlgcafppehaa
