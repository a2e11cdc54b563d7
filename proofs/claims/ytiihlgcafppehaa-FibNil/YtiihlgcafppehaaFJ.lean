/-
  Next: the first of the plan; the plan is made anew where it does not hold any more.
-/
import Derived.Test.YtiihlgcafppehaaFI
namespace Go.Proofs.Ytiihlgcafppehaa
open Go.RowKit Go.Maps Go.Shelf
set_option linter.unusedSimpArgs false
set_option linter.unusedVariables false
set_option maxRecDepth 20000
/-- The plan in memory, from block B on. -/
def PlX (w : World) (B : Nat) (pl : Value) (P : List Oq) : Prop := ∃ ad c, pl = .slice ad P.length c ∧ P.length ≤ c ∧ (P = [] ∨ ∃ g o cs, ad = some ⟨g, o, none⟩ ∧ B ≤ g ∧ Row w g 52 cs ∧ ∀ (j : Nat) (p : Oq), P[j]? = some p → LO w g (o + j * 52) p)
section
variable {w w1 w' : World} {f B : Nat} {x : Fv} {W H : List En} {A : List (Pr × Int)} {pl : Value} {P : List Oq}
theorem lo_row {g o : Nat} {T : TypeId} {cs : List Value} {q : Oq} (h : LO w g o q) (hr : Row w g T cs) (hr' : Row w' g T cs) : LO w' g o q := fun i v hv => by
  have h3 := h i v hv
  rw [hr.cell] at h3
  rw [hr'.cell]
  exact h3
theorem PlX.of (h : kO.Own w B pl P) : PlX w B pl P := by
  obtain ⟨ad, c, e, hat⟩ := Kd.own_at h
  rcases h.2 with ⟨e2, h0⟩ | ⟨g, cap, cur, e2, hB, hh, hc1, _⟩
  · refine ⟨ad, c, e, ?_, .inl (List.eq_nil_of_length_eq_zero h0)⟩
    omega
  · have e3 : ad = some ⟨g, 0, none⟩ ∧ c = cap := by rw [e] at e2; cases e2; exact ⟨rfl, rfl⟩
    refine ⟨ad, c, e, by rw [e3.2]; exact hc1, ?_⟩
    by_cases hP : P = []
    · exact .inl hP
    · obtain ⟨g', e4, hB', hg', _, hl⟩ := hat hP
      obtain ⟨_, cs, hr⟩ := ownO_row h (b := g') (by rw [e, e4]; rfl)
      exact .inr ⟨g', 0, cs, e4, hB', hr, fun j p hp => by rw [Nat.zero_add]; exact hl j p hp⟩
theorem PlX.mono {B' : Nat} (h : PlX w B pl P) (hB : B' ≤ B) : PlX w B' pl P := by
  obtain ⟨ad, c, e, hc, h1⟩ := h
  refine ⟨ad, c, e, hc, ?_⟩
  rcases h1 with h1 | ⟨g, o, cs, e2, hBg, hr⟩
  · exact .inl h1
  · exact .inr ⟨g, o, cs, e2, Nat.le_trans hB hBg, hr⟩
theorem PlX.rows (h : PlX w B pl P) (hk : ∀ g cs, B ≤ g → Row w g 52 cs → Row w' g 52 cs) : PlX w' B pl P := by
  obtain ⟨ad, c, e, hc, h1⟩ := h
  refine ⟨ad, c, e, hc, ?_⟩
  rcases h1 with h1 | ⟨g, o, cs, e2, hBg, hr, hl⟩
  · exact .inl h1
  · exact .inr ⟨g, o, cs, e2, hBg, hk g cs hBg hr, fun j p hp => lo_row (hl j p hp) hr (hk g cs hBg hr)⟩
theorem PlX.below (h : PlX w B pl P) (hb : Below w.heap.size w w') : PlX w' B pl P := h.rows fun g cs _ hr => hr.below hb hr.lt
theorem PlX.turn (p : PlX w B pl P) (h : FTurn w w' f x) (hf : Fb w f x W H A) : PlX w' B pl P := p.rows fun g cs _ hr => h.row hf hr (row_ne hr hf.row (by decide))
theorem PlX.self (p : PlX w B pl P) (hg : w.grownBy w' (some f)) (hf : Fb w f x W H A) : PlX w' B pl P := p.rows fun g cs _ hr => hr.keep hg (row_ne hr hf.row (by decide))
theorem PTurn.of (h : Below w.heap.size w w') : PTurn w w' f := ⟨h.os, h.tape, h.output, h.size, fun i hi _ => h.block i hi⟩
theorem PTurn.self (h : w.grownBy w' (some f)) : PTurn w w' f := ⟨h.os, h.tape, h.output, h.size, fun i hi h1 => h.block i hi (fun e => h1 (by cases e; rfl))⟩
theorem PTurn.trans (h : PTurn w w1 f) (k : PTurn w1 w' f) : PTurn w w' f :=
  ⟨k.os.trans h.os, k.tape.trans h.tape, k.out.trans h.out, Nat.le_trans h.size k.size, fun i hi h1 => (k.block i (Nat.lt_of_lt_of_le hi h.size) h1).trans (h.block i hi h1)⟩
theorem PTurn.row {g : Nat} {T : TypeId} {cs : List Value} (h : PTurn w w' f) (hr : Row w g T cs) (hne : g ≠ f) : Row w' g T cs := (h.block g hr.lt hne).trans hr
theorem PTurn.ft (h : PTurn w w' f) : FTurn w w' f x := ⟨h.os, h.tape, h.out, h.size, fun i hi h1 _ _ => h.block i hi h1⟩
end
/-- What Next answers, out of a plan. -/
def NextP (w : World) (f B : Nat) (x : Fv) (W H : List En) (A : List (Pr × Int)) (P : List Oq) (e : Ending) (w' : World) : Prop :=
  (P = [] ∧ e = .returned (.tuple #[oV zeroO, .bool false]) ∧ Fb w' f x W H A ∧ PlX w' B x.pl [] ∧ PTurn w w' f) ∨ ∃ op P' pl', P = op :: P' ∧ e = .returned (.tuple #[oV op, .bool true]) ∧ Fb w' f ⟨x.mW, x.mH, x.mA, op, pl', x.ti⟩ W H A ∧ PlX w' B pl' P' ∧ PTurn w w' f
theorem next_busy {w : World} {f : Nat} {x : Fv} {W H : List En} {A : List (Pr × Int)} (h : Fb w f x W H A) (now : Int) (hk : x.d.k ≠ 0) : Calls Try.prog 18 #[.pointer (some ⟨f, 0, none⟩), .int .i64 now] w (Gives w (.tuple #[oV zeroO, .bool false])) := by
  have hb := fun V (hV : Below w.heap.size w V) => busy_any (h.below hV)
  rw [show (x.d.k != 0) = true by simpa using hk] at hb
  clear h hk
  go_enter Try.func18, Try.ntmps18
  go_wp2_with (first
    | ((with_reducible refine stO (.tmp 4) (.tmp 12) ?_ ?_ g4 zeroO zeroO ?_ ?_ ?_ ?_); (focus rfl); (focus rfl); (focus rfl); (focus rfl); (focus exact r4); intro W7 g7 r7)
    | ((with_reducible refine bdG [] ?_ ?_ ?_ ?_); (focus rfl); (focus rfl); (focus exact bdO0 _))
    | (go_at_call 38; refine (hb _ b4).mono ?_; rintro e w1 ⟨rfl, rfl⟩)
    | ((with_reducible refine alG infoOz ?_ ?_ ?_); (focus rfl); (focus rfl); intro g4 W4 h4 l4 b4 r4))
  exact bodyPost_ret (retCT rfl _ _ 0 rfl (lvO r7)) rfl ⟨rfl, grown_below g7 b4 h4 b4.size⟩
end Go.Proofs.Ytiihlgcafppehaa
