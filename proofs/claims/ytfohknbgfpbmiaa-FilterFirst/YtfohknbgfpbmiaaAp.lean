/-
  Slices of rules of the call's own, and what is laid behind them.
-/
import Derived.Test.YtfohknbgfpbmiaaBs
import Derived.Laws.AppendOwnNone
namespace Go.Proofs.Ytfohknbgfpbmiaa
open Go.RowKit
set_option linter.unusedSimpArgs false
set_option maxRecDepth 20000
theorem info_parts {t : TypeId} {z : Value} {s b : Nat} (h : (Try.prog.info? t).map (fun i => (i.zero, i.size, i.bytes)) = some (some z, s, b)) : ∃ i, Try.prog.info? t = some i ∧ i.zero = some z ∧ i.size = s ∧ i.bytes = b := by
  cases hq : Try.prog.info? t with
  | none => simp [hq] at h
  | some i => simp [hq] at h; exact ⟨i, rfl, h.1, h.2.1, h.2.2⟩
def rcs (xs : List Ru) : List Value := xs.flatMap rcells
theorem rcs_len (ps : List Ru) : (rcs ps).length = ps.length * 50 := by
  induction ps with
  | nil => rfl
  | cons p ps ih => simp only [rcs, List.flatMap_cons, List.length_append, List.length_cons] at *; rw [ih, rcells_len]; omega
theorem rcs_append (ps qs : List Ru) : rcs (ps ++ qs) = rcs ps ++ rcs qs := by simp [rcs]
theorem rcs_one (ps : List Ru) : ∀ u ∈ rcs ps, u.oneCell' = true := by
  intro u hu
  obtain ⟨p, _, hu⟩ := List.mem_flatMap.1 hu
  exact rcells_one p u hu
theorem rcs_get (ps : List Ru) (j : Nat) (p : Ru) (h : ps[j]? = some p) (k : Nat) (hk : k < 50) : (rcs ps)[j * 50 + k]? = (rcells p)[k]? := by
  induction ps generalizing j with
  | nil => simp at h
  | cons q ps ih =>
    have e : rcs (q :: ps) = rcells q ++ rcs ps := by simp [rcs]
    rw [e]
    cases j with
    | zero =>
      simp at h
      subst h
      rw [List.getElem?_append_left (by rw [rcells_len]; omega)]
      simp
    | succ j =>
      rw [List.getElem?_append_right (by rw [rcells_len]; omega)]
      have e2 : (j + 1) * 50 + k - (rcells q).length = j * 50 + k := by rw [rcells_len]; omega
      rw [e2]
      exact ih j (by simpa using h)
theorem own_below {W W' : World} {B t s k : Nat} {xs : List Value} {v : Value} (ho : W.ownsRow B t s v k xs) (hb : Below W.heap.size W W') : W'.ownsRow B t s v k xs :=
  ho.kept (row := none) ⟨hb.os, hb.tape, hb.output, hb.size, fun i hi _ => hb.block i hi⟩ (by cases v.ownBlock <;> simp)
theorem own_shape2 {w : World} {B : Nat} {e : TypeId} {s : Nat} {v : Value} {n : Nat} {xs : List Value} (h : w.ownsRow B e s v n xs) : ∃ a c, v = .slice a n c := by
  rcases h.2 with ⟨rfl, rfl⟩ | ⟨g, cap, cur, rfl, _⟩
  · exact ⟨_, _, rfl⟩
  · exact ⟨_, _, rfl⟩
/-- A slice of the call's own leads to its rules. -/
theorem RlW.own {w : World} {B n c : Nat} {a : Option Addr} {l : List Ru} (h : w.ownsRow B 41 50 (.slice a n c) n (rcs l)) : RlW w a n l := by
  have hl : l.length = n := by have := h.1; rw [rcs_len] at this; omega
  refine ⟨hl, fun h0 => ?_⟩
  rcases h.2 with ⟨e, h1⟩ | ⟨g, cap, cur, e, _, hh, _⟩
  · exact absurd h1 h0
  · cases e
    refine ⟨g, 0, rfl, (Array.getElem?_eq_some_iff.1 hh).1, fun j q hq k u hu => ?_⟩
    have hk : k < 50 := by have := (List.getElem?_eq_some_iff.1 hu).1; rwa [rcells_len] at this
    have h2 := h.cells (g := g) rfl (j * 50 + k) u (by rw [rcs_get l j q hq k hk]; exact hu)
    rw [Addr.add_mid, Nat.zero_add] at h2
    rw [Nat.zero_add]
    exact h2
section
variable {w : World} {ops : Array Oper} {rest : List Oper} {o : Oper} {a : Act} {Q : Exit → Act → World → Prop}
/-- Append a rule to a row of the call's own. -/
theorem append_r (s x : Operand) (hw : Region.wanted o (yielded ops a.tmps) = true)
    (ho : o.op = .call { callee := .builtin .append, args := #[s, x], argTypes := #[22, 22] })
    (base : Nat) (v : Value) (n : Nat) (ps : List Ru) (hs : a.eval s = v) (hown : w.ownsRow base 41 50 v n (rcs ps))
    (ad : Option Addr) (m c : Nat) (qs : List Ru) (hx : a.eval x = .slice ad m c) (hq : RlW w ad m qs) (h0 : ad = none → c = 0)
    (hbytes : n + m ≤ 1000000000) (hbase : base ≤ w.heap.size)
    (h : ∀ v' w', w'.ownsRow base 41 50 v' (n + m) (rcs (ps ++ qs)) → w.grownBy w' v.ownBlock → wpList Try.prog ops Q rest (a.put o.dst v') w') : wpList Try.prog ops Q (o :: rest) a w :=
  wpList_step fun K hK => by
    rw [if_pos hw]
    obtain ⟨i0, hi, hz0, hz1, hz2⟩ := info_parts infoR
    cases ad with
    | none =>
      have hm : m = 0 := by
        by_cases e : m = 0
        · exact e
        · obtain ⟨g, o, e1, _⟩ := hq.mem e
          cases e1
      subst hm
      have hc := h0 rfl
      subst hc
      have hz : qs = [] := List.eq_nil_of_length_eq_zero hq.len
      subst hz
      have hrun := run_append_owned_none (P := Try.prog) (w := w) base 22 o.type 41 i0 50 Try.underlying22 hi v n (rcs ps) hown
      have h2 := h v w (by simpa using hown) (World.grownBy.refl _ _)
      unfold Oper.wp execOp
      simp only [ho, resolve, invoke, builtin, Sem.run_bind, Sem.run_pure, Result.andThen_ok, List.map_toArray, List.map_cons, List.map_nil, hs, hx, hrun]
      exact hK _ _ h2
    | some ad =>
      refine wp_append_own w s x 22 ho base 41 i0 (.agg (rcells zeroR).toArray) 50 120 Try.underlying22 hi hz0 hz1 hz2 (by simp [Value.cells, rcells_len]) (by decide) v n (rcs ps) hs hown ad m c (rcs qs) hx (by rw [rcs_len, hq.len]) (fun j u hu => ?_) (rcs_one qs) (by unfold maxLen; omega) (by omega) hbase (fun v' w' h1 h2 _ => hK _ _ (h v' w' (by rw [rcs_append]; exact h1) h2))
      have hj : j < qs.length * 50 := by have := (List.getElem?_eq_some_iff.1 hu).1; rwa [rcs_len] at this
      have hm : m ≠ 0 := by have := hq.len; omega
      obtain ⟨g, o, e, _, hcell⟩ := hq.mem hm
      cases e
      have hjq : j / 50 < qs.length := by omega
      have h3 := hcell (j / 50) qs[j / 50] (List.getElem?_eq_getElem hjq) (j % 50) u (by rw [← rcs_get qs (j / 50) _ (List.getElem?_eq_getElem hjq) (j % 50) (by omega), show j / 50 * 50 + j % 50 = j by omega]; exact hu)
      rw [Addr.add_mid]
      rw [show o + j / 50 * 50 + j % 50 = o + j by omega] at h3
      exact h3
end
end Go.Proofs.Ytfohknbgfpbmiaa
