/-
  Slices of metrics that are made anew: what append answers.
-/
import Derived.Test.YtodemeilmaoodaaSLive
import Derived.Laws.AppendOwnNone
namespace Go.Proofs.Ytodemeilmaoodaa
open Go.RowKit
set_option linter.unusedSimpArgs false
/-- The cells of metrics. -/
def mc (l : List Nat) : List Value := l.map fun (n : Nat) => Value.int .u16 n
theorem mc_len (l : List Nat) : (mc l).length = l.length := by simp [mc]
theorem mc_append (l m : List Nat) : mc (l ++ m) = mc l ++ mc m := by simp [mc]
theorem mc_one (l : List Nat) : ∀ u ∈ mc l, u.oneCell' = true := by
  intro u hu
  obtain ⟨_, _, rfl⟩ := List.mem_map.1 hu
  rfl
theorem mc_get {l : List Nat} {j : Nat} {u : Value} (h : (mc l)[j]? = some u) : ∃ h : j < l.length, u = .int .u16 (l[j] : Nat) := by
  unfold mc at h
  rw [List.getElem?_map] at h
  by_cases hj : j < l.length
  · rw [List.getElem?_eq_getElem hj] at h
    cases h
    exact ⟨hj, rfl⟩
  · rw [List.getElem?_eq_none (by omega)] at h
    cases h
theorem Mts.below {w w' : World} {B : Nat} {a : Option Addr} {n : Nat} {l : List Nat} (h : Mts w a n l) (hb : Below B w w') (hB : ∀ ad, a = some ad → l ≠ [] → ad.block < B) : Mts w' a n l :=
  ⟨h.len, h.bare, h.small, fun ad had j hj => by
    have hbk : (ad.add j).block = ad.block := by unfold Addr.add; split <;> rfl
    exact (hb.cell (by rw [hbk]; exact hB ad had (by rintro rfl; simp at hj))).trans (h.cell ad had j hj)⟩
theorem Mts.lt {w : World} {a : Option Addr} {n : Nat} {l : List Nat} (h : Mts w a n l) : ∀ ad, a = some ad → l ≠ [] → ad.block < w.heap.size := by
  intro ad had hl
  have h0 : 0 < l.length := List.length_pos_iff.2 hl
  have := block_lt_of_cell (h.cell ad had 0 h0)
  have hb : (ad.add 0).block = ad.block := by unfold Addr.add; split <;> rfl
  rwa [hb] at this
theorem Mts.stay {w w' : World} {a : Option Addr} {n : Nat} {l : List Nat} (h : Mts w a n l) (hb : Below w.heap.size w w') : Mts w' a n l := h.below hb h.lt
theorem info16 : (Try.prog.info? 22).map (fun i => (i.zero, i.size, i.bytes)) = some (some (.int .u16 0), 1, 2) := by kernel_rfl
theorem app_some {w : World} {ops : Array Oper} {rest : List Oper} {o : Oper} {a : Act} {Q : Exit → Act → World → Prop} (s x : Operand) (hw : Region.wanted o (yielded ops a.tmps) = true)
    (ho : o.op = .call { callee := .builtin .append, args := #[s, x], argTypes := #[23, 23] })
    (base : Nat) (v : Value) (n : Nat) (L : List Nat) (hs : a.eval s = v) (hown : w.ownsRow base 22 1 v n (mc L))
    (ad : Addr) (m c : Nat) (l : List Nat) (hx : a.eval x = .slice (some ad) m c) (hsrc : Mts w (some ad) m l)
    (hbytes : n + m ≤ 70368744177664) (hbase : base ≤ w.heap.size)
    (h : ∀ v' w', w'.ownsRow base 22 1 v' (n + m) (mc (L ++ l)) → w.grownBy w' v.ownBlock → wpList Try.prog ops Q rest (a.put o.dst v') w') : wpList Try.prog ops Q (o :: rest) a w := by
  obtain ⟨i0, hi, hz0, hz1, hz2⟩ := info_parts info16
  refine wpList_step fun K hK => ?_
  rw [if_pos hw]
  refine wp_append_own w s x 23 ho base 22 i0 (.int .u16 0) 1 2 Try.underlying23 hi hz0 hz1 hz2 rfl (by decide) v n (mc L) hs hown ad m c (mc l) hx (by rw [mc_len, hsrc.len]; omega) ?_ (mc_one l) (by unfold maxLen; omega) (by omega) hbase (fun v' w' h1 h2 _ => hK _ _ (h v' w' (by rw [mc_append]; exact h1) h2))
  intro j u hu
  obtain ⟨hj, rfl⟩ := mc_get hu
  exact hsrc.cell ad rfl j hj
theorem app_m {w : World} {ops : Array Oper} {rest : List Oper} {o : Oper} {a : Act} {Q : Exit → Act → World → Prop} (hgd : o.guard = none) (s x : Operand)
    (ho : o.op = .call { callee := .builtin .append, args := #[s, x], argTypes := #[23, 23] })
    (base : Nat) (v : Value) (n : Nat) (L : List Nat) (hs : a.eval s = v) (hown : w.ownsRow base 22 1 v n (mc L))
    (ad : Option Addr) (m c : Nat) (l : List Nat) (hx : a.eval x = .slice ad m c) (hc : ad = none → c = 0) (hsrc : Mts w ad m l)
    (hbytes : n + m ≤ 70368744177664) (hbase : base ≤ w.heap.size)
    (h : ∀ v' w', w'.ownsRow base 22 1 v' (n + m) (mc (L ++ l)) → w.grownBy w' v.ownBlock → wpList Try.prog ops Q rest (a.put o.dst v') w') : wpList Try.prog ops Q (o :: rest) a w := by
  cases ad with
  | some ad => exact app_some s x (by unfold Region.wanted; rw [hgd]) ho base v n L hs hown ad m c l hx hsrc hbytes hbase h
  | none =>
    obtain ⟨i0, hi, hz0, hz1, hz2⟩ := info_parts info16
    obtain rfl := hsrc.bare rfl
    obtain rfl := hc rfl
    have hn : l = [] := List.eq_nil_of_length_eq_zero hsrc.len
    subst hn
    refine wpList_append_own_none hgd s x 23 ho base 22 i0 1 Try.underlying23 hi v n (mc L) hs hown hx ?_
    exact h v w (by simpa using hown) (World.grownBy.refl _ _)
theorem own_m {w : World} {B : Nat} {v : Value} {n : Nat} {l : List Nat} (h : w.ownsRow B 22 1 v n (mc l)) (hs : ∀ x ∈ l, x < 65536) : ∃ a c, v = .slice a n c ∧ Mts w a n l := by
  have hl := h.1
  have hn : l.length = n := by rw [mc_len] at hl; omega
  rcases h.2 with ⟨rfl, rfl⟩ | ⟨g, cap, cur, rfl, hb, hh, hr⟩
  · exact ⟨none, 0, rfl, hn, fun _ => rfl, hs, fun _ h => by cases h⟩
  · refine ⟨some ⟨g, 0, none⟩, cap, rfl, hn, (fun h => by cases h), hs, fun ad had j hj => ?_⟩
    cases had
    exact h.cells rfl j _ (by simp [mc, hj])
theorem own_below {W W' : World} {n0 k : Nat} {xs : List Value} {v : Value} (ho : W.ownsRow n0 22 1 v k xs) (hb : Below W.heap.size W W') : W'.ownsRow n0 22 1 v k xs :=
  ho.kept (row := none) ⟨hb.os, hb.tape, hb.output, hb.size, fun i hi _ => hb.block i hi⟩ (by cases v.ownBlock <;> simp)
theorem own_ge {w : World} {base : Nat} {v : Value} {n : Nat} {xs : List Value} (h : w.ownsRow base 22 1 v n xs) : ∀ k, v.ownBlock = some k → base ≤ k := fun k hk => (h.lt k hk).1
end Go.Proofs.Ytodemeilmaoodaa
