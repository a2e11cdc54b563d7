/-
  Want.
-/
import Derived.Test.YtiihlgcafppehaaFR
namespace Go.Proofs.Ytiihlgcafppehaa
open Go.RowKit Go.Maps Go.Shelf
set_option linter.unusedSimpArgs false
set_option linter.unusedVariables false
set_option maxRecDepth 20000
section
variable {ops : Array Oper} {rest : List Oper} {op : Oper} {a : Act} {w w' : World} {Q : Exit → Act → World → Prop} {K : Act → World → Prop}
theorem wp_stMap (x y : Operand) (ho : op.op = .store 67 x y) (b c : Nat) {U : TypeId} (cs : List Value) (n : Nat) (hx : a.eval x = .pointer (some ⟨b, c, none⟩)) (hy : a.eval y = .map (some n)) (hr : Row w b U cs) (hc : c < cs.length)
    (h : ∀ W, w.grownBy W (some b) → Row W b U (cs.set c (.map (some n))) → K (a.put op.dst undef) W) : Oper.wp Try.prog op a w K Q := by
  have c1 : w.cell? ⟨b, c, none⟩ = some cs[c] := by rw [hr.cell]; exact List.getElem?_eq_getElem hc
  have c2 := hr.frozen c
  have h1 := h _ (gb_set w b c (.map (some n))) (hr.set c (.map (some n)))
  unfold Oper.wp execOp
  simp only [ho, hx, hy]
  go_simp
  exact h1
/-- What is wanted: it is written. -/
theorem stMW (x y : Operand) (hw : Region.wanted op (yielded ops a.tmps) = true) (ho : op.op = .store 67 x y) (b : Nat) (n : Nat) (v : Fv) {U : TypeId} (hx : a.eval x = .pointer (some ⟨b, 0, none⟩)) (hy : a.eval y = .map (some n)) (hr : Row w b U (fcs v))
    (h : ∀ W, w.grownBy W (some b) → Row W b U (fcs ⟨n, v.mH, v.mA, v.d, v.pl, v.ti⟩) → wpList Try.prog ops Q rest (a.put op.dst undef) W) : wpList Try.prog ops Q (op :: rest) a w :=
  wpList_step fun K hK => by
    rw [if_pos hw]
    exact wp_stMap x y ho b 0 _ n hx hy hr (by rw [fcs_len]; omega) fun W h1 h2 => hK _ _ (h W h1 (by rwa [fcs_w] at h2))
end
theorem want_nil (v : Value) (w : World) : Calls Try.prog 17 #[.pointer none, v] w (Gives w (.tuple #[])) := by
  go_enter Try.func17, Try.ntmps17
  go_wp2_with fail
  go_end0
  exact ⟨rfl, Below.refl _ _⟩
set_option maxHeartbeats 4000000 in
theorem want_of {w : World} {f : Nat} {x : Fv} {W H : List En} {A : List (Pr × Int)} {ad : Option Addr} {n c : Nat} {K : List En} (h : Fb w f x W H A)
    (hX : Calls Try.prog 13 #[.slice ad n c] w fun e' w' => ∃ a' c', e' = .returned (.slice a' K.length c') ∧ EsW w' a' K ∧ Below w.heap.size w w') (hf : ∀ e ∈ K, wfQ e.p) (hn : K.length ≤ 1000000) :
    Calls Try.prog 17 #[.pointer (some ⟨f, 0, none⟩), .slice ad n c] w fun e' w' => e' = .returned (.tuple #[]) ∧ ∃ mW, w.heap.size ≤ mW ∧ Fb w' f ⟨mW, x.mH, x.mA, x.d, x.pl, -9223372036854775808⟩ (tabR K) H A ∧ FTurn w w' f x := by
  have hlt := tab_len K
  go_enter Try.func17, Try.ntmps17
  go_upto_region 1 with fail
  go_upto_region 2 with (first
    | (have kk := hb2; (with_reducible refine stMW (U := 79) (.tmp 11) (.tmp 9) ?_ ?_ f mW x ?_ ?_ ?_ ?_); (focus rfl); (focus rfl); (focus rfl); (focus rfl); (focus exact hb2.row); intro W3 gr3 r3)
    | (have kk := hT; go_at_call 31; refine hT.mono ?_; rintro e' W2 ⟨mW, rfl, m2, k2w, k2⟩; have hb2 := hb1.below k2)
    | (go_at_call 13; refine hX.mono ?_; rintro e' W1 ⟨a', c', rfl, hE, k1⟩; have hb1 := h.below k1; have hT := table_any a' c' K hE hf hn))
  have s12 := bt k1 k2
  have hmW : w.heap.size ≤ mW := Nat.le_trans k1.size k2w
  have t3 : FTurn w W3 f x := (FTurn.of s12).trans (FTurn.self gr3) (y := x) rfl rfl
  have hB3 : Fb W3 f ⟨mW, x.mH, x.mA, x.d, x.pl, x.ti⟩ (tabR K) H A :=
    ⟨r3, m2.keep gr3 (m2.ne_row hb2.row).symm, hb2.mh.keep gr3 (hb2.mh.ne_row hb2.row).symm, hb2.ma.keep gr3 (hb2.ma.ne_row hb2.row).symm, by have := h.mh.lt; show mW ≠ x.mH; omega, by have := h.ma.lt; show mW ≠ x.mA; omega, h.ha, by omega, h.lh, h.la⟩
  clear h hX hf hn hlt k1 k2 hb1 hb2 m2 gr3 r3 s12
  go_wp2_with ((with_reducible refine stTi (U := 79) (.tmp 14) (.const (.int .i64 (-9223372036854775808))) ?_ ?_ f (-9223372036854775808) ⟨mW, x.mH, x.mA, x.d, x.pl, x.ti⟩ ?_ ?_ ?_ ?_); (focus rfl); (focus rfl); (focus rfl); (focus rfl); (focus exact hB3.row); intro W4 gr4 r4)
  have hB4 := hB3.own_ gr4 _ _ _ r4
  have t4 : FTurn w W4 f x := t3.trans (FTurn.self gr4) (y := x) rfl rfl
  go_end0
  exact ⟨rfl, mW, hmW, hB4, t4⟩
theorem want_one {w : World} {f : Nat} {x : Fv} {W H : List En} {A : List (Pr × Int)} {ad : Option Addr} {c : Nat} {e : En} (h : Fb w f x W H A) (hl : EsW w ad [e]) (hf : wfQ e.p) (hk : Fa.chkQ e.p = 0) :
    Calls Try.prog 17 #[.pointer (some ⟨f, 0, none⟩), .slice ad 1 c] w fun e' w' => e' = .returned (.tuple #[]) ∧ ∃ mW, w.heap.size ≤ mW ∧ Fb w' f ⟨mW, x.mH, x.mA, x.d, x.pl, -9223372036854775808⟩ [e] H A ∧ FTurn w w' f x := by
  have := want_of (n := 1) (c := c) (ad := ad) (K := [e]) h ((expand_one ad c hl hf hk).mono (by rintro e' w' ⟨g', c', rfl, ho, hb⟩; exact ⟨_, _, rfl, (EsW.own ho).2, hb⟩)) (by simpa using hf) (by simp)
  rwa [tabR_one hk] at this
theorem want_none {w : World} {f : Nat} {x : Fv} {W H : List En} {A : List (Pr × Int)} {ad : Option Addr} {c : Nat} (h : Fb w f x W H A) :
    Calls Try.prog 17 #[.pointer (some ⟨f, 0, none⟩), .slice ad 0 c] w fun e' w' => e' = .returned (.tuple #[]) ∧ ∃ mW, w.heap.size ≤ mW ∧ Fb w' f ⟨mW, x.mH, x.mA, x.d, x.pl, -9223372036854775808⟩ [] H A ∧ FTurn w w' f x :=
  want_of (n := 0) (c := c) (ad := ad) (K := []) h ((expand_none ad c).mono (by rintro e' w' ⟨rfl, hb⟩; exact ⟨none, 0, rfl, ⟨.inl rfl⟩, hb⟩)) (by simp) (by simp)
end Go.Proofs.Ytiihlgcafppehaa
