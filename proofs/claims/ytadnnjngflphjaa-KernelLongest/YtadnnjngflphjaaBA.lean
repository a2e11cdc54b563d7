/-
  longest: what lies at the longest prefix that contains an address.
-/
import Derived.Test.YtadnnjngflphjaaB9
import Derived.Test.YtadnnjngflphjaaOfP
namespace Go.Proofs.Ytadnnjngflphjaa
open Go.RowKit Go.Maps
set_option linter.unusedSimpArgs false
set_option linter.unusedVariables false
set_option maxRecDepth 20000
theorem infoPz : (Try.prog.info? 33).map (·.zero) = some (some (.agg (pcells zeroP).toArray)) := by kernel_rfl
/-- What lies at the longest prefix of fewer than j bits. -/
def lng {α : Type} (k : Mk α) (L : List α) (a : Ad) : Nat → Option α
  | 0 => none
  | j + 1 => if (Fa.ofF a (j : Int)).2 = 0 then (match getN k L (Fa.ofF a (j : Int)).1 with | some x => some x | none => lng k L a j) else lng k L a j
theorem lng_bad {α : Type} {k : Mk α} {L : List α} {a : Ad} {j : Nat} (h : (Fa.ofF a (j : Int)).2 ≠ 0) : lng k L a (j + 1) = lng k L a j := if_neg h
theorem lng_none {α : Type} {k : Mk α} {L : List α} {a : Ad} {j : Nat} (h : (Fa.ofF a (j : Int)).2 = 0) (hg : getN k L (Fa.ofF a (j : Int)).1 = none) : lng k L a (j + 1) = lng k L a j := by
  show (if _ then _ else _) = _
  rw [if_pos h, hg]
theorem lng_some {α : Type} {k : Mk α} {L : List α} {a : Ad} {j : Nat} {x : α} (h : (Fa.ofF a (j : Int)).2 = 0) (hg : getN k L (Fa.ofF a (j : Int)).1 = some x) : lng k L a (j + 1) = some x := by
  show (if _ then _ else _) = _
  rw [if_pos h, hg]
theorem wf_small {n : Int} (h0 : 0 ≤ n) (h1 : n ≤ 128) : wfI n := by
  unfold wfI
  simp [Lit.wf, IntKind.min, IntKind.max, IntKind.signed, IntKind.bits]
  omega
theorem ahead_le (a : Ad) : 0 ≤ Fa.ahead a ∧ Fa.ahead a ≤ 96 := by
  unfold Fa.ahead
  split <;> omega
theorem of_wf (a : Ad) (n : Int) : wfP (Fa.ofF a n).1 := by
  have h := ahead_le a
  unfold Fa.ofF wfP
  split
  · exact wf_small (by show 0 ≤ Fa.ahead a + n; omega) (by show Fa.ahead a + n ≤ 128; omega)
  · exact wf_small (by decide) (by decide)
theorem minus_one {j : Nat} (h : j ≤ 129) : wrap64 ((j : Int) - 1) = (j : Int) - 1 := by unfold wrap64; omega
set_option maxHeartbeats 8000000 in
theorem longestO_any {w : World} (mv : Value) (L : List Ob) (hlk : ∀ (V : World) (p : Pf), Below w.heap.size w V → wfP p → (Instr.lookup 61 mv (Value.agg (pcells p).toArray) true).run Try.prog V = .ok (.tuple #[.map ((getN mO L p).getD zeroOb).r, .bool (getN mO L p).isSome]) V) (a : Ad) :
    Calls Try.prog 37 #[mv, (Value.agg (acells a).toArray)] w (Gives w (.tuple #[.map ((lng mO L a 129).getD zeroOb).r, .bool (lng mO L a 129).isSome])) := by
  have r0 := Row.new w 31 (acells a)
  have b0 := ba w (.cells (acells a).toArray 31)
  have hO := Fa.of_any a
  obtain ⟨R, hR⟩ : ∃ R, lng mO L a 129 = R := ⟨_, rfl⟩
  have HX : Hid (lng mO L a 129 = R) := hR
  rw [hR]
  clear hR
  go_enter Try.func37, Try.ntmps37
  go_wp2_with fail
  go_loopw [6] (fun v wr => ∃ j : Nat, j ≤ 129 ∧ v = .int .i64 ((j : Int) - 1) ∧ Hid (lng mO L a j = R) ∧ Row wr w.heap.size 31 (acells a) ∧ Below w.heap.size w wr) (fun v _ => ((intOf v) + 1).toNat)
  case atStart => exact ⟨129, Nat.le_refl _, rfl, HX, r0, b0⟩
  case round =>
    clear r0 b0 HX
    obtain ⟨j, hj, rfl, HJ, hr, hb⟩ := hrel
    cases j with
    | zero =>
      have d0 : decide ((0 : Int) ≤ ((0 : Nat) : Int) - 1) = false := by decide
      have HZ : Hid (R = none) := HJ.out.symm
      clear hlk hO HJ
      go_wp2_with fail
      exact bodyPost_ret (results_tmp2 rfl _ _ _) rfl ⟨by rw [HZ.out]; rfl, hb⟩
    | succ J =>
      have e1 : ((J + 1 : Nat) : Int) - 1 = (J : Int) := by omega
      rw [e1]
      have d0 : decide ((0 : Int) ≤ (J : Int)) = true := by simp
      have hw64 : wrap64 ((J : Int) - 1) = (J : Int) - 1 := minus_one (by omega)
      have HM : Hid ((((J : Int) - 1) + 1).toNat < ((J : Int) + 1).toNat) := by show _ < _; omega
      have hl := hr.lt
      have HL : Hid (J ≤ 129) := by show _ ≤ _; omega
      have hof := of_wf a (J : Int)
      have HB1 : Hid ((Fa.ofF a (J : Int)).2 ≠ 0 → lng mO L a J = R) := fun h => by have q := HJ.out; rwa [lng_bad h] at q
      have HB2 : Hid ((Fa.ofF a (J : Int)).2 = 0 → getN mO L (Fa.ofF a (J : Int)).1 = none → lng mO L a J = R) := fun h hg => by have q := HJ.out; rwa [lng_none h hg] at q
      have HB3 : Hid (∀ x, (Fa.ofF a (J : Int)).2 = 0 → getN mO L (Fa.ofF a (J : Int)).1 = some x → R = some x) := fun x h hg => by have q := HJ.out; rw [lng_some h hg] at q; exact q.symm
      have hO1 := fun W => hO (J : Int) W
      clear hO HJ
      generalize (Fa.ofF a (J : Int)).1 = p at *
      generalize (Fa.ofF a (J : Int)).2 = e at *
      have hlk1 := fun V hV => hlk V p hV hof
      clear hlk
      by_cases he : e = 0
      · subst he
        obtain ⟨g0, hg⟩ : ∃ g0, getN mO L p = g0 := ⟨_, rfl⟩
        rw [hg] at hlk1
        cases g0 with
        | some x =>
          have HR : Hid (R = some x) := HB3.out x rfl hg
          clear hg HB1 HB2 HB3
          go_wp2_with (first
            | (have kk := r7; (with_reducible refine lkG (.tmp 25) (.tmp 26) ?_ ?_ ?_ ?_ (hlk1 _ b7) ?_); (focus rfl); (focus rfl); (focus rfl); (focus rfl))
            | (have kk := r7; refine ldP (.tmp 7) rfl rfl _ _ p rfl r7.range ?_)
            | (have kk := q7; (with_reducible refine stP0 (.tmp 7) (.tmp 20) ?_ ?_ g7 p zeroP ?_ ?_ ?_ ?_); (focus rfl); (focus rfl); (focus rfl); (focus rfl); (focus exact q7); intro W7 gr7 r7; have b7 := bt (bt hb c5) (grown_below gr7 d6 h7 d6.size); clear q7)
            | (have kk := c5; (with_reducible refine alG infoPz ?_ ?_ ?_); (focus rfl); (focus rfl); intro g7 W6 h7 l7 d6 q7)
            | (go_at_call 51; refine (hO1 _).mono ?_; rintro e' W5 ⟨rfl, c5⟩)
            | (refine ldA (.tmp 3) rfl rfl _ _ a rfl hr.range ?_))
          exact bodyPost_ret (results_tmp2 rfl _ _ _) rfl ⟨by rw [HR.out]; rfl, b7⟩
        | none =>
          have HR : Hid (lng mO L a J = R) := HB2.out rfl hg
          clear hg HB1 HB2 HB3
          go_wp2_with (first
            | (have kk := r7; (with_reducible refine lkG (.tmp 25) (.tmp 26) ?_ ?_ ?_ ?_ (hlk1 _ b7) ?_); (focus rfl); (focus rfl); (focus rfl); (focus rfl))
            | (have kk := r7; refine ldP (.tmp 7) rfl rfl _ _ p rfl r7.range ?_)
            | (have kk := q7; (with_reducible refine stP0 (.tmp 7) (.tmp 20) ?_ ?_ g7 p zeroP ?_ ?_ ?_ ?_); (focus rfl); (focus rfl); (focus rfl); (focus rfl); (focus exact q7); intro W7 gr7 r7; have k7 := bt c5 (grown_below gr7 d6 h7 d6.size); have b7 := bt hb k7; clear q7)
            | (have kk := c5; (with_reducible refine alG infoPz ?_ ?_ ?_); (focus rfl); (focus rfl); intro g7 W6 h7 l7 d6 q7)
            | (go_at_call 51; refine (hO1 _).mono ?_; rintro e' W5 ⟨rfl, c5⟩)
            | (refine ldA (.tmp 3) rfl rfl _ _ a rfl hr.range ?_))
          go_roundw
          case rel => exact ⟨J, HL.out, by first | (rw [hw64]; rfl) | rfl | go_num, HR, hr.below k7 hl, b7⟩
          case measure => first | (rw [hw64]; simp only [intOf]; exact HM.out) | (simp only [intOf]; exact HM.out)
      · have HR : Hid (lng mO L a J = R) := HB1.out he
        have he' : (e == 0) = false := by simpa using he
        clear HB1 HB2 HB3 hlk1 he
        go_wp2_with (first
            | (have kk := q7; (with_reducible refine stP0 (.tmp 7) (.tmp 20) ?_ ?_ g7 p zeroP ?_ ?_ ?_ ?_); (focus rfl); (focus rfl); (focus rfl); (focus rfl); (focus exact q7); intro W7 gr7 r7; have k7 := bt c5 (grown_below gr7 d6 h7 d6.size); have b7 := bt hb k7; clear q7)
            | (have kk := c5; (with_reducible refine alG infoPz ?_ ?_ ?_); (focus rfl); (focus rfl); intro g7 W6 h7 l7 d6 q7)
            | (go_at_call 51; refine (hO1 _).mono ?_; rintro e' W5 ⟨rfl, c5⟩)
            | (refine ldA (.tmp 3) rfl rfl _ _ a rfl hr.range ?_))
        go_roundw
        case rel => exact ⟨J, HL.out, by first | (rw [hw64]; rfl) | rfl | go_num, HR, hr.below k7 hl, b7⟩
        case measure => first | (rw [hw64]; simp only [intOf]; exact HM.out) | (simp only [intOf]; exact HM.out)
set_option maxHeartbeats 8000000 in
theorem longestI_any {w : World} (mv : Value) (L : List Hd) (hlk : ∀ (V : World) (p : Pf), Below w.heap.size w V → wfP p → (Instr.lookup 74 mv (Value.agg (pcells p).toArray) true).run Try.prog V = .ok (.tuple #[hV ((getN mI L p).getD zeroH), .bool (getN mI L p).isSome]) V) (a : Ad) :
    Calls Try.prog 38 #[mv, (Value.agg (acells a).toArray)] w (Gives w (.tuple #[hV ((lng mI L a 129).getD zeroH), .bool (lng mI L a 129).isSome])) := by
  have r0 := Row.new w 31 (acells a)
  have b0 := ba w (.cells (acells a).toArray 31)
  have hO := Fa.of_any a
  obtain ⟨R, hR⟩ : ∃ R, lng mI L a 129 = R := ⟨_, rfl⟩
  have HX : Hid (lng mI L a 129 = R) := hR
  rw [hR]
  clear hR
  go_enter Try.func38, Try.ntmps38
  go_wp2_with (first
    | (have kk := r0; (with_reducible refine alG infoHz ?_ ?_ ?_); (focus rfl); (focus rfl); intro g4 W4 h4 l4 b4 q4))
  have r4 := r0.below b4 r0.lt
  have k4 := bt b0 b4
  have hg4 : w.heap.size < g4 := by simp at h4; omega
  clear r0 b0 b4 h4
  go_loopw [6] (fun v wr => ∃ j : Nat, j ≤ 129 ∧ v = .int .i64 ((j : Int) - 1) ∧ Hid (lng mI L a j = R) ∧ Row wr w.heap.size 31 (acells a) ∧ Row wr g4 67 (hcs zeroH) ∧ Below w.heap.size w wr) (fun v _ => ((intOf v) + 1).toNat)
  case atStart => exact ⟨129, Nat.le_refl _, rfl, HX, r4, q4, k4⟩
  case round =>
    clear r4 q4 k4 HX l4
    obtain ⟨j, hj, rfl, HJ, hr, hq, hb⟩ := hrel
    have hql := hq.lt
    cases j with
    | zero =>
      have d0 : decide ((0 : Int) ≤ ((0 : Nat) : Int) - 1) = false := by decide
      have HZ : Hid (R = none) := HJ.out.symm
      clear hlk hO HJ
      go_wp2_with (first
        | (have kk := q9; (with_reducible refine stH (.tmp 4) (.tmp 32) ?_ ?_ g4 zeroH zeroH ?_ ?_ ?_ ?_); (focus rfl); (focus rfl); (focus rfl); (focus rfl); (focus exact hq.below b9 hql); intro W7 g7 r7)
        | (have kk := q9; (with_reducible refine ldH (.tmp 11) ?_ ?_ g9 0 zeroH ?_ ?_ ?_); (focus rfl); (focus rfl); (focus rfl); (focus exact q9.hd))
        | ((with_reducible refine alG infoHz ?_ ?_ ?_); (focus rfl); (focus rfl); intro g9 W6 h9 l9 b9 q9))
      exact bodyPost_ret (retCT rfl _ _ 0 rfl (lvH r7)) rfl ⟨by rw [HZ.out]; rfl, grown_below g7 (bt hb b9) (Nat.le_of_lt hg4) (bt hb b9).size⟩
    | succ J =>
      have e1 : ((J + 1 : Nat) : Int) - 1 = (J : Int) := by omega
      rw [e1]
      have d0 : decide ((0 : Int) ≤ (J : Int)) = true := by simp
      have hw64 : wrap64 ((J : Int) - 1) = (J : Int) - 1 := minus_one (by omega)
      have HM : Hid ((((J : Int) - 1) + 1).toNat < ((J : Int) + 1).toNat) := by show _ < _; omega
      have hl := hr.lt
      have HL : Hid (J ≤ 129) := by show _ ≤ _; omega
      have hof := of_wf a (J : Int)
      have HB1 : Hid ((Fa.ofF a (J : Int)).2 ≠ 0 → lng mI L a J = R) := fun h => by have q := HJ.out; rwa [lng_bad h] at q
      have HB2 : Hid ((Fa.ofF a (J : Int)).2 = 0 → getN mI L (Fa.ofF a (J : Int)).1 = none → lng mI L a J = R) := fun h hg => by have q := HJ.out; rwa [lng_none h hg] at q
      have HB3 : Hid (∀ x, (Fa.ofF a (J : Int)).2 = 0 → getN mI L (Fa.ofF a (J : Int)).1 = some x → R = some x) := fun x h hg => by have q := HJ.out; rw [lng_some h hg] at q; exact q.symm
      have hO1 := fun W => hO (J : Int) W
      clear hO HJ
      generalize (Fa.ofF a (J : Int)).1 = p at *
      generalize (Fa.ofF a (J : Int)).2 = e at *
      have hlk1 := fun V hV => hlk V p hV hof
      clear hlk
      by_cases he : e = 0
      · subst he
        obtain ⟨g0, hg⟩ : ∃ g0, getN mI L p = g0 := ⟨_, rfl⟩
        rw [hg] at hlk1
        cases g0 with
        | some x =>
          have HR : Hid (R = some x) := HB3.out x rfl hg
          clear hg HB1 HB2 HB3
          go_wp2_with (first
            | (have kk := r9; (with_reducible refine stH (.tmp 4) (.tmp 31) ?_ ?_ g4 x zeroH ?_ ?_ ?_ ?_); (focus rfl); (focus rfl); (focus rfl); (focus rfl); (focus exact hq.below k9 hql); intro W9 gr4 r4)
            | (have kk := r9; (with_reducible refine ldH (.tmp 9) ?_ ?_ g9 0 x ?_ ?_ ?_); (focus rfl); (focus rfl); (focus rfl); (focus exact r9.hd))
            | (have kk := q9; (with_reducible refine stH (.tmp 9) (.tmp 28) ?_ ?_ g9 x zeroH ?_ ?_ ?_ ?_); (focus rfl); (focus rfl); (focus rfl); (focus rfl); (focus exact q9); intro W8 gr9 r9; have k9 := bt k7 (grown_below gr9 b9 h9 b9.size); clear q9)
            | (have kk := r7; (with_reducible refine alG infoHz ?_ ?_ ?_); (focus rfl); (focus rfl); intro g9 V9 h9 l9 b9 q9)
            | (have kk := r7; (with_reducible refine lkG (.tmp 25) (.tmp 26) ?_ ?_ ?_ ?_ (hlk1 _ b7) ?_); (focus rfl); (focus rfl); (focus rfl); (focus rfl))
            | (have kk := r7; refine ldP (.tmp 7) rfl rfl _ _ p rfl r7.range ?_)
            | (have kk := q7; (with_reducible refine stP0 (.tmp 7) (.tmp 20) ?_ ?_ g7 p zeroP ?_ ?_ ?_ ?_); (focus rfl); (focus rfl); (focus rfl); (focus rfl); (focus exact q7); intro W7 gr7 r7; have k7 := bt c5 (grown_below gr7 d6 h7 d6.size); have b7 := bt hb k7; clear q7)
            | (have kk := c5; (with_reducible refine alG infoPz ?_ ?_ ?_); (focus rfl); (focus rfl); intro g7 W6 h7 l7 d6 q7)
            | (go_at_call 51; refine (hO1 _).mono ?_; rintro e' W5 ⟨rfl, c5⟩)
            | (refine ldA (.tmp 3) rfl rfl _ _ a rfl hr.range ?_))
          exact bodyPost_ret (retCT rfl _ _ 0 rfl (lvH r4)) rfl ⟨by rw [HR.out]; rfl, grown_below gr4 (bt hb k9) (Nat.le_of_lt hg4) (bt hb k9).size⟩
        | none =>
          have HR : Hid (lng mI L a J = R) := HB2.out rfl hg
          clear hg HB1 HB2 HB3
          go_wp2_with (first
            | (have kk := q9; (with_reducible refine stH (.tmp 9) (.tmp 28) ?_ ?_ g9 zeroH zeroH ?_ ?_ ?_ ?_); (focus rfl); (focus rfl); (focus rfl); (focus rfl); (focus exact q9); intro W8 gr9 r9; have k9 := bt k7 (grown_below gr9 b9 h9 b9.size); clear q9)
            | (have kk := r7; (with_reducible refine alG infoHz ?_ ?_ ?_); (focus rfl); (focus rfl); intro g9 V9 h9 l9 b9 q9)
            | (have kk := r7; (with_reducible refine lkG (.tmp 25) (.tmp 26) ?_ ?_ ?_ ?_ (hlk1 _ b7) ?_); (focus rfl); (focus rfl); (focus rfl); (focus rfl))
            | (have kk := r7; refine ldP (.tmp 7) rfl rfl _ _ p rfl r7.range ?_)
            | (have kk := q7; (with_reducible refine stP0 (.tmp 7) (.tmp 20) ?_ ?_ g7 p zeroP ?_ ?_ ?_ ?_); (focus rfl); (focus rfl); (focus rfl); (focus rfl); (focus exact q7); intro W7 gr7 r7; have k7 := bt c5 (grown_below gr7 d6 h7 d6.size); have b7 := bt hb k7; clear q7)
            | (have kk := c5; (with_reducible refine alG infoPz ?_ ?_ ?_); (focus rfl); (focus rfl); intro g7 W6 h7 l7 d6 q7)
            | (go_at_call 51; refine (hO1 _).mono ?_; rintro e' W5 ⟨rfl, c5⟩)
            | (refine ldA (.tmp 3) rfl rfl _ _ a rfl hr.range ?_))
          go_roundw
          case rel => exact ⟨J, HL.out, by first | (rw [hw64]; rfl) | rfl | go_num, HR, hr.below k9 hl, hq.below k9 hql, bt hb k9⟩
          case measure => first | (rw [hw64]; simp only [intOf]; exact HM.out) | (simp only [intOf]; exact HM.out)
      · have HR : Hid (lng mI L a J = R) := HB1.out he
        have he' : (e == 0) = false := by simpa using he
        clear HB1 HB2 HB3 hlk1 he
        go_wp2_with (first
            | (have kk := q7; (with_reducible refine stP0 (.tmp 7) (.tmp 20) ?_ ?_ g7 p zeroP ?_ ?_ ?_ ?_); (focus rfl); (focus rfl); (focus rfl); (focus rfl); (focus exact q7); intro W7 gr7 r7; have k7 := bt c5 (grown_below gr7 d6 h7 d6.size); have b7 := bt hb k7; clear q7)
            | (have kk := c5; (with_reducible refine alG infoPz ?_ ?_ ?_); (focus rfl); (focus rfl); intro g7 W6 h7 l7 d6 q7)
            | (go_at_call 51; refine (hO1 _).mono ?_; rintro e' W5 ⟨rfl, c5⟩)
            | (refine ldA (.tmp 3) rfl rfl _ _ a rfl hr.range ?_))
        go_roundw
        case rel => exact ⟨J, HL.out, by first | (rw [hw64]; rfl) | rfl | go_num, HR, hr.below k7 hl, hq.below k7 hql, b7⟩
        case measure => first | (rw [hw64]; simp only [intOf]; exact HM.out) | (simp only [intOf]; exact HM.out)
end Go.Proofs.Ytadnnjngflphjaa
