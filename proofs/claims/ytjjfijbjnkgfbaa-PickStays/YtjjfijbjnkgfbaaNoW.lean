/-
  The law PickNone returns true for every input.
-/
import Derived.Test.YtjjfijbjnkgfbaaYN
namespace Go.Proofs.Ytjjfijbjnkgfbaa
open Go.RowKit
set_option linter.unusedSimpArgs false
set_option linter.unusedVariables false
set_option maxRecDepth 20000
theorem Hid.mk' {p : Prop} (h : p) : Hid p := h
theorem own_two {w w' : World} {B B' : Nat} {e e' : TypeId} {s s' : Nat} {v v' : Value} {n n' : Nat} {xs xs' : List Value} (h : w.ownsRow B e s v n xs) (h' : w.ownsRow B' e' s' v' n' xs') (hne : e ≠ e') (hg : w.grownBy w' v'.ownBlock) : w'.ownsRow B e s v n xs :=
  h.kept hg (by
    rcases own_apart h h' hne with a | a
    · exact .inr a
    · cases hv : v.ownBlock with
      | none => exact .inl rfl
      | some g => right; rw [a]; simp)
theorem none_long (mg : Int) (ad : Option Addr) (n k : Nat) (w : World) (h : 300 < n) :
    Calls Try.prog 5 #[.int .u16 mg, .slice ad n k] w (Gives w (.bool true)) := by
  have hi : (300 : Int) < (n : Int) := by omega
  go_enter Try.func5, Try.ntmps5
  go_wp2_with (go_at_call 7; refine (live_any _).mono ?_; rintro e w' ⟨rfl, hw⟩)
  go_ret
  exact ⟨rfl, hw⟩
set_option maxHeartbeats 4000000 in
theorem none_walk (mg : Int) (ad : Option Addr) (n k : Nat) (l : List Cd) (w : World) (hn : n ≤ 300) (h0 : 0 ≤ mg) (h1 : mg < 65536) (hs : Cs w ad n l) :
    Calls Try.prog 5 #[.int .u16 mg, .slice ad n k] w (Gives w (.bool true)) := by
  have HL : Hid (l.length = n) := hs.len
  have hi : ¬ (300 : Int) < (n : Int) := by omega
  have hb := Below.refl w.heap.size w
  go_enter Try.func5, Try.ntmps5
  go_wp2_with (fail)
  go_loopw [5, 6, 7] (fun u t i wr => ∃ (j : Nat) (v v' : Value), j ≤ n ∧ i = .int .i64 j ∧ u = v ∧ t = v' ∧ kC.Own wr w.heap.size v (selU l j) ∧ kI.Own wr w.heap.size v' (selA l j) ∧ Below w.heap.size w wr) (fun _ _ i _ => n - (intOf i).toNat)
  case atStart => exact ⟨0, _, _, Nat.zero_le _, rfl, rfl, rfl, World.ownsRow_nil _ _ _ _, World.ownsRow_nil _ _ _ _, hb⟩
  case round =>
    clear hb
    obtain ⟨j, v, v', hj, rfl, rfl, rfl, hC, hI, hb⟩ := hrel
    rename World => W
    by_cases hlt : j < n
    · rcases hs.lies with h0 | ⟨g, o, rfl, hg, hl⟩
      · omega
      have hji : (j : Int) < (n : Int) := by omega
      have hjl : j < l.length := by rw [HL.out]; exact hlt
      have hq := hl j _ (List.getElem?_eq_getElem hjl)
      have ok := hs.small l[j] (List.getElem_mem hjl)
      have hgd : gd l j = l[j] := gd_of (List.getElem?_eq_getElem hjl)
      have HY : Hid (us l[j] = true → selA l (j + 1) = selA l j ++ [j] ∧ selU l (j + 1) = selU l j ++ [l[j]]) := fun h => ⟨selA_yes (by rw [hgd]; exact h), by rw [selU_yes (by rw [hgd]; exact h), hgd]⟩
      have HN : Hid (us l[j] = false → selA l (j + 1) = selA l j ∧ selU l (j + 1) = selU l j) := fun h => ⟨selA_no (by rw [hgd]; exact h), selU_no (by rw [hgd]; exact h)⟩
      have lA : Hid ((selA l j).length ≤ 10000000) := by
        have := selA_len l j
        show _ ≤ _
        omega
      have lU : Hid ((selU l j).length ≤ 10000000) := by
        have := lA.out
        rw [← selU_len] at this
        exact this
      rw [us_ref ok] at HY HN
      generalize selA l j = A at *
      generalize selU l j = U at *
      clear hgd
      generalize l[j] = q at *
      have c1 : W.cell? ⟨g, o + j * 3, none⟩ = some (.int .u16 q.m) := (hb.cell (p := ⟨g, o + j * 3, none⟩) hg).trans (hq 0 _ rfl)
      have c2 : W.cell? ⟨g, o + j * 3 + 1, none⟩ = some (.bool q.f) := (hb.cell (p := ⟨g, o + j * 3 + 1, none⟩) hg).trans (hq 1 _ rfl)
      have c3 : W.cell? ⟨g, o + j * 3 + 2, none⟩ = some (.bool q.s) := (hb.cell (p := ⟨g, o + j * 3 + 2, none⟩) hg).trans (hq 2 _ rfl)
      obtain ⟨qm, qf, qs⟩ := q
      dsimp only at *
      have hbW := hb.size
      clear hl hq ok hs
      cases qf with
      | false =>
        obtain ⟨y1, y2⟩ := HN.out (by simp)
        replace y1 := Hid.mk' y1
        replace y2 := Hid.mk' y2
        clear HY HN
        go_wp2_with (fail)
        go_roundw
        case rel => exact ⟨j + 1, _, _, by omega, by go_num, rfl, rfl, by rw [y2.out]; exact hC, by rw [y1.out]; exact hI, hb⟩
        case measure => simp [intOf]; omega
      | true =>
        by_cases hm : qm = 65535
        · subst hm
          obtain ⟨y1, y2⟩ := HN.out (by simp)
          replace y1 := Hid.mk' y1
          replace y2 := Hid.mk' y2
          clear HY HN
          go_wp2_with (fail)
          go_roundw
          case rel => exact ⟨j + 1, _, _, by omega, by go_num, rfl, rfl, by rw [y2.out]; exact hC, by rw [y1.out]; exact hI, hb⟩
          case measure => simp [intOf]; omega
        · obtain ⟨y1, y2⟩ := HY.out (by simp [hm])
          have hm' : (qm != 65535) = true := by simpa using hm
          replace y1 := Hid.mk' y1
          replace y2 := Hid.mk' y2
          clear HY HN hm
          go_wp2_with (first
            | (have kk := r9; at_builtin; refine kI.append (.tmp 46) (.tmp 48) rfl rfl w.heap.size u6 A rfl hI _ 1 j rfl r9 lA.out hbW ?_; intro v8 W8 o8 g8; replace hC := own_two hC hI (by decide) g8; replace hb := below_keepO hb g8 (fun g hg => own_ne_lt hI hg) hb.size; clear r9 hI)
            | (have kk := o7; (with_reducible refine bsG (T := 35) (U := 3) (n := 1) [(0, .tmp 47)] [.int .i64 j] ?_ ?_ ?_ ?_); (focus rfl); (focus rfl); (focus exact (fun w => bsI j w)); intro W9 r9 b9; replace hI := own_below hI b9; replace hC := own_below hC b9; replace hb := bt hb b9; replace hbW := hb.size; clear b9 o7)
            | (have kk := r6; at_builtin; refine kC.append (.tmp 39) (.tmp 44) rfl rfl w.heap.size u5 U rfl hC _ 1 ⟨qm, true, qs⟩ rfl r6 lU.out hbW ?_; intro v7 W7 h7 g7; replace hI := own_two hI hC (by decide) g7; replace hb := below_keepO hb g7 (fun g hg => own_ne_lt hC hg) hb.size; clear r6 hC; have hC := h7; clear h7; replace hbW := hb.size; have o7 := True.intro)
            | ((with_reducible refine bsG (T := 23) (U := 34) (n := 1) [(0, .tmp 43)] (ccs ⟨qm, true, qs⟩) ?_ ?_ ?_ ?_); (focus rfl); (focus rfl); (focus exact (fun w => bsC ⟨qm, true, qs⟩ w)); intro W6 r6 b6; replace hI := own_below hI b6; replace hC := own_below hC b6; replace hb := bt hb b6; replace hbW := hb.size; clear b6))
          go_roundw
          case rel => exact ⟨j + 1, _, _, by omega, by go_num, rfl, rfl, by rw [y2.out]; exact hC, by rw [y1.out]; exact o8, hb⟩
          case measure => simp [intOf]; omega
    · have hji : ¬ (j : Int) < (n : Int) := by omega
      obtain rfl : j = l.length := by rw [HL.out]; omega
      have okU := selU_ok (Nat.le_refl _) hs.small
      obtain ⟨ua, uc, rfl, hU⟩ := Cs.own hC okU
      obtain ⟨ia, ic, rfl, hA⟩ := Kd.own_at hI
      have uL : (selU l l.length).length ≤ 140737488355328 := by rw [selU_len]; have := selA_len l l.length; have := HL.out; omega
      have C1 := fun X (h : Below W.heap.size W X) => pick_prog mg ad n k l X (by omega) h0 h1 (hs.below (Nat.le_refl _) (bt hb h))
      have C2 := fun X (h : Below W.heap.size W X) => pick_prog mg ua _ uc _ X uL h0 h1 (hU.below (Nat.le_refl _) h)
      have C3 := fun X (h : Below W.heap.size W X) => best_prog ad n k l X (by omega) (hs.below (Nat.le_refl _) (bt hb h))
      have C4 := fun X (h : Below W.heap.size W X) => best_prog ua _ uc _ X uL (hU.below (Nat.le_refl _) h)
      have C5 := fun X (h : Below W.heap.size W X) => starved_prog ua _ uc _ X uL (hU.below (Nat.le_refl _) h)
      rw [none_stv] at C5
      have P := none_pkd mg l
      have u1 := pkd_some mg l
      have u2 := pkd_some mg (selU l l.length)
      have hB := none_best l
      rw [selU_len] at C2 C4 C5
      have hx := Below.refl W.heap.size W
      rcases hB with ⟨e1, e2, e3⟩ | ⟨e1, e2⟩
      · rw [e1] at u1
        rw [e2] at u2
        replace P := P e1
        rw [u1] at C1
        rw [u2] at C2
        rw [e1] at C3
        rw [e2] at C4
        have a1 := (List.getElem?_eq_some_iff.1 P).1
        have a2 := (List.getElem?_eq_some_iff.1 e3).1
        have hne : selA l l.length ≠ [] := fun h => by rw [h] at P; cases P
        obtain ⟨gi, rfl, _, hgi, _, hr⟩ := hA hne
        have D : Hid (∀ X, Below W.heap.size W X → Below W.heap.size W X ∧ X.cell? ⟨gi, (pkd mg (selU l l.length)).1, none⟩ = some (.int .i64 (pkd mg l).1) ∧ X.cell? ⟨gi, (best (selU l l.length)).1, none⟩ = some (.int .i64 (best l).1)) := fun X h => by
          refine ⟨h, ?_, ?_⟩
          · have := hr _ _ P 0 _ rfl
            rw [show (pkd mg (selU l l.length)).1 * kI.s + 0 = (pkd mg (selU l l.length)).1 by show _ * 1 + 0 = _; omega] at this
            exact (h.cell (p := ⟨gi, (pkd mg (selU l l.length)).1, none⟩) hgi).trans this
          · have := hr _ _ e3 0 _ rfl
            rw [show (best (selU l l.length)).1 * kI.s + 0 = (best (selU l l.length)).1 by show _ * 1 + 0 = _; omega] at this
            exact (h.cell (p := ⟨gi, (best (selU l l.length)).1, none⟩) hgi).trans this
        clear hr hA hne P e3 u1 u2 e1 e2 uL okU hU hC hI hs HL
        rw [selU_len]
        generalize (pkd mg (selU l l.length)).1 = b at *
        generalize (best (selU l l.length)).1 = d at *
        generalize (pkd mg l).1 = a at *
        generalize (best l).1 = c at *
        generalize selU l l.length = U at *
        generalize selA l l.length = A at *
        generalize A.length = m at *
        have m0 : (0 : Int) < (m : Int) := by omega
        have b0 : (0 : Int) ≤ (b : Int) := by omega
        have b1 : (b : Int) < (m : Int) := by omega
        have d0 : (0 : Int) ≤ (d : Int) := by omega
        have d1 : (d : Int) < (m : Int) := by omega
        go_wp2_with (first
          | (have kk := C1; go_at_call 9; refine (C1 _ hx).mono ?_; rintro e w1 ⟨rfl, k1⟩; clear C1 kk; replace hx := bt hx k1; clear k1)
          | (have kk := C2; go_at_call 9; refine (C2 _ hx).mono ?_; rintro e w2 ⟨rfl, k1⟩; clear C2 kk; replace hx := bt hx k1; clear k1)
          | (have kk := C3; go_at_call 8; refine (C3 _ hx).mono ?_; rintro e w3 ⟨rfl, k1⟩; clear C3 kk; replace hx := bt hx k1; clear k1)
          | (have kk := C4; go_at_call 8; refine (C4 _ hx).mono ?_; rintro e w4 ⟨rfl, k1⟩; clear C4 kk; replace hx := bt hx k1; clear k1)
          | (have kk := C5; go_at_call 12; refine (C5 _ hx).mono ?_; rintro e w5 ⟨rfl, k1⟩; clear C5 kk; replace hx := bt hx k1; clear k1; obtain ⟨_, z1, z2⟩ := D.out _ hx)
          | (go_at_call 7; refine (live_any _).mono ?_; rintro e w7 ⟨rfl, k1⟩; replace hx := bt hx k1; clear k1))
        go_ret
        exact ⟨rfl, bt hb hx⟩
      · have e4 : (best (selU l l.length)) = (0, false) ∧ (pkd mg (selU l l.length)).2 = false := by
          have : selU l l.length = [] := by unfold selU; rw [e2]; rfl
          rw [this]
          exact ⟨rfl, by rw [pkd_some]; rfl⟩
        rw [e1] at u1
        rw [u1] at C1
        rw [e4.2] at C2
        rw [e1] at C3
        rw [e4.1] at C4
        rw [e2] at C2 C4 C5
        clear hA P e4 u1 u2 e1 uL okU hU hC hI hs HL
        rw [selU_len, e2]
        generalize (pkd mg (selU l l.length)).1 = b at *
        generalize (pkd mg l).1 = a at *
        generalize (best l).1 = c at *
        generalize selU l l.length = U at *
        generalize selA l l.length = A at *
        go_wp2_with (first
          | (have kk := C1; go_at_call 9; refine (C1 _ hx).mono ?_; rintro e w1 ⟨rfl, k1⟩; clear C1 kk; replace hx := bt hx k1; clear k1)
          | (have kk := C2; go_at_call 9; refine (C2 _ hx).mono ?_; rintro e w2 ⟨rfl, k1⟩; clear C2 kk; replace hx := bt hx k1; clear k1)
          | (have kk := C3; go_at_call 8; refine (C3 _ hx).mono ?_; rintro e w3 ⟨rfl, k1⟩; clear C3 kk; replace hx := bt hx k1; clear k1)
          | (have kk := C4; go_at_call 8; refine (C4 _ hx).mono ?_; rintro e w4 ⟨rfl, k1⟩; clear C4 kk; replace hx := bt hx k1; clear k1)
          | (have kk := C5; go_at_call 12; refine (C5 _ hx).mono ?_; rintro e w5 ⟨rfl, k1⟩; clear C5 kk; replace hx := bt hx k1; clear k1)
          | (go_at_call 7; refine (live_any _).mono ?_; rintro e w7 ⟨rfl, k1⟩; replace hx := bt hx k1; clear k1))
        go_ret
        exact ⟨rfl, bt hb hx⟩
theorem none_any (mg : Int) (ad : Option Addr) (n k : Nat) (l : List Cd) (w : World) (h0 : 0 ≤ mg) (h1 : mg < 65536) (hs : Cs w ad n l) :
    Calls Try.prog 5 #[.int .u16 mg, .slice ad n k] w (Gives w (.bool true)) := by
  by_cases h : 300 < n
  · exact none_long mg ad n k w h
  · exact none_walk mg ad n k l w (by omega) h0 h1 hs
end Go.Proofs.Ytjjfijbjnkgfbaa
