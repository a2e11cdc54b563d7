/-
  The walk of KernelBack.
-/
import Derived.Test.YtadnnjngflphjaaBJ
namespace Go.Proofs.Ytadnnjngflphjaa
open Go.RowKit Go.Maps Go.Shelf
set_option linter.unusedSimpArgs false
set_option linter.unusedVariables false
set_option maxRecDepth 20000
theorem back_live (a1 a2 : Option Addr) (c1 c2 : Nat) (m n : Nat) (w : World) (h : 150 < m ∨ 150 < n) : Calls Try.prog 7 #[.slice a1 m c1, .slice a2 n c2] w (Gives w (.bool true)) := by
  by_cases h1 : (150 : Int) < (m : Int)
  · have d1 : decide ((150 : Int) < (m : Int)) = true := by simpa using h1
    clear h h1
    go_enter Try.func7, Try.ntmps7
    go_wp2_with (go_at_call 8; refine (live_any _).mono ?_; rintro e' w9 ⟨rfl, k⟩)
    go_ret
    exact ⟨rfl, k⟩
  · have d1 : decide ((150 : Int) < (m : Int)) = false := by simpa using h1
    have d2 : decide ((150 : Int) < (n : Int)) = true := by simp; omega
    clear h h1
    go_enter Try.func7, Try.ntmps7
    go_wp2_with (go_at_call 8; refine (live_any _).mono ?_; rintro e' w9 ⟨rfl, k⟩)
    go_ret
    exact ⟨rfl, k⟩
theorem EsW.at_ {w : World} {ad : Option Addr} {l : List En} (h : EsW w ad l) {j : Nat} (hj : j < l.length) : ∃ g o, ad = some ⟨g, o, none⟩ ∧ g < w.heap.size ∧ LE w g (o + j * 51) (l[j]'hj) := by
  rcases h.lies with h0 | ⟨g, o, e, hg, hc⟩
  · rw [h0] at hj; simp at hj
  · exact ⟨g, o, e, hg, hc j _ (List.getElem?_eq_getElem hj)⟩
set_option maxHeartbeats 64000000 in
theorem back_main (ad : Option Addr) (c : Nat) (l : List En) (ad2 : Option Addr) (c2 : Nat) (l2 : List En) (w : World) (m : EsW w ad l) (f : ∀ x ∈ l, wfQ x.p) (m2 : EsW w ad2 l2) (f2 : ∀ x ∈ l2, wfQ x.p) (h1 : l.length ≤ 150) (h2 : l2.length ≤ 150) : Calls Try.prog 7 #[.slice ad l.length c, .slice ad2 l2.length c2] w (Gives w (.bool true)) := by
  have d1 : decide ((150 : Int) < (l.length : Int)) = false := by simp; omega
  have d2 : decide ((150 : Int) < (l2.length : Int)) = false := by simp; omega
  have hb1 := impF_b l2 (F := []) (by simp)
  have hle := (impF_le l2 []).2
  have HF : Hid ((∀ x ∈ impF [] l2, x.b = true) ∧ (impF [] l2).length ≤ 150) := ⟨hb1, by simp at hle; omega⟩
  clear hb1 hle
  go_enter Try.func7, Try.ntmps7
  go_upto_region 8 with (first
    | (have kk := K2; go_at_call 18; refine (Imported_any K2 (by have := HF.out.2; omega)).mono ?_; rintro e W3 ⟨a6, c6, I, rfl, hI, hA, hO, b3⟩; have K3 := K2.below b3; have T3 := T2.trans (KT.of b3 K2.lb))
    | (have kk := K1; go_at_call 13; refine (import_any K1 ad2 c2 l2 (fun W hW => m2.kt B1 hb hW) f2 (by simp; omega)).mono ?_; rintro e W2 ⟨rfl, K2, T2⟩)
    | (go_at_call 9; refine (new_ex w).mono ?_; rintro e w1 ⟨k, b, rfl, K1, B1, hb⟩))
  generalize impF [] l2 = F at *
  generalize hBI : W2.heap.size = BI at *
  have hm : ∀ W, KT w1 W b k → EsW W ad l := fun W hW => m.kt B1 hb hW
  have hlow : ∀ W, KT w1 W b k → Below w.heap.size w W := fun W hW => hW.base B1 hb
  have hall := sel_all HF.out.1
  have HS0 : Hid ((sel false F).length = 0) := by show _ = _; rw [hall.1]; rfl
  have hIl : I.length ≤ 1000000 := by have h4 := hI.length_eq; have h5 := sel_len true F; have := HF.out.2; omega
  have hchk0 : ∀ x ∈ F, x.b = false → Fa.chkQ x.e.p = 0 := fun x hx hb => by rw [HF.out.1 x hx] at hb; cases hb
  clear m m2 f2 d1 d2 K1 B1 T2 h2 hall hBI K2 b3 hb
  go_wp2_with fail
  go_loopw [8, 7] (fun v u wr => ∃ j : Nat, j ≤ l.length ∧ v = .int .i64 j ∧ u = .int .i64 ((sel false (addF F (l.take j))).length : Nat) ∧ Kn wr b k 0 (addF F (l.take j)) ∧ kE.Own wr BI (.slice a6 I.length c6) I ∧ KT w1 wr b k) (fun v _ _ => l.length - (intOf v).toNat)
  case atStart => exact ⟨0, Nat.zero_le _, rfl, by rw [show addF F (l.take 0) = F from rfl, HS0.out]; rfl, K3, hO, T3⟩
  case round =>
    clear K3 hO T3
    obtain ⟨j, hj, rfl, rfl, hK, hO, hT⟩ := hrel
    by_cases hlt : j < l.length
    · obtain ⟨g, o, rfl, hg, hq⟩ := (hm wr hT).at_ hlt
      have hw := f l[j] (List.getElem_mem hlt)
      have hji : (j : Int) < (l.length : Int) := by omega
      have hw64 : wrap64 ((j : Int) + 1) = (j : Int) + 1 := by unfold wrap64; omega
      have HJ : Hid (j + 1 ≤ l.length) := hlt
      have HM : Hid (l.length - ((j : Int) + 1).toNat < l.length - ((j : Int)).toNat) := meas hlt
      have HT : Hid (addF F (l.take (j + 1)) = addS (addF F (l.take j)) (l[j]'hlt)) := add_step hlt
      have hlen := addF_len (l.take j) F
      have hGl : (addF F (l.take j)).length < 1000000 := by rw [List.length_take] at hlen; have := HF.out.2; omega
      clear hm f hlen hlow hI hA hIl hchk0 HF HS0 hj
      generalize (l[j]'hlt) = e at *
      generalize addF F (l.take j) = G at *
      have hsl := sel_len false G
      have hw65 : wrap64 (((sel false G).length : Int) + 1) = ((sel false G).length : Int) + 1 := plus64 (by omega) (by omega)
      have hDo := do_is hK ⟨1, e⟩ hw (by omega) (by omega) hGl (doF_add G e)
      have HC : Hid (((sel false (addS G e)).length : Int) = (sel false G).length + (if addB G e = true then 1 else 0)) := (addS_sel G e).2
      generalize hbb : addB G e = bb at *
      clear hbb hsl
      cases bb with
      | true =>
        have HC2 : Hid (Value.int .i64 (((sel false G).length : Int) + 1) = .int .i64 ((sel false (addS G e)).length : Nat)) := congrArg (Value.int .i64) (by rw [HC.out]; rfl)
        clear HC
        go_wp2_with (first
    | (have kk := hK; go_at_call 10; refine hDo.mono ?_; rintro e' W4 ⟨rfl, K4, T4⟩; have o4 := own_kt T4 hK hO; have T5 := hT.trans T4)
    | ((with_reducible refine bdG (T := 39) (v := oV ⟨1, e⟩) [(0, .const (.int .i64 1)), (1, .tmp 39)] ?_ ?_ ?_ ?_); (focus rfl); (focus rfl); (focus (first | exact bdO 1 e _ | skip)))
    | (have kk := hq; (with_reducible refine ldE (.tmp 38) ?_ ?_ g (o + j * 51) e ?_ ?_ ?_); (focus rfl); (focus rfl); (focus (repeat (first | with_reducible refine ev_ne ?_ rfl | with_reducible refine ev_no ?_ | (with_reducible refine ev_eq (n := 108) ?_ rfl; repeat (first | with_reducible refine sz_put ?_ | with_reducible refine sz_no ?_ | rfl)) | rfl))); (focus exact hq)))
        go_roundw
        case rel => exact ⟨j + 1, HJ.out, by first | (rw [hw64]; rfl) | rfl | go_num, by rw [HT.out, ← HC2.out]; first | exact congrArg (Value.int .i64) hw65 | rfl, by rw [HT.out]; exact K4, o4, T5⟩
        case measure => first | (rw [hw64]; simp only [intOf]; exact HM.out) | (simp only [intOf]; exact HM.out)
      | false =>
        have HC2 : Hid (Value.int .i64 ((sel false G).length : Nat) = .int .i64 ((sel false (addS G e)).length : Nat)) := congrArg (Value.int .i64) (by rw [HC.out]; simp)
        clear HC
        go_wp2_with (first
    | (have kk := hK; go_at_call 10; refine hDo.mono ?_; rintro e' W4 ⟨rfl, K4, T4⟩; have o4 := own_kt T4 hK hO; have T5 := hT.trans T4)
    | ((with_reducible refine bdG (T := 39) (v := oV ⟨1, e⟩) [(0, .const (.int .i64 1)), (1, .tmp 39)] ?_ ?_ ?_ ?_); (focus rfl); (focus rfl); (focus (first | exact bdO 1 e _ | skip)))
    | (have kk := hq; (with_reducible refine ldE (.tmp 38) ?_ ?_ g (o + j * 51) e ?_ ?_ ?_); (focus rfl); (focus rfl); (focus (repeat (first | with_reducible refine ev_ne ?_ rfl | with_reducible refine ev_no ?_ | (with_reducible refine ev_eq (n := 108) ?_ rfl; repeat (first | with_reducible refine sz_put ?_ | with_reducible refine sz_no ?_ | rfl)) | rfl))); (focus exact hq)))
        go_roundw
        case rel => exact ⟨j + 1, HJ.out, by first | (rw [hw64]; rfl) | rfl | go_num, by rw [HT.out, ← HC2.out], by rw [HT.out]; exact K4, o4, T5⟩
        case measure => first | (rw [hw64]; simp only [intOf]; exact HM.out) | (simp only [intOf]; exact HM.out)
    · have hje : j = l.length := Nat.le_antisymm hj (Nat.not_lt.1 hlt)
      subst hje
      have hji : ¬ (l.length : Int) < (l.length : Int) := Int.lt_irrefl _
      rw [List.take_length] at hK ⊢
      have hlen := addF_len l F
      have hGl : (addF F l).length < 1000000 := by have := HF.out.2; omega
      have hI2 : I.Perm (sel true (addF F l)) := by rw [addF_true]; exact hI
      have hchk := addF_chk l hchk0
      clear hlt hj hm f hlen HF HS0 hI hchk0
      generalize addF F l = G at *
      have hGl' : G.length ≤ 1000000 := by omega
      clear h1
      have h1 : True := trivial
      have hL := list_own hK hGl'
      obtain ⟨m, hm⟩ : ∃ m, (sel false G).length = m := ⟨_, rfl⟩
      rw [hm] at hL ⊢
      go_upto_region 17 with (first
        | (have kk := hK; go_at_call 17; refine hL.mono ?_; rintro e W6 ⟨a9, c9, A, rfl, hAl, hA2, hAA, hO9, b6⟩))
      subst hAl
      have K6 := hK.below b6
      have o6 := own_below hO b6
      have T6 := hT.trans (KT.of b6 hK.lb)
      generalize wr.heap.size = BA at *
      clear hL hm hK hO hT b6
      have hwG := K6.wf
      have hndG := K6.nd
      go_wp2_with fail
      go_loopw [10] (fun v wr => ∃ j : Nat, j ≤ I.length ∧ v = .int .i64 j ∧ Kn wr b k 0 G ∧ kE.Own wr BI (.slice a6 I.length c6) I ∧ kE.Own wr BA (.slice a9 A.length c9) A ∧ KT w1 wr b k) (fun v _ => I.length - (intOf v).toNat)
      case atStart => exact ⟨0, Nat.zero_le _, rfl, K6, o6, hO9, T6⟩
      case round =>
        clear K6 o6 hO9 T6
        obtain ⟨j, hj, rfl, hK, hO, hO9, hT⟩ := hrel
        by_cases hlt : j < I.length
        · obtain ⟨g, o, rfl, hg, hq⟩ := (EsW.own hO).2.at_ hlt
          have hmem := hI2.mem_iff.1 (List.getElem_mem hlt)
          have hw : wfQ (I[j]'hlt).p := by
            obtain ⟨x, hx, _, e⟩ := mem_sel.1 hmem
            rw [← e]; exact hwG x hx
          have hji : (j : Int) < (I.length : Int) := by omega
          have hw64 : wrap64 ((j : Int) + 1) = (j : Int) + 1 := by unfold wrap64; omega
          have HJ : Hid (j + 1 ≤ I.length) := hlt
          have HM : Hid (I.length - ((j : Int) + 1).toNat < I.length - ((j : Int)).toNat) := meas hlt
          have hQ : Hid (∀ W, kE.Own W BI (.slice (some ⟨g, o, none⟩) I.length c6) I → LE W g (o + j * 51) (I[j]'hlt)) := fun W hW => by
            obtain ⟨g', o', e, _, q⟩ := (EsW.own hW).2.at_ hlt
            cases e
            exact q
          have hD3 := fun (W : World) (hW : Kn W b k 0 G) => do_is hW ⟨3, I[j]'hlt⟩ hw (by omega) (by omega) hGl (doF_theirs hndG hmem (.inr rfl))
          have hD2 := fun (W : World) (hW : Kn W b k 0 G) => do_is hW ⟨2, I[j]'hlt⟩ hw (by omega) (by omega) hGl (doF_theirs hndG hmem (.inl rfl))
          clear hmem hchk hA hAA hA2 hI2 hw hwG hj hlow hg
          generalize (I[j]'hlt) = e at *
          go_wp2_with (first
            | (have kk := K4; go_at_call 10; refine (hD2 _ K4).mono ?_; rintro e' W5 ⟨rfl, K5, T5'⟩; have o5 := own_kt T5' K4 o4; have p5 := own_kt T5' K4 p4; have T5 := T4.trans T5')
            | (have kk := K4; (with_reducible refine bdG (T := 39) (v := oV ⟨2, e⟩) [(0, .const (.int .i64 2)), (1, .tmp 68)] ?_ ?_ ?_ ?_); (focus rfl); (focus rfl); (focus (first | exact bdO 2 e _ | skip)))
            | (have kk := q4; (with_reducible refine ldE (.tmp 67) ?_ ?_ g (o + j * 51) e ?_ ?_ ?_); (focus rfl); (focus rfl); (focus (repeat (first | with_reducible refine ev_ne ?_ rfl | with_reducible refine ev_no ?_ | (with_reducible refine ev_eq (n := 108) ?_ rfl; repeat (first | with_reducible refine sz_put ?_ | with_reducible refine sz_no ?_ | rfl)) | rfl))); (focus exact q4))
            | (have kk := hK; go_at_call 10; refine (hD3 _ hK).mono ?_; rintro e' W4 ⟨rfl, K4, T4'⟩; have o4 := own_kt T4' hK hO; have p4 := own_kt T4' hK hO9; have T4 := hT.trans T4'; have q4 := hQ.out _ o4)
            | ((with_reducible refine bdG (T := 39) (v := oV ⟨3, e⟩) [(0, .const (.int .i64 3)), (1, .tmp 60)] ?_ ?_ ?_ ?_); (focus rfl); (focus rfl); (focus (first | exact bdO 3 e _ | skip)))
            | (have kk := hq; (with_reducible refine ldE (.tmp 59) ?_ ?_ g (o + j * 51) e ?_ ?_ ?_); (focus rfl); (focus rfl); (focus (repeat (first | with_reducible refine ev_ne ?_ rfl | with_reducible refine ev_no ?_ | (with_reducible refine ev_eq (n := 108) ?_ rfl; repeat (first | with_reducible refine sz_put ?_ | with_reducible refine sz_no ?_ | rfl)) | rfl))); (focus exact hq)))
          go_roundw
          case rel => exact ⟨j + 1, HJ.out, by first | (rw [hw64]; rfl) | rfl | go_num, K5, o5, p5, T5⟩
          case measure => first | (rw [hw64]; simp only [intOf]; exact HM.out) | (simp only [intOf]; exact HM.out)
        · have hje : j = I.length := Nat.le_antisymm hj (Nat.not_lt.1 hlt)
          subst hje
          have hji : ¬ (I.length : Int) < (I.length : Int) := Int.lt_irrefl _
          clear hlt hj
          have K6 : Kn wr b k 0 (remF G (A.take 0)) := by rw [List.take_zero, rem_nil]; exact hK
          go_wp2_with fail
          go_loopw [11] (fun v wr => ∃ j : Nat, j ≤ A.length ∧ v = .int .i64 j ∧ Kn wr b k 0 (remF G (A.take j)) ∧ kE.Own wr BI (.slice a6 I.length c6) I ∧ kE.Own wr BA (.slice a9 A.length c9) A ∧ KT w1 wr b k) (fun v _ => A.length - (intOf v).toNat)
          case atStart => exact ⟨0, Nat.zero_le _, rfl, K6, hO, hO9, hT⟩
          case round =>
            clear K6 hK hO hO9 hT
            obtain ⟨j, hj, rfl, hK, hO, hO9, hT⟩ := hrel
            by_cases hlt : j < A.length
            · obtain ⟨g, o, rfl, hg, hq⟩ := (EsW.own hO9).2.at_ hlt
              have hmem := hA2.mem_iff.1 (List.getElem_mem hlt)
              have hw : wfQ (A[j]'hlt).p := by
                obtain ⟨x, hx, _, e⟩ := mem_sel.1 hmem
                rw [← e]; exact hwG x hx
              have hji : (j : Int) < (A.length : Int) := by omega
              have hw64 : wrap64 ((j : Int) + 1) = (j : Int) + 1 := by
                have h4 := hA2.length_eq
                have h5 := sel_len false G
                unfold wrap64; omega
              have HJ : Hid (j + 1 ≤ A.length) := hlt
              have HM : Hid (A.length - ((j : Int) + 1).toNat < A.length - ((j : Int)).toNat) := meas hlt
              have hQ : Hid (∀ W, kE.Own W BA (.slice (some ⟨g, o, none⟩) A.length c9) A → LE W g (o + j * 51) (A[j]'hlt)) := fun W hW => by
                obtain ⟨g', o', e, _, q⟩ := (EsW.own hW).2.at_ hlt
                cases e
                exact q
              have hr1 : (remF G (A.take j)).length < 1000000 := Nat.lt_of_le_of_lt (rem_len _ _) hGl
              have hr2 : (remF G (A.take (j + 1))).length < 1000000 := Nat.lt_of_le_of_lt (rem_len _ _) hGl
              obtain ⟨hm1, hm2⟩ := doF_mine hndG hchk hAA hA2 hlt
              have hD1 := fun (W : World) (hW : Kn W b k 0 (remF G (A.take j))) => do_is hW ⟨3, A[j]'hlt⟩ hw (by omega) (by omega) hr1 hm1
              have hD2 := fun (W : World) (hW : Kn W b k 0 (remF G (A.take (j + 1)))) => do_is hW ⟨3, A[j]'hlt⟩ hw (by omega) (by omega) hr2 hm2
              clear hmem hchk hA hAA hA2 hI2 hw hwG hj hlow hm1 hm2 hr1 hr2 hg
              obtain ⟨G2, hG2⟩ : ∃ X, remF G (A.take (j + 1)) = X := ⟨_, rfl⟩
              have HG2 : Hid (remF G (A.take (j + 1)) = G2) := hG2
              rw [hG2] at hD1 hD2
              clear hG2
              generalize remF G (A.take j) = G1 at *
              generalize (A[j]'hlt) = e at *
              go_wp2_with (first
                | (have kk := K4; go_at_call 10; refine (hD2 _ K4).mono ?_; rintro e' W5 ⟨rfl, K5, T5'⟩; have o5 := own_kt T5' K4 o4; have p5 := own_kt T5' K4 p4; have T5 := T4.trans T5')
                | (have kk := K4; (with_reducible refine bdG (T := 39) (v := oV ⟨3, e⟩) [(0, .const (.int .i64 3)), (1, .tmp 91)] ?_ ?_ ?_ ?_); (focus rfl); (focus rfl); (focus (first | exact bdO 3 e _ | skip)))
                | (have kk := q4; (with_reducible refine ldE (.tmp 90) ?_ ?_ g (o + j * 51) e ?_ ?_ ?_); (focus rfl); (focus rfl); (focus (repeat (first | with_reducible refine ev_ne ?_ rfl | with_reducible refine ev_no ?_ | (with_reducible refine ev_eq (n := 108) ?_ rfl; repeat (first | with_reducible refine sz_put ?_ | with_reducible refine sz_no ?_ | rfl)) | rfl))); (focus exact q4))
                | (have kk := hK; go_at_call 10; refine (hD1 _ hK).mono ?_; rintro e' W4 ⟨rfl, K4, T4'⟩; have o4 := own_kt T4' hK hO; have p4 := own_kt T4' hK hO9; have T4 := hT.trans T4'; have q4 := hQ.out _ p4)
                | ((with_reducible refine bdG (T := 39) (v := oV ⟨3, e⟩) [(0, .const (.int .i64 3)), (1, .tmp 82)] ?_ ?_ ?_ ?_); (focus rfl); (focus rfl); (focus (first | exact bdO 3 e _ | skip)))
                | (have kk := hq; (with_reducible refine ldE (.tmp 81) ?_ ?_ g (o + j * 51) e ?_ ?_ ?_); (focus rfl); (focus rfl); (focus (repeat (first | with_reducible refine ev_ne ?_ rfl | with_reducible refine ev_no ?_ | (with_reducible refine ev_eq (n := 108) ?_ rfl; repeat (first | with_reducible refine sz_put ?_ | with_reducible refine sz_no ?_ | rfl)) | rfl))); (focus exact hq)))
              go_roundw
              case rel => exact ⟨j + 1, HJ.out, by first | (rw [hw64]; rfl) | rfl | go_num, by rw [HG2.out]; exact K5, o5, p5, T5⟩
              case measure => first | (rw [hw64]; simp only [intOf]; exact HM.out) | (simp only [intOf]; exact HM.out)
            · have hje : j = A.length := Nat.le_antisymm hj (Nat.not_lt.1 hlt)
              subst hje
              have hji : ¬ (A.length : Int) < (A.length : Int) := Int.lt_irrefl _
              rw [List.take_length] at hK
              have hre := rem_all hndG hA2
              have hs1 : (sel false (remF G A)).length = 0 := by rw [hre.1]; rfl
              have hs2 : I.Perm (sel true (remF G A)) := by rw [hre.2]; exact hI2
              have hl3 : (remF G A).length ≤ 1000000 := Nat.le_trans (rem_len _ _) hGl'
              have B3 := hlow _ hT
              clear hlt hj hre hI2 hA2 hAA hchk hwG hndG hO9 hT hlow
              generalize remF G A = G2 at *
              go_wp2_with (first
                | (have kk := B7; go_at_call 8; refine (live_any _).mono ?_; rintro e X10 ⟨rfl, b10⟩; have B10 := bt B7 b10)
                | (have kk := o5; go_at_call 16; refine (rsame_any a5 a6 c5 c6 (EsW.own o5).2 (EsW.own o45).2 hIl).mono ?_; rintro e X6 ⟨rfl, b6⟩; have B7 := bt B5 b6)
                | (have kk := K4; go_at_call 18; refine (imp_same K4 hl3 hA hs2).mono ?_; rintro e X5 ⟨a5, c5, rfl, o5, b5⟩; have o45 := own_below o4 b5; have B5 := bt B4 b5)
                | (have kk := hK; go_at_call 17; refine (list_len hK hl3 hs1).mono ?_; rintro e X7 ⟨a7, c7, rfl, b7⟩; have K4 := hK.below b7; have o4 := own_below hO b7; have B4 := bt B3 b7))
              go_ret
              exact ⟨rfl, B10⟩
theorem back_walk (ad : Option Addr) (c : Nat) (l : List En) (ad2 : Option Addr) (c2 : Nat) (l2 : List En) (w : World) (m : EsW w ad l) (f : ∀ x ∈ l, x.fit) (m2 : EsW w ad2 l2) (f2 : ∀ x ∈ l2, x.fit) : Calls Try.prog 7 #[.slice ad l.length c, .slice ad2 l2.length c2] w (Gives w (.bool true)) := by
  by_cases h : 150 < l.length ∨ 150 < l2.length
  · exact back_live ad ad2 c c2 l.length l2.length w h
  · exact back_main ad c l ad2 c2 l2 w m (fun x hx => (f x hx).1) m2 (fun x hx => (f2 x hx).1) (by omega) (by omega)
end Go.Proofs.Ytadnnjngflphjaa
