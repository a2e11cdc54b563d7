/-
  The walk of KernelFails.
-/
import Derived.Test.YtadnnjngflphjaaBI
namespace Go.Proofs.Ytadnnjngflphjaa
open Go.RowKit Go.Maps Go.Shelf
set_option linter.unusedSimpArgs false
set_option linter.unusedVariables false
set_option maxRecDepth 20000
theorem fails_live (ad : Option Addr) (c : Nat) (m : Nat) (n : Int) (w : World) (h : 150 < m ∨ n < 0 ∨ 150 < n) : Calls Try.prog 6 #[.slice ad m c, .int .i64 n] w (Gives w (.bool true)) := by
  by_cases h1 : (150 : Int) < (m : Int)
  · have d1 : decide ((150 : Int) < (m : Int)) = true := by simpa using h1
    clear h h1
    go_enter Try.func6, Try.ntmps6
    go_wp2_with (go_at_call 8; refine (live_any _).mono ?_; rintro e' w9 ⟨rfl, k⟩)
    go_ret
    exact ⟨rfl, k⟩
  · have d1 : decide ((150 : Int) < (m : Int)) = false := by simpa using h1
    by_cases h2 : n < 0
    · have d2 : decide (n < 0) = true := by simpa using h2
      clear h h1 h2
      go_enter Try.func6, Try.ntmps6
      go_wp2_with (go_at_call 8; refine (live_any _).mono ?_; rintro e' w9 ⟨rfl, k⟩)
      go_ret
      exact ⟨rfl, k⟩
    · have d2 : decide (n < 0) = false := by simpa using h2
      have d3 : decide (150 < n) = true := by simp; omega
      clear h h1 h2
      go_enter Try.func6, Try.ntmps6
      go_wp2_with (go_at_call 8; refine (live_any _).mono ?_; rintro e' w9 ⟨rfl, k⟩)
      go_ret
      exact ⟨rfl, k⟩
set_option maxHeartbeats 32000000 in
theorem fails_main (ad : Option Addr) (c : Nat) (l : List En) (n : Int) (w : World) (m : EsW w ad l) (f : ∀ x ∈ l, wfQ x.p) (h1 : l.length ≤ 150) (h2 : 0 ≤ n) (h3 : n ≤ 150) : Calls Try.prog 6 #[.slice ad l.length c, .int .i64 n] w (Gives w (.bool true)) := by
  have d1 : decide ((150 : Int) < (l.length : Int)) = false := by simp; omega
  have d2 : decide (n < 0) = false := by simp; omega
  have d3 : decide (150 < n) = false := by simp; omega
  have hb1 := impF_b l (F := []) (by simp)
  have hle := (impF_le l []).2
  have HF : Hid ((∀ x ∈ impF [] l, x.b = true) ∧ (impF [] l).length ≤ 150) := ⟨hb1, by simp at hle; omega⟩
  clear hb1 hle
  go_enter Try.func6, Try.ntmps6
  go_upto_region 7 with (first
    | (have kk := K1; go_at_call 13; refine (import_any K1 ad c l (fun W hW => m.kt B1 hb hW) f (by simp; omega)).mono ?_; rintro e W2 ⟨rfl, K2, T2⟩; have B2 := T2.base B1 hb)
    | (go_at_call 9; refine (new_ex w).mono ?_; rintro e w1 ⟨k, b, rfl, K1, B1, hb⟩))
  have hl1 : (impF [] l).length ≤ 1000000 := by have := HF.out.2; omega
  generalize impF [] l = F at *
  clear m f d1 d2 d3 K1 B1 T2 h1
  go_upto_region 9 with (first
    | (have kk := K3; go_at_call 12; refine (fail_any K3 n).mono ?_; rintro e W4 ⟨rfl, K4, T4⟩)
    | (have kk := K2; go_at_call 18; refine (Imported_any K2 hl1).mono ?_; rintro e W3 ⟨a6, c6, I, rfl, hI, hA, hO, b3⟩; have K3 := K2.below b3; have B3 := bt B2 b3))
  have hO4 := own_kt T4 K3 hO
  have B4 := T4.base B3 hb
  have hIl : I.length ≤ 1000000 := by have h4 := hI.length_eq; have h5 := sel_len true F; omega
  rw [show mx n = n by unfold mx; omega] at K4
  have hfree := free_iff HF.out.1 hI eF.p
  obtain ⟨fr, hfr⟩ : ∃ fr, (fnd F eF.p).isNone = fr := ⟨_, rfl⟩
  rw [hfr] at hfree
  have hEs := (EsW.own hO4).2
  generalize W2.heap.size = BI at *
  clear hO b3 B3 K3 T4 B2 K2
  go_upto_region 11 with (first
    | (have kk := r7; go_at_call 25; refine (rfind_any a6 c6 (hEs.below k7) hIl eF.p).mono ?_; rintro e W8 ⟨rfl, k8⟩; have k9 := bt k7 k8)
    | (have kk := r7; (with_reducible refine ldQ (.tmp 39) ?_ ?_ g7 0 eF.p ?_ ?_ ?_); (focus rfl); (focus rfl); (focus (repeat (first | with_reducible refine ev_ne ?_ rfl | with_reducible refine ev_no ?_ | (with_reducible refine ev_eq (n := 81) ?_ rfl; repeat (first | with_reducible refine sz_put ?_ | with_reducible refine sz_no ?_ | rfl)) | rfl))); (focus exact r7.en.q))
    | (have kk := q7; (with_reducible refine stE (.tmp 7) (.tmp 37) ?_ ?_ g7 eF zeroE ?_ ?_ ?_ ?_); (focus rfl); (focus rfl); (focus (repeat (first | with_reducible refine ev_ne ?_ rfl | with_reducible refine ev_no ?_ | (with_reducible refine ev_eq (n := 81) ?_ rfl; repeat (first | with_reducible refine sz_put ?_ | with_reducible refine sz_no ?_ | rfl)) | rfl))); (focus (repeat (first | with_reducible refine ev_ne ?_ rfl | with_reducible refine ev_no ?_ | (with_reducible refine ev_eq (n := 81) ?_ rfl; repeat (first | with_reducible refine sz_put ?_ | with_reducible refine sz_no ?_ | rfl)) | rfl))); (focus exact q7); intro W7 gr7 r7; have k7 := bt (bt c5 c6') (grown_below gr7 b7 h7 b7.size); clear q7)
    | (have kk := c6'; (with_reducible refine alG infoEz ?_ ?_ ?_); (focus rfl); (focus rfl); intro g7 V7 h7 l7 b7 q7)
    | ((with_reducible refine bdG (T := 37) (v := eV eF) [(0, .tmp 36), (1, .const (.int .i64 7))] ?_ ?_ ?_ ?_); (focus rfl); (focus rfl); (focus (first | exact bdEF3 _ | skip)))
    | ((with_reducible refine bdG (T := 35) (v := (Value.agg (qcells eF.p).toArray)) [(0, .tmp 34), (1, .tmp 35)] ?_ ?_ ?_ ?_); (focus rfl); (focus rfl); (focus (first | exact bdEF2 _ | skip)))
    | (have kk := c5; go_at_call 27; refine (rany_any _).mono ?_; rintro e X6 ⟨rfl, c6'⟩)
    | ((with_reducible refine bdG (T := 33) (v := (Value.agg (pcells (⟨m4 9 9 9 9, 128⟩)).toArray)) [(0, .tmp 33), (1, .const (.int .i64 128))] ?_ ?_ ?_ ?_); (focus rfl); (focus rfl); (focus (first | exact bdEF1 _ | skip)))
    | (have kk := K4; go_at_call 26; refine (f4_9 _).mono ?_; rintro e X5 ⟨rfl, c5⟩))
  have K9 := K4.below k9
  have B9 := bt B4 k9
  have r79 := r7.below k8 r7.lt
  have hO9 := own_below hO4 k9
  clear K4 B4 k8 k9 k7 r7 hO4 hEs b7 h7 l7 gr7 c5 c6'
  go_wp2_with fail
  go_loopw [9] (fun v wr => ∃ j : Nat, (j : Int) ≤ n ∧ v = .int .i64 j ∧ Kn wr b k (n - j) F ∧ Row wr g7 37 (ecs eF) ∧ kE.Own wr BI (.slice a6 I.length c6) I ∧ Below w.heap.size w wr) (fun v _ => (n - intOf v).toNat)
  case atStart => exact ⟨0, h2, rfl, by simpa using K9, r79, hO9, B9⟩
  case round =>
    clear K9 B9 r79 hO9
    obtain ⟨j, hj, rfl, hK, hr, hO, hB⟩ := hrel
    by_cases hlt : (j : Int) < n
    · have hw64 : wrap64 ((j : Int) + 1) = (j : Int) + 1 := by unfold wrap64; omega
      have HJ : Hid (((j + 1 : Nat) : Int) ≤ n) := by show _ ≤ _; omega
      have HM : Hid ((n - ((j : Int) + 1)).toNat < (n - (j : Int)).toNat) := by show _ < _; omega
      have hDo := do_is hK ⟨1, eF⟩ wfF (by omega) (by omega) (by have := HF.out.2; omega) (doF_fail (by omega))
      have hs0 : (sel false F).length = 0 := by rw [(sel_all HF.out.1).1]; rfl
      have HE : Hid ((n - (j : Int)) - 1 = n - ((j + 1 : Nat) : Int)) := by show _ = _; omega
      have h1l := hl1
      clear hfree hfr hI hA hIl h2 h3
      go_wp2_with (first
    | (have kk := K4; go_at_call 17; refine (list_len K4 h1l hs0).mono ?_; rintro e X5 ⟨a5, c5, rfl, b5⟩; have K5 := K4.below b5; have r5 := r4.below b5 r4.lt; have o5 := own_below o4 b5; have B5 := bt B4 b5)
    | (have kk := hK; go_at_call 10; refine hDo.mono ?_; rintro e W4 ⟨rfl, K4, T4⟩; have r4 := T4.row hK hr (by decide); have o4 := own_kt T4 hK hO; have B4 := T4.base hB hb)
    | ((with_reducible refine bdG (T := 39) (v := oV ⟨1, eF⟩) [(0, .const (.int .i64 1)), (1, .tmp 49)] ?_ ?_ ?_ ?_); (focus rfl); (focus rfl); (focus (first | exact bdO 1 eF _ | skip)))
    | (have kk := hr; (with_reducible refine ldE (.tmp 7) ?_ ?_ g7 0 eF ?_ ?_ ?_); (focus rfl); (focus rfl); (focus (repeat (first | with_reducible refine ev_ne ?_ rfl | with_reducible refine ev_no ?_ | (with_reducible refine ev_eq (n := 81) ?_ rfl; repeat (first | with_reducible refine sz_put ?_ | with_reducible refine sz_no ?_ | rfl)) | rfl))); (focus exact hr.en)))
      go_roundw
      case rel => exact ⟨j + 1, HJ.out, by first | (rw [hw64]; rfl) | rfl | go_num, by rw [← HE.out]; exact K5, r5, o5, B5⟩
      case measure => first | (rw [hw64]; simp only [intOf]; exact HM.out) | (simp only [intOf]; exact HM.out)
    · obtain rfl : (j : Int) = n := by omega
      rw [Int.sub_self] at hK
      have hl2 : F.length < 1000000 := by have := HF.out.2; omega
      cases hf : fnd F eF.p with
      | none =>
        obtain rfl : true = fr := by rw [← hfr, hf]; rfl
        have hp2 := putF_new (F := F) (n := ⟨eF, false⟩) hf
        have hs1 : (sel false (putF F ⟨eF, false⟩)).length = 1 := by rw [hp2, sel_append, (sel_all HF.out.1).1]; rfl
        have hs2 : I.Perm (sel true (putF F ⟨eF, false⟩)) := by rw [hp2, sel_append]; simpa [sel] using hI
        have hl3 : (putF F ⟨eF, false⟩).length ≤ 1000000 := by rw [hp2, List.length_append]; simp; omega
        have hDo := do_is hK ⟨1, eF⟩ wfF (by omega) (by omega) hl2 (doF_new hf)
        clear hfree hfr hI hp2 hf HF
        generalize putF F ⟨eF, false⟩ = G at *
        go_wp2_with (first
          | (have kk := B7; go_at_call 8; refine (live_any _).mono ?_; rintro e X10 ⟨rfl, b10⟩; have B10 := bt B7 b10)
          | (have kk := B6; go_at_call 17; refine (list_len K6 hl3 hs1).mono ?_; rintro e X7 ⟨a7, c7, rfl, b7⟩; have B7 := bt B6 b7)
          | (have kk := o5; go_at_call 16; refine (rsame_any a5 a6 c5 c6 (EsW.own o5).2 (EsW.own o45).2 hIl).mono ?_; rintro e X6 ⟨rfl, b6⟩; have K6 := K5.below b6; have B6 := bt B5 b6)
          | (have kk := K4; go_at_call 18; refine (imp_same K4 hl3 hA hs2).mono ?_; rintro e X5 ⟨a5, c5, rfl, o5, b5⟩; have K5 := K4.below b5; have o45 := own_below o4 b5; have B5 := bt B4 b5)
          | (have kk := hK; go_at_call 10; refine hDo.mono ?_; rintro e W4 ⟨rfl, K4, T4⟩; have o4 := own_kt T4 hK hO; have B4 := T4.base hB hb)
          | ((with_reducible refine bdG (T := 39) (v := oV ⟨1, eF⟩) [(0, .const (.int .i64 1)), (1, .tmp 59)] ?_ ?_ ?_ ?_); (focus rfl); (focus rfl); (focus (first | exact bdO 1 eF _ | skip)))
          | (have kk := hr; (with_reducible refine ldE (.tmp 7) ?_ ?_ g7 0 eF ?_ ?_ ?_); (focus rfl); (focus rfl); (focus (repeat (first | with_reducible refine ev_ne ?_ rfl | with_reducible refine ev_no ?_ | (with_reducible refine ev_eq (n := 81) ?_ rfl; repeat (first | with_reducible refine sz_put ?_ | with_reducible refine sz_no ?_ | rfl)) | rfl))); (focus exact hr.en)))
        go_ret
        exact ⟨rfl, B10⟩
      | some x =>
        obtain rfl : false = fr := by rw [← hfr, hf]; rfl
        have hs1 : (sel false F).length = 0 := by rw [(sel_all HF.out.1).1]; rfl
        have hs2 := hI
        have hl3 := hl1
        have hDo := do_is hK ⟨1, eF⟩ wfF (by omega) (by omega) hl2 (doF_others hf (HF.out.1 x ((fnd_some hK.nd).1 hf).1))
        clear hfree hfr hI hf HF
        go_wp2_with (first
          | (have kk := B7; go_at_call 8; refine (live_any _).mono ?_; rintro e X10 ⟨rfl, b10⟩; have B10 := bt B7 b10)
          | (have kk := B6; go_at_call 17; refine (list_len K6 hl3 hs1).mono ?_; rintro e X7 ⟨a7, c7, rfl, b7⟩; have B7 := bt B6 b7)
          | (have kk := o5; go_at_call 16; refine (rsame_any a5 a6 c5 c6 (EsW.own o5).2 (EsW.own o45).2 hIl).mono ?_; rintro e X6 ⟨rfl, b6⟩; have K6 := K5.below b6; have B6 := bt B5 b6)
          | (have kk := K4; go_at_call 18; refine (imp_same K4 hl3 hA hs2).mono ?_; rintro e X5 ⟨a5, c5, rfl, o5, b5⟩; have K5 := K4.below b5; have o45 := own_below o4 b5; have B5 := bt B4 b5)
          | (have kk := hK; go_at_call 10; refine hDo.mono ?_; rintro e W4 ⟨rfl, K4, T4⟩; have o4 := own_kt T4 hK hO; have B4 := T4.base hB hb)
          | ((with_reducible refine bdG (T := 39) (v := oV ⟨1, eF⟩) [(0, .const (.int .i64 1)), (1, .tmp 59)] ?_ ?_ ?_ ?_); (focus rfl); (focus rfl); (focus (first | exact bdO 1 eF _ | skip)))
          | (have kk := hr; (with_reducible refine ldE (.tmp 7) ?_ ?_ g7 0 eF ?_ ?_ ?_); (focus rfl); (focus rfl); (focus (repeat (first | with_reducible refine ev_ne ?_ rfl | with_reducible refine ev_no ?_ | (with_reducible refine ev_eq (n := 81) ?_ rfl; repeat (first | with_reducible refine sz_put ?_ | with_reducible refine sz_no ?_ | rfl)) | rfl))); (focus exact hr.en)))
        go_ret
        exact ⟨rfl, B10⟩
theorem fails_walk (ad : Option Addr) (c : Nat) (l : List En) (n : Int) (w : World) (m : EsW w ad l) (f : ∀ x ∈ l, x.fit) : Calls Try.prog 6 #[.slice ad l.length c, .int .i64 n] w (Gives w (.bool true)) := by
  by_cases h : 150 < l.length ∨ n < 0 ∨ 150 < n
  · exact fails_live ad c l.length n w h
  · exact fails_main ad c l n w m (fun x hx => (f x hx).1) (by omega) (by omega) (by omega)
end Go.Proofs.Ytadnnjngflphjaa
