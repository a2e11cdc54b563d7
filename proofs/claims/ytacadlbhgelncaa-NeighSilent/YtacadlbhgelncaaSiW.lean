/-
  The walk of NeighSilent.
-/
import Derived.Test.YtacadlbhgelncaaN25
namespace Go.Proofs.Ytacadlbhgelncaa
open Lk (Hi hcs hcs_one)
open Rk (Rt rcs rtV)
open Go.RowKit Go.Maps Go.Shelf
set_option linter.unusedSimpArgs false
set_option linter.unusedVariables false
set_option maxRecDepth 20000
set_option maxHeartbeats 16000000 in
theorem silent_walk (most : Int) (ad : Option Addr) (k : Nat) (l : List Ic) (am : Option Addr) (km : Nat) (m : List Ac) (w : World) (hl : CsW w ad l) (hk : l.length ≤ k) (hkm : k ≤ maxLen) (hm : AsW w am m) (hmo : ∀ x ∈ m, x.h.fit ∧ wfI x.i) (hmm : m.length ≤ maxLen) :
    Calls Try.prog 3 #[.int .i64 most, .slice ad l.length k, .slice am m.length km] w (Gives w (.bool true)) := by
  have hRi := right_any ad k l am km m w hl hk hkm hm hmm
  have HL : ∀ W, Below w.heap.size w W → Calls Try.prog 9 #[] W fun e w' => e = .returned (.bool true) ∧ Below w.heap.size w w' := fun W hW => (live_any W).mono (by
    rintro e w' ⟨rfl, hn⟩
    exact ⟨rfl, bt hW hn⟩)
  have hlw : ∀ W, Below w.heap.size w W → CsW W ad l := fun W hW => hl.below hW
  have hmw : ∀ W, Below w.heap.size w W → AsW W am m := fun W hW => hm.below hW
  clear hl hk hkm hm hmm
  go_enter Try.func3, Try.ntmps3
  go_upto_region 3 with (first
    | (have kk := hb; go_at_call 9; refine (HL _ hb).mono ?_; rintro e wl ⟨rfl, hn⟩)
    | (go_at_call 8; refine hRi.mono ?_; rintro e w1 ⟨b, rfl, hr, hb⟩; cases b))
  all_goals try (go_ret; exact ⟨rfl, hn⟩)
  rename_i z1 z2 zK zA
  obtain ⟨hok, hl8, hm120, hac⟩ := hr (by simp)
  have q0 : 0 ≤ most := by omega
  have q1 : most ≤ 120 := by first | omega | (have := z2.2; omega) | (simp at z2; omega)
  have hNew := new_s (X := w) most ad k l hb (hlw _ hb) hl8 hok
  clear hr z1 z2 hRi hlw hok hl8
  generalize l.map faceI = F at *
  go_upto_region 7 with (first
    | (go_at_call 10; refine hNew.mono ?_; rintro e w3 ⟨t, mb, rfl, s0⟩; clear hNew))
  go_wp2_with fail
  go_loopw [8, 9] (fun nv i wr => ∃ (j : Nat) (nw : Int) (L : List Ng), j ≤ m.length ∧ i = .int .i64 j ∧ nv = .int .i64 nw ∧ 0 ≤ nw ∧ nw ≤ j * 1073741824 ∧ Stt w wr t mb most F L ∧ (L.length : Int) ≤ most ∧ ∀ n ∈ L, Qn nw n) (fun _ i _ => m.length - (intOf i).toNat)
  case atStart => exact ⟨0, 0, [], by omega, rfl, rfl, by omega, by omega, s0, by simpa using q0, by simp⟩
  case round =>
    clear s0
    obtain ⟨j, nw, L, hj, rfl, rfl, n0, n1, sL, hLm, hQ⟩ := hrel
    by_cases hlt : j < m.length
    · rcases (hmw _ sL.bl).lies with h0 | ⟨mg, mo, rfl, hmg, hcs⟩
      · rw [h0] at hlt; simp at hlt
      have hx := hcs j m[j] (List.getElem?_eq_getElem hlt)
      have hxo := hac m[j] (List.getElem_mem hlt)
      have hxf := hmo m[j] (List.getElem_mem hlt)
      have hxs : ∀ W, Below w.heap.size w W → Sm W m[j].h := fun W hW => (hmw W hW).st m[j] (List.getElem_mem hlt)
      have hji : (j : Int) < (m.length : Int) := by omega
      have hw64 : wrap64 ((j : Int) + 1) = (j : Int) + 1 := by unfold wrap64; omega
      have HJ : Hid (j + 1 ≤ m.length) := hlt
      have HM : Hid (m.length - ((j : Int) + 1).toNat < m.length - ((j : Int)).toNat) := meas hlt
      have hjm : j ≤ 119 := by omega
      have HXM : Hid (∀ W, Below w.heap.size w W → W.rangeAt mg (mo + j * 87) (acs m[j])) := fun W hW => by
        rcases (hmw W hW).lies with h0 | ⟨g', o', e, _, hc'⟩
        · rw [h0] at hlt; simp at hlt
        · cases e
          exact hc' j m[j] (List.getElem?_eq_getElem hlt)
      generalize m[j] = x at *
      have ht1 : nw + x.g ≤ 1125899906842624 := by have := hxo.g1; omega
      have ht0 : 0 ≤ nw + x.g := by have := hxo.g0; omega
      have hwn : wrap64 (nw + x.g) = nw + x.g := by unfold wrap64; omega
      have HN : Hid (nw + x.g ≤ ((j + 1 : Nat) : Int) * 1073741824) := by show _ ≤ _; have := hxo.g1; omega
      have hQ1 : ∀ n ∈ L, Qn (nw + x.g) n := fun n hn => (hQ n hn).mono (by have := hxo.g0; omega)
      have hLk : L.length < 1000000 := by omega
      have hHe := fun W (hS : Stt w W t mb most F L) => hello_s hS (nw + x.g) x.i x.a x.h hxf.2 hxf.1 ht0 ht1 (hxs W hS.bl) hLk
      have hTi := fun W (hS : Stt w W t mb most F L) => tick_s hS (nw + x.g) ht1
      have hLi := fun (L' : List Ng) W (hS : Stt w W t mb most F L') => list_s hS
      have HR1 : Hid ((((helloR most F L (nw + x.g) x.i x.a x.h).2.length : Int) ≤ most) ∧ (0 < x.h.intv → ∀ n ∈ (helloR most F L (nw + x.g) x.i x.a x.h).2, Qn (nw + x.g) n)) := ⟨hello_len _ _ _ _ hLm, fun hi => Qn.hello hQ1 hi hxf.1⟩
      have HR2 : Hid (((((L.map (agedN · (nw + x.g))).filter (fun n => !deadB n)).length : Int) ≤ most) ∧ (∀ n ∈ (L.map (agedN · (nw + x.g))).filter (fun n => !deadB n), Qn (nw + x.g) n)) := ⟨by have := tick_len L (nw + x.g); omega, Qn.tick hQ1 (fun n hn => (sL.tb.nok n hn).1)⟩
      have n2 := ht0
      have HLm : Hid ((L.length : Int) ≤ most) := hLm
      have HQ1 : Hid (∀ n ∈ L, Qn (nw + x.g) n) := hQ1
      clear hwn
      generalize hnt : nw + x.g = nt at *
      have hwn : wrap64 (nw + x.g) = nt := by rw [hnt]; unfold wrap64; omega
      clear hnt
      generalize helloR most F L nt x.i x.a x.h = hR at *
      generalize (L.map (agedN · nt)).filter (fun n => !deadB n) = L2 at *
      have HKc : Hid (∀ W, Below w.heap.size w W → W.cell? ⟨mg, mo + j * 87, none⟩ = some (.int .i64 x.k) ∧ W.cell? ⟨mg, mo + j * 87 + 1, none⟩ = some (.int .i64 x.g) ∧ W.cell? ⟨mg, mo + j * 87 + 2, none⟩ = some (.int .i64 x.i) ∧ W.cell? ⟨mg, mo + j * 87 + 21, none⟩ = some (.int .u16 (x.h.intv : Int))) := fun W hW => by
        obtain ⟨a0, a1, a2, _⟩ := acs_cells (HXM.out W hW)
        exact ⟨a0, a1, a2, acs_h (HXM.out W hW) 2 _ rfl⟩
      obtain ⟨x0, x1, x2, x4⟩ := HKc.out _ sL.bl
      clear hcs hx hxo hxf hxs hQ hQ1 hLk hj hlt hjm n1 n0 ht1 ht0 hac hmo
      by_cases k0 : x.k = 0
      · have e0 : (x.k == 0) = true := by simp [k0]
        have e2 : (x.k == 2) = false := by simp [k0]
        clear k0
        by_cases v0 : 0 < x.h.intv
        · have e3 : (x.h.intv : Int) > 0 := by omega
          have HR := HR1.out.2 v0
          clear v0
          have hle : ¬ (hR.2.length : Int) > most := by have := HR1.out.1; omega
          clear HR2 hTi
          go_upto_region 12 with fail
          refine wp_region_noPanic ?_
          refine wp_region_N (S := fun W => Stt w W t mb most F L) 17 (by kernel_rfl) (sL.below (Below.refl _ _).drew) (fun hHeld => ?_)
          refine takeN_lit (i := 0) (v := ?_) (F := #[false, true, true, true, true, true, true, true, true, true, true, true, true, true, true, true, true, false]) rfl (by kernel_rfl) (by kernel_rfl) (by kernel_rfl) (by kernel_rfl) (fun _ _ _ h => h) (Or.inl ⟨by rfl, ?_⟩) (by assumption) ?_
          rotate_left
          · (intro w hSw; (try dsimp only at hSw); go_simp <;> with_reducible rfl)
          try simp only [Act.put, List.setIfInBounds_toArray, List.set_cons_zero, List.set_cons_succ]
          refine takeN_lit (i := 1) (v := ?_) (F := #[true, false, true, true, true, true, true, true, true, true, true, true, true, true, true, true, true, false]) rfl (by kernel_rfl) (by kernel_rfl) (by kernel_rfl) (by kernel_rfl) (fun _ _ _ h => h) (Or.inl ⟨by rfl, ?_⟩) (by assumption) ?_
          rotate_left
          · (intro w hSw; (try dsimp only at hSw); go_simp <;> with_reducible rfl)
          try simp only [Act.put, List.setIfInBounds_toArray, List.set_cons_zero, List.set_cons_succ]
          refine takeN_lit (i := 2) (v := ?_) (F := #[true, true, false, true, false, false, false, true, true, true, true, true, true, true, true, true, true, false]) rfl (by kernel_rfl) (by kernel_rfl) (by kernel_rfl) (by kernel_rfl) (fun _ _ _ h => h) (Or.inl ⟨by rfl, ?_⟩) (by assumption) ?_
          rotate_left
          · (intro w hSw; (try dsimp only at hSw); go_simp <;> with_reducible rfl)
          try simp only [Act.put, List.setIfInBounds_toArray, List.set_cons_zero, List.set_cons_succ]
          refine takeN_lit (i := 3) (v := ?_) (F := #[true, true, true, false, false, false, false, true, true, true, true, true, true, true, true, true, true, false]) rfl (by kernel_rfl) (by kernel_rfl) (by kernel_rfl) (by kernel_rfl) (fun _ _ _ h => h) (Or.inl ⟨by rfl, ?_⟩) (by assumption) ?_
          rotate_left
          · (intro w hSw; (try dsimp only at hSw); go_simp <;> with_reducible rfl)
          try simp only [Act.put, List.setIfInBounds_toArray, List.set_cons_zero, List.set_cons_succ]
          refine takeN_lit (i := 4) (v := ?_) (F := #[true, true, true, true, false, false, false, true, true, true, true, true, true, true, true, true, true, false]) rfl (by kernel_rfl) (by kernel_rfl) (by kernel_rfl) (by kernel_rfl) (fun _ _ _ h => h) (Or.inl ⟨by rfl, ?_⟩) (by assumption) ?_
          rotate_left
          · (intro w hSw; (try dsimp only at hSw); have z := hji; go_simp <;> with_reducible rfl)
          try simp only [Act.put, List.setIfInBounds_toArray, List.set_cons_zero, List.set_cons_succ]
          refine takeN_lit (i := 5) (v := ?_) (F := #[true, true, true, true, true, false, false, true, true, true, true, true, true, true, true, true, true, false]) rfl (by kernel_rfl) (by kernel_rfl) (by kernel_rfl) (by kernel_rfl) (fun _ _ _ h => h) (Or.inl ⟨by rfl, ?_⟩) (by assumption) ?_
          rotate_left
          · (intro w hSw; (try dsimp only at hSw); go_simp <;> with_reducible rfl)
          try simp only [Act.put, List.setIfInBounds_toArray, List.set_cons_zero, List.set_cons_succ]
          refine takeN_lit (i := 6) (v := ?_) (F := #[true, true, true, true, true, true, false, true, true, true, true, true, true, true, true, true, true, false]) rfl (by kernel_rfl) (by kernel_rfl) (by kernel_rfl) (by kernel_rfl) (fun _ _ _ h => h) (Or.inl ⟨by rfl, ?_⟩) (by assumption) ?_
          rotate_left
          · (intro w hSw; (try dsimp only at hSw); have z := (HKc.out _ hSw.bl).2.2.1; go_simp <;> with_reducible rfl)
          try simp only [Act.put, List.setIfInBounds_toArray, List.set_cons_zero, List.set_cons_succ]
          refine takeN_lit (i := 7) (v := ?_) (F := #[true, true, true, true, true, true, true, false, true, false, false, false, true, true, true, true, true, false]) rfl (by kernel_rfl) (by kernel_rfl) (by kernel_rfl) (by kernel_rfl) (fun _ _ _ h => h) (Or.inl ⟨by rfl, ?_⟩) (by assumption) ?_
          rotate_left
          · (intro w hSw; (try dsimp only at hSw); go_simp <;> with_reducible rfl)
          try simp only [Act.put, List.setIfInBounds_toArray, List.set_cons_zero, List.set_cons_succ]
          refine takeN_lit (i := 8) (v := ?_) (F := #[true, true, true, true, true, true, true, true, false, false, false, false, true, true, true, true, true, false]) rfl (by kernel_rfl) (by kernel_rfl) (by kernel_rfl) (by kernel_rfl) (fun _ _ _ h => h) (Or.inl ⟨by rfl, ?_⟩) (by assumption) ?_
          rotate_left
          · (intro w hSw; (try dsimp only at hSw); go_simp <;> with_reducible rfl)
          try simp only [Act.put, List.setIfInBounds_toArray, List.set_cons_zero, List.set_cons_succ]
          refine takeN_lit (i := 9) (v := ?_) (F := #[true, true, true, true, true, true, true, true, true, false, false, false, true, true, true, true, true, false]) rfl (by kernel_rfl) (by kernel_rfl) (by kernel_rfl) (by kernel_rfl) (fun _ _ _ h => h) (Or.inl ⟨by rfl, ?_⟩) (by assumption) ?_
          rotate_left
          · (intro w hSw; (try dsimp only at hSw); have z := hji; go_simp <;> with_reducible rfl)
          try simp only [Act.put, List.setIfInBounds_toArray, List.set_cons_zero, List.set_cons_succ]
          refine takeN_lit (i := 10) (v := ?_) (F := #[true, true, true, true, true, true, true, true, true, true, false, false, true, true, true, true, true, false]) rfl (by kernel_rfl) (by kernel_rfl) (by kernel_rfl) (by kernel_rfl) (fun _ _ _ h => h) (Or.inl ⟨by rfl, ?_⟩) (by assumption) ?_
          rotate_left
          · (intro w hSw; (try dsimp only at hSw); go_simp <;> with_reducible rfl)
          try simp only [Act.put, List.setIfInBounds_toArray, List.set_cons_zero, List.set_cons_succ]
          refine takeN_lit (i := 11) (F := #[true, true, true, true, true, true, true, true, true, true, true, false, true, true, true, true, true, false]) rfl (by kernel_rfl) (by kernel_rfl) (by kernel_rfl) (by kernel_rfl) (fun _ _ _ h => h) (yA x.a (fun w h => acs_a (HXM.out _ h.bl)) (by rfl) rfl rfl) (by assumption) ?_
          try simp only [Act.put, List.setIfInBounds_toArray, List.set_cons_zero, List.set_cons_succ]
          refine takeN_lit (i := 12) (v := ?_) (F := #[true, true, true, true, true, true, true, true, true, true, true, true, false, true, false, false, false, false]) rfl (by kernel_rfl) (by kernel_rfl) (by kernel_rfl) (by kernel_rfl) (fun _ _ _ h => h) (Or.inl ⟨by rfl, ?_⟩) (by assumption) ?_
          rotate_left
          · (intro w hSw; (try dsimp only at hSw); go_simp <;> with_reducible rfl)
          try simp only [Act.put, List.setIfInBounds_toArray, List.set_cons_zero, List.set_cons_succ]
          refine takeN_lit (i := 13) (v := ?_) (F := #[true, true, true, true, true, true, true, true, true, true, true, true, true, false, false, false, false, false]) rfl (by kernel_rfl) (by kernel_rfl) (by kernel_rfl) (by kernel_rfl) (fun _ _ _ h => h) (Or.inl ⟨by rfl, ?_⟩) (by assumption) ?_
          rotate_left
          · (intro w hSw; (try dsimp only at hSw); go_simp <;> with_reducible rfl)
          try simp only [Act.put, List.setIfInBounds_toArray, List.set_cons_zero, List.set_cons_succ]
          refine takeN_lit (i := 14) (v := ?_) (F := #[true, true, true, true, true, true, true, true, true, true, true, true, true, true, false, false, false, false]) rfl (by kernel_rfl) (by kernel_rfl) (by kernel_rfl) (by kernel_rfl) (fun _ _ _ h => h) (Or.inl ⟨by rfl, ?_⟩) (by assumption) ?_
          rotate_left
          · (intro w hSw; (try dsimp only at hSw); have z := hji; go_simp <;> with_reducible rfl)
          try simp only [Act.put, List.setIfInBounds_toArray, List.set_cons_zero, List.set_cons_succ]
          refine takeN_lit (i := 15) (v := ?_) (F := #[true, true, true, true, true, true, true, true, true, true, true, true, true, true, true, false, false, false]) rfl (by kernel_rfl) (by kernel_rfl) (by kernel_rfl) (by kernel_rfl) (fun _ _ _ h => h) (Or.inl ⟨by rfl, ?_⟩) (by assumption) ?_
          rotate_left
          · (intro w hSw; (try dsimp only at hSw); go_simp <;> with_reducible rfl)
          try simp only [Act.put, List.setIfInBounds_toArray, List.set_cons_zero, List.set_cons_succ]
          refine takeN_lit (i := 16) (F := #[true, true, true, true, true, true, true, true, true, true, true, true, true, true, true, true, false, false]) rfl (by kernel_rfl) (by kernel_rfl) (by kernel_rfl) (by kernel_rfl) (fun _ _ _ h => h) (yTm x.h (fun w h => acs_h (HXM.out _ h.bl)) (by rfl) rfl rfl) (by assumption) ?_
          try simp only [Act.put, List.setIfInBounds_toArray, List.set_cons_zero, List.set_cons_succ]
          refine wpAnyN_ready (rs := [17]) (by kernel_rfl) (by simp) ?_
          refine consN_lit rfl (fun K hK => ?_) ?_
          · go_simp
            refine (hHe _ hHeld).mono ?_
            rintro e w5 ⟨rfl, s5⟩
            refine hK.out _ _ (Or.inl rfl) (fun _ => ?_)
            clear hK K
            try simp only [Act.put, List.setIfInBounds_toArray, List.set_cons_zero, List.set_cons_succ]
            refine wpAnyN_done (by kernel_rfl) ?_ _
            refine NoPanic.normal ?_
            obtain ⟨y0, y1, y2, y4⟩ := HKc.out _ s5.bl
            clear x0 x1 x2 x4 sL hHeld
            go_wp2_with (first
              | (have kk := s5; go_at_call 13; refine (hLi _ _ s5).mono ?_; rintro e w6 ⟨la, lc, rfl, s6⟩; clear s5))
            go_roundw
            case rel => exact ⟨j + 1, nt, hR.2, HJ.out, by first | rfl | go_num, rfl, n2, HN.out, s6, HR1.out.1, HR⟩
            case measure => (try rw [hw64]); simp only [intOf]; exact HM.out
          exact AllReadyN.nil
        · have e3 : ¬ (x.h.intv : Int) > 0 := by omega
          clear v0
          have hle : ¬ (L.length : Int) > most := by omega
          clear HR1 HR2 hTi hHe
          go_wp2_with (first
            | (have kk := sL; go_at_call 13; refine (hLi _ _ sL).mono ?_; rintro e w6 ⟨la, lc, rfl, s6⟩; clear sL))
          go_roundw
          case rel => exact ⟨j + 1, nt, L, HJ.out, by first | rfl | go_num, rfl, n2, HN.out, s6, HLm.out, HQ1.out⟩
          case measure => (try rw [hw64]); simp only [intOf]; exact HM.out
      · have e0 : (x.k == 0) = false := by simp [k0]
        by_cases k2 : x.k = 2
        · have e2 : (x.k == 2) = true := by simp [k2]
          clear k0 k2
          have hle : ¬ (L2.length : Int) > most := by have := HR2.out.1; omega
          clear HR1 hHe
          go_wp2_with (first
            | (have kk := s5; go_at_call 13; refine (hLi _ _ s5).mono ?_; rintro e w6 ⟨la, lc, rfl, s6⟩; clear s5)
            | (have kk := sL; go_at_call 12; refine (hTi _ sL).mono ?_; rintro e w5 ⟨ta, tn, tc, rfl, s5⟩; clear sL))
          go_roundw
          case rel => exact ⟨j + 1, nt, L2, HJ.out, by first | rfl | go_num, rfl, n2, HN.out, s6, HR2.out.1, HR2.out.2⟩
          case measure => (try rw [hw64]); simp only [intOf]; exact HM.out
        · have e2 : (x.k == 2) = false := by simp [k2]
          clear k0 k2
          have hle : ¬ (L.length : Int) > most := by omega
          clear HR1 HR2 hTi hHe
          go_wp2_with (first
            | (have kk := sL; go_at_call 13; refine (hLi _ _ sL).mono ?_; rintro e w6 ⟨la, lc, rfl, s6⟩; clear sL))
          go_roundw
          case rel => exact ⟨j + 1, nt, L, HJ.out, by first | rfl | go_num, rfl, n2, HN.out, s6, HLm.out, HQ1.out⟩
          case measure => (try rw [hw64]); simp only [intOf]; exact HM.out
    · have hwn : wrap64 (nw + 11796300) = nw + 11796300 := by unfold wrap64; omega
      have hTi := tick_s sL (nw + 11796300) (by omega)
      rw [Qn.end hQ (fun n hn => (sL.tb.nok n hn).1)] at hTi
      have hLi := fun W (hS : Stt w W t mb most F []) => list_s hS
      have hji : ¬ (j : Int) < (m.length : Int) := by omega
      have hB1 : nw + 11796300 ≤ 1125899906842624 := by omega
      have hB0 : 0 ≤ nw + 11796300 := by omega
      clear hmo hac hQ hlt hj n0 n1
      have ht1 : nw + 11796300 ≤ 1125899906842624 := hB1
      have ht0 : 0 ≤ nw + 11796300 := hB0
      clear hwn
      generalize hnt : nw + 11796300 = nt at *
      have hwn : wrap64 (nw + 11796300) = nt := by rw [hnt]; unfold wrap64; omega
      clear hnt hB0 hB1
      go_wp2_with (first
        | (have kk := s6; go_at_call 9; refine (HL _ s6.bl).mono ?_; rintro e wl ⟨rfl, hn⟩)
        | (have kk := s5; go_at_call 13; refine (hLi _ s5).mono ?_; rintro e w6 ⟨la, lc, rfl, s6⟩; clear s5)
        | (have kk := hTi; go_at_call 12; refine hTi.mono ?_; rintro e w5 ⟨ta, tn, tc, rfl, s5⟩; clear hTi))
      go_ret
      exact ⟨rfl, hn⟩
end Go.Proofs.Ytacadlbhgelncaa
