/-
  The walk of NeighNext.
-/
import Derived.Test.YtacadlbhgelncaaN31
namespace Go.Proofs.Ytacadlbhgelncaa
open Lk (Hi hcs hcs_one)
open Rk (Rt rcs rtV)
open Go.RowKit Go.Maps Go.Shelf
set_option linter.unusedSimpArgs false
set_option linter.unusedVariables false
set_option maxRecDepth 20000
theorem tick_x {X W : World} {t mb : Nat} {most : Int} {F : List Fc} {L : List Ng} (h : Stt X W t mb most F L) (now : Int) (t1 : now ≤ 1125899906842624) :
    Calls Try.prog 12 #[.pointer (some ⟨t, 0, none⟩), .int .i64 now] W fun e w' => ∃ ad c, e = .returned (.slice ad ((L.map (agedN · now)).filter deadB).length c) ∧ Stt X w' t mb most F ((L.map (agedN · now)).filter (fun n => !deadB n)) ∧ W.grownBy w' (some mb) := by
  refine (tick_any h.tb now t1).mono ?_
  rintro e w' ⟨r, K, rfl, hp, _, hT, hO⟩
  obtain ⟨ad, c, rfl, _⟩ := Kd.own_at hO
  have hp2 : ((L.map (agedN · now)).filter (fun n => !deadB n)).Perm ((K.map (agedN · now)).filter (fun n => !deadB n)) := (hp.symm.map _).filter _
  have hp3 : ((L.map (agedN · now)).filter deadB).Perm ((K.map (agedN · now)).filter deadB) := (hp.symm.map _).filter _
  exact ⟨ad, c, by rw [hp3.length_eq], h.turn (hT.perm hp2), hT.grown⟩
theorem stays_all {L : List Ng} {T : Int} (h : ∀ n ∈ L, agedN n T = n) (ha : ∀ n ∈ L, deadB n = false) : (L.map (agedN · T)).filter (fun n => !deadB n) = L ∧ (L.map (agedN · T)).filter deadB = [] := by
  have e : L.map (agedN · T) = L := by
    conv => rhs; rw [← List.map_id L]
    exact List.map_congr_left fun n hn => h n hn
  rw [e]
  exact ⟨List.filter_eq_self.2 fun n hn => by simp [ha n hn], List.filter_eq_nil_iff.2 fun n hn => by simp [ha n hn]⟩
theorem changed {L K : List Ng} {T : Int} (hp : K.Perm L) (hx : ∃ n ∈ L, agedN n T ≠ n) : 0 < ((L.map (agedN · T)).filter deadB).length ∨ ∀ K2 : List Ng, K2.Perm ((L.map (agedN · T)).filter (fun n => !deadB n)) → Asc K → Asc K2 → K2 ≠ K := by
  by_cases hd : 0 < ((L.map (agedN · T)).filter deadB).length
  · exact .inl hd
  · refine .inr fun K2 hp2 hK h2 e => ?_
    have hn : (L.map (agedN · T)).filter deadB = [] := List.eq_nil_of_length_eq_zero (by omega)
    have hall : (L.map (agedN · T)).filter (fun n => !deadB n) = L.map (agedN · T) := List.filter_eq_self.2 fun n hn' => by
      have := List.filter_eq_nil_iff.1 hn n hn'
      simpa using this
    rw [hall] at hp2
    have hpK : (K.map (agedN · T)).Perm K := ((hp.map _).trans hp2.symm).trans (by rw [e])
    have hascm : Asc (K.map (agedN · T)) := by
      unfold Asc
      rw [List.pairwise_map]
      exact hK
    have heq := Asc.unique hascm hK hpK
    obtain ⟨n, hnL, hne⟩ := hx
    have hnK := hp.mem_iff.2 hnL
    apply hne
    have : ∀ (A : List Ng), A.map (agedN · T) = A → ∀ x ∈ A, agedN x T = x := by
      intro A
      induction A with
      | nil => intro _ x hx; cases hx
      | cons a A ih =>
        intro h x hx
        simp only [List.map_cons, List.cons.injEq] at h
        rcases List.mem_cons.1 hx with rfl | hx
        · exact h.1
        · exact ih h.2 x hx
    exact this K heq n hnK
set_option maxHeartbeats 32000000 in
theorem next_walk (ad : Option Addr) (k : Nat) (l : List Ic) (am : Option Addr) (km : Nat) (m : List Ac) (w : World) (hl : CsW w ad l) (hk : l.length ≤ k) (hkm : k ≤ maxLen) (hm : AsW w am m) (hmo : ∀ x ∈ m, x.h.fit ∧ wfI x.i) (hmm : m.length ≤ maxLen) :
    Calls Try.prog 4 #[.slice ad l.length k, .slice am m.length km] w (Gives w (.bool true)) := by
  have hRi := right_any ad k l am km m w hl hk hkm hm hmm
  have HL : ∀ W, Below w.heap.size w W → Calls Try.prog 9 #[] W fun e w' => e = .returned (.bool true) ∧ Below w.heap.size w w' := fun W hW => (live_any W).mono (by
    rintro e w' ⟨rfl, hn⟩
    exact ⟨rfl, bt hW hn⟩)
  have hlw : ∀ W, Below w.heap.size w W → CsW W ad l := fun W hW => hl.below hW
  have hmw : ∀ W, Below w.heap.size w W → AsW W am m := fun W hW => hm.below hW
  clear hl hk hkm hm hmm
  go_enter Try.func4, Try.ntmps4
  go_upto_region 3 with (first
    | (have kk := hb; go_at_call 9; refine (HL _ hb).mono ?_; rintro e wl ⟨rfl, hn⟩)
    | (go_at_call 8; refine hRi.mono ?_; rintro e w1 ⟨b, rfl, hr, hb⟩; cases b))
  · go_ret
    exact ⟨rfl, hn⟩
  obtain ⟨hok, hl8, hm120, hac⟩ := hr (by simp)
  have hNew := new_s (X := w) 120 ad k l hb (hlw _ hb) hl8 hok
  have hF8 : (l.map faceI).length ≤ 8 := by rw [List.length_map]; exact hl8
  clear hr hRi hlw hok hl8
  generalize l.map faceI = F at *
  go_upto_region 7 with (first
    | (go_at_call 10; refine hNew.mono ?_; rintro e w3 ⟨t, mb, rfl, s0⟩; clear hNew))
  go_wp2_with fail
  go_loopw [6, 7] (fun nv iv wr => ∃ (j : Nat) (nw : Int) (L : List Ng), j ≤ m.length ∧ iv = .int .i64 j ∧ nv = .int .i64 nw ∧ 0 ≤ nw ∧ nw ≤ j * 1073741824 ∧ Stt w wr t mb 120 F L ∧ (L.length : Int) ≤ 120 ∧ (∀ n ∈ L, Tn nw n) ∧ ∀ n ∈ L, deadB n = false) (fun _ iv _ => m.length - (intOf iv).toNat)
  case atStart => exact ⟨0, 0, [], by omega, rfl, rfl, by omega, by omega, s0, by simp, by simp, by simp⟩
  case round =>
    clear s0
    obtain ⟨j, nw, L, hj, rfl, rfl, n0, n1, sL, hLm, hTn, hAl⟩ := hrel
    by_cases hlt : j < m.length
    · rcases (hmw _ sL.bl).lies with h0 | ⟨mg, mo, rfl, hmg, hcs⟩
      · rw [h0] at hlt; simp at hlt
      have hxo := hac m[j] (List.getElem_mem hlt)
      have hxf := hmo m[j] (List.getElem_mem hlt)
      have hxs : ∀ W, Below w.heap.size w W → Sm W m[j].h := fun W hW => (hmw W hW).st m[j] (List.getElem_mem hlt)
      have hji : (j : Int) < (m.length : Int) := by omega
      have hw64 : wrap64 ((j : Int) + 1) = (j : Int) + 1 := by unfold wrap64; omega
      have HJ : Hid (j + 1 ≤ m.length) := hlt
      have HM : Hid (m.length - ((j : Int) + 1).toNat < m.length - ((j : Int)).toNat) := meas hlt
      have hjm : j ≤ 119 := by omega
      have HXM : Hid (∀ W, Below w.heap.size w W → W.rangeAt mg (mo + j * 87) (acs m[j])) := fun W hW => by
        rcases (hmw W hW).lies with h0 | ⟨g', o', e, _, hc'⟩
        · rw [h0] at hlt; simp at hlt
        · cases e
          exact hc' j m[j] (List.getElem?_eq_getElem hlt)
      generalize m[j] = x at *
      have ht1 : nw + x.g ≤ 1125899906842624 := by have := hxo.g1; omega
      have ht0 : 0 ≤ nw + x.g := by have := hxo.g0; omega
      have HN : Hid (nw + x.g ≤ ((j + 1 : Nat) : Int) * 1073741824) := by show _ ≤ _; have := hxo.g1; omega
      have hLk : L.length < 1000000 := by omega
      have hHe := fun W (hS : Stt w W t mb 120 F L) => hello_s hS (nw + x.g) x.i x.a x.h hxf.2 hxf.1 ht0 ht1 (hxs W hS.bl) hLk
      have hIh := fun W (hS : Stt w W t mb 120 F L) => ihu_s hS (nw + x.g) x.i x.a x.h hxf.2 hxf.1 ht0 ht1 (hxs W hS.bl) hLk
      have hTn1 : ∀ n ∈ L, Tn (nw + x.g) n := fun n hn => (hTn n hn).mono (by have := hxo.g0; omega)
      have hTi := fun (L' : List Ng) W (hS : Stt w W t mb 120 F L') => tick_s hS (nw + x.g) ht1
      have HEnd : Hid (∀ (L' : List Ng) W, Stt w W t mb 120 F L' → (L'.length : Int) ≤ 120 → (∀ n ∈ L', Tn (nw + x.g) n) → ((((L'.map (agedN · (nw + x.g))).filter (fun n => !deadB n)).length : Int) ≤ 120 ∧ (∀ n ∈ (L'.map (agedN · (nw + x.g))).filter (fun n => !deadB n), Tn (nw + x.g) n) ∧ ∀ n ∈ (L'.map (agedN · (nw + x.g))).filter (fun n => !deadB n), deadB n = false)) := fun L' W hS h1 h2 => ⟨by have := tick_len L' (nw + x.g); omega, Tn.tick h2 (fun n hn => (hS.tb.nok n hn).1), fun n hn => by have := (List.mem_filter.1 hn).2; simpa using this⟩
      have HR1 : Hid (((helloR 120 F L (nw + x.g) x.i x.a x.h).2.length : Int) ≤ 120 ∧ ∀ n ∈ (helloR 120 F L (nw + x.g) x.i x.a x.h).2, Tn (nw + x.g) n) := ⟨hello_len _ _ _ _ hLm, Tn.hello hTn1 hxf.1 ht0⟩
      have HR2 : Hid (((ihuX F L (nw + x.g) x.i x.a x.h).2.length : Int) ≤ 120 ∧ ∀ n ∈ (ihuX F L (nw + x.g) x.i x.a x.h).2, Tn (nw + x.g) n) := ⟨by rw [ihu_len _ _ _ _ hxf.1 (fun n hn => (sL.tb.nok n hn).1) sL.tb.fok]; exact hLm, Tn.ihu hTn1 hxf.1 ht0⟩
      have HR3 : Hid ((L.length : Int) ≤ 120 ∧ ∀ n ∈ L, Tn (nw + x.g) n) := ⟨hLm, hTn1⟩
      have n2 := ht0
      generalize hnt : nw + x.g = nt at *
      have hwn : wrap64 (nw + x.g) = nt := by rw [hnt]; unfold wrap64; omega
      clear hnt
      generalize helloR 120 F L nt x.i x.a x.h = hR at *
      generalize ihuX F L nt x.i x.a x.h = iR at *
      have HKc : Hid (∀ W, Below w.heap.size w W → W.cell? ⟨mg, mo + j * 87, none⟩ = some (.int .i64 x.k) ∧ W.cell? ⟨mg, mo + j * 87 + 1, none⟩ = some (.int .i64 x.g) ∧ W.cell? ⟨mg, mo + j * 87 + 2, none⟩ = some (.int .i64 x.i)) := fun W hW => by
        obtain ⟨a0, a1, a2, _⟩ := acs_cells (HXM.out W hW)
        exact ⟨a0, a1, a2⟩
      obtain ⟨x0, x1, x2⟩ := HKc.out _ sL.bl
      clear hcs hxo hxf hxs hLk hj hlt hjm n1 n0 ht1 ht0 hac hmo hLm hTn hTn1 hAl
      by_cases k0 : x.k = 0
      · have e0 : (x.k == 0) = true := by simp [k0]
        have e1 : (x.k == 1) = false := by simp [k0]
        clear k0
        go_upto_region 12 with fail
        refine wp_region_noPanic ?_
        refine wp_region_N (S := fun W => Stt w W t mb 120 F L) 17 (by kernel_rfl) (sL.below (Below.refl _ _).drew) (fun hHeld => ?_)
        refine takeN_lit (i := 0) (v := ?_) (F := #[false, true, true, true, true, true, true, true, true, true, true, true, true, true, true, true, true, false]) rfl (by kernel_rfl) (by kernel_rfl) (by kernel_rfl) (by kernel_rfl) (fun _ _ _ h => h) (Or.inl ⟨by rfl, ?_⟩) (by assumption) ?_
        rotate_left
        · (intro w hSw; (try dsimp only at hSw); go_simp <;> with_reducible rfl)
        try simp only [Act.put, List.setIfInBounds_toArray, List.set_cons_zero, List.set_cons_succ]
        refine takeN_lit (i := 1) (v := ?_) (F := #[true, false, true, true, true, true, true, true, true, true, true, true, true, true, true, true, true, false]) rfl (by kernel_rfl) (by kernel_rfl) (by kernel_rfl) (by kernel_rfl) (fun _ _ _ h => h) (Or.inl ⟨by rfl, ?_⟩) (by assumption) ?_
        rotate_left
        · (intro w hSw; (try dsimp only at hSw); go_simp <;> with_reducible rfl)
        try simp only [Act.put, List.setIfInBounds_toArray, List.set_cons_zero, List.set_cons_succ]
        refine takeN_lit (i := 2) (v := ?_) (F := #[true, true, false, true, false, false, false, true, true, true, true, true, true, true, true, true, true, false]) rfl (by kernel_rfl) (by kernel_rfl) (by kernel_rfl) (by kernel_rfl) (fun _ _ _ h => h) (Or.inl ⟨by rfl, ?_⟩) (by assumption) ?_
        rotate_left
        · (intro w hSw; (try dsimp only at hSw); go_simp <;> with_reducible rfl)
        try simp only [Act.put, List.setIfInBounds_toArray, List.set_cons_zero, List.set_cons_succ]
        refine takeN_lit (i := 3) (v := ?_) (F := #[true, true, true, false, false, false, false, true, true, true, true, true, true, true, true, true, true, false]) rfl (by kernel_rfl) (by kernel_rfl) (by kernel_rfl) (by kernel_rfl) (fun _ _ _ h => h) (Or.inl ⟨by rfl, ?_⟩) (by assumption) ?_
        rotate_left
        · (intro w hSw; (try dsimp only at hSw); go_simp <;> with_reducible rfl)
        try simp only [Act.put, List.setIfInBounds_toArray, List.set_cons_zero, List.set_cons_succ]
        refine takeN_lit (i := 4) (v := ?_) (F := #[true, true, true, true, false, false, false, true, true, true, true, true, true, true, true, true, true, false]) rfl (by kernel_rfl) (by kernel_rfl) (by kernel_rfl) (by kernel_rfl) (fun _ _ _ h => h) (Or.inl ⟨by rfl, ?_⟩) (by assumption) ?_
        rotate_left
        · (intro w hSw; (try dsimp only at hSw); have z := hji; go_simp <;> with_reducible rfl)
        try simp only [Act.put, List.setIfInBounds_toArray, List.set_cons_zero, List.set_cons_succ]
        refine takeN_lit (i := 5) (v := ?_) (F := #[true, true, true, true, true, false, false, true, true, true, true, true, true, true, true, true, true, false]) rfl (by kernel_rfl) (by kernel_rfl) (by kernel_rfl) (by kernel_rfl) (fun _ _ _ h => h) (Or.inl ⟨by rfl, ?_⟩) (by assumption) ?_
        rotate_left
        · (intro w hSw; (try dsimp only at hSw); go_simp <;> with_reducible rfl)
        try simp only [Act.put, List.setIfInBounds_toArray, List.set_cons_zero, List.set_cons_succ]
        refine takeN_lit (i := 6) (v := ?_) (F := #[true, true, true, true, true, true, false, true, true, true, true, true, true, true, true, true, true, false]) rfl (by kernel_rfl) (by kernel_rfl) (by kernel_rfl) (by kernel_rfl) (fun _ _ _ h => h) (Or.inl ⟨by rfl, ?_⟩) (by assumption) ?_
        rotate_left
        · (intro w hSw; (try dsimp only at hSw); have z := (HKc.out _ hSw.bl).2.2; go_simp <;> with_reducible rfl)
        try simp only [Act.put, List.setIfInBounds_toArray, List.set_cons_zero, List.set_cons_succ]
        refine takeN_lit (i := 7) (v := ?_) (F := #[true, true, true, true, true, true, true, false, true, false, false, false, true, true, true, true, true, false]) rfl (by kernel_rfl) (by kernel_rfl) (by kernel_rfl) (by kernel_rfl) (fun _ _ _ h => h) (Or.inl ⟨by rfl, ?_⟩) (by assumption) ?_
        rotate_left
        · (intro w hSw; (try dsimp only at hSw); go_simp <;> with_reducible rfl)
        try simp only [Act.put, List.setIfInBounds_toArray, List.set_cons_zero, List.set_cons_succ]
        refine takeN_lit (i := 8) (v := ?_) (F := #[true, true, true, true, true, true, true, true, false, false, false, false, true, true, true, true, true, false]) rfl (by kernel_rfl) (by kernel_rfl) (by kernel_rfl) (by kernel_rfl) (fun _ _ _ h => h) (Or.inl ⟨by rfl, ?_⟩) (by assumption) ?_
        rotate_left
        · (intro w hSw; (try dsimp only at hSw); go_simp <;> with_reducible rfl)
        try simp only [Act.put, List.setIfInBounds_toArray, List.set_cons_zero, List.set_cons_succ]
        refine takeN_lit (i := 9) (v := ?_) (F := #[true, true, true, true, true, true, true, true, true, false, false, false, true, true, true, true, true, false]) rfl (by kernel_rfl) (by kernel_rfl) (by kernel_rfl) (by kernel_rfl) (fun _ _ _ h => h) (Or.inl ⟨by rfl, ?_⟩) (by assumption) ?_
        rotate_left
        · (intro w hSw; (try dsimp only at hSw); have z := hji; go_simp <;> with_reducible rfl)
        try simp only [Act.put, List.setIfInBounds_toArray, List.set_cons_zero, List.set_cons_succ]
        refine takeN_lit (i := 10) (v := ?_) (F := #[true, true, true, true, true, true, true, true, true, true, false, false, true, true, true, true, true, false]) rfl (by kernel_rfl) (by kernel_rfl) (by kernel_rfl) (by kernel_rfl) (fun _ _ _ h => h) (Or.inl ⟨by rfl, ?_⟩) (by assumption) ?_
        rotate_left
        · (intro w hSw; (try dsimp only at hSw); go_simp <;> with_reducible rfl)
        try simp only [Act.put, List.setIfInBounds_toArray, List.set_cons_zero, List.set_cons_succ]
        refine takeN_lit (i := 11) (F := #[true, true, true, true, true, true, true, true, true, true, true, false, true, true, true, true, true, false]) rfl (by kernel_rfl) (by kernel_rfl) (by kernel_rfl) (by kernel_rfl) (fun _ _ _ h => h) (yA x.a (fun w h => acs_a (HXM.out _ h.bl)) (by rfl) rfl rfl) (by assumption) ?_
        try simp only [Act.put, List.setIfInBounds_toArray, List.set_cons_zero, List.set_cons_succ]
        refine takeN_lit (i := 12) (v := ?_) (F := #[true, true, true, true, true, true, true, true, true, true, true, true, false, true, false, false, false, false]) rfl (by kernel_rfl) (by kernel_rfl) (by kernel_rfl) (by kernel_rfl) (fun _ _ _ h => h) (Or.inl ⟨by rfl, ?_⟩) (by assumption) ?_
        rotate_left
        · (intro w hSw; (try dsimp only at hSw); go_simp <;> with_reducible rfl)
        try simp only [Act.put, List.setIfInBounds_toArray, List.set_cons_zero, List.set_cons_succ]
        refine takeN_lit (i := 13) (v := ?_) (F := #[true, true, true, true, true, true, true, true, true, true, true, true, true, false, false, false, false, false]) rfl (by kernel_rfl) (by kernel_rfl) (by kernel_rfl) (by kernel_rfl) (fun _ _ _ h => h) (Or.inl ⟨by rfl, ?_⟩) (by assumption) ?_
        rotate_left
        · (intro w hSw; (try dsimp only at hSw); go_simp <;> with_reducible rfl)
        try simp only [Act.put, List.setIfInBounds_toArray, List.set_cons_zero, List.set_cons_succ]
        refine takeN_lit (i := 14) (v := ?_) (F := #[true, true, true, true, true, true, true, true, true, true, true, true, true, true, false, false, false, false]) rfl (by kernel_rfl) (by kernel_rfl) (by kernel_rfl) (by kernel_rfl) (fun _ _ _ h => h) (Or.inl ⟨by rfl, ?_⟩) (by assumption) ?_
        rotate_left
        · (intro w hSw; (try dsimp only at hSw); have z := hji; go_simp <;> with_reducible rfl)
        try simp only [Act.put, List.setIfInBounds_toArray, List.set_cons_zero, List.set_cons_succ]
        refine takeN_lit (i := 15) (v := ?_) (F := #[true, true, true, true, true, true, true, true, true, true, true, true, true, true, true, false, false, false]) rfl (by kernel_rfl) (by kernel_rfl) (by kernel_rfl) (by kernel_rfl) (fun _ _ _ h => h) (Or.inl ⟨by rfl, ?_⟩) (by assumption) ?_
        rotate_left
        · (intro w hSw; (try dsimp only at hSw); go_simp <;> with_reducible rfl)
        try simp only [Act.put, List.setIfInBounds_toArray, List.set_cons_zero, List.set_cons_succ]
        refine takeN_lit (i := 16) (F := #[true, true, true, true, true, true, true, true, true, true, true, true, true, true, true, true, false, false]) rfl (by kernel_rfl) (by kernel_rfl) (by kernel_rfl) (by kernel_rfl) (fun _ _ _ h => h) (yTm x.h (fun w h => acs_h (HXM.out _ h.bl)) (by rfl) rfl rfl) (by assumption) ?_
        try simp only [Act.put, List.setIfInBounds_toArray, List.set_cons_zero, List.set_cons_succ]
        refine wpAnyN_ready (rs := [17]) (by kernel_rfl) (by simp) ?_
        refine consN_lit rfl (fun K hK => ?_) ?_
        · go_simp
          refine (hHe _ hHeld).mono ?_
          rintro e w5 ⟨rfl, s5⟩
          refine hK.out _ _ (Or.inl rfl) (fun _ => ?_)
          clear hK K
          try simp only [Act.put, List.setIfInBounds_toArray, List.set_cons_zero, List.set_cons_succ]
          refine wpAnyN_done (by kernel_rfl) ?_ _
          refine NoPanic.normal ?_
          obtain ⟨y0, y1, y2⟩ := HKc.out _ s5.bl
          have HE5 : Hid _ := HEnd.out _ _ s5 HR1.out.1 HR1.out.2
          clear x0 x1 x2 sL hHeld
          go_wp2_with (first
            | (have kk := s5; go_at_call 12; refine (hTi _ _ s5).mono ?_; rintro e w6 ⟨ta, tn, tc, rfl, s6⟩; clear s5))
          go_roundw
          case rel => exact ⟨j + 1, nt, _, HJ.out, by first | rfl | go_num, by first | rfl | rw [hwn], n2, HN.out, s6, HE5.out.1, HE5.out.2.1, HE5.out.2.2⟩
          case measure => (try rw [hw64]); simp only [intOf]; exact HM.out
        exact AllReadyN.nil
      · have e0 : (x.k == 0) = false := by simp [k0]
        by_cases k1 : x.k = 1
        · have e1 : (x.k == 1) = true := by simp [k1]
          clear k0 k1
          go_upto_region 14 with fail
          refine wp_region_noPanic ?_
          refine wp_region_N (S := fun W => Stt w W t mb 120 F L) 17 (by kernel_rfl) (sL.below (Below.refl _ _).drew) (fun hHeld => ?_)
          refine takeN_lit (i := 0) (v := ?_) (F := #[false, true, true, true, true, true, true, true, true, true, true, true, true, true, true, true, true, false]) rfl (by kernel_rfl) (by kernel_rfl) (by kernel_rfl) (by kernel_rfl) (fun _ _ _ h => h) (Or.inl ⟨by rfl, ?_⟩) (by assumption) ?_
          rotate_left
          · (intro w hSw; (try dsimp only at hSw); go_simp <;> with_reducible rfl)
          try simp only [Act.put, List.setIfInBounds_toArray, List.set_cons_zero, List.set_cons_succ]
          refine takeN_lit (i := 1) (v := ?_) (F := #[true, false, true, true, true, true, true, true, true, true, true, true, true, true, true, true, true, false]) rfl (by kernel_rfl) (by kernel_rfl) (by kernel_rfl) (by kernel_rfl) (fun _ _ _ h => h) (Or.inl ⟨by rfl, ?_⟩) (by assumption) ?_
          rotate_left
          · (intro w hSw; (try dsimp only at hSw); go_simp <;> with_reducible rfl)
          try simp only [Act.put, List.setIfInBounds_toArray, List.set_cons_zero, List.set_cons_succ]
          refine takeN_lit (i := 2) (v := ?_) (F := #[true, true, false, true, false, false, false, true, true, true, true, true, true, true, true, true, true, false]) rfl (by kernel_rfl) (by kernel_rfl) (by kernel_rfl) (by kernel_rfl) (fun _ _ _ h => h) (Or.inl ⟨by rfl, ?_⟩) (by assumption) ?_
          rotate_left
          · (intro w hSw; (try dsimp only at hSw); go_simp <;> with_reducible rfl)
          try simp only [Act.put, List.setIfInBounds_toArray, List.set_cons_zero, List.set_cons_succ]
          refine takeN_lit (i := 3) (v := ?_) (F := #[true, true, true, false, false, false, false, true, true, true, true, true, true, true, true, true, true, false]) rfl (by kernel_rfl) (by kernel_rfl) (by kernel_rfl) (by kernel_rfl) (fun _ _ _ h => h) (Or.inl ⟨by rfl, ?_⟩) (by assumption) ?_
          rotate_left
          · (intro w hSw; (try dsimp only at hSw); go_simp <;> with_reducible rfl)
          try simp only [Act.put, List.setIfInBounds_toArray, List.set_cons_zero, List.set_cons_succ]
          refine takeN_lit (i := 4) (v := ?_) (F := #[true, true, true, true, false, false, false, true, true, true, true, true, true, true, true, true, true, false]) rfl (by kernel_rfl) (by kernel_rfl) (by kernel_rfl) (by kernel_rfl) (fun _ _ _ h => h) (Or.inl ⟨by rfl, ?_⟩) (by assumption) ?_
          rotate_left
          · (intro w hSw; (try dsimp only at hSw); have z := hji; go_simp <;> with_reducible rfl)
          try simp only [Act.put, List.setIfInBounds_toArray, List.set_cons_zero, List.set_cons_succ]
          refine takeN_lit (i := 5) (v := ?_) (F := #[true, true, true, true, true, false, false, true, true, true, true, true, true, true, true, true, true, false]) rfl (by kernel_rfl) (by kernel_rfl) (by kernel_rfl) (by kernel_rfl) (fun _ _ _ h => h) (Or.inl ⟨by rfl, ?_⟩) (by assumption) ?_
          rotate_left
          · (intro w hSw; (try dsimp only at hSw); go_simp <;> with_reducible rfl)
          try simp only [Act.put, List.setIfInBounds_toArray, List.set_cons_zero, List.set_cons_succ]
          refine takeN_lit (i := 6) (v := ?_) (F := #[true, true, true, true, true, true, false, true, true, true, true, true, true, true, true, true, true, false]) rfl (by kernel_rfl) (by kernel_rfl) (by kernel_rfl) (by kernel_rfl) (fun _ _ _ h => h) (Or.inl ⟨by rfl, ?_⟩) (by assumption) ?_
          rotate_left
          · (intro w hSw; (try dsimp only at hSw); have z := (HKc.out _ hSw.bl).2.2; go_simp <;> with_reducible rfl)
          try simp only [Act.put, List.setIfInBounds_toArray, List.set_cons_zero, List.set_cons_succ]
          refine takeN_lit (i := 7) (v := ?_) (F := #[true, true, true, true, true, true, true, false, true, false, false, false, true, true, true, true, true, false]) rfl (by kernel_rfl) (by kernel_rfl) (by kernel_rfl) (by kernel_rfl) (fun _ _ _ h => h) (Or.inl ⟨by rfl, ?_⟩) (by assumption) ?_
          rotate_left
          · (intro w hSw; (try dsimp only at hSw); go_simp <;> with_reducible rfl)
          try simp only [Act.put, List.setIfInBounds_toArray, List.set_cons_zero, List.set_cons_succ]
          refine takeN_lit (i := 8) (v := ?_) (F := #[true, true, true, true, true, true, true, true, false, false, false, false, true, true, true, true, true, false]) rfl (by kernel_rfl) (by kernel_rfl) (by kernel_rfl) (by kernel_rfl) (fun _ _ _ h => h) (Or.inl ⟨by rfl, ?_⟩) (by assumption) ?_
          rotate_left
          · (intro w hSw; (try dsimp only at hSw); go_simp <;> with_reducible rfl)
          try simp only [Act.put, List.setIfInBounds_toArray, List.set_cons_zero, List.set_cons_succ]
          refine takeN_lit (i := 9) (v := ?_) (F := #[true, true, true, true, true, true, true, true, true, false, false, false, true, true, true, true, true, false]) rfl (by kernel_rfl) (by kernel_rfl) (by kernel_rfl) (by kernel_rfl) (fun _ _ _ h => h) (Or.inl ⟨by rfl, ?_⟩) (by assumption) ?_
          rotate_left
          · (intro w hSw; (try dsimp only at hSw); have z := hji; go_simp <;> with_reducible rfl)
          try simp only [Act.put, List.setIfInBounds_toArray, List.set_cons_zero, List.set_cons_succ]
          refine takeN_lit (i := 10) (v := ?_) (F := #[true, true, true, true, true, true, true, true, true, true, false, false, true, true, true, true, true, false]) rfl (by kernel_rfl) (by kernel_rfl) (by kernel_rfl) (by kernel_rfl) (fun _ _ _ h => h) (Or.inl ⟨by rfl, ?_⟩) (by assumption) ?_
          rotate_left
          · (intro w hSw; (try dsimp only at hSw); go_simp <;> with_reducible rfl)
          try simp only [Act.put, List.setIfInBounds_toArray, List.set_cons_zero, List.set_cons_succ]
          refine takeN_lit (i := 11) (F := #[true, true, true, true, true, true, true, true, true, true, true, false, true, true, true, true, true, false]) rfl (by kernel_rfl) (by kernel_rfl) (by kernel_rfl) (by kernel_rfl) (fun _ _ _ h => h) (yA x.a (fun w h => acs_a (HXM.out _ h.bl)) (by rfl) rfl rfl) (by assumption) ?_
          try simp only [Act.put, List.setIfInBounds_toArray, List.set_cons_zero, List.set_cons_succ]
          refine takeN_lit (i := 12) (v := ?_) (F := #[true, true, true, true, true, true, true, true, true, true, true, true, false, true, false, false, false, false]) rfl (by kernel_rfl) (by kernel_rfl) (by kernel_rfl) (by kernel_rfl) (fun _ _ _ h => h) (Or.inl ⟨by rfl, ?_⟩) (by assumption) ?_
          rotate_left
          · (intro w hSw; (try dsimp only at hSw); go_simp <;> with_reducible rfl)
          try simp only [Act.put, List.setIfInBounds_toArray, List.set_cons_zero, List.set_cons_succ]
          refine takeN_lit (i := 13) (v := ?_) (F := #[true, true, true, true, true, true, true, true, true, true, true, true, true, false, false, false, false, false]) rfl (by kernel_rfl) (by kernel_rfl) (by kernel_rfl) (by kernel_rfl) (fun _ _ _ h => h) (Or.inl ⟨by rfl, ?_⟩) (by assumption) ?_
          rotate_left
          · (intro w hSw; (try dsimp only at hSw); go_simp <;> with_reducible rfl)
          try simp only [Act.put, List.setIfInBounds_toArray, List.set_cons_zero, List.set_cons_succ]
          refine takeN_lit (i := 14) (v := ?_) (F := #[true, true, true, true, true, true, true, true, true, true, true, true, true, true, false, false, false, false]) rfl (by kernel_rfl) (by kernel_rfl) (by kernel_rfl) (by kernel_rfl) (fun _ _ _ h => h) (Or.inl ⟨by rfl, ?_⟩) (by assumption) ?_
          rotate_left
          · (intro w hSw; (try dsimp only at hSw); have z := hji; go_simp <;> with_reducible rfl)
          try simp only [Act.put, List.setIfInBounds_toArray, List.set_cons_zero, List.set_cons_succ]
          refine takeN_lit (i := 15) (v := ?_) (F := #[true, true, true, true, true, true, true, true, true, true, true, true, true, true, true, false, false, false]) rfl (by kernel_rfl) (by kernel_rfl) (by kernel_rfl) (by kernel_rfl) (fun _ _ _ h => h) (Or.inl ⟨by rfl, ?_⟩) (by assumption) ?_
          rotate_left
          · (intro w hSw; (try dsimp only at hSw); go_simp <;> with_reducible rfl)
          try simp only [Act.put, List.setIfInBounds_toArray, List.set_cons_zero, List.set_cons_succ]
          refine takeN_lit (i := 16) (F := #[true, true, true, true, true, true, true, true, true, true, true, true, true, true, true, true, false, false]) rfl (by kernel_rfl) (by kernel_rfl) (by kernel_rfl) (by kernel_rfl) (fun _ _ _ h => h) (yTm x.h (fun w h => acs_h (HXM.out _ h.bl)) (by rfl) rfl rfl) (by assumption) ?_
          try simp only [Act.put, List.setIfInBounds_toArray, List.set_cons_zero, List.set_cons_succ]
          refine wpAnyN_ready (rs := [17]) (by kernel_rfl) (by simp) ?_
          refine consN_lit rfl (fun K hK => ?_) ?_
          · go_simp
            refine (hIh _ hHeld).mono ?_
            rintro e w5 ⟨rfl, s5⟩
            refine hK.out _ _ (Or.inl rfl) (fun _ => ?_)
            clear hK K
            try simp only [Act.put, List.setIfInBounds_toArray, List.set_cons_zero, List.set_cons_succ]
            refine wpAnyN_done (by kernel_rfl) ?_ _
            refine NoPanic.normal ?_
            obtain ⟨y0, y1, y2⟩ := HKc.out _ s5.bl
            have HE5 : Hid _ := HEnd.out _ _ s5 HR2.out.1 HR2.out.2
            clear x0 x1 x2 sL hHeld
            go_wp2_with (first
              | (have kk := s5; go_at_call 12; refine (hTi _ _ s5).mono ?_; rintro e w6 ⟨ta, tn, tc, rfl, s6⟩; clear s5))
            go_roundw
            case rel => exact ⟨j + 1, nt, _, HJ.out, by first | rfl | go_num, by first | rfl | rw [hwn], n2, HN.out, s6, HE5.out.1, HE5.out.2.1, HE5.out.2.2⟩
            case measure => (try rw [hw64]); simp only [intOf]; exact HM.out
          exact AllReadyN.nil
        · have e1 : (x.k == 1) = false := by simp [k1]
          clear k0 k1
          have HE5 : Hid _ := HEnd.out _ _ sL HR3.out.1 HR3.out.2
          go_wp2_with (first
            | (have kk := sL; go_at_call 12; refine (hTi _ _ sL).mono ?_; rintro e w6 ⟨ta, tn, tc, rfl, s6⟩; clear sL))
          go_roundw
          case rel => exact ⟨j + 1, nt, _, HJ.out, by first | rfl | go_num, by first | rfl | rw [hwn], n2, HN.out, s6, HE5.out.1, HE5.out.2.1, HE5.out.2.2⟩
          case measure => (try rw [hw64]); simp only [intOf]; exact HM.out
    · have hji : ¬ (j : Int) < (m.length : Int) := by omega
      have hNx := next_any sL.tb
      have hnb : nw ≤ 128849018880 := by omega
      have hokL : ∀ n ∈ L, n.ok := fun n hn => (sL.tb.nok n hn).1
      clear hmo hac hlt hj n1
      go_upto_region 18 with (first
        | (have kk := s5; go_at_call 13; refine (list_any s5.tb).mono ?_; rintro e w6 ⟨r, K, rfl, hp, hasc, hO, hB6⟩; have s6 := s5.below hB6; clear s5 kk; obtain ⟨va, vc, rfl, _⟩ := Kd.own_at hO)
        | (have kk := hNx; go_at_call 15; refine hNx.mono ?_; rintro e w5 ⟨v, b, rfl, hNP, hB5⟩; have s5 := sL.below hB5; clear hNx kk sL))
      cases b with
      | false =>
        clear hNP
        go_wp2_with (first
          | (have kk := s6; go_at_call 9; refine (HL _ s6.bl).mono ?_; rintro e wl ⟨rfl, hn⟩))
        go_ret
        exact ⟨rfl, hn⟩
      | true =>
        rcases hNP with ⟨hbad, _⟩ | ⟨_, hvm, hvl⟩
        · cases hbad
        obtain ⟨nn, hnn, hvn⟩ := List.mem_flatMap.1 hvm
        have hvb := chg_near (hokL nn hnn) (hTn nn hnn) hvn
        have hpast : ∀ T, T < v → ∀ n ∈ L, agedN n T = n := fun T hT n hn => chg_before fun a ha => by
          have := hvl a (List.mem_flatMap.2 ⟨n, hn, ha⟩)
          omega
        have hfut : ∀ T, v ≤ T → ∃ n ∈ L, agedN n T ≠ n := fun T hT => ⟨nn, hnn, chg_at (hokL nn hnn) hvn hT⟩
        have hwv : wrap64 (v - 1) = v - 1 := by unfold wrap64; omega
        have hKl : K.length ≤ 1000000 := by have h1 := hp.length_eq; omega
        have HOm : Hid (∀ W, w6.grownBy W (some mb) → kN.Own W w5.heap.size (.slice va K.length vc) K) := fun W hg => own_map s6.tb.map hg hO
        have HUq : Hid (∀ K8 : List Ng, K8.Perm L → Asc K8 → K = K8) := fun K8 p8 a8 => Asc.unique hasc a8 (hp.trans p8.symm)
        have HCh : Hid (∀ T, v ≤ T → 0 < ((L.map (agedN · T)).filter deadB).length ∨ ∀ K2 : List Ng, K2.Perm ((L.map (agedN · T)).filter (fun n => !deadB n)) → Asc K2 → K2 ≠ K) := fun T hT => (changed hp (hfut T hT)).imp id (fun h K2 p2 a2 => h K2 p2 hasc a2)
        have HSt : Hid (∀ T, T < v → (L.map (agedN · T)).filter (fun n => !deadB n) = L ∧ (L.map (agedN · T)).filter deadB = []) := fun T hT => stays_all (hpast T hT) hAl
        by_cases hab : v - 1 ≥ nw
        · have hmx : max v nw = v := by omega
          have hlt3 : nw < v := by omega
          have hT1 := tick_x s6 (v - 1) (by omega)
          rw [(HSt.out (v - 1) (by omega)).1, (HSt.out (v - 1) (by omega)).2] at hT1
          have HLi1 : Hid (∀ W, Stt w W t mb 120 F L → Calls Try.prog 13 #[.pointer (some ⟨t, 0, none⟩)] W fun e w' => ∃ r K, e = .returned r ∧ K.Perm L ∧ Asc K ∧ kN.Own w' W.heap.size r K ∧ Below W.heap.size W w') := fun W hS => list_any hS.tb
          simp only [List.length_nil] at hT1
          have hT2 := fun W (hS : Stt w W t mb 120 F L) => tick_x hS v (by omega)
          have hCC := HCh.out v (by omega)
          generalize ((L.map (agedN · v)).filter deadB).length = gn at *
          generalize (L.map (agedN · v)).filter (fun n => !deadB n) = L2 at *
          have HCC : Hid (0 < gn ∨ ∀ K2 : List Ng, K2.Perm L2 → Asc K2 → K2 ≠ K) := hCC
          have HLi2 : Hid (∀ W, Stt w W t mb 120 F L2 → Calls Try.prog 13 #[.pointer (some ⟨t, 0, none⟩)] W fun e w' => ∃ r K, e = .returned r ∧ K.Perm L2 ∧ Asc K ∧ kN.Own w' W.heap.size r K ∧ Below W.heap.size W w') := fun W hS => list_any hS.tb
          clear hO s6 hCC HCh HSt hpast hfut hvb hvn hnn hvl hvm hTn hAl hokL hnb hasc hp hLm
          by_cases hg0 : 0 < gn
          · have hgi : (gn : Int) > 0 := by omega
            clear hg0 HCC
            go_wp2_with (first
              | (have kk := sA; go_at_call 9; refine (HL _ sA.bl).mono ?_; rintro e wl ⟨rfl, hn⟩)
              | (have kk := sT; go_at_call 12; refine (hT2 _ sT).mono ?_; rintro e wA ⟨tA, cA, rfl, sA, gA⟩; clear sT kk)
              | (have kk := s8; go_at_call 16; refine (same_any _ _ K _ _ K _ hN8 hN7 hKl).mono ?_; rintro e w9 ⟨b9', rfl, hi9, b9''⟩; obtain rfl : b9' = true := (hi9.2 rfl); have sT := s8.below b9''; have oT := own_below (own_below o7 b8) b9''; clear s8 kk hN8 hN7)
              | (have kk := s7; go_at_call 13; refine (HLi1.out _ s7).mono ?_; rintro e w8 ⟨r8, K8, rfl, p8, a8, o8, b8⟩; have e8 := HUq.out K8 p8 a8; subst e8; obtain ⟨la, lc, rfl, _⟩ := Kd.own_at o8; have s8 := s7.below b8; have hN8 := (NsW.of o8).1; have hN7 := (NsW.of (own_below o7 b8)).1; clear s7 kk o8 p8 a8)
              | (have kk := hT1; go_at_call 12; refine hT1.mono ?_; rintro e w7 ⟨t7, c7, rfl, s7, g7⟩; have o7 := HOm.out _ g7; clear hT1 kk g7))
            go_ret
            exact ⟨rfl, hn⟩
          · have hgi : ¬ (gn : Int) > 0 := by omega
            have HNe : Hid (∀ K2 : List Ng, K2.Perm L2 → Asc K2 → K2 ≠ K) := HCC.out.resolve_left hg0
            clear hg0 HCC
            go_wp2_with (first
              | (have kk := sC; go_at_call 9; refine (HL _ sC.bl).mono ?_; rintro e wl ⟨rfl, hn⟩)
              | (have kk := sB; go_at_call 16; refine (same_any _ _ K9 _ _ K _ hN9 hNK hK9).mono ?_; rintro e wC ⟨bC, rfl, hiC, bC2⟩; obtain rfl : bC = false := (by cases bC with | false => rfl | true => exact absurd (hiC.1 rfl) hne9); have sC := sB.below bC2; clear sB kk)
              | (have kk := sA; go_at_call 13; refine (HLi2.out _ sA).mono ?_; rintro e wB ⟨rB, K9, rfl, p9, a9, o9, b9⟩; have hne9 := HNe.out K9 p9 a9; have sB := sA.below b9; obtain ⟨la9, lc9, rfl, _⟩ := Kd.own_at o9; have hN9 := (NsW.of o9).1; have hNK := (NsW.of (own_below oA b9)).1; have hK9 : K9.length ≤ 1000000 := (by have h1 := p9.length_eq; have h2 := sA.tb.ll; omega); clear sA kk o9 p9 a9)
              | (have kk := sT; go_at_call 12; refine (hT2 _ sT).mono ?_; rintro e wA ⟨tA, cA, rfl, sA, gA⟩; have oA := own_map sT.tb.map gA oT; clear sT kk)
              | (have kk := s8; go_at_call 16; refine (same_any _ _ K _ _ K _ hN8 hN7 hKl).mono ?_; rintro e w9 ⟨b9', rfl, hi9, b9''⟩; obtain rfl : b9' = true := (hi9.2 rfl); have sT := s8.below b9''; have oT := own_below (own_below o7 b8) b9''; clear s8 kk hN8 hN7)
              | (have kk := s7; go_at_call 13; refine (HLi1.out _ s7).mono ?_; rintro e w8 ⟨r8, K8, rfl, p8, a8, o8, b8⟩; have e8 := HUq.out K8 p8 a8; subst e8; obtain ⟨la, lc, rfl, _⟩ := Kd.own_at o8; have s8 := s7.below b8; have hN8 := (NsW.of o8).1; have hN7 := (NsW.of (own_below o7 b8)).1; clear s7 kk o8 p8 a8)
              | (have kk := hT1; go_at_call 12; refine hT1.mono ?_; rintro e w7 ⟨t7, c7, rfl, s7, g7⟩; have o7 := HOm.out _ g7; clear hT1 kk g7))
            go_ret
            exact ⟨rfl, hn⟩
        · have hmx : max v nw = nw := by omega
          have hlt3 : ¬ nw < v := by omega
          have sT := s6
          have oT := hO
          clear hO s6 HOm HUq
          have hT2 := fun W (hS : Stt w W t mb 120 F L) => tick_x hS nw (by omega)
          have hCC := HCh.out nw (by omega)
          generalize ((L.map (agedN · nw)).filter deadB).length = gn at *
          generalize (L.map (agedN · nw)).filter (fun n => !deadB n) = L2 at *
          have HCC : Hid (0 < gn ∨ ∀ K2 : List Ng, K2.Perm L2 → Asc K2 → K2 ≠ K) := hCC
          have HLi2 : Hid (∀ W, Stt w W t mb 120 F L2 → Calls Try.prog 13 #[.pointer (some ⟨t, 0, none⟩)] W fun e w' => ∃ r K, e = .returned r ∧ K.Perm L2 ∧ Asc K ∧ kN.Own w' W.heap.size r K ∧ Below W.heap.size W w') := fun W hS => list_any hS.tb
          clear hCC HCh HSt hpast hfut hvb hvn hnn hvl hvm hTn hAl hokL hnb hasc hp hLm
          by_cases hg0 : 0 < gn
          · have hgi : (gn : Int) > 0 := by omega
            clear hg0 HCC
            go_wp2_with (first
              | (have kk := sA; go_at_call 9; refine (HL _ sA.bl).mono ?_; rintro e wl ⟨rfl, hn⟩)
              | (have kk := sT; go_at_call 12; refine (hT2 _ sT).mono ?_; rintro e wA ⟨tA, cA, rfl, sA, gA⟩; clear sT kk))
            go_ret
            exact ⟨rfl, hn⟩
          · have hgi : ¬ (gn : Int) > 0 := by omega
            have HNe : Hid (∀ K2 : List Ng, K2.Perm L2 → Asc K2 → K2 ≠ K) := HCC.out.resolve_left hg0
            clear hg0 HCC
            go_wp2_with (first
              | (have kk := sC; go_at_call 9; refine (HL _ sC.bl).mono ?_; rintro e wl ⟨rfl, hn⟩)
              | (have kk := sB; go_at_call 16; refine (same_any _ _ K9 _ _ K _ hN9 hNK hK9).mono ?_; rintro e wC ⟨bC, rfl, hiC, bC2⟩; obtain rfl : bC = false := (by cases bC with | false => rfl | true => exact absurd (hiC.1 rfl) hne9); have sC := sB.below bC2; clear sB kk)
              | (have kk := sA; go_at_call 13; refine (HLi2.out _ sA).mono ?_; rintro e wB ⟨rB, K9, rfl, p9, a9, o9, b9⟩; have hne9 := HNe.out K9 p9 a9; have sB := sA.below b9; obtain ⟨la9, lc9, rfl, _⟩ := Kd.own_at o9; have hN9 := (NsW.of o9).1; have hNK := (NsW.of (own_below oA b9)).1; have hK9 : K9.length ≤ 1000000 := (by have h1 := p9.length_eq; have h2 := sA.tb.ll; omega); clear sA kk o9 p9 a9)
              | (have kk := sT; go_at_call 12; refine (hT2 _ sT).mono ?_; rintro e wA ⟨tA, cA, rfl, sA, gA⟩; have oA := own_map sT.tb.map gA oT; clear sT kk))
            go_ret
            exact ⟨rfl, hn⟩

end Go.Proofs.Ytacadlbhgelncaa
