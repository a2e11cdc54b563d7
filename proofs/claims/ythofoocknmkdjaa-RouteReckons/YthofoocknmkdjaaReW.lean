/-
  The walk of RouteReckons.
-/
import Derived.Test.YthofoocknmkdjaaXL
namespace Go.Proofs.Ythofoocknmkdjaa
open Go.RowKit Go.Maps Go.Shelf
set_option linter.unusedSimpArgs false
set_option linter.unusedVariables false
set_option maxRecDepth 20000
/-- What is there behind some tales at 0. -/
def rkS (L : List Ro) (a : Ac) : List Ro := if a.k = 0 then (tellR 150 L 0 a.r a.o).2.2 else L
def rkR (l : List Ac) : List Ro := l.foldl rkS []
theorem rkR_take {l : List Ac} {j : Nat} (hj : j < l.length) : rkR (l.take (j + 1)) = rkS (rkR (l.take j)) l[j] := by
  unfold rkR
  rw [List.take_succ_eq_append_getElem hj, List.foldl_append]
  rfl
theorem rkR_len (l : List Ac) : ∀ j, j ≤ l.length → (rkR (l.take j)).length ≤ j
  | 0, _ => by simp [rkR]
  | j + 1, hj => by
    rw [rkR_take (by omega)]
    have := rkR_len l j (by omega)
    unfold rkS
    split
    · have := tellR_len 150 (rkR (l.take j)) 0 l[j].r l[j].o
      omega
    · omega
theorem plusC_m (n : Ro) (x : Int) : plusC (n.sM x) = plusC n := rfl
theorem mapR_m {L : List Ro} : ∀ n ∈ mapR (costF plusC) (costB plusC) L, plusC n = n.m := by
  intro n hn
  obtain ⟨m, hm, rfl⟩ := List.mem_map.1 hn
  by_cases h : costB plusC m = true
  · rw [if_pos h]
    show plusC (m.sM _) = plusC m
    exact plusC_m _ _
  · rw [if_neg h]
    unfold costB at h
    simpa using h
theorem cost_none {K : List Ro} (h : ∀ n ∈ K, plusC n = n.m) : ∀ n ∈ K, costB plusC n = false := by
  intro n hn
  unfold costB
  rw [h n hn]
  simp
theorem chg_none {K : List Ro} (h : ∀ n ∈ K, plusC n = n.m) : pairsR (chgR plusC K) = [] := by
  unfold chgR
  rw [List.filter_eq_nil_iff.2 fun n hn => by rw [cost_none h n hn]; simp]
  rfl
theorem map_none {K : List Ro} (h : ∀ n ∈ K, plusC n = n.m) : mapR (costF plusC) (costB plusC) K = K := by
  unfold mapR
  have : ∀ n ∈ K, (if costB plusC n = true then costF plusC n else n) = n := fun n hn => by rw [cost_none h n hn]; simp
  rw [List.map_congr_left this]
  simp
set_option maxHeartbeats 16000000 in
theorem reckons_walk (ad : Option Addr) (c : Nat) (l : List Ac) (w : World) (hl : AsW w ad l) (hf : ∀ x ∈ l, AcFit x) (hn : l.length ≤ maxLen) :
    Calls Try.prog 8 #[.slice ad l.length c] w (Gives w (.bool true)) := by
  have hR := right_any ad c l w hl hn
  have hNew := new_any 150 w
  go_enter Try.func8, Try.ntmps8
  go_wp2_with (first
    | (have kk := hb; go_at_call 10; refine (live_any _).mono ?_; rintro e w9 ⟨rfl, k⟩)
    | (have kk := hb; go_at_call 11; refine hNew.mono ?_; rintro e w0 ⟨rfl, tb0, b0⟩)
    | (go_at_call 9; refine hR.mono ?_; rintro e w1 ⟨b, rfl, rfl, hb⟩; cases b))
  · go_ret
    exact ⟨rfl, k⟩
  obtain ⟨hl2, hok⟩ := hb trivial
  clear hR hNew hb hn
  obtain ⟨mb, hmb⟩ : ∃ mb, w.heap.size = mb := ⟨_, rfl⟩
  obtain ⟨t, ht⟩ : ∃ t, w.heap.size + 1 = t := ⟨_, rfl⟩
  have HT : Hid (∀ (W W' : World) (L : List Ro), Below w.heap.size w W → Turn W W' t mb 150 L → Below w.heap.size w W') := fun W W' L h k => k.below h (by omega) h.size
  rw [ht, hmb] at tb0
  rw [ht]
  clear ht hmb
  go_loopw [4] (fun u wr => ∃ j : Nat, j ≤ l.length ∧ u = .int .i64 j ∧ Tb wr t mb 150 (rkR (l.take j)) ∧ Below w.heap.size w wr) (fun u _ => l.length - (intOf u).toNat)
  case atStart => exact ⟨0, Nat.zero_le _, rfl, tb0, b0⟩
  case round =>
    clear tb0 b0
    obtain ⟨j, hj, rfl, tb, bX⟩ := hrel
    have hI := rkR_len l j hj
    by_cases hlt : j < l.length
    · have hlr := hl.below bX
      rcases hlr.lies with h0 | ⟨g, o, rfl, hg, hcs⟩
      · rw [h0] at hlt; simp at hlt
      have hq : LC wr g (o + j * 84) l[j] := hcs j l[j] (List.getElem?_eq_getElem hlt)
      have ha := hf l[j] (List.getElem_mem hlt)
      have HS : Hid (rkR (l.take (j + 1)) = rkS (rkR (l.take j)) l[j]) := rkR_take hlt
      have hji : (j : Int) < (l.length : Int) := by omega
      have hw64 : wrap64 ((j : Int) + 1) = (j : Int) + 1 := by unfold wrap64; omega
      have HJ : Hid (j + 1 ≤ l.length) := hlt
      have HM : Hid (l.length - ((j : Int) + 1).toNat < l.length - ((j : Int)).toNat) := meas hlt
      have HF : Hid (rkS (rkR (l.take j)) l[j] = if l[j].k = 0 then (tellR 150 (rkR (l.take j)) 0 l[j].r l[j].o).2.2 else rkR (l.take j)) := rfl
      have hTell : ∀ W, Below wr.heap.size wr W → Calls Try.prog 26 #[.pointer (some ⟨t, 0, none⟩), .int .i64 0, rV l[j].r, .bool l[j].o] W fun e w' => ∃ z, e = .returned z ∧ Tb w' t mb 150 (tellR 150 (rkR (l.take j)) 0 l[j].r l[j].o).2.2 ∧ Below w.heap.size w w' := fun W hW => by
        refine (tell_any (tb.below hW) l[j].r 0 l[j].o (by decide) (by decide) ha.w ha.f (by omega)).mono ?_
        rintro e w' ⟨rfl, hT⟩
        exact ⟨_, rfl, hT.tb, HT.out _ _ _ (bt bX hW) hT⟩
      have ck := hq.k
      have co := fun W (h : Below wr.heap.size wr W) => (h.cell (p := ⟨g, o + j * 84 + 83, none⟩) hg).trans hq.ok
      clear hI hcs hlr hok hf hj hl2
      generalize l[j] = a at *
      clear ha
      have hqd := hq
      obtain ⟨x, hx⟩ : ∃ x, rkR (l.take j) = x := ⟨_, rfl⟩
      rw [hx] at HS HF hTell tb
      clear hx
      by_cases hk : a.k = 0
      · have hk' : (a.k == 0) = true := by simpa using hk
        have HE : Hid (rkR (l.take (j + 1)) = (tellR 150 x 0 a.r a.o).2.2) := by show _ = _; rw [HS.out, HF.out, if_pos hk]
        clear hk HS HF
        go_upto_region 10 with fail
        refine wp_region_noPanic ?_
        refine wp_region_N (S := fun W => Below wr.heap.size wr W) 11 (by kernel_rfl) ((Below.refl _ _).drew) (fun hHeld => ?_)
        refine takeN_lit (i := 0) (v := ?_) (F := #[false, true, true, true, true, true, true, true, true, true, true, false]) rfl (by kernel_rfl) (by kernel_rfl) (by kernel_rfl) (by kernel_rfl) (fun _ _ _ h => h) (Or.inl ⟨by rfl, ?_⟩) (by assumption) ?_
        rotate_left
        · (intro w hSw; (try dsimp only at hSw); go_simp <;> with_reducible rfl)
        try simp only [Act.put, List.setIfInBounds_toArray, List.set_cons_zero, List.set_cons_succ]
        refine takeN_lit (i := 1) (v := ?_) (F := #[true, false, true, false, false, false, true, true, true, true, true, false]) rfl (by kernel_rfl) (by kernel_rfl) (by kernel_rfl) (by kernel_rfl) (fun _ _ _ h => h) (Or.inl ⟨by rfl, ?_⟩) (by assumption) ?_
        rotate_left
        · (intro w hSw; (try dsimp only at hSw); go_simp <;> with_reducible rfl)
        try simp only [Act.put, List.setIfInBounds_toArray, List.set_cons_zero, List.set_cons_succ]
        refine takeN_lit (i := 2) (v := ?_) (F := #[true, true, false, false, false, false, true, true, true, true, true, false]) rfl (by kernel_rfl) (by kernel_rfl) (by kernel_rfl) (by kernel_rfl) (fun _ _ _ h => h) (Or.inl ⟨by rfl, ?_⟩) (by assumption) ?_
        rotate_left
        · (intro w hSw; (try dsimp only at hSw); go_simp <;> with_reducible rfl)
        try simp only [Act.put, List.setIfInBounds_toArray, List.set_cons_zero, List.set_cons_succ]
        refine takeN_lit (i := 3) (v := ?_) (F := #[true, true, true, false, false, false, true, true, true, true, true, false]) rfl (by kernel_rfl) (by kernel_rfl) (by kernel_rfl) (by kernel_rfl) (fun _ _ _ h => h) (Or.inl ⟨by rfl, ?_⟩) (by assumption) ?_
        rotate_left
        · (intro w hSw; (try dsimp only at hSw); go_simp <;> with_reducible rfl)
        try simp only [Act.put, List.setIfInBounds_toArray, List.set_cons_zero, List.set_cons_succ]
        refine takeN_lit (i := 4) (v := ?_) (F := #[true, true, true, true, false, false, true, true, true, true, true, false]) rfl (by kernel_rfl) (by kernel_rfl) (by kernel_rfl) (by kernel_rfl) (fun _ _ _ h => h) (Or.inl ⟨by rfl, ?_⟩) (by assumption) ?_
        rotate_left
        · (intro w hSw; (try dsimp only at hSw); go_simp <;> with_reducible rfl)
        try simp only [Act.put, List.setIfInBounds_toArray, List.set_cons_zero, List.set_cons_succ]
        refine takeN_lit (i := 5) (F := #[true, true, true, true, true, false, true, true, true, true, true, false]) rfl (by kernel_rfl) (by kernel_rfl) (by kernel_rfl) (by kernel_rfl) (fun _ _ _ h => h) (yS a.r (fun w h => (hqd.below h hg).r) (by rfl) rfl rfl) (by assumption) ?_
        try simp only [Act.put, List.setIfInBounds_toArray, List.set_cons_zero, List.set_cons_succ]
        refine takeN_lit (i := 6) (v := ?_) (F := #[true, true, true, true, true, true, false, true, false, false, false, false]) rfl (by kernel_rfl) (by kernel_rfl) (by kernel_rfl) (by kernel_rfl) (fun _ _ _ h => h) (Or.inl ⟨by rfl, ?_⟩) (by assumption) ?_
        rotate_left
        · (intro w hSw; (try dsimp only at hSw); go_simp <;> with_reducible rfl)
        try simp only [Act.put, List.setIfInBounds_toArray, List.set_cons_zero, List.set_cons_succ]
        refine takeN_lit (i := 7) (v := ?_) (F := #[true, true, true, true, true, true, true, false, false, false, false, false]) rfl (by kernel_rfl) (by kernel_rfl) (by kernel_rfl) (by kernel_rfl) (fun _ _ _ h => h) (Or.inl ⟨by rfl, ?_⟩) (by assumption) ?_
        rotate_left
        · (intro w hSw; (try dsimp only at hSw); go_simp <;> with_reducible rfl)
        try simp only [Act.put, List.setIfInBounds_toArray, List.set_cons_zero, List.set_cons_succ]
        refine takeN_lit (i := 8) (v := ?_) (F := #[true, true, true, true, true, true, true, true, false, false, false, false]) rfl (by kernel_rfl) (by kernel_rfl) (by kernel_rfl) (by kernel_rfl) (fun _ _ _ h => h) (Or.inl ⟨by rfl, ?_⟩) (by assumption) ?_
        rotate_left
        · (intro w hSw; (try dsimp only at hSw); go_simp <;> with_reducible rfl)
        try simp only [Act.put, List.setIfInBounds_toArray, List.set_cons_zero, List.set_cons_succ]
        refine takeN_lit (i := 9) (v := ?_) (F := #[true, true, true, true, true, true, true, true, true, false, false, false]) rfl (by kernel_rfl) (by kernel_rfl) (by kernel_rfl) (by kernel_rfl) (fun _ _ _ h => h) (Or.inl ⟨by rfl, ?_⟩) (by assumption) ?_
        rotate_left
        · (intro w hSw; (try dsimp only at hSw); go_simp <;> with_reducible rfl)
        try simp only [Act.put, List.setIfInBounds_toArray, List.set_cons_zero, List.set_cons_succ]
        refine takeN_lit (i := 10) (v := ?_) (F := #[true, true, true, true, true, true, true, true, true, true, false, false]) rfl (by kernel_rfl) (by kernel_rfl) (by kernel_rfl) (by kernel_rfl) (fun _ _ _ h => h) (Or.inl ⟨by rfl, ?_⟩) (by assumption) ?_
        rotate_left
        · (intro w hSw; (try dsimp only at hSw); have hz := co _ hSw; go_simp <;> with_reducible rfl)
        try simp only [Act.put, List.setIfInBounds_toArray, List.set_cons_zero, List.set_cons_succ]
        refine wpAnyN_ready (rs := [11]) (by kernel_rfl) (by simp) ?_
        refine consN_lit rfl (fun K hK => ?_) ?_
        · go_simp
          refine (hTell _ hHeld).mono ?_
          rintro e w2 ⟨z, rfl, tb2, b2⟩
          refine hK.out _ _ (Or.inl rfl) (fun _ => ?_)
          clear hK K
          try simp only [Act.put, List.setIfInBounds_toArray, List.set_cons_zero, List.set_cons_succ]
          refine wpAnyN_done (by kernel_rfl) ?_ _
          refine NoPanic.normal ?_
          clear hTell hHeld
          go_wp2_with fail
          go_roundw
          case rel => exact ⟨j + 1, HJ.out, by first | rfl | go_num, by rw [HE.out]; exact tb2, b2⟩
          case measure => first | (rw [hw64]; simp only [intOf]; exact HM.out) | (simp only [intOf]; exact HM.out)
        exact AllReadyN.nil
      · have hk' : (a.k == 0) = false := by simpa using hk
        have HE : Hid (rkR (l.take (j + 1)) = x) := by show _ = _; rw [HS.out, HF.out, if_neg hk]
        clear hk HS HF hTell
        go_wp2_with fail
        go_roundw
        case rel => exact ⟨j + 1, HJ.out, by first | rfl | go_num, by rw [HE.out]; exact tb, bX⟩
        case measure => first | (rw [hw64]; simp only [intOf]; exact HM.out) | (simp only [intOf]; exact HM.out)
    · have hjl : j = l.length := by omega
      subst hjl
      rw [List.take_length] at *
      generalize rkR l = L at *
      have hRk := reckonP_any tb
      have hMM := @mapR_m L
      have hML : (mapR (costF plusC) (costB plusC) L).length = L.length := by unfold mapR; rw [List.length_map]
      generalize mapR (costF plusC) (costB plusC) L = L1 at *
      have hLs := fun (W : World) (h : Tb W t mb 150 L1) => list_any h
      have hl2' : L1.length ≤ 1000000 := by omega
      clear hj hlt hok hf hl hI hML
      go_wp2_with (first
        | (have kk := tb2; go_at_call 14; refine (hLs _ tb2).mono ?_; rintro e w3 ⟨a3, c3, K, rfl, hp, hasc, hO, k3⟩; replace tb2 := tb2.below k3; replace bX := bt bX k3; have t3 := True.intro)
        | (go_at_call 29; refine hRk.mono ?_; rintro e w2 ⟨a2, c2, K2, rfl, _, _, _, hT2⟩; have tb2 := hT2.tb; replace bX := HT.out _ _ _ bX hT2; clear hT2 tb))
      obtain ⟨_, _, e3, hK⟩ := SsW.own hO
      cases e3
      have hK1 : ∀ n ∈ K, plusC n = n.m := fun n hn => hMM n (hp.mem_iff.1 hn)
      have hKo : ∀ n ∈ K, n.ok := fun n hn => tb2.nok n (hp.mem_iff.1 hn)
      have hKl : K.length ≤ 1000000 := by rw [hp.length_eq]; exact hl2'
      have HLs : Hid (∀ (W : World) (h : Tb W t mb 150 L1), Calls Try.prog 14 #[.pointer (some ⟨t, 0, none⟩)] W fun e w' => ∃ a c, e = .returned (.slice a K.length c) ∧ kN.Own w' W.heap.size (.slice a K.length c) K ∧ Below W.heap.size W w') := fun W h => by
        refine (hLs W h).mono ?_
        rintro e w' ⟨a, c, K', rfl, hp', ha', hO', k'⟩
        obtain rfl := Asc.unique hasc ha' (hp.trans hp'.symm)
        exact ⟨a, c, rfl, hO', k'⟩
      have hRk2 : ∀ (W : World) (h : Tb W t mb 150 L1), Calls Try.prog 29 #[.pointer (some ⟨t, 0, none⟩), .func (.func 31) #[] #[]] W fun e w' => ∃ a c, e = .returned (.slice a 0 c) ∧ Turn W w' t mb 150 L1 := fun W h => by
        refine (reckonP_any h).mono ?_
        rintro e w' ⟨a, c, K', rfl, hp', _, _, hT⟩
        rw [map_none hMM] at hT
        rw [chg_none fun n hn => hMM n (hp'.mem_iff.1 hn)]
        exact ⟨a, c, rfl, hT⟩
      have hO3 : kN.Own w3 w2.heap.size (.slice a3 K.length c3) K := hO
      clear hRk hLs hasc hp hMM hO hl2' t3
      go_loopw [6] (fun u wr => ∃ j : Nat, j ≤ K.length ∧ u = .int .i64 j ∧ Below w3.heap.size w3 wr) (fun u _ => K.length - (intOf u).toNat)
      case atStart => exact ⟨0, Nat.zero_le _, rfl, Below.refl _ _⟩
      case round =>
        obtain ⟨j, hj, rfl, bW⟩ := hrel
        rename World => W
        have hKW := hK.below bW
        by_cases hlt : j < K.length
        · obtain ⟨g, rfl, hg, hc⟩ := hKW.lies (by intro e; rw [e] at hlt; simp at hlt)
          have q := hc j _ (List.getElem?_eq_getElem hlt)
          have hji : (j : Int) < (K.length : Int) := by omega
          have hw64 : wrap64 ((j : Int) + 1) = (j : Int) + 1 := by unfold wrap64; omega
          have hPl : ∀ W, Calls Try.prog 31 #[rV K[j]] W (Gives W (.int .u16 K[j].m)) := fun W => by
            have e := hK1 _ (List.getElem_mem hlt)
            rw [← e]
            exact plus_any _ W (hKo _ (List.getElem_mem hlt))
          have HJ : Hid (j + 1 ≤ K.length) := hlt
          have HM : Hid (K.length - ((j : Int) + 1).toNat < K.length - ((j : Int)).toNat) := meas hlt
          have cm := fun X (h : Below W.heap.size W X) => (h.cell (p := ⟨g, j * 81 + 61, none⟩) hg).trans q.met
          clear hc hK hKW hK1 hKo hO3
          generalize (K[j]'hlt) = n at *
          go_upto_region 16 with fail
          refine wp_region_noPanic ?_
          refine wp_region_held_drew (S := fun X => Below W.heap.size W X) (by kernel_rfl) ((Below.refl _ _).drew) (fun hHeld => ?_)
          refine take_lit (i := 0) (v := ?_) rfl (by kernel_rfl) (by kernel_rfl) (by kernel_rfl) (fun _ _ _ h => h) (Or.inl ⟨by rfl, ?_⟩) (by assumption) ?_
          rotate_left
          · (intro w hSw; (try dsimp only at hSw); go_simp <;> with_reducible rfl)
          try simp only [Act.put, List.setIfInBounds_toArray, List.set_cons_zero, List.set_cons_succ]
          refine take_lit (i := 1) (v := ?_) rfl (by kernel_rfl) (by kernel_rfl) (by kernel_rfl) (fun _ _ _ h => h) (Or.inl ⟨by rfl, ?_⟩) (by assumption) ?_
          rotate_left
          · (intro w hSw; (try dsimp only at hSw); go_simp <;> with_reducible rfl)
          try simp only [Act.put, List.setIfInBounds_toArray, List.set_cons_zero, List.set_cons_succ]
          refine take_lit (i := 2) (v := ?_) rfl (by kernel_rfl) (by kernel_rfl) (by kernel_rfl) (fun _ _ _ h => h) (Or.inl ⟨by rfl, ?_⟩) (by assumption) ?_
          rotate_left
          · (intro w hSw; (try dsimp only at hSw); go_simp <;> with_reducible rfl)
          try simp only [Act.put, List.setIfInBounds_toArray, List.set_cons_zero, List.set_cons_succ]
          refine take_lit (i := 3) (v := ?_) rfl (by kernel_rfl) (by kernel_rfl) (by kernel_rfl) (fun _ _ _ h => h) (Or.inl ⟨by rfl, ?_⟩) (by assumption) ?_
          rotate_left
          · (intro w hSw; (try dsimp only at hSw); go_simp <;> with_reducible rfl)
          try simp only [Act.put, List.setIfInBounds_toArray, List.set_cons_zero, List.set_cons_succ]
          refine take_lit (i := 4) (v := ?_) rfl (by kernel_rfl) (by kernel_rfl) (by kernel_rfl) (fun _ _ _ h => h) (Or.inl ⟨by rfl, ?_⟩) (by assumption) ?_
          rotate_left
          · (intro w hSw; (try dsimp only at hSw); have hz := cm _ hSw; go_simp <;> with_reducible rfl)
          try simp only [Act.put, List.setIfInBounds_toArray, List.set_cons_zero, List.set_cons_succ]
          refine take_lit (i := 5) (v := ?_) rfl (by kernel_rfl) (by kernel_rfl) (by kernel_rfl) (fun _ _ _ h => h) (Or.inl ⟨by rfl, ?_⟩) (by assumption) ?_
          rotate_left
          · (intro w hSw; (try dsimp only at hSw); go_simp <;> with_reducible rfl)
          try simp only [Act.put, List.setIfInBounds_toArray, List.set_cons_zero, List.set_cons_succ]
          refine take_lit (i := 6) (v := ?_) rfl (by kernel_rfl) (by kernel_rfl) (by kernel_rfl) (fun _ _ _ h => h) (Or.inl ⟨by rfl, ?_⟩) (by assumption) ?_
          rotate_left
          · (intro w hSw; (try dsimp only at hSw); go_simp <;> with_reducible rfl)
          try simp only [Act.put, List.setIfInBounds_toArray, List.set_cons_zero, List.set_cons_succ]
          refine take_lit (i := 7) (v := ?_) rfl (by kernel_rfl) (by kernel_rfl) (by kernel_rfl) (fun _ _ _ h => h) (Or.inl ⟨by rfl, ?_⟩) (by assumption) ?_
          rotate_left
          · (intro w hSw; (try dsimp only at hSw); go_simp <;> with_reducible rfl)
          try simp only [Act.put, List.setIfInBounds_toArray, List.set_cons_zero, List.set_cons_succ]
          refine take_lit (i := 8) rfl (by kernel_rfl) (by kernel_rfl) (by kernel_rfl) (fun _ _ _ h => h) (yS n (fun w h => rangeAt_below q h hg) (by rfl) rfl rfl) (by assumption) ?_
          try simp only [Act.put, List.setIfInBounds_toArray, List.set_cons_zero, List.set_cons_succ]
          refine wpAnyH_ready (rs := [9]) (by kernel_rfl) (by simp) ?_
          refine cons_lit rfl (fun K hK => ?_) ?_
          · go_simp
            refine (hPl _).mono ?_
            rintro e w5 ⟨rfl, hB1⟩
            refine hK.out _ _ ?_ (fun hHeld => ?_)
            · exact bt hHeld hB1
            clear hK K
            try simp only [Act.put, List.setIfInBounds_toArray, List.set_cons_zero, List.set_cons_succ]
            refine take_lit (i := 10) (v := ?_) rfl (by kernel_rfl) (by kernel_rfl) (by kernel_rfl) (fun _ _ _ h => h) (Or.inl ⟨by rfl, ?_⟩) (by assumption) ?_
            rotate_left
            · (intro w hSw; (try dsimp only at hSw); go_simp <;> with_reducible rfl)
            try simp only [Act.put, List.setIfInBounds_toArray, List.set_cons_zero, List.set_cons_succ]
            refine wpAnyH_done (by kernel_rfl) ?_ _
            refine NoPanic.normal ?_
            have bW2 := bt bW hHeld
            clear hHeld hPl cm q
            go_wp2_with fail
            go_roundw
            case rel => exact ⟨j + 1, HJ.out, by first | rfl | go_num, bW2⟩
            case measure => first | (rw [hw64]; simp only [intOf]; exact HM.out) | (simp only [intOf]; exact HM.out)
          exact AllReadyH.nil
        · have hji : ¬ (j : Int) < (K.length : Int) := by omega
          replace tb2 := tb2.below bW
          replace bX := bt bX bW
          have hO4 := own_below hO3 bW
          clear hlt hj hKW hK hK1 hKo hO3
          go_wp2_with (first
            | (go_at_call 10; refine (live_any _).mono ?_; rintro e w9 ⟨rfl, k⟩; replace bX := bt bX k)
            | (have kk := s7; go_at_call 13; refine (rsame_any _ _ _ _ s7 s4 hKl).mono ?_; rintro e w8 ⟨rfl, k8⟩; clear s7 kk; replace bX := bt bX k8)
            | (have kk := tb6; go_at_call 14; refine (HLs.out _ tb6).mono ?_; rintro e w7 ⟨a7, c7, rfl, hO7, k7⟩; have hO5 := own_below hO6 k7; replace bX := bt bX k7; obtain ⟨_, _, e7, s7⟩ := SsW.own hO7; cases e7; obtain ⟨_, _, e4, s4⟩ := SsW.own hO5; cases e4; clear tb6 kk)
            | (go_at_call 29; refine (hRk2 _ tb2).mono ?_; rintro e w6 ⟨a6, c6, rfl, hT6⟩; have tb6 := hT6.tb; have hO6 := hT6.own tb2 hO4; replace bX := HT.out _ _ _ bX hT6; clear hT6 tb2))
          go_ret
          exact ⟨rfl, bX⟩
end Go.Proofs.Ythofoocknmkdjaa
