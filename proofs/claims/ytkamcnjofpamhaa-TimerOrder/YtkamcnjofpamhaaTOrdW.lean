/-
  The law TimerOrder returns true: the walk.
-/
import Derived.Test.YtkamcnjofpamhaaTOrdB
import Derived.Test.YtkamcnjofpamhaaTLst
import Derived.Test.YtkamcnjofpamhaaTCanW
namespace Go.Proofs.Ytkamcnjofpamhaa
open Go.RowKit
set_option linter.unusedSimpArgs false
/-- What the first loop's region keeps. -/
structure OA (w : World) (i : Nat) (s : ByteArray) (g p : Nat) (tm : Int) (W : World) : Prop where
  ex : ∃ L, Lv w.heap.size W (w.heap.size + 1) w.heap.size L ∧ Hp L L.length ∧ L.length ≤ i + 1 ∧ (L.length ≤ i ∨ ∃ t ∈ L, t.nm = s)
  b : Below w.heap.size w W
  c1 : W.cell? ⟨g, p + 1, none⟩ = some (.string s)
  c2 : W.cell? ⟨g, p + 2, none⟩ = some (.int .i64 tm)
theorem OA.set {w : World} {i : Nat} {s : ByteArray} {g p : Nat} {tm : Int} {W : World} (h : OA w i s g p tm W) (hg : g < w.heap.size) (hi : i ≤ 300) (hs : s.size ≤ maxLen) :
    Calls Try.prog 12 #[.pointer (some ⟨w.heap.size + 1, 0, none⟩), .string s, .int .i64 tm] W (fun e w' => e = .returned (.int .i64 0) ∧ OA w i s g p tm w') := by
  obtain ⟨L, h1, h2, h3, h4⟩ := h.ex
  refine (h1.set_hp h.b.size s tm hs (by omega) h2).mono ?_
  rintro e w' ⟨he, L', k1, k2, k3, k4, k5, k6⟩
  refine ⟨he, ⟨L', k1, k4, ?_, .inr k5⟩, h.b.trans k2.below, (k2.below.cell (p := ⟨g, p + 1, none⟩) hg).trans h.c1, (k2.below.cell (p := ⟨g, p + 2, none⟩) hg).trans h.c2⟩
  rcases h4 with h4 | h4
  · omega
  · rw [k6 h4]; exact h3
/-- What the last loop keeps: the timers that are left, and the one that came last. -/
structure OB (w : World) (now : Int) (D B j : Nat) (M : List Tm) (s : ByteArray) (t : Int) (W : World) : Prop where
  lv : Lv w.heap.size W (w.heap.size + 1) w.heap.size M
  hp : Hp M M.length
  cn : cnt now M + j = D
  len : M.length ≤ 10000
  b : Below w.heap.size w W
  wb : w.heap.size ≤ B
  row : Row W B 39 [.string s, .int .i64 t]
  la : 0 < j → ∀ m ∈ M, Ah ⟨0, t, s⟩ m
theorem OB.next {w : World} {now : Int} {D B j : Nat} {R : List Tm} {s mn : ByteArray} {t mt : Int} {W w3 : World}
    (hn : ∀ W', Kp w.heap.size W W' → Lv w.heap.size W' (w.heap.size + 1) w.heap.size R → Below w.heap.size w W' ∧ Row W' B 39 [.string s, .int .i64 t])
    (hm : Hp R R.length ∧ cnt now R + (j + 1) = D ∧ R.length ≤ 10000 ∧ ∀ m ∈ R, Ah ⟨0, mt, mn⟩ m) (hw : w.heap.size ≤ B)
    (l3 : Lv w.heap.size w3 (w.heap.size + 1) w.heap.size R) (k3 : Kp w.heap.size W w3) :
    OB w now D B (j + 1) R mn mt (((w3.setCell ⟨B, 0, none⟩ (.string mn)).setCell ⟨B, 1, none⟩ (.int .i64 mt)).alloc (.cells #[.string mn, .int .i64 mt] 39)) := by
  obtain ⟨b3, r3⟩ := hn w3 k3 l3
  obtain ⟨v, hQ, hF⟩ := l3
  have hnot : ¬ FootQ (w.heap.size + 1) w.heap.size v R B := hQ.not_foot r3 (by decide) (by decide) (by decide)
  have hf : Frm (fun k => k = B) w3 ((w3.setCell ⟨B, 0, none⟩ (.string mn)).setCell ⟨B, 1, none⟩ (.int .i64 mt)) := ((Frm.refl (fun k => k = B) w3).setCell (p := ⟨B, 0, none⟩) (.inl rfl) _).setCell (p := ⟨B, 1, none⟩) (.inl rfl) _
  have l4 : Lv w.heap.size ((w3.setCell ⟨B, 0, none⟩ (.string mn)).setCell ⟨B, 1, none⟩ (.int .i64 mt)) (w.heap.size + 1) w.heap.size R := ⟨v, hQ.frm hf (fun k hk e => hnot (e ▸ hk)), hF⟩
  have r4 : Row ((w3.setCell ⟨B, 0, none⟩ (.string mn)).setCell ⟨B, 1, none⟩ (.int .i64 mt)) B 39 [.string mn, .int .i64 mt] := (r3.set 0 _).set 1 _
  have b4 : Below w.heap.size w ((w3.setCell ⟨B, 0, none⟩ (.string mn)).setCell ⟨B, 1, none⟩ (.int .i64 mt)) := (b3.setCell (p := ⟨B, 0, none⟩) hw _).setCell (p := ⟨B, 1, none⟩) hw _
  exact ⟨l4.alloc _, hm.1, hm.2.1, hm.2.2.1, b4.alloc b4.size _, hw, r4.alloc _, fun _ => hm.2.2.2⟩
theorem dcells_at {K : List Tm} {j : Nat} (hj : j < K.length) : (dcells K)[j * 2 + 1]? = some (.int .i64 K[j].tm) := by
  induction K generalizing j with
  | nil => simp at hj
  | cons t K ih =>
    cases j with
    | zero => rfl
    | succ j =>
      have := ih (j := j) (by simpa using hj)
      rw [show (j + 1) * 2 + 1 = (j * 2 + 1) + 2 by omega]
      simpa [dcells] using this
set_option maxHeartbeats 8000000 in
set_option maxRecDepth 100000 in
theorem ord_walk (ad : Option Addr) (n c : Nat) (l : List Ac) (now x d : Int) (w : World) (hl : l.length = n) (hb : ∀ a ∈ l, a.nm.size ≤ maxLen ∧ -9223372036854775808 ≤ a.tm ∧ a.tm ≤ 9223372036854775807) (hm : n = 0 ∨ ∃ g o, ad = some ⟨g, o, none⟩ ∧ g < w.heap.size ∧ ∀ j a, l[j]? = some a → w.rangeAt g (o + j * 3) (acells a)) (hd1 : -9223372036854775808 ≤ d) (hd2 : d ≤ 9223372036854775807) (hx2 : x ≤ 9223372036854775807) :
    Calls Try.prog 5 #[.slice ad n c, .int .i64 now, .int .i64 x, .int .i64 d] w (Gives w (.bool true)) := by
  by_cases h1 : 200 < n
  · have h1' : (200 : Int) < (n : Int) := by omega
    clear hb hm
    go_enter Try.func5, Try.ntmps5
    go_wp2_with (go_at_call 9; refine (live_any _).mono ?_; rintro e w9 ⟨rfl, b9⟩)
    go_ret
    exact ⟨rfl, b9⟩
  have h1' : ¬ (200 : Int) < (n : Int) := by omega
  have N := lv_new w
  have HL : Hid (l.length = n ∧ n ≤ 200) := ⟨hl, by omega⟩
  have HJ : Hid ((∀ W, Calls Try.prog 25 #[.int .i64 x, .int .i64 d] W (fun e w' => e = .returned (.int .i64 (jit x d)) ∧ W = w')) ∧ (∀ W, Calls Try.prog 26 #[.int .i64 x, .int .i64 d] W (fun e w' => e = .returned (.int .i64 (jit x d)) ∧ W = w'))) := ⟨jit_any x d hd1 hd2 hx2, rjit_any x d hd1 hd2 hx2⟩
  have HX : Hid (x ≤ 9223372036854775807) := hx2
  clear hl h1 hd1 hd2 hx2
  go_enter Try.func5, Try.ntmps5
  go_wp2_with (go_at_call 10; refine N.mono ?_; rintro e w1 ⟨rfl, l1, k1⟩; clear N)
  go_loopw [10] (fun u wr => ∃ (i : Nat) (L : List Tm), u = .int .i64 i ∧ i ≤ n ∧ Lv w.heap.size wr (w.heap.size + 1) w.heap.size L ∧ Below w.heap.size w wr ∧ Hid (Hp L L.length ∧ L.length ≤ i)) (fun u _ => n - (intOf u).toNat)
  case atStart => exact ⟨0, [], rfl, Nat.zero_le _, l1, k1.below, fun k k0 kn => absurd kn (by simp), Nat.le_refl _⟩
  case round =>
    clear l1 k1
    obtain ⟨i, L, rfl, hi, hL, hB, HK⟩ := hrel
    by_cases hlt : i < n
    · have hlt' : (i : Int) < (n : Int) := by omega
      have hil : i < l.length := by rw [HL.out.1]; exact hlt
      rcases hm with h0 | ⟨g, o, rfl, hg, hx⟩
      · omega
      have hr := hx i l[i] (by simp)
      have c1 : wr.cell? ⟨g, o + i * 3 + 1, none⟩ = some (.string l[i].nm) := (hB.cell (p := ⟨g, o + i * 3 + 1, none⟩) hg).trans (hr 1 _ rfl)
      have c2 : wr.cell? ⟨g, o + i * 3 + 2, none⟩ = some (.int .i64 l[i].tm) := (hB.cell (p := ⟨g, o + i * 3 + 2, none⟩) hg).trans (hr 2 _ rfl)
      have hbi := hb l[i] (List.getElem_mem hil)
      generalize l[i] = a at *
      by_cases h5 : 5000 < a.nm.size
      · have h5' : (5000 : Int) < (a.nm.size : Int) := by omega
        clear hr hbi hL hx
        go_wp2
        go_quiet (fail)
        go_wp2_with (go_at_call 9; refine (live_any _).mono ?_; rintro e w9 ⟨rfl, b9⟩)
        go_ret
        exact ⟨rfl, (below_drewN hB nq).trans (b9.mono hB.size)⟩
      · have h5' : ¬ (5000 : Int) < (a.nm.size : Int) := by omega
        have HA : Hid (OA w i a.nm g (o + i * 3) a.tm wr.drew) := ⟨⟨L, hL.drew, HK.out.1, by have := HK.out.2; omega, .inl HK.out.2⟩, hB.drew, c1, c2⟩
        have HS : Hid (i ≤ 300 ∧ a.nm.size ≤ maxLen) := ⟨by have := HL.out.2; omega, hbi.1⟩
        clear hr hbi hL hx hB HK c1 c2
        go_wp2
        refine wp_region_noPanic ?_
        refine wp_region_held_drew (S := fun W => OA w i a.nm g (o + i * 3) a.tm W) (by kernel_rfl) (HA.out) (fun hHeld => ?_)
        refine take_lit (i := 0) (v := ?_) rfl (by kernel_rfl) (by kernel_rfl) (by kernel_rfl) (fun _ _ _ h => h) (Or.inl ⟨by rfl, ?_⟩) (by assumption) ?_
        rotate_left
        · (intro w hSw; (try dsimp only at hSw); go_simp <;> with_reducible rfl)
        try simp only [Act.put, List.setIfInBounds_toArray, List.set_cons_zero, List.set_cons_succ]
        refine take_lit (i := 1) (v := ?_) rfl (by kernel_rfl) (by kernel_rfl) (by kernel_rfl) (fun _ _ _ h => h) (Or.inl ⟨by rfl, ?_⟩) (by assumption) ?_
        rotate_left
        · (intro w hSw; (try dsimp only at hSw); go_simp <;> with_reducible rfl)
        try simp only [Act.put, List.setIfInBounds_toArray, List.set_cons_zero, List.set_cons_succ]
        refine take_lit (i := 2) (v := ?_) rfl (by kernel_rfl) (by kernel_rfl) (by kernel_rfl) (fun _ _ _ h => h) (Or.inl ⟨by rfl, ?_⟩) (by assumption) ?_
        rotate_left
        · (intro w hSw; (try dsimp only at hSw); go_simp <;> with_reducible rfl)
        try simp only [Act.put, List.setIfInBounds_toArray, List.set_cons_zero, List.set_cons_succ]
        refine take_lit (i := 3) (v := ?_) rfl (by kernel_rfl) (by kernel_rfl) (by kernel_rfl) (fun _ _ _ h => h) (Or.inl ⟨by rfl, ?_⟩) (by assumption) ?_
        rotate_left
        · (intro w hSw; (try dsimp only at hSw); go_simp <;> with_reducible rfl)
        try simp only [Act.put, List.setIfInBounds_toArray, List.set_cons_zero, List.set_cons_succ]
        refine take_lit (i := 4) (v := ?_) rfl (by kernel_rfl) (by kernel_rfl) (by kernel_rfl) (fun _ _ _ h => h) (Or.inl ⟨by rfl, ?_⟩) (by assumption) ?_
        rotate_left
        · (intro w hSw; (try dsimp only at hSw); have c1 := hSw.c1; go_simp <;> with_reducible rfl)
        try simp only [Act.put, List.setIfInBounds_toArray, List.set_cons_zero, List.set_cons_succ]
        refine wpAnyH_ready (rs := [5]) (by kernel_rfl) (by simp) ?_
        refine cons_lit rfl (fun K hK => ?_) ?_
        · go_simp
          refine hK.out _ _ ?_ (fun hHeld => ?_)
          · exact hHeld
          clear hK K
          try simp only [Act.put, List.setIfInBounds_toArray, List.set_cons_zero, List.set_cons_succ]
          refine take_lit (i := 6) (v := ?_) rfl (by kernel_rfl) (by kernel_rfl) (by kernel_rfl) (fun _ _ _ h => h) (Or.inl ⟨by rfl, ?_⟩) (by assumption) ?_
          rotate_left
          · (intro w hSw; (try dsimp only at hSw); go_simp; rw [show decide ((5000 : Int) < (a.nm.size : Int)) = false from decide_eq_false (by omega)])
          try simp only [Act.put, List.setIfInBounds_toArray, List.set_cons_zero, List.set_cons_succ]
          refine take_lit (i := 7) (v := ?_) rfl (by kernel_rfl) (by kernel_rfl) (by kernel_rfl) (fun _ _ _ h => h) (Or.inl ⟨by rfl, ?_⟩) (by assumption) ?_
          rotate_left
          · (intro w hSw; (try dsimp only at hSw); go_simp <;> with_reducible rfl)
          try simp only [Act.put, List.setIfInBounds_toArray, List.set_cons_zero, List.set_cons_succ]
          refine take_lit (i := 8) (v := ?_) rfl (by kernel_rfl) (by kernel_rfl) (by kernel_rfl) (fun _ _ _ h => h) (Or.inl ⟨by rfl, ?_⟩) (by assumption) ?_
          rotate_left
          · (intro w hSw; (try dsimp only at hSw); go_simp <;> with_reducible rfl)
          try simp only [Act.put, List.setIfInBounds_toArray, List.set_cons_zero, List.set_cons_succ]
          refine take_lit (i := 9) (v := ?_) rfl (by kernel_rfl) (by kernel_rfl) (by kernel_rfl) (fun _ _ _ h => h) (Or.inl ⟨by rfl, ?_⟩) (by assumption) ?_
          rotate_left
          · (intro w hSw; (try dsimp only at hSw); go_simp <;> with_reducible rfl)
          try simp only [Act.put, List.setIfInBounds_toArray, List.set_cons_zero, List.set_cons_succ]
          refine take_lit (i := 10) (v := ?_) rfl (by kernel_rfl) (by kernel_rfl) (by kernel_rfl) (fun _ _ _ h => h) (Or.inl ⟨by rfl, ?_⟩) (by assumption) ?_
          rotate_left
          · (intro w hSw; (try dsimp only at hSw); go_simp <;> with_reducible rfl)
          try simp only [Act.put, List.setIfInBounds_toArray, List.set_cons_zero, List.set_cons_succ]
          refine take_lit (i := 11) (v := ?_) rfl (by kernel_rfl) (by kernel_rfl) (by kernel_rfl) (fun _ _ _ h => h) (Or.inl ⟨by rfl, ?_⟩) (by assumption) ?_
          rotate_left
          · (intro w hSw; (try dsimp only at hSw); go_simp <;> with_reducible rfl)
          try simp only [Act.put, List.setIfInBounds_toArray, List.set_cons_zero, List.set_cons_succ]
          refine take_lit (i := 12) (v := ?_) rfl (by kernel_rfl) (by kernel_rfl) (by kernel_rfl) (fun _ _ _ h => h) (Or.inl ⟨by rfl, ?_⟩) (by assumption) ?_
          rotate_left
          · (intro w hSw; (try dsimp only at hSw); go_simp <;> with_reducible rfl)
          try simp only [Act.put, List.setIfInBounds_toArray, List.set_cons_zero, List.set_cons_succ]
          refine take_lit (i := 13) (v := ?_) rfl (by kernel_rfl) (by kernel_rfl) (by kernel_rfl) (fun _ _ _ h => h) (Or.inl ⟨by rfl, ?_⟩) (by assumption) ?_
          rotate_left
          · (intro w hSw; (try dsimp only at hSw); have c1 := hSw.c1; go_simp <;> with_reducible rfl)
          try simp only [Act.put, List.setIfInBounds_toArray, List.set_cons_zero, List.set_cons_succ]
          refine take_lit (i := 14) (v := ?_) rfl (by kernel_rfl) (by kernel_rfl) (by kernel_rfl) (fun _ _ _ h => h) (Or.inl ⟨by rfl, ?_⟩) (by assumption) ?_
          rotate_left
          · (intro w hSw; (try dsimp only at hSw); go_simp <;> with_reducible rfl)
          try simp only [Act.put, List.setIfInBounds_toArray, List.set_cons_zero, List.set_cons_succ]
          refine take_lit (i := 15) (v := ?_) rfl (by kernel_rfl) (by kernel_rfl) (by kernel_rfl) (fun _ _ _ h => h) (Or.inl ⟨by rfl, ?_⟩) (by assumption) ?_
          rotate_left
          · (intro w hSw; (try dsimp only at hSw); go_simp <;> with_reducible rfl)
          try simp only [Act.put, List.setIfInBounds_toArray, List.set_cons_zero, List.set_cons_succ]
          refine take_lit (i := 16) (v := ?_) rfl (by kernel_rfl) (by kernel_rfl) (by kernel_rfl) (fun _ _ _ h => h) (Or.inl ⟨by rfl, ?_⟩) (by assumption) ?_
          rotate_left
          · (intro w hSw; (try dsimp only at hSw); go_simp <;> with_reducible rfl)
          try simp only [Act.put, List.setIfInBounds_toArray, List.set_cons_zero, List.set_cons_succ]
          refine take_lit (i := 17) (v := ?_) rfl (by kernel_rfl) (by kernel_rfl) (by kernel_rfl) (fun _ _ _ h => h) (Or.inl ⟨by rfl, ?_⟩) (by assumption) ?_
          rotate_left
          · (intro w hSw; (try dsimp only at hSw); go_simp <;> with_reducible rfl)
          try simp only [Act.put, List.setIfInBounds_toArray, List.set_cons_zero, List.set_cons_succ]
          refine take_lit (i := 18) (v := ?_) rfl (by kernel_rfl) (by kernel_rfl) (by kernel_rfl) (fun _ _ _ h => h) (Or.inl ⟨by rfl, ?_⟩) (by assumption) ?_
          rotate_left
          · (intro w hSw; (try dsimp only at hSw); have c2 := hSw.c2; go_simp <;> with_reducible rfl)
          try simp only [Act.put, List.setIfInBounds_toArray, List.set_cons_zero, List.set_cons_succ]
          refine wpAnyH_ready (rs := [19]) (by kernel_rfl) (by simp) ?_
          refine cons_lit rfl (fun K hK => ?_) ?_
          · go_simp
            refine (hHeld.set hg HS.out.1 HS.out.2).mono ?_
            rintro e w2 ⟨rfl, hO⟩
            refine hK.out _ _ ?_ (fun hHeld => ?_)
            · exact hO
            clear hK K
            try simp only [Act.put, List.setIfInBounds_toArray, List.set_cons_zero, List.set_cons_succ]
            refine wpAnyH_ready (rs := [20]) (by kernel_rfl) (by simp) ?_
            refine cons_lit rfl (fun K hK => ?_) ?_
            · go_simp
              refine (num_any _ _).mono ?_
              rintro e w3 ⟨rfl, rfl⟩
              refine hK.out _ _ ?_ (fun hHeld => ?_)
              · exact hHeld
              clear hK K
              try simp only [Act.put, List.setIfInBounds_toArray, List.set_cons_zero, List.set_cons_succ]
              refine take_lit (i := 21) (v := ?_) rfl (by kernel_rfl) (by kernel_rfl) (by kernel_rfl) (fun _ _ _ h => h) (Or.inl ⟨by rfl, ?_⟩) (by assumption) ?_
              rotate_left
              · (intro w hSw; (try dsimp only at hSw); go_simp <;> with_reducible rfl)
              try simp only [Act.put, List.setIfInBounds_toArray, List.set_cons_zero, List.set_cons_succ]
              refine take_lit (i := 22) (v := ?_) rfl (by kernel_rfl) (by kernel_rfl) (by kernel_rfl) (fun _ _ _ h => h) (Or.inl ⟨by rfl, ?_⟩) (by assumption) ?_
              rotate_left
              · (intro w hSw; (try dsimp only at hSw); go_simp <;> with_reducible rfl)
              try simp only [Act.put, List.setIfInBounds_toArray, List.set_cons_zero, List.set_cons_succ]
              refine wpAnyH_done (by kernel_rfl) ?_ _
              refine NoPanic.normal ?_
              obtain ⟨L2, k1, k2, k3, k4⟩ := hHeld.ex
              have bb := hHeld.b
              clear hHeld HA HS
              go_wp2
              go_roundw
              case rel => exact ⟨i + 1, L2, by simp [wrap64], by omega, k1, bb, k2, by omega⟩
              case measure => simp [intOf]; omega
            exact AllReadyH.nil
          exact AllReadyH.nil
        exact AllReadyH.nil
    · obtain rfl : i = n := by omega
      obtain ⟨v, hQ, hF⟩ := hL
      have LA := list_any wr (w.heap.size + 1) w.heap.size v L hQ (by have := HK.out.2; have := HL.out.2; omega)
      have HQ : Hid (Qd wr (w.heap.size + 1) w.heap.size v L ∧ ∀ k, FootQ (w.heap.size + 1) w.heap.size v L k → w.heap.size ≤ k) := ⟨hQ, hF⟩
      have hlt' : ¬ (i : Int) < (i : Int) := by omega
      clear hQ hF hm hb
      go_wp2_with (go_at_call 20; refine LA.mono ?_; rintro e w2 ⟨va, vc, K, rfl, kp, ks, ko, kb⟩; clear LA)
      have hL2 : Hid (Lv w.heap.size w2 (w.heap.size + 1) w.heap.size L) := ⟨v, HQ.out.1.below kb, HQ.out.2⟩
      have HB : Hid (Below w.heap.size w w2) := hB.trans (kb.mono hB.size)
      have HC : Hid (∀ j (hj : j < K.length), ∃ g, va = some ⟨g, 0, none⟩ ∧ w2.cell? ⟨g, j * 2 + 1, none⟩ = some (.int .i64 K[j].tm)) := fun j hj => by
        rcases ko.2 with ⟨_, h0⟩ | ⟨g, cap, cur, e, _, _⟩
        · omega
        · cases e
          refine ⟨g, rfl, ?_⟩
          have := ko.cells (g := g) rfl (j * 2 + 1) (.int .i64 K[j].tm) (by rw [dcells_at hj])
          rwa [Addr.add_mid, Nat.zero_add] at this
      have HP : Hid (K.Perm L) := kp
      clear ko kb hB kp ks HQ
      go_loopw [11, 13] (fun u v wr2 => ∃ j : Nat, v = .int .i64 j ∧ j ≤ K.length ∧ u = .int .i64 (cnt now (K.take j) : Nat) ∧ wr2 = w2) (fun _ v _ => K.length - (intOf v).toNat)
      case atStart => exact ⟨0, rfl, Nat.zero_le _, by simp [cnt], rfl⟩
      case round =>
        obtain ⟨j, rfl, hj, rfl, rfl⟩ := hrel
        by_cases hlt : j < K.length
        · obtain ⟨g, rfl, hc⟩ := HC.out j hlt
          have hlt' : (j : Int) < (K.length : Int) := by omega
          have ht : cnt now (K.take (j + 1)) = cnt now (K.take j) + if K[j].tm ≤ now then 1 else 0 := by rw [List.take_add_one, List.getElem?_eq_getElem hlt]; exact cnt_one _ _ _
          have hcl : cnt now (K.take j) ≤ j := Nat.le_trans (List.length_filter_le _ _) (by rw [List.length_take]; omega)
          have hKl : K.length ≤ 200 := by rw [HP.out.length_eq]; have := HK.out.2; have := HL.out.2; omega
          generalize K[j].tm = kt at *
          generalize cnt now (K.take j) = cj at *
          by_cases hd : kt ≤ now
          · rw [if_pos hd] at ht
            have hw : wrap64 ((cj : Int) + 1) = ((cj + 1 : Nat) : Int) := by unfold wrap64; omega
            have HT : Hid (cnt now (K.take (j + 1)) = cj + 1) := ht
            clear ht
            go_wp2
            go_roundw
            case rel => exact ⟨j + 1, by simp [wrap64], by omega, by first | (rw [HT.out]; done) | (rw [HT.out]; rfl) | (rw [HT.out]; simp), trivial⟩
            case measure => simp [intOf]; omega
          · rw [if_neg hd] at ht
            have HT : Hid (cnt now (K.take (j + 1)) = cj) := ht
            clear ht
            go_wp2
            go_roundw
            case rel => exact ⟨j + 1, by simp [wrap64], by omega, by first | (rw [HT.out]; done) | (rw [HT.out]; rfl) | (rw [HT.out]; simp), trivial⟩
            case measure => simp [intOf]; omega
        · obtain rfl : j = K.length := by omega
          have HD : Hid (cnt now L = cnt now (K.take K.length)) := by show _ = _; rw [List.take_length, cnt_perm HP.out]
          have hDl : cnt now (K.take K.length) ≤ 200 := by rw [← HD.out]; have := List.length_filter_le (fun t : Tm => decide (t.tm ≤ now)) L; have := HK.out.2; have := HL.out.2; unfold cnt; omega
          generalize cnt now (K.take K.length) = D at *
          have hself : ¬ (K.length : Int) < (K.length : Int) := by omega
          clear HC
          go_wp2
          have hl3 := hL2.out.alloc (.cells #[.string ⟨#[]⟩, .int .i64 0] 39)
          have hb3 : Below w.heap.size w (wr.alloc (.cells #[.string ⟨#[]⟩, .int .i64 0] 39)) := HB.out.alloc HB.out.size _
          have H0 : OB w now D wr.heap.size 0 L ⟨#[]⟩ 0 (wr.alloc (.cells #[.string ⟨#[]⟩, .int .i64 0] 39)) := ⟨hl3, HK.out.1, HD.out, by have := HK.out.2; have := HL.out.2; omega, hb3, HB.out.size, Row.new wr _ _, fun h => absurd h (by simp)⟩
          clear hl3 hb3 hL2 HB HK HD HP HL
          generalize wr.heap.size = B at *
          go_loopw [15] (fun u W => ∃ (j : Nat) (M : List Tm) (s : ByteArray) (t : Int), u = .int .i64 j ∧ OB w now D B j M s t W) (fun u _ => D - (intOf u).toNat)
          case atStart => exact ⟨0, L, _, _, rfl, H0⟩
          case round =>
            clear H0
            obtain ⟨j, M, s, t, rfl, H⟩ := hrel
            rename World => W
            by_cases hlt : j < D
            · have hlt' : (j : Int) < (D : Int) := by omega
              obtain ⟨m0, m1, m2⟩ := first_due (now := now) H.hp (by have := H.cn; omega)
              have PD := H.lv.pop_due H.b.size now m0 H.len m1
              have m3 := first_ahead H.hp H.lv.nodup m0
              have m4 := pop_heap M m0 H.hp
              have m5 : (remF M 0).dropLast.length = M.length - 1 := by rw [List.length_dropLast, (remF_perm M 0).length_eq]
              have m6 := fun h => H.la h M[0] (List.getElem_mem m0)
              have cn := H.cn
              have ln := H.len
              have HN : Hid (∀ W', Kp w.heap.size W W' → Lv w.heap.size W' (w.heap.size + 1) w.heap.size (remF M 0).dropLast → Below w.heap.size w W' ∧ Row W' B 39 [.string s, .int .i64 t]) := fun W' k _ => ⟨H.b.trans k.below, block_kp H.row k⟩
              have HM : Hid (Hp (remF M 0).dropLast (remF M 0).dropLast.length ∧ cnt now (remF M 0).dropLast + (j + 1) = D ∧ (remF M 0).dropLast.length ≤ 10000 ∧ ∀ m ∈ (remF M 0).dropLast, Ah ⟨0, M[0].tm, M[0].nm⟩ m) := ⟨by rw [m5]; exact m4, by omega, by omega, m3⟩
              have m6' : 0 < j → t < M[0].tm ∨ t = M[0].tm ∧ Op.bytesLess s.toList M[0].nm.toList = true := m6
              have HWB : Hid (w.heap.size ≤ B) := H.wb
              clear m3 m4 m5 m6 m2 H cn ln
              generalize (remF M 0).dropLast = R at *
              generalize M[0].tm = mt at *
              generalize M[0].nm = mn at *
              clear m0 M
              unfold dueV at PD
              by_cases hj0 : j = 0
              · subst hj0
                clear m6'
                go_wp2_with (go_at_call 16; refine PD.mono ?_; rintro e w3 ⟨rfl, l3, k3⟩; obtain ⟨b3, r3⟩ := HN.out _ k3 l3; have z3 := r3.lt; have d0 := r3.cell 0; have d1 := r3.cell 1; have f0 := r3.frozen 0; have f1 := r3.frozen 1; simp only [List.getElem?_cons_zero, List.getElem?_cons_succ] at d0 d1)
                all_goals first
                  | (exfalso; omega)
                  | (refine ⟨⟨1, R, mn, mt, rfl, ?_⟩, ?_⟩
                     · exact OB.next HN.out HM.out HWB.out l3 k3
                     · simp [intOf]; omega)
              · have m6 := m6' (by omega)
                clear m6'
                have hj1 : (0 : Int) < (j : Int) := by omega
                rcases m6 with m6 | ⟨rfl, m6⟩
                · have hne : (mt == t) = false := by simp; omega
                  go_wp2_with (go_at_call 16; refine PD.mono ?_; rintro e w3 ⟨rfl, l3, k3⟩; obtain ⟨b3, r3⟩ := HN.out _ k3 l3; have z3 := r3.lt; have d0 := r3.cell 0; have d1 := r3.cell 1; have f0 := r3.frozen 0; have f1 := r3.frozen 1; simp only [List.getElem?_cons_zero, List.getElem?_cons_succ] at d0 d1)
                  all_goals first
                    | (exfalso; omega)
                    | (refine ⟨⟨j + 1, R, mn, mt, by simp, ?_⟩, ?_⟩
                       · exact OB.next HN.out HM.out HWB.out l3 k3
                       · simp [intOf]; omega)
                · have hq : Op.bytesLess mn.toList s.toList = false := by
                    cases q : Op.bytesLess mn.toList s.toList with
                    | false => rfl
                    | true => have := bl_trans _ _ _ m6 q; rw [bl_irrefl] at this; cases this
                  have hr : (mn.toList == s.toList) = false := by
                    cases q : mn.toList == s.toList with
                    | false => rfl
                    | true => rw [eq_of_beq q, bl_irrefl] at m6; cases m6
                  clear m6
                  go_wp2_with (go_at_call 16; refine PD.mono ?_; rintro e w3 ⟨rfl, l3, k3⟩; obtain ⟨b3, r3⟩ := HN.out _ k3 l3; have z3 := r3.lt; have d0 := r3.cell 0; have d1 := r3.cell 1; have f0 := r3.frozen 0; have f1 := r3.frozen 1; simp only [List.getElem?_cons_zero, List.getElem?_cons_succ] at d0 d1)
                  all_goals first
                    | (exfalso; omega)
                    | (refine ⟨⟨j + 1, R, mn, t, by simp, ?_⟩, ?_⟩
                       · exact OB.next HN.out HM.out HWB.out l3 k3
                       · simp [intOf]; omega)
            · have hjD : ¬ (j : Int) < (D : Int) := by omega
              have PN : Calls Try.prog 16 #[.pointer (some ⟨w.heap.size + 1, 0, none⟩), .int .i64 now] W (Post w.heap.size W (w.heap.size + 1) w.heap.size M noDue) := by
                have hz : cnt now M = 0 := by have := H.cn; omega
                by_cases hM : 0 < M.length
                · exact H.lv.pop_late H.b.size now hM (none_due hz hM)
                · obtain rfl : M = [] := List.length_eq_zero_iff.1 (by omega)
                  exact H.lv.pop_none H.b.size now
              have HBW : Hid (Below w.heap.size w W) := H.b
              unfold noDue dueV at PN
              clear H
              have hJ1 := HJ.out.1
              have hJ2 := HJ.out.2
              by_cases hx1 : 1 ≤ x
              · have hbd := jit_bd (d := d) hx1
                have q1 : x.tdiv 4 = x / 4 := Int.tdiv_eq_ediv_of_nonneg (by omega)
                generalize jit x d = y at *
                have hQ : 0 ≤ x / 4 ∧ x / 4 ≤ x := by omega
                generalize x / 4 = Q at *
                have q2 : wrap64 Q = Q := by have := HX.out; unfold wrap64; omega
                have q3 : wrap64 (x - Q) = x - Q := by have := HX.out; unfold wrap64; omega
                have y1 : y ≤ x := hbd.1
                have y2 : x - Q ≤ y := hbd.2
                go_wp2_with (first
                  | (go_at_call 9; refine (live_any _).mono ?_; rintro e w9 ⟨rfl, b9⟩)
                  | (go_at_call 26; refine (hJ2 _).mono ?_; rintro e w7 ⟨rfl, rfl⟩)
                  | (go_at_call 25; refine (hJ1 _).mono ?_; rintro e w6 ⟨rfl, rfl⟩)
                  | (go_at_call 16; refine PN.mono ?_; rintro e w5 ⟨rfl, l5, k5⟩))
                go_ret
                have bb := HBW.out.trans k5.below
                exact ⟨rfl, (bb.alloc bb.size _).trans (b9.mono (by simp; have := bb.size; omega))⟩
              · have e : jit x d = x := by unfold jit; rw [if_pos (by omega)]
                rw [e] at hJ1 hJ2
                clear e
                go_wp2_with (first
                  | (go_at_call 9; refine (live_any _).mono ?_; rintro e w9 ⟨rfl, b9⟩)
                  | (go_at_call 26; refine (hJ2 _).mono ?_; rintro e w7 ⟨rfl, rfl⟩)
                  | (go_at_call 25; refine (hJ1 _).mono ?_; rintro e w6 ⟨rfl, rfl⟩)
                  | (go_at_call 16; refine PN.mono ?_; rintro e w5 ⟨rfl, l5, k5⟩))
                go_ret
                have bb := HBW.out.trans k5.below
                exact ⟨rfl, (bb.alloc bb.size _).trans (b9.mono (by simp; have := bb.size; omega))⟩
end Go.Proofs.Ytkamcnjofpamhaa
