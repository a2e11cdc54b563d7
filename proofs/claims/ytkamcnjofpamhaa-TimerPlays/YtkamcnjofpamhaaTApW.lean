/-
  The law TimerApart returns true: the walk.
-/
import Derived.Test.YtkamcnjofpamhaaTQp
import Derived.Test.YtkamcnjofpamhaaTSame
import Derived.Test.YtkamcnjofpamhaaTCanW
namespace Go.Proofs.Ytkamcnjofpamhaa
open Go.RowKit
set_option linter.unusedSimpArgs false
/-- What the first loop's region keeps. -/
structure PA (w : World) (D : List (ByteArray × Int)) (s : ByteArray) (g p : Nat) (tm : Int) (W : World) : Prop where
  ex : ∃ E, Qp w.heap.size W (w.heap.size + 1) w.heap.size E ∧ (E = D ∨ E = out s D ++ [(s, tm)])
  b : Below w.heap.size w W
  c1 : W.cell? ⟨g, p + 1, none⟩ = some (.string s)
  c2 : W.cell? ⟨g, p + 2, none⟩ = some (.int .i64 tm)
theorem PA.set {w : World} {D : List (ByteArray × Int)} {s : ByteArray} {g p : Nat} {tm : Int} {W : World} (h : PA w D s g p tm W) (hg : g < w.heap.size) (hD : D.length ≤ 300) (hs : s.size ≤ maxLen) :
    Calls Try.prog 12 #[.pointer (some ⟨w.heap.size + 1, 0, none⟩), .string s, .int .i64 tm] W (fun e w' => e = .returned (.int .i64 0) ∧ PA w D s g p tm w') := by
  obtain ⟨E, h1, h2⟩ := h.ex
  have hl : E.length ≤ 301 := by
    rcases h2 with rfl | rfl
    · omega
    · have := out_len s D
      simp; omega
  refine (h1.set h.b.size s tm hs (by omega) (.inl (by omega))).mono ?_
  rintro e w' ⟨he, k1, k2⟩
  refine ⟨he, ⟨_, k1, .inr ?_⟩, h.b.trans k2.below, (k2.below.cell (p := ⟨g, p + 1, none⟩) hg).trans h.c1, (k2.below.cell (p := ⟨g, p + 2, none⟩) hg).trans h.c2⟩
  rcases h2 with rfl | rfl
  · rfl
  · rw [out_again]
theorem dcs_at {E : List (ByteArray × Int)} {j : Nat} (hj : j < E.length) : (dcs E)[j * 2]? = some (.string E[j].1) ∧ (dcs E)[j * 2 + 1]? = some (.int .i64 E[j].2) := by
  induction E generalizing j with
  | nil => simp at hj
  | cons t E ih =>
    cases j with
    | zero => exact ⟨rfl, rfl⟩
    | succ j =>
      have := ih (j := j) (by simpa using hj)
      rw [show (j + 1) * 2 = j * 2 + 2 by omega, show j * 2 + 2 + 1 = (j * 2 + 1) + 2 by omega]
      simpa [dcs] using this
theorem dues_own {W : World} {b : Nat} {a : Option Addr} {c k : Nat} {E : List (ByteArray × Int)} (h : W.ownsRow b 39 2 (.slice a k c) k (dcs E)) (hk : k = E.length) : DuesAt W a E := by
  intro i hi
  rcases h.2 with ⟨_, h0⟩ | ⟨g, cap, cur, e, _, h3, h4, h5, h6, h7⟩
  · omega
  · cases e
    have hd := dcs_at hi
    have hg : ∀ j v, (dcs E)[j]? = some v → cur[j]? = some v := fun j v hv => by
      have hjl : j < (dcs E).length := by
        rcases Nat.lt_or_ge j (dcs E).length with q | q
        · exact q
        · rw [List.getElem?_eq_none q] at hv; cases hv
      rw [← h7] at hv hjl
      rw [List.getElem?_take_of_lt (by simp at hjl; omega)] at hv
      rw [← Array.getElem?_toList]
      exact hv
    exact ⟨g, 0, rfl, by rw [Nat.zero_add]; exact one_cell h3 (hg _ _ hd.1), by rw [Nat.zero_add]; exact one_cell h3 (hg _ _ hd.2)⟩
theorem own_kp {W W' : World} {n b : Nat} {v : Value} {k s : Nat} {xs : List Value} (h : W.ownsRow b 39 s v k xs) (hk : Kp n W W') : W'.ownsRow b 39 s v k xs := by
  refine ⟨h.1, ?_⟩
  rcases h.2 with h0 | ⟨g, cap, cur, e, h2, h3, h4⟩
  · exact .inl h0
  · exact .inr ⟨g, cap, cur, e, h2, hk.cells _ _ _ h3 (by decide) (by decide) (by decide), h4⟩
/-- The first is taken; a queue that lies behind stays. -/
theorem Qp.pop_apart {n : Nat} {V W : World} {q mb qd md : Nat} {E F : List (ByteArray × Int)} (h : Qp n V q mb E) (hb : Below V.heap.size V W) (hn : n ≤ V.heap.size) (hd : Qp V.heap.size W qd md F) (hs : Srt2 E) (a : Int) (ha : ∀ d ∈ E, d.2 ≤ a) (hm : E.length ≤ 10000) :
    Calls Try.prog 16 #[.pointer (some ⟨q, 0, none⟩), .int .i64 a] W (fun e w' => (∃ r, e = .returned r) ∧ (∃ E', Qp n w' q mb E' ∧ E'.length = E.length - 1) ∧ Qp V.heap.size w' qd md F ∧ Kp n W w') := by
  have hnW : n ≤ W.heap.size := Nat.le_trans hn hb.size
  cases E with
  | nil =>
    obtain ⟨L, ⟨v, h1, h1f⟩, h2, h3⟩ := h.below hb
    obtain rfl : L = [] := by have := h3.length_eq; simpa using this
    exact (Go.Proofs.Ytkamcnjofpamhaa.pop_none W q mb v a h1).mono fun e w' hg => ⟨⟨_, hg.1⟩, ⟨[], ⟨[], ⟨v, h1.below hg.2, h1f⟩, h2, h3⟩, rfl⟩, hd.below hg.2, Kp.of_below hg.2 hnW⟩
  | cons d E =>
    obtain ⟨L, ⟨v, h1, h1f⟩, h2, h3⟩ := h
    have hlen : L.length = (d :: E).length := by have := h3.length_eq; simpa using this
    obtain ⟨h0, e0, hr⟩ := head_nt h2 h3 hs
    have e1 : L[0].tm = d.2 := by rw [← e0]; rfl
    have hup : ∀ k, FootQ q mb v L k → k < V.heap.size := fun k hk => h1.foot_lt hk
    have h1W := h1.below hb
    have hl2 : (remF L 0).dropLast.length = L.length - 1 := by rw [List.length_dropLast, (remF_perm L 0).length_eq]
    refine (Go.Proofs.Ytkamcnjofpamhaa.pop_due W q mb v L a h1W h0 (by omega) (by rw [e1]; exact ha d (by simp))).mono ?_
    rintro e w' ⟨rfl, hT⟩
    have hP := Taken.post (r := .int .i64 0) h1W h1f hnW drop_mem rfl hT
    obtain ⟨v', p, q3, F3, o3, _⟩ := hT
    obtain ⟨K, ⟨vd, d1, d2⟩, d3, d4⟩ := hd
    exact ⟨⟨_, rfl⟩, ⟨_, ⟨_, hP.2.1, by rw [hl2]; exact pop_heap L h0 h2, List.Perm.refl _⟩, by rw [List.length_map, hl2, hlen]⟩, ⟨K, ⟨vd, d1.frm F3 (fun k hk hk' => by have := d2 k hk; have := hup k hk'; omega), d2⟩, d3, d4⟩, hP.2.2⟩
theorem Lv.drewX {n : Nat} {W : World} {q mb : Nat} {D : List (ByteArray × Int)} (h : Qp n W q mb D) : Qp n W.drew q mb D := h.below (Below.refl _ _).drew
set_option maxHeartbeats 8000000 in
set_option maxRecDepth 100000 in
theorem apart_walk (ad : Option Addr) (n c : Nat) (l : List Ac) (now : Int) (w : World) (hl : l.length = n) (hb : ∀ a ∈ l, a.nm.size ≤ maxLen ∧ -9223372036854775808 ≤ a.tm ∧ a.tm ≤ 9223372036854775807) (hm : n = 0 ∨ ∃ g o, ad = some ⟨g, o, none⟩ ∧ g < w.heap.size ∧ ∀ j a, l[j]? = some a → w.rangeAt g (o + j * 3) (acells a)) :
    Calls Try.prog 7 #[.slice ad n c, .int .i64 now] w (Gives w (.bool true)) := by
  by_cases h1 : 200 < n
  · have h1' : (200 : Int) < (n : Int) := by omega
    clear hb hm
    go_enter Try.func7, Try.ntmps7
    go_wp2_with (go_at_call 9; refine (live_any _).mono ?_; rintro e w9 ⟨rfl, b9⟩)
    go_ret
    exact ⟨rfl, b9⟩
  have h1' : ¬ (200 : Int) < (n : Int) := by omega
  have N := lv_new w
  have HL : Hid (l.length = n ∧ n ≤ 200) := ⟨hl, by omega⟩
  clear hl h1
  go_enter Try.func7, Try.ntmps7
  go_wp2_with (go_at_call 10; refine N.mono ?_; rintro e w1 ⟨rfl, l1, k1⟩; clear N)
  go_loopw [6] (fun u wr => ∃ (i : Nat) (D : List (ByteArray × Int)), u = .int .i64 i ∧ i ≤ n ∧ Qp w.heap.size wr (w.heap.size + 1) w.heap.size D ∧ Below w.heap.size w wr ∧ Hid (D.length ≤ i ∧ ∀ d ∈ D, d.2 ≤ 9223372036854775807)) (fun u _ => n - (intOf u).toNat)
  case atStart => exact ⟨0, [], rfl, Nat.zero_le _, ⟨[], l1, fun k k0 kn => absurd kn (by simp), List.Perm.refl _⟩, k1.below, Nat.le_refl _, fun _ h => by cases h⟩
  case round =>
    clear l1 k1
    obtain ⟨i, D, rfl, hi, hQ, hB, HK⟩ := hrel
    by_cases hlt : i < n
    · have hlt' : (i : Int) < (n : Int) := by omega
      have hil : i < l.length := by rw [HL.out.1]; exact hlt
      rcases hm with h0 | ⟨g, o, rfl, hg, hx⟩
      · omega
      have hr := hx i l[i] (by simp)
      have c1 : wr.cell? ⟨g, o + i * 3 + 1, none⟩ = some (.string l[i].nm) := (hB.cell (p := ⟨g, o + i * 3 + 1, none⟩) hg).trans (hr 1 _ rfl)
      have c2 : wr.cell? ⟨g, o + i * 3 + 2, none⟩ = some (.int .i64 l[i].tm) := (hB.cell (p := ⟨g, o + i * 3 + 2, none⟩) hg).trans (hr 2 _ rfl)
      have hbi := hb l[i] (List.getElem_mem hil)
      generalize l[i] = a at *
      by_cases h5 : 5000 < a.nm.size
      · have h5' : (5000 : Int) < (a.nm.size : Int) := by omega
        clear hr hbi hQ hx
        go_wp2_with (go_at_call 9; refine (live_any _).mono ?_; rintro e w9 ⟨rfl, b9⟩)
        go_ret
        exact ⟨rfl, hB.trans (b9.mono hB.size)⟩
      · have h5' : ¬ (5000 : Int) < (a.nm.size : Int) := by omega
        have HA : Hid (PA w D a.nm g (o + i * 3) a.tm wr.drew) := ⟨⟨D, Lv.drewX hQ, .inl rfl⟩, hB.drew, c1, c2⟩
        have HS : Hid (D.length ≤ 300 ∧ a.nm.size ≤ maxLen ∧ a.tm ≤ 9223372036854775807) := ⟨by have := HL.out.2; have := HK.out.1; omega, hbi.1, hbi.2.2⟩
        clear hr hbi hQ hx hB c2
        go_wp2
        refine wp_region_noPanic ?_
        refine wp_region_held_drew (S := fun W => PA w D a.nm g (o + i * 3) a.tm W) (by kernel_rfl) (HA.out) (fun hHeld => ?_)
        refine take_lit (i := 0) (v := ?_) rfl (by kernel_rfl) (by kernel_rfl) (by kernel_rfl) (fun _ _ _ h => h) (Or.inl ⟨by rfl, ?_⟩) (by assumption) ?_
        rotate_left
        · (intro w hSw; (try dsimp only at hSw); go_simp <;> with_reducible rfl)
        try simp only [Act.put, List.setIfInBounds_toArray, List.set_cons_zero, List.set_cons_succ]
        refine take_lit (i := 1) (v := ?_) rfl (by kernel_rfl) (by kernel_rfl) (by kernel_rfl) (fun _ _ _ h => h) (Or.inl ⟨by rfl, ?_⟩) (by assumption) ?_
        rotate_left
        · (intro w hSw; (try dsimp only at hSw); go_simp <;> with_reducible rfl)
        try simp only [Act.put, List.setIfInBounds_toArray, List.set_cons_zero, List.set_cons_succ]
        refine take_lit (i := 2) (v := ?_) rfl (by kernel_rfl) (by kernel_rfl) (by kernel_rfl) (fun _ _ _ h => h) (Or.inl ⟨by rfl, ?_⟩) (by assumption) ?_
        rotate_left
        · (intro w hSw; (try dsimp only at hSw); go_simp <;> with_reducible rfl)
        try simp only [Act.put, List.setIfInBounds_toArray, List.set_cons_zero, List.set_cons_succ]
        refine take_lit (i := 3) (v := ?_) rfl (by kernel_rfl) (by kernel_rfl) (by kernel_rfl) (fun _ _ _ h => h) (Or.inl ⟨by rfl, ?_⟩) (by assumption) ?_
        rotate_left
        · (intro w hSw; (try dsimp only at hSw); go_simp <;> with_reducible rfl)
        try simp only [Act.put, List.setIfInBounds_toArray, List.set_cons_zero, List.set_cons_succ]
        refine take_lit (i := 4) (v := ?_) rfl (by kernel_rfl) (by kernel_rfl) (by kernel_rfl) (fun _ _ _ h => h) (Or.inl ⟨by rfl, ?_⟩) (by assumption) ?_
        rotate_left
        · (intro w hSw; (try dsimp only at hSw); go_simp <;> with_reducible rfl)
        try simp only [Act.put, List.setIfInBounds_toArray, List.set_cons_zero, List.set_cons_succ]
        refine take_lit (i := 5) (v := ?_) rfl (by kernel_rfl) (by kernel_rfl) (by kernel_rfl) (fun _ _ _ h => h) (Or.inl ⟨by rfl, ?_⟩) (by assumption) ?_
        rotate_left
        · (intro w hSw; (try dsimp only at hSw); have c1 := hSw.c1; go_simp <;> with_reducible rfl)
        try simp only [Act.put, List.setIfInBounds_toArray, List.set_cons_zero, List.set_cons_succ]
        refine take_lit (i := 6) (v := ?_) rfl (by kernel_rfl) (by kernel_rfl) (by kernel_rfl) (fun _ _ _ h => h) (Or.inl ⟨by rfl, ?_⟩) (by assumption) ?_
        rotate_left
        · (intro w hSw; (try dsimp only at hSw); go_simp <;> with_reducible rfl)
        try simp only [Act.put, List.setIfInBounds_toArray, List.set_cons_zero, List.set_cons_succ]
        refine take_lit (i := 7) (v := ?_) rfl (by kernel_rfl) (by kernel_rfl) (by kernel_rfl) (fun _ _ _ h => h) (Or.inl ⟨by rfl, ?_⟩) (by assumption) ?_
        rotate_left
        · (intro w hSw; (try dsimp only at hSw); go_simp <;> with_reducible rfl)
        try simp only [Act.put, List.setIfInBounds_toArray, List.set_cons_zero, List.set_cons_succ]
        refine take_lit (i := 8) (v := ?_) rfl (by kernel_rfl) (by kernel_rfl) (by kernel_rfl) (fun _ _ _ h => h) (Or.inl ⟨by rfl, ?_⟩) (by assumption) ?_
        rotate_left
        · (intro w hSw; (try dsimp only at hSw); go_simp <;> with_reducible rfl)
        try simp only [Act.put, List.setIfInBounds_toArray, List.set_cons_zero, List.set_cons_succ]
        refine take_lit (i := 9) (v := ?_) rfl (by kernel_rfl) (by kernel_rfl) (by kernel_rfl) (fun _ _ _ h => h) (Or.inl ⟨by rfl, ?_⟩) (by assumption) ?_
        rotate_left
        · (intro w hSw; (try dsimp only at hSw); go_simp <;> with_reducible rfl)
        try simp only [Act.put, List.setIfInBounds_toArray, List.set_cons_zero, List.set_cons_succ]
        refine take_lit (i := 10) (v := ?_) rfl (by kernel_rfl) (by kernel_rfl) (by kernel_rfl) (fun _ _ _ h => h) (Or.inl ⟨by rfl, ?_⟩) (by assumption) ?_
        rotate_left
        · (intro w hSw; (try dsimp only at hSw); have c2 := hSw.c2; go_simp <;> with_reducible rfl)
        try simp only [Act.put, List.setIfInBounds_toArray, List.set_cons_zero, List.set_cons_succ]
        refine wpAnyH_ready (rs := [11]) (by kernel_rfl) (by simp) ?_
        refine cons_lit rfl (fun K hK => ?_) ?_
        · go_simp
          refine (hHeld.set hg HS.out.1 HS.out.2.1).mono ?_
          rintro e w2 ⟨rfl, hO⟩
          refine hK.out _ _ ?_ (fun hHeld => ?_)
          · exact hO
          clear hK K
          try simp only [Act.put, List.setIfInBounds_toArray, List.set_cons_zero, List.set_cons_succ]
          refine wpAnyH_done (by kernel_rfl) ?_ _
          refine NoPanic.normal ?_
          obtain ⟨E, k1, k2⟩ := hHeld.ex
          have bb := hHeld.b
          clear hHeld HA
          go_wp2
          go_roundw
          case rel =>
            refine ⟨i + 1, E, by simp [wrap64], by omega, k1, bb, ?_⟩
            have hk := HK.out
            rcases k2 with rfl | rfl
            · exact ⟨by omega, hk.2⟩
            · refine ⟨by have := out_len a.nm D; simp; omega, fun d hd => ?_⟩
              rcases List.mem_append.1 hd with q | q
              · exact hk.2 d (out_mem.1 q).1
              · simp at q
                rw [q]
                exact HS.out.2.2
          case measure => simp [intOf]; omega
        exact AllReadyH.nil
    · obtain rfl : i = n := by omega
      have hlt' : ¬ (i : Int) < (i : Int) := by omega
      have LA := hQ.list_some (by have := HK.out.1; have := HL.out.2; omega)
      have HQ : Hid (Qp w.heap.size wr (w.heap.size + 1) w.heap.size D) := hQ
      clear hQ hm hb
      go_wp2_with (go_at_call 20; refine LA.mono ?_; rintro e w2 ⟨E, es, ep, va, vc, rfl, wo, wb⟩; clear LA; refine Hid.out ?_)
      unfold Hid
      have q2 : Qp w.heap.size w2 (w.heap.size + 1) w.heap.size E := (HQ.out.below wb).perm ep.symm
      have b2 : Below w.heap.size w w2 := hB.trans (wb.mono hB.size)
      have HE : Hid (Srt2 E ∧ E.length ≤ 200 ∧ ∀ d ∈ E, d.2 ≤ 9223372036854775807) := ⟨es, by have := HK.out.1; have := HL.out.2; rw [ep.length_eq]; omega, fun d hd => HK.out.2 d (ep.mem_iff.1 hd)⟩
      clear HQ HK es ep hB wb
      have CP := q2.copy (by have := HE.out.2.1; omega)
      have HQ2 : Hid (Qp w.heap.size w2 (w.heap.size + 1) w.heap.size E) := q2
      have HW : Hid (w2.ownsRow wr.heap.size 39 2 (.slice va E.length vc) E.length (dcs E)) := wo
      have HB2 : Hid (Below w.heap.size w w2) := b2
      clear q2 wo b2
      go_wp2_with (first
        | (go_at_call 19; refine HS.mono ?_; rintro e w5 ⟨rfl, b5⟩; clear HS)
        | (go_at_call 20; refine LC.mono ?_; rintro e w4 ⟨a4, c4, rfl, o4, b4⟩; have HS := same_true E a4 va c4 vc w4 (by have := HE.out.2.1; omega) (dues_own o4 rfl) (dues_own (ownS_below (ownS_below HW.out b3) b4) rfl); clear LC)
        | (go_at_call 18; refine CP.mono ?_; rintro e w3 ⟨rfl, qc, b3⟩; have LC := qc.list HE.out.1 (by have := HE.out.2.1; omega); clear CP))
      have b5' : Below w2.heap.size w2 w5 := (b3.trans (b4.mono b3.size)).trans (b5.mono (Nat.le_trans b3.size b4.size))
      have q5 : Qp w2.heap.size w5 (w2.heap.size + 1) w2.heap.size E := (qc.below b4).below b5
      clear qc b3 b4 b5 o4
      go_loopw [9] (fun u wr => ∃ (j : Nat) (D : List (ByteArray × Int)), u = .int .i64 j ∧ j ≤ i + 1 ∧ Qp w2.heap.size wr (w2.heap.size + 1) w2.heap.size D ∧ Below w2.heap.size w2 wr ∧ Hid (Srt2 D ∧ D.length ≤ 200)) (fun u _ => i + 1 - (intOf u).toNat)
      case atStart => exact ⟨0, E, rfl, Nat.zero_le _, q5, b5', HE.out.1, HE.out.2.1⟩
      case round =>
        clear q5 b5'
        obtain ⟨j, D2, rfl, hj, qj, bj, HD⟩ := hrel
        by_cases hlj : j ≤ i
        · have hlj' : (j : Int) ≤ (i : Int) := by omega
          have PP := qj.pop_any HD.out.1 bj.size now (by have := HD.out.2; omega)
          clear qj
          go_wp2_with (go_at_call 16; refine PP.mono ?_; rintro e w6 ⟨⟨r, rfl⟩, E3, q6, s6, n6, k6⟩; clear PP)
          go_roundw
          case rel => exact ⟨j + 1, E3, by simp [wrap64], by omega, q6, bj.trans k6.below, s6, Nat.le_trans n6 HD.out.2⟩
          case measure => simp [intOf]; omega
        · have hlj' : ¬ (j : Int) ≤ (i : Int) := by omega
          have SS := qj.set bj.size ⟨#[97, 110, 111, 116, 104, 101, 114]⟩ now (by unfold maxLen; decide) (by have := HD.out.2; omega) (.inl (by have := HD.out.2; omega))
          have hmx : max (wrap64 ((E.length : Int) - 1)) 0 = ((E.length - 1 : Nat) : Int) := by
            have := HE.out.2.1
            rw [show wrap64 ((E.length : Int) - 1) = (E.length : Int) - 1 by unfold wrap64; omega]
            omega
          clear qj
          go_wp2_with (first
            | (go_at_call 9; refine (live_any _).mono ?_; rintro e w12 ⟨rfl, b12⟩)
            | (go_at_call 24; refine LN.mono ?_; rintro e w11 ⟨rfl, rfl⟩; clear LN)
            | (go_at_call 19; refine HS.mono ?_; rintro e w11 ⟨rfl, b11⟩; clear HS; have LN := (q9.below (b10.trans (b11.mono b10.size))).len; rw [hE4] at LN)
            | (go_at_call 20; have kk := d9; refine (d9.list HE.out.1 (by have := HE.out.2.1; omega)).mono ?_; rintro e w10 ⟨a10, c10, rfl, o10, b10⟩; have HS := same_true E a10 va c10 vc w10 (by have := HE.out.2.1; omega) (dues_own o10 rfl) (dues_own (ownS_below (own_kp (ownS_below (ownS_below HW.out b7) b8) k9) b10) rfl); clear kk)
            | (go_at_call 16; have kk := d8; refine (Qp.pop_apart (V := w7) (HQ2.out.below b7) b8 (Nat.le_trans HB2.out.size b7.size) d8 HE.out.1 9223372036854775807 HE.out.2.2 (by have := HE.out.2.1; omega)).mono ?_; rintro e w9 ⟨⟨r, rfl⟩, ⟨E4, q9, hE4⟩, d9, k9⟩; clear kk)
            | (go_at_call 18; refine CQ.mono ?_; rintro e w8 ⟨rfl, d8, b8⟩; clear CQ)
            | (go_at_call 12; refine SS.mono ?_; rintro e w7 ⟨rfl, q7, k7⟩; have b7 : Below w2.heap.size w2 w7 := bj.trans k7.below; have CQ := (HQ2.out.below b7).copy (by have := HE.out.2.1; omega); clear SS))
          go_ret
          have bz := HB2.out.trans (b7.mono HB2.out.size)
          have b8' := bz.trans (b8.mono bz.size)
          have b9' := b8'.trans k9.below
          have b10' := b9'.trans (b10.mono b9'.size)
          have b11' := b10'.trans (b11.mono b10'.size)
          exact ⟨rfl, b11'.trans (b12.mono b11'.size)⟩
end Go.Proofs.Ytkamcnjofpamhaa
