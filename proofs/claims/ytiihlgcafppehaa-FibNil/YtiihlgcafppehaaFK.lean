/-
  Next, where nothing is under way.
-/
import Derived.Test.YtiihlgcafppehaaFJ
namespace Go.Proofs.Ytiihlgcafppehaa
open Go.RowKit Go.Maps Go.Shelf
set_option linter.unusedSimpArgs false
set_option linter.unusedVariables false
set_option maxRecDepth 20000
/-- A row of another type is written. -/
theorem Fb.other {w w' : World} {f g : Nat} {x : Fv} {W H : List En} {A : List (Pr × Int)} {T : TypeId} {cs : List Value} (h : Fb w f x W H A) (hr : Row w g T cs) (hT : T ≠ 79) (hg : w.grownBy w' (some g)) : Fb w' f x W H A :=
  ⟨h.row.keep hg (row_ne hr h.row hT).symm, h.mw.keep hg (h.mw.ne_row hr).symm, h.mh.keep hg (h.mh.ne_row hr).symm, h.ma.keep hg (h.ma.ne_row hr).symm, h.wh, h.wa, h.ha, h.lw, h.lh, h.la⟩
theorem PTurn.high {w w1 w' : World} {f g : Nat} (h : PTurn w w1 f) (hg : w1.grownBy w' (some g)) (hi : w.heap.size ≤ g) : PTurn w w' f :=
  ⟨hg.os.trans h.os, hg.tape.trans h.tape, hg.output.trans h.out, Nat.le_trans h.size hg.size, fun i hlt h1 => (hg.block i (Nat.lt_of_lt_of_le hlt h.size) (fun e => by cases e; omega)).trans (h.block i hlt h1)⟩
theorem plx_tail {w : World} {B g o c : Nat} {P' : List Oq} {cs : List Value} (hc : P'.length + 1 ≤ c) (hB : B ≤ g) (hr : Row w g 52 cs) (hl : ∀ (j : Nat) (q : Oq), P'[j]? = some q → LO w g (o + 52 + j * 52) q) : PlX w B (.slice (if c = 1 then some ⟨g, o, none⟩ else some ⟨g, o + 52, none⟩) P'.length (c - 1)) P' := by
  refine ⟨_, _, rfl, by omega, ?_⟩
  by_cases h : P' = []
  · exact .inl h
  · have := List.length_pos_iff.2 h
    exact .inr ⟨g, o + 52, cs, if_neg (by omega), hB, hr, hl⟩
def NextQ (w : World) (f B : Nat) (now : Int) (x : Fv) (W H : List En) (A : List (Pr × Int)) (P : List Oq) (e : Ending) (w' : World) : Prop :=
  (now < x.ti ∧ NextP w f B x W H A P e w') ∨ (x.ti ≤ now ∧ ∃ ks pl K, ks.Perm (keysP W H) ∧ K.Perm (lays W H A now ks) ∧ Oo.Asc K ∧ NextP w f B ⟨x.mW, x.mH, x.mA, x.d, pl, layTs W H A now maxT ks⟩ W H A K e w')
set_option maxHeartbeats 16000000 in
theorem next_idle {w : World} {f B : Nat} {x : Fv} {W H : List En} {A : List (Pr × Int)} {P : List Oq} (h : Fb w f x W H A) (p : PlX w B x.pl P) (hB : B ≤ w.heap.size) (now : Int) (hk : x.d.k = 0) (hWH : W.length + H.length ≤ 1000000) :
    Calls Try.prog 18 #[.pointer (some ⟨f, 0, none⟩), .int .i64 now] w fun e w' => NextQ w f B now x W H A P e w' := by
  have hb := fun V (hV : Below w.heap.size w V) => busy_any (h.below hV)
  rw [show (x.d.k != 0) = false by rw [hk]; rfl] at hb
  have hfl := h.lt
  go_enter Try.func18, Try.ntmps18
  go_upto_region 3 with (first
    | (go_at_call 38; refine (hb _ b4).mono ?_; rintro e w1 ⟨rfl, rfl⟩)
    | ((with_reducible refine alG infoOz ?_ ?_ ?_); (focus rfl); (focus rfl); intro g4 W4 h4 l4 b4 r4))
  have F4 := h.below b4
  have p4 := p.below b4
  have T4 : PTurn w W4 f := PTurn.of b4
  have c56 := F4.row.f56
  by_cases hti : now < x.ti
  · have hge : ¬ now ≥ x.ti := by omega
    have HN : Hid (∀ e w', NextP w f B x W H A P e w' → NextQ w f B now x W H A P e w') := fun e w' q => .inl ⟨hti, q⟩
    have HG : Hid (∀ (g o : Nat) (cs : List Value), B ≤ g → (∃ ad c, x.pl = .slice ad P.length c ∧ ad = some ⟨g, o, none⟩) → P ≠ [] → g ≠ g4) := fun g o cs hBg he hne => by
      obtain ⟨ad, c, e1, e2⟩ := he
      obtain ⟨ad', c', e3, _, h1⟩ := p
      rw [e1] at e3
      cases e3
      rcases h1 with h1 | ⟨g', o', cs', e4, _, hr, _⟩
      · exact absurd h1 hne
      · rw [e2] at e4
        cases e4
        have := hr.lt
        omega
    clear hb p h
    go_upto_region 5 with fail
    obtain ⟨ad, c, epl, hc, hlie⟩ := p4
    have c55 := F4.row.f55
    cases P with
    | nil =>
      have c550 : W4.cell? ⟨f, 55, none⟩ = some (.slice ad 0 c) := c55.trans (congrArg some epl)
      clear c55 HG
      go_wp2_with (first
        | ((with_reducible refine stO (.tmp 4) (.tmp 28) ?_ ?_ g4 zeroO zeroO ?_ ?_ ?_ ?_); (focus rfl); (focus rfl); (focus rfl); (focus rfl); (focus exact r4); intro W7 g7 r7)
        | ((with_reducible refine bdG [] ?_ ?_ ?_ ?_); (focus rfl); (focus rfl); (focus exact bdO0 _)))
      exact bodyPost_ret (retCT rfl _ _ 0 rfl (lvO r7)) rfl (HN.out _ _ (.inl ⟨rfl, rfl, F4.other r4 (by decide) g7, ⟨ad, c, epl, hc, .inl rfl⟩, T4.high g7 h4⟩))
    | cons op P' =>
      rcases hlie with hlie | ⟨g, o, cs, rfl, hBg, hr, hl⟩
      · cases hlie
      have hg4 := HG.out g o cs hBg ⟨_, _, epl, rfl⟩ (by simp)
      have c551 : W4.cell? ⟨f, 55, none⟩ = some (.slice (some ⟨g, o, none⟩) (P'.length + 1) c) := c55.trans (congrArg some epl)
      have hgf : g ≠ f := row_ne hr F4.row (by decide)
      have hl0 : LO W4 g o op := by have := hl 0 op rfl; simpa using this
      have hn0 : (((P'.length + 1 : Nat) : Int) == 0) = false := by rw [beq_eq_false_iff_ne]; omega
      have hn1 : (0 : Int) < ((P'.length + 1 : Nat) : Int) := by omega
      have hc1 : P'.length + 1 ≤ c := hc
      have hs1 : (1 : Int) ≤ (P'.length : Int) + 1 := by omega
      have HS : Hid (∀ U, Below W4.heap.size W4 U → U.cell? ⟨f, 55, none⟩ = some (.slice (some ⟨g, o, none⟩) (P'.length + 1) c) ∧ LO U g o op) := fun U hU => ⟨((F4.row.below hU F4.lt).f55).trans (congrArg some epl), hl0.below hU hr.lt⟩
      have Fd := F4.below (Below.refl W4.heap.size W4).drew
      have hrd := hr.below (Below.refl W4.heap.size W4).drew hr.lt
      have rd := r4.below (Below.refl W4.heap.size W4).drew r4.lt
      have Td := T4.trans (PTurn.of (Below.refl W4.heap.size W4).drew)
      have HL : Hid (∀ (j : Nat) (q : Oq), P'[j]? = some q → LO W4.drew g (o + 52 + j * 52) q) := fun j q hq => by
        have := hl (j + 1) q (by simpa using hq)
        rw [show o + (j + 1) * 52 = o + 52 + j * 52 by omega] at this
        exact this
      clear HG c55 hc
      go_upto_region 7 with fail
      refine wp_region_noPanic ?_
      refine wp_region_N (S := fun U => U.cell? ⟨f, 55, none⟩ = some (.slice (some ⟨g, o, none⟩) (P'.length + 1) c) ∧ LO U g o op) 18 (by kernel_rfl) (HS.out _ (Below.refl _ _).drew) (fun hHeld => ?_)
      refine takeN_lit (i := 0) (v := ?_) (F := #[false, true, true, true, true, true, true, true, true, true, true, true, true, false, false, false, false, false, false]) rfl (by kernel_rfl) (by kernel_rfl) (by kernel_rfl) (by kernel_rfl) (fun _ _ _ h => h) (Or.inl ⟨by rfl, ?_⟩) (by assumption) ?_
      rotate_left
      · (intro w hSw; (try dsimp only at hSw); go_simp <;> with_reducible rfl)
      try simp only [Act.put, List.setIfInBounds_toArray, List.set_cons_zero, List.set_cons_succ]
      refine takeN_lit (i := 1) (v := ?_) (F := #[true, false, true, true, true, true, true, true, true, true, true, true, true, true, true, true, false, false, false]) rfl (by kernel_rfl) (by kernel_rfl) (by kernel_rfl) (by kernel_rfl) (fun _ _ _ h => h) (Or.inl ⟨by rfl, ?_⟩) (by assumption) ?_
      rotate_left
      · (intro w hSw; (try dsimp only at hSw); go_simp <;> with_reducible rfl)
      try simp only [Act.put, List.setIfInBounds_toArray, List.set_cons_zero, List.set_cons_succ]
      refine takeN_lit (i := 2) (v := ?_) (F := #[true, true, false, false, false, false, false, false, true, true, true, true, true, false, false, false, false, false, false]) rfl (by kernel_rfl) (by kernel_rfl) (by kernel_rfl) (by kernel_rfl) (fun _ _ _ h => h) (Or.inl ⟨by rfl, ?_⟩) (by assumption) ?_
      rotate_left
      · (intro w hSw; (try dsimp only at hSw); go_simp <;> with_reducible rfl)
      try simp only [Act.put, List.setIfInBounds_toArray, List.set_cons_zero, List.set_cons_succ]
      refine takeN_lit (i := 3) (v := ?_) (F := #[true, true, true, false, false, false, false, false, true, true, true, true, true, false, false, false, false, false, false]) rfl (by kernel_rfl) (by kernel_rfl) (by kernel_rfl) (by kernel_rfl) (fun _ _ _ h => h) (Or.inl ⟨by rfl, ?_⟩) (by assumption) ?_
      rotate_left
      · (intro w hSw; (try dsimp only at hSw); go_simp <;> with_reducible rfl)
      try simp only [Act.put, List.setIfInBounds_toArray, List.set_cons_zero, List.set_cons_succ]
      refine takeN_lit (i := 4) (v := ?_) (F := #[true, true, true, true, false, false, false, false, true, true, true, true, true, false, false, false, false, false, false]) rfl (by kernel_rfl) (by kernel_rfl) (by kernel_rfl) (by kernel_rfl) (fun _ _ _ h => h) (Or.inl ⟨by rfl, ?_⟩) (by assumption) ?_
      rotate_left
      · (intro w hSw; (try dsimp only at hSw); go_simp <;> with_reducible rfl)
      try simp only [Act.put, List.setIfInBounds_toArray, List.set_cons_zero, List.set_cons_succ]
      refine takeN_lit (i := 5) (v := ?_) (F := #[true, true, true, true, true, false, false, false, true, true, true, true, true, false, false, false, false, false, false]) rfl (by kernel_rfl) (by kernel_rfl) (by kernel_rfl) (by kernel_rfl) (fun _ _ _ h => h) (Or.inl ⟨by rfl, ?_⟩) (by assumption) ?_
      rotate_left
      · (intro w hSw; (try dsimp only at hSw); have z := hSw.1; go_simp <;> with_reducible rfl)
      try simp only [Act.put, List.setIfInBounds_toArray, List.set_cons_zero, List.set_cons_succ]
      refine takeN_lit (i := 6) (v := ?_) (F := #[true, true, true, true, true, true, false, false, true, true, true, true, true, false, false, false, false, false, false]) rfl (by kernel_rfl) (by kernel_rfl) (by kernel_rfl) (by kernel_rfl) (fun _ _ _ h => h) (Or.inl ⟨by rfl, ?_⟩) (by assumption) ?_
      rotate_left
      · (intro w hSw; (try dsimp only at hSw); go_simp <;> with_reducible rfl)
      try simp only [Act.put, List.setIfInBounds_toArray, List.set_cons_zero, List.set_cons_succ]
      refine takeN_lit (i := 7) (F := #[true, true, true, true, true, true, true, false, true, true, true, true, true, false, false, false, false, false, false]) rfl (by kernel_rfl) (by kernel_rfl) (by kernel_rfl) (by kernel_rfl) (fun _ _ _ h => h) (yO op (fun w h => h.2) (by rfl) rfl rfl) (by assumption) ?_
      try simp only [Act.put, List.setIfInBounds_toArray, List.set_cons_zero, List.set_cons_succ]
      refine takeN_lit (i := 8) (v := ?_) (F := #[true, true, true, true, true, true, true, true, false, false, false, false, false, false, false, false, false, false, false]) rfl (by kernel_rfl) (by kernel_rfl) (by kernel_rfl) (by kernel_rfl) (fun _ _ _ h => h) (Or.inl ⟨by rfl, ?_⟩) (by assumption) ?_
      rotate_left
      · (intro w hSw; (try dsimp only at hSw); go_simp <;> with_reducible rfl)
      try simp only [Act.put, List.setIfInBounds_toArray, List.set_cons_zero, List.set_cons_succ]
      refine takeN_lit (i := 9) (v := ?_) (F := #[true, true, true, true, true, true, true, true, true, false, false, false, false, false, false, false, false, false, false]) rfl (by kernel_rfl) (by kernel_rfl) (by kernel_rfl) (by kernel_rfl) (fun _ _ _ h => h) (Or.inl ⟨by rfl, ?_⟩) (by assumption) ?_
      rotate_left
      · (intro w hSw; (try dsimp only at hSw); go_simp <;> with_reducible rfl)
      try simp only [Act.put, List.setIfInBounds_toArray, List.set_cons_zero, List.set_cons_succ]
      refine takeN_lit (i := 10) (v := ?_) (F := #[true, true, true, true, true, true, true, true, true, true, false, false, false, false, false, false, false, false, false]) rfl (by kernel_rfl) (by kernel_rfl) (by kernel_rfl) (by kernel_rfl) (fun _ _ _ h => h) (Or.inl ⟨by rfl, ?_⟩) (by assumption) ?_
      rotate_left
      · (intro w hSw; (try dsimp only at hSw); go_simp <;> with_reducible rfl)
      try simp only [Act.put, List.setIfInBounds_toArray, List.set_cons_zero, List.set_cons_succ]
      refine takeN_lit (i := 11) (v := ?_) (F := #[true, true, true, true, true, true, true, true, true, true, true, false, false, false, false, false, false, false, false]) rfl (by kernel_rfl) (by kernel_rfl) (by kernel_rfl) (by kernel_rfl) (fun _ _ _ h => h) (Or.inl ⟨by rfl, ?_⟩) (by assumption) ?_
      rotate_left
      · (intro w hSw; (try dsimp only at hSw); have z := hSw.1; go_simp <;> with_reducible rfl)
      try simp only [Act.put, List.setIfInBounds_toArray, List.set_cons_zero, List.set_cons_succ]
      refine takeN_lit (i := 12) (v := ?_) (F := #[true, true, true, true, true, true, true, true, true, true, true, true, false, true, true, true, false, false, false]) rfl (by kernel_rfl) (by kernel_rfl) (by kernel_rfl) (by kernel_rfl) (fun _ _ _ h => h) (Or.inl ⟨by rfl, ?_⟩) (by assumption) ?_
      rotate_left
      · (intro w hSw; (try dsimp only at hSw); go_simp <;> with_reducible rfl)
      try simp only [Act.put, List.setIfInBounds_toArray, List.set_cons_zero, List.set_cons_succ]
      refine takeN_lit (i := 13) (v := ?_) (F := #[true, true, true, true, true, true, true, true, true, true, true, true, true, false, false, false, false, false, false]) rfl (by kernel_rfl) (by kernel_rfl) (by kernel_rfl) (by kernel_rfl) (fun _ _ _ h => h) (Or.inl ⟨by rfl, ?_⟩) (by assumption) ?_
      rotate_left
      · (intro w hSw; (try dsimp only at hSw); go_simp <;> with_reducible rfl)
      try simp only [Act.put, List.setIfInBounds_toArray, List.set_cons_zero, List.set_cons_succ]
      refine takeN_lit (i := 14) (v := ?_) (F := #[true, true, true, true, true, true, true, true, true, true, true, true, true, true, false, false, false, false, false]) rfl (by kernel_rfl) (by kernel_rfl) (by kernel_rfl) (by kernel_rfl) (fun _ _ _ h => h) (Or.inl ⟨by rfl, ?_⟩) (by assumption) ?_
      rotate_left
      · (intro w hSw; (try dsimp only at hSw); go_simp <;> with_reducible rfl)
      try simp only [Act.put, List.setIfInBounds_toArray, List.set_cons_zero, List.set_cons_succ]
      refine wpAnyN_ready (rs := [15]) (by kernel_rfl) (by simp) ?_
      refine consN_lit rfl (fun K hK => ?_) ?_
      · skip
        refine sStD (T := 79) (.tmp 43) (.tmp 36) (by rfl) rfl f op x rfl rfl Fd.row ?_
        intro W8 g8 r8
        have F8 := Fd.own_ g8 _ _ _ r8
        have hr8 := hrd.keep g8 hgf
        refine hK.out _ _ (Or.inr ?_) (fun hHeld => ?_)
        · exact ⟨F8.row.f55.trans (congrArg some epl), lo_row (hl0.below (Below.refl W4.heap.size W4).drew hr.lt) hrd hr8⟩
        replace hHeld := hHeld.resolve_left (by decide)
        clear hK K
        try simp only [Act.put, List.setIfInBounds_toArray, List.set_cons_zero, List.set_cons_succ]
        refine takeN_lit (i := 16) (v := ?_) (F := #[true, true, true, true, true, true, true, true, true, true, true, true, true, true, true, true, false, false, false]) rfl (by kernel_rfl) (by kernel_rfl) (by kernel_rfl) (by kernel_rfl) (fun _ _ _ h => h) (Or.inl ⟨by rfl, ?_⟩) (by assumption) ?_
        rotate_left
        · (intro w hSw; (try dsimp only at hSw); go_simp <;> with_reducible rfl)
        try simp only [Act.put, List.setIfInBounds_toArray, List.set_cons_zero, List.set_cons_succ]
        refine takeN_lit (i := 17) (v := ?_) (F := #[true, true, true, true, true, true, true, true, true, true, true, true, true, true, true, true, true, false, false]) rfl (by kernel_rfl) (by kernel_rfl) (by kernel_rfl) (by kernel_rfl) (fun _ _ _ h => h) (Or.inl ⟨by rfl, ?_⟩) (by assumption) ?_
        rotate_left
        · (intro w hSw; (try dsimp only at hSw); go_simp <;> with_reducible rfl)
        try simp only [Act.put, List.setIfInBounds_toArray, List.set_cons_zero, List.set_cons_succ]
        refine wpAnyN_ready (rs := [18]) (by kernel_rfl) (by simp) ?_
        refine consN_lit rfl (fun K hK => ?_) ?_
        · skip
          skip
          refine sStPl (U := 79) (.tmp 45) (.tmp 41) (by rfl) rfl f (if c = 1 then some ⟨g, o, none⟩ else some ⟨g, o + 52, none⟩) P'.length (c - 1) _ rfl rfl F8.row ?_
          intro W9 g9 r9
          have F9 := F8.own_ g9 _ _ _ r9
          have hr9 := hr8.keep g9 hgf
          have rd9 := (rd.keep g8 (by omega)).keep g9 (by omega)
          have T9 := Td.trans ((PTurn.self g8).trans (PTurn.self g9))
          refine hK.out _ _ (Or.inl rfl) (fun _ => ?_)
          clear hK K
          try simp only [Act.put, List.setIfInBounds_toArray, List.set_cons_zero, List.set_cons_succ]
          refine wpAnyN_done (by kernel_rfl) ?_ _
          refine NoPanic.normal ?_
          go_wp2_with (first
            | ((with_reducible refine stO (.tmp 4) (.tmp 49) ?_ ?_ g4 op zeroO ?_ ?_ ?_ ?_); (focus rfl); (focus rfl); (focus rfl); (focus rfl); (focus exact rd9); intro V7 g7 r7)
            | ((with_reducible refine ldO (.tmp 48) ?_ ?_ f 3 op ?_ ?_ ?_); (focus rfl); (focus rfl); (focus rfl); (focus exact F9.row.fop)))
          all_goals exact bodyPost_ret (retCT rfl _ _ 0 rfl (lvO r7)) rfl (HN.out _ _ (.inr ⟨op, P', _, rfl, rfl, F9.other rd9 (by decide) g7, plx_tail hc1 hBg (hr9.keep g7 hg4) fun j q hq => lo_row (HL.out j q hq) hrd (hr9.keep g7 hg4), T9.high g7 h4⟩))
        exact AllReadyN.nil
      exact AllReadyN.nil
  · have hge : now ≥ x.ti := by omega
    have hPl := plan_any F4 now hWH
    have HN0 : Hid (∀ ks pl K, ks.Perm (keysP W H) → K.Perm (lays W H A now ks) → Oo.Asc K → ∀ e w', NextP w f B ⟨x.mW, x.mH, x.mA, x.d, pl, layTs W H A now maxT ks⟩ W H A K e w' → NextQ w f B now x W H A P e w') := fun ks pl K h1 h2 h3 e w' q => .inr ⟨Int.not_lt.1 hti, ks, pl, K, h1, h2, h3, q⟩
    have hne4 : g4 ≠ f := by omega
    clear hb p h
    go_upto_region 5 with (go_at_call 39; refine hPl.mono ?_; rintro e W5 ⟨rfl, ks, pl, K, hks, F5, o5, hK, hA, t5⟩)
    have HN : Hid (∀ e w', NextP w f B ⟨x.mW, x.mH, x.mA, x.d, pl, layTs W H A now maxT ks⟩ W H A K e w' → NextQ w f B now x W H A P e w') := HN0.out ks pl K hks hK hA
    have p5 := (PlX.of o5).mono (Nat.le_trans hB b4.size)
    have q4 := t5.row r4 hne4
    have T5 := T4.trans t5
    have HG : Hid (∀ (g o : Nat) (cs : List Value), B ≤ g → (∃ ad c, pl = .slice ad K.length c ∧ ad = some ⟨g, o, none⟩) → K ≠ [] → g ≠ g4) := fun g o cs hBg he hne => by
      obtain ⟨ad, c, e1, e2⟩ := he
      obtain ⟨h5, _⟩ := ownO_row o5 (b := g) (by rw [e1, e2]; rfl)
      omega
    clear HN0 hPl F4 p4 T4 c56 r4 hks hK hA o5 t5 hti hge
    obtain ⟨ad, c, epl, hc, hlie⟩ := p5
    have c55 := F5.row.f55
    cases K with
    | nil =>
      have c550 : W5.cell? ⟨f, 55, none⟩ = some (.slice ad 0 c) := c55.trans (congrArg some epl)
      clear c55 HG
      go_wp2_with (first
        | ((with_reducible refine stO (.tmp 4) (.tmp 28) ?_ ?_ g4 zeroO zeroO ?_ ?_ ?_ ?_); (focus rfl); (focus rfl); (focus rfl); (focus rfl); (focus exact q4); intro W7 g7 r7)
        | ((with_reducible refine bdG [] ?_ ?_ ?_ ?_); (focus rfl); (focus rfl); (focus exact bdO0 _)))
      exact bodyPost_ret (retCT rfl _ _ 0 rfl (lvO r7)) rfl (HN.out _ _ (.inl ⟨rfl, rfl, F5.other q4 (by decide) g7, ⟨ad, c, epl, hc, .inl rfl⟩, T5.high g7 h4⟩))
    | cons op P' =>
      rcases hlie with hlie | ⟨g, o, cs, rfl, hBg, hr, hl⟩
      · cases hlie
      have hg4 := HG.out g o cs hBg ⟨_, _, epl, rfl⟩ (by simp)
      have c551 : W5.cell? ⟨f, 55, none⟩ = some (.slice (some ⟨g, o, none⟩) (P'.length + 1) c) := c55.trans (congrArg some epl)
      have hgf : g ≠ f := row_ne hr F5.row (by decide)
      have hl0 : LO W5 g o op := by have := hl 0 op rfl; simpa using this
      have hn0 : (((P'.length + 1 : Nat) : Int) == 0) = false := by rw [beq_eq_false_iff_ne]; omega
      have hn1 : (0 : Int) < ((P'.length + 1 : Nat) : Int) := by omega
      have hc1 : P'.length + 1 ≤ c := hc
      have hs1 : (1 : Int) ≤ (P'.length : Int) + 1 := by omega
      have HS : Hid (∀ U, Below W5.heap.size W5 U → U.cell? ⟨f, 55, none⟩ = some (.slice (some ⟨g, o, none⟩) (P'.length + 1) c) ∧ LO U g o op) := fun U hU => ⟨((F5.row.below hU F5.lt).f55).trans (congrArg some epl), hl0.below hU hr.lt⟩
      have Fd := F5.below (Below.refl W5.heap.size W5).drew
      have hrd := hr.below (Below.refl W5.heap.size W5).drew hr.lt
      have rd := q4.below (Below.refl W5.heap.size W5).drew q4.lt
      have Td := T5.trans (PTurn.of (Below.refl W5.heap.size W5).drew)
      have HL : Hid (∀ (j : Nat) (q : Oq), P'[j]? = some q → LO W5.drew g (o + 52 + j * 52) q) := fun j q hq => by
        have := hl (j + 1) q (by simpa using hq)
        rw [show o + (j + 1) * 52 = o + 52 + j * 52 by omega] at this
        exact this
      clear HG c55 hc
      go_upto_region 7 with fail
      refine wp_region_noPanic ?_
      refine wp_region_N (S := fun U => U.cell? ⟨f, 55, none⟩ = some (.slice (some ⟨g, o, none⟩) (P'.length + 1) c) ∧ LO U g o op) 18 (by kernel_rfl) (HS.out _ (Below.refl _ _).drew) (fun hHeld => ?_)
      refine takeN_lit (i := 0) (v := ?_) (F := #[false, true, true, true, true, true, true, true, true, true, true, true, true, false, false, false, false, false, false]) rfl (by kernel_rfl) (by kernel_rfl) (by kernel_rfl) (by kernel_rfl) (fun _ _ _ h => h) (Or.inl ⟨by rfl, ?_⟩) (by assumption) ?_
      rotate_left
      · (intro w hSw; (try dsimp only at hSw); go_simp <;> with_reducible rfl)
      try simp only [Act.put, List.setIfInBounds_toArray, List.set_cons_zero, List.set_cons_succ]
      refine takeN_lit (i := 1) (v := ?_) (F := #[true, false, true, true, true, true, true, true, true, true, true, true, true, true, true, true, false, false, false]) rfl (by kernel_rfl) (by kernel_rfl) (by kernel_rfl) (by kernel_rfl) (fun _ _ _ h => h) (Or.inl ⟨by rfl, ?_⟩) (by assumption) ?_
      rotate_left
      · (intro w hSw; (try dsimp only at hSw); go_simp <;> with_reducible rfl)
      try simp only [Act.put, List.setIfInBounds_toArray, List.set_cons_zero, List.set_cons_succ]
      refine takeN_lit (i := 2) (v := ?_) (F := #[true, true, false, false, false, false, false, false, true, true, true, true, true, false, false, false, false, false, false]) rfl (by kernel_rfl) (by kernel_rfl) (by kernel_rfl) (by kernel_rfl) (fun _ _ _ h => h) (Or.inl ⟨by rfl, ?_⟩) (by assumption) ?_
      rotate_left
      · (intro w hSw; (try dsimp only at hSw); go_simp <;> with_reducible rfl)
      try simp only [Act.put, List.setIfInBounds_toArray, List.set_cons_zero, List.set_cons_succ]
      refine takeN_lit (i := 3) (v := ?_) (F := #[true, true, true, false, false, false, false, false, true, true, true, true, true, false, false, false, false, false, false]) rfl (by kernel_rfl) (by kernel_rfl) (by kernel_rfl) (by kernel_rfl) (fun _ _ _ h => h) (Or.inl ⟨by rfl, ?_⟩) (by assumption) ?_
      rotate_left
      · (intro w hSw; (try dsimp only at hSw); go_simp <;> with_reducible rfl)
      try simp only [Act.put, List.setIfInBounds_toArray, List.set_cons_zero, List.set_cons_succ]
      refine takeN_lit (i := 4) (v := ?_) (F := #[true, true, true, true, false, false, false, false, true, true, true, true, true, false, false, false, false, false, false]) rfl (by kernel_rfl) (by kernel_rfl) (by kernel_rfl) (by kernel_rfl) (fun _ _ _ h => h) (Or.inl ⟨by rfl, ?_⟩) (by assumption) ?_
      rotate_left
      · (intro w hSw; (try dsimp only at hSw); go_simp <;> with_reducible rfl)
      try simp only [Act.put, List.setIfInBounds_toArray, List.set_cons_zero, List.set_cons_succ]
      refine takeN_lit (i := 5) (v := ?_) (F := #[true, true, true, true, true, false, false, false, true, true, true, true, true, false, false, false, false, false, false]) rfl (by kernel_rfl) (by kernel_rfl) (by kernel_rfl) (by kernel_rfl) (fun _ _ _ h => h) (Or.inl ⟨by rfl, ?_⟩) (by assumption) ?_
      rotate_left
      · (intro w hSw; (try dsimp only at hSw); have z := hSw.1; go_simp <;> with_reducible rfl)
      try simp only [Act.put, List.setIfInBounds_toArray, List.set_cons_zero, List.set_cons_succ]
      refine takeN_lit (i := 6) (v := ?_) (F := #[true, true, true, true, true, true, false, false, true, true, true, true, true, false, false, false, false, false, false]) rfl (by kernel_rfl) (by kernel_rfl) (by kernel_rfl) (by kernel_rfl) (fun _ _ _ h => h) (Or.inl ⟨by rfl, ?_⟩) (by assumption) ?_
      rotate_left
      · (intro w hSw; (try dsimp only at hSw); go_simp <;> with_reducible rfl)
      try simp only [Act.put, List.setIfInBounds_toArray, List.set_cons_zero, List.set_cons_succ]
      refine takeN_lit (i := 7) (F := #[true, true, true, true, true, true, true, false, true, true, true, true, true, false, false, false, false, false, false]) rfl (by kernel_rfl) (by kernel_rfl) (by kernel_rfl) (by kernel_rfl) (fun _ _ _ h => h) (yO op (fun w h => h.2) (by rfl) rfl rfl) (by assumption) ?_
      try simp only [Act.put, List.setIfInBounds_toArray, List.set_cons_zero, List.set_cons_succ]
      refine takeN_lit (i := 8) (v := ?_) (F := #[true, true, true, true, true, true, true, true, false, false, false, false, false, false, false, false, false, false, false]) rfl (by kernel_rfl) (by kernel_rfl) (by kernel_rfl) (by kernel_rfl) (fun _ _ _ h => h) (Or.inl ⟨by rfl, ?_⟩) (by assumption) ?_
      rotate_left
      · (intro w hSw; (try dsimp only at hSw); go_simp <;> with_reducible rfl)
      try simp only [Act.put, List.setIfInBounds_toArray, List.set_cons_zero, List.set_cons_succ]
      refine takeN_lit (i := 9) (v := ?_) (F := #[true, true, true, true, true, true, true, true, true, false, false, false, false, false, false, false, false, false, false]) rfl (by kernel_rfl) (by kernel_rfl) (by kernel_rfl) (by kernel_rfl) (fun _ _ _ h => h) (Or.inl ⟨by rfl, ?_⟩) (by assumption) ?_
      rotate_left
      · (intro w hSw; (try dsimp only at hSw); go_simp <;> with_reducible rfl)
      try simp only [Act.put, List.setIfInBounds_toArray, List.set_cons_zero, List.set_cons_succ]
      refine takeN_lit (i := 10) (v := ?_) (F := #[true, true, true, true, true, true, true, true, true, true, false, false, false, false, false, false, false, false, false]) rfl (by kernel_rfl) (by kernel_rfl) (by kernel_rfl) (by kernel_rfl) (fun _ _ _ h => h) (Or.inl ⟨by rfl, ?_⟩) (by assumption) ?_
      rotate_left
      · (intro w hSw; (try dsimp only at hSw); go_simp <;> with_reducible rfl)
      try simp only [Act.put, List.setIfInBounds_toArray, List.set_cons_zero, List.set_cons_succ]
      refine takeN_lit (i := 11) (v := ?_) (F := #[true, true, true, true, true, true, true, true, true, true, true, false, false, false, false, false, false, false, false]) rfl (by kernel_rfl) (by kernel_rfl) (by kernel_rfl) (by kernel_rfl) (fun _ _ _ h => h) (Or.inl ⟨by rfl, ?_⟩) (by assumption) ?_
      rotate_left
      · (intro w hSw; (try dsimp only at hSw); have z := hSw.1; go_simp <;> with_reducible rfl)
      try simp only [Act.put, List.setIfInBounds_toArray, List.set_cons_zero, List.set_cons_succ]
      refine takeN_lit (i := 12) (v := ?_) (F := #[true, true, true, true, true, true, true, true, true, true, true, true, false, true, true, true, false, false, false]) rfl (by kernel_rfl) (by kernel_rfl) (by kernel_rfl) (by kernel_rfl) (fun _ _ _ h => h) (Or.inl ⟨by rfl, ?_⟩) (by assumption) ?_
      rotate_left
      · (intro w hSw; (try dsimp only at hSw); go_simp <;> with_reducible rfl)
      try simp only [Act.put, List.setIfInBounds_toArray, List.set_cons_zero, List.set_cons_succ]
      refine takeN_lit (i := 13) (v := ?_) (F := #[true, true, true, true, true, true, true, true, true, true, true, true, true, false, false, false, false, false, false]) rfl (by kernel_rfl) (by kernel_rfl) (by kernel_rfl) (by kernel_rfl) (fun _ _ _ h => h) (Or.inl ⟨by rfl, ?_⟩) (by assumption) ?_
      rotate_left
      · (intro w hSw; (try dsimp only at hSw); go_simp <;> with_reducible rfl)
      try simp only [Act.put, List.setIfInBounds_toArray, List.set_cons_zero, List.set_cons_succ]
      refine takeN_lit (i := 14) (v := ?_) (F := #[true, true, true, true, true, true, true, true, true, true, true, true, true, true, false, false, false, false, false]) rfl (by kernel_rfl) (by kernel_rfl) (by kernel_rfl) (by kernel_rfl) (fun _ _ _ h => h) (Or.inl ⟨by rfl, ?_⟩) (by assumption) ?_
      rotate_left
      · (intro w hSw; (try dsimp only at hSw); go_simp <;> with_reducible rfl)
      try simp only [Act.put, List.setIfInBounds_toArray, List.set_cons_zero, List.set_cons_succ]
      refine wpAnyN_ready (rs := [15]) (by kernel_rfl) (by simp) ?_
      refine consN_lit rfl (fun K hK => ?_) ?_
      · skip
        refine sStD (T := 79) (.tmp 43) (.tmp 36) (by rfl) rfl f op ⟨x.mW, x.mH, x.mA, x.d, pl, layTs W H A now maxT ks⟩ rfl rfl Fd.row ?_
        intro W8 g8 r8
        have F8 := Fd.own_ g8 _ _ _ r8
        have hr8 := hrd.keep g8 hgf
        refine hK.out _ _ (Or.inr ?_) (fun hHeld => ?_)
        · exact ⟨F8.row.f55.trans (congrArg some epl), lo_row (hl0.below (Below.refl W5.heap.size W5).drew hr.lt) hrd hr8⟩
        replace hHeld := hHeld.resolve_left (by decide)
        clear hK K
        try simp only [Act.put, List.setIfInBounds_toArray, List.set_cons_zero, List.set_cons_succ]
        refine takeN_lit (i := 16) (v := ?_) (F := #[true, true, true, true, true, true, true, true, true, true, true, true, true, true, true, true, false, false, false]) rfl (by kernel_rfl) (by kernel_rfl) (by kernel_rfl) (by kernel_rfl) (fun _ _ _ h => h) (Or.inl ⟨by rfl, ?_⟩) (by assumption) ?_
        rotate_left
        · (intro w hSw; (try dsimp only at hSw); go_simp <;> with_reducible rfl)
        try simp only [Act.put, List.setIfInBounds_toArray, List.set_cons_zero, List.set_cons_succ]
        refine takeN_lit (i := 17) (v := ?_) (F := #[true, true, true, true, true, true, true, true, true, true, true, true, true, true, true, true, true, false, false]) rfl (by kernel_rfl) (by kernel_rfl) (by kernel_rfl) (by kernel_rfl) (fun _ _ _ h => h) (Or.inl ⟨by rfl, ?_⟩) (by assumption) ?_
        rotate_left
        · (intro w hSw; (try dsimp only at hSw); go_simp <;> with_reducible rfl)
        try simp only [Act.put, List.setIfInBounds_toArray, List.set_cons_zero, List.set_cons_succ]
        refine wpAnyN_ready (rs := [18]) (by kernel_rfl) (by simp) ?_
        refine consN_lit rfl (fun K hK => ?_) ?_
        · skip
          skip
          refine sStPl (U := 79) (.tmp 45) (.tmp 41) (by rfl) rfl f (if c = 1 then some ⟨g, o, none⟩ else some ⟨g, o + 52, none⟩) P'.length (c - 1) _ rfl rfl F8.row ?_
          intro W9 g9 r9
          have F9 := F8.own_ g9 _ _ _ r9
          have hr9 := hr8.keep g9 hgf
          have rd9 := (rd.keep g8 (by omega)).keep g9 (by omega)
          have T9 := Td.trans ((PTurn.self g8).trans (PTurn.self g9))
          refine hK.out _ _ (Or.inl rfl) (fun _ => ?_)
          clear hK K
          try simp only [Act.put, List.setIfInBounds_toArray, List.set_cons_zero, List.set_cons_succ]
          refine wpAnyN_done (by kernel_rfl) ?_ _
          refine NoPanic.normal ?_
          go_wp2_with (first
            | ((with_reducible refine stO (.tmp 4) (.tmp 49) ?_ ?_ g4 op zeroO ?_ ?_ ?_ ?_); (focus rfl); (focus rfl); (focus rfl); (focus rfl); (focus exact rd9); intro V7 g7 r7)
            | ((with_reducible refine ldO (.tmp 48) ?_ ?_ f 3 op ?_ ?_ ?_); (focus rfl); (focus rfl); (focus rfl); (focus exact F9.row.fop)))
          all_goals exact bodyPost_ret (retCT rfl _ _ 0 rfl (lvO r7)) rfl (HN.out _ _ (.inr ⟨op, P', _, rfl, rfl, F9.other rd9 (by decide) g7, plx_tail hc1 hBg (hr9.keep g7 hg4) fun j q hq => lo_row (HL.out j q hq) hrd (hr9.keep g7 hg4), T9.high g7 h4⟩))
        exact AllReadyN.nil
      exact AllReadyN.nil
end Go.Proofs.Ytiihlgcafppehaa
