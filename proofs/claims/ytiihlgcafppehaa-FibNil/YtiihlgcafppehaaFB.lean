/-
  Reply: the kernel's answer to what is under way.
-/
import Derived.Test.YtiihlgcafppehaaFA
namespace Go.Proofs.Ytiihlgcafppehaa
open Go.RowKit Go.Maps Go.Shelf
set_option linter.unusedSimpArgs false
set_option linter.unusedVariables false
set_option maxRecDepth 20000
theorem Mp.look1 {α : Type} {k : Mk α} {w : World} {mb : Nat} {L : List α} (h : Mp k w mb L) {p : Pr} (hi : wfQ p) : (Instr.lookup k.M (.map (some mb)) (Value.agg (qcells p).toArray) false).run Try.prog w = .ok (k.val ((getN k L p).getD k.z)) w := by
  obtain ⟨D, h1, _, h3, h4⟩ := h.ex
  obtain ⟨v, ps, hr, hv⟩ := h1.lookup keyLaw k.und (k.zv w) rfl (kl_of hi)
  cases hg : getN k L p with
  | some n =>
    obtain ⟨hn, e1⟩ := getN_some hg
    have ha := h4 n hn
    rw [e1] at ha
    rw [ha] at hv
    rw [elV_inv hv] at hr
    exact hr
  | none =>
    have hf : has D (kl p) = false := by
      cases hc : has D (kl p) with
      | false => rfl
      | true =>
        obtain ⟨n, hn, e⟩ := (h3 _).1 hc
        have := getN_none hg n hn
        rw [keyB_iff.2 (kl_inj (h.wf n hn) hi e)] at this
        cases this
    rw [atKey_of_not_has hf] at hv
    rw [elV_inv hv] at hr
    exact hr
theorem getN_put {α : Type} {k : Mk α} {L : List α} {n : α} : getN k (putN k L n) (k.key n) = some n := by
  unfold getN putN
  by_cases h : L.any (keyB k (k.key n)) = true
  · rw [if_pos h]
    induction L with
    | nil => simp at h
    | cons m L ih =>
      rw [List.map_cons, List.find?_cons]
      by_cases hm : keyB k (k.key n) m = true
      · rw [if_pos hm, show keyB k (k.key n) n = true from keyB_iff.2 rfl]
      · rw [if_neg hm]
        have hm' : keyB k (k.key n) m = false := by simpa using hm
        rw [hm']
        refine ih ?_
        rw [List.any_cons, hm', Bool.false_or] at h
        exact h
  · rw [if_neg h]
    have hn : L.find? (keyB k (k.key n)) = none := List.find?_eq_none.2 fun m hm a => h (List.any_eq_true.2 ⟨m, hm, a⟩)
    rw [List.find?_append, hn]
    simp [keyB, qB_self]
section
variable {w w' : World} {f : Nat} {x : Fv} {W H : List En} {A : List (Pr × Int)}
theorem Fb.again (h : Fb w f x W H A) {A' : List (Pr × Int)} (hg : w.grownBy w' (some x.mA)) (hm : Mp mT w' x.mA A') (hl : A'.length ≤ 1000000) : Fb w' f x W H A' :=
  ⟨h.row.keep hg (h.ma.ne_row h.row), h.mw.keep hg h.wa, h.mh.keep hg h.ha, hm, h.wh, h.wa, h.ha, h.lw, h.lh, hl⟩
theorem Fb.has_ (h : Fb w f x W H A) {H' : List En} (hg : w.grownBy w' (some x.mH)) (hm : Mp mE w' x.mH H') (hl : H'.length ≤ 1000000) : Fb w' f x W H' A :=
  ⟨h.row.keep hg (h.mh.ne_row h.row), h.mw.keep hg h.wh, hm, h.ma.keep hg h.ha.symm, h.wh, h.wa, h.ha, h.lw, hl, h.la⟩
end
set_option maxHeartbeats 16000000 in
theorem reply_do {w : World} {f : Nat} {x : Fv} {W H : List En} {A : List (Pr × Int)} (h : Fb w f x W H A) (now : Int) (ok : Bool) (n0 : 0 ≤ now) (n1 : now ≤ 562949953421312) (hk : x.d.k ≠ 0) (hi : wfQ x.d.e.p) (hH : H.length < 1000000) (hA : A.length < 1000000) :
    Calls Try.prog 19 #[.pointer (some ⟨f, 0, none⟩), .int .i64 now, .bool ok] w fun e w' => e = .returned (.int .i64 0) ∧ Fb w' f (replF x now ok) W (replH H x.d ok) (replA A x.d now ok) ∧ FTurn w w' f x := by
  have hb := busy_any h
  rw [show (x.d.k != 0) = true by simpa using hk] at hb
  have hop := h.row.fop
  have hw : wrap64 (now + 1000) = now + 1000 := by unfold wrap64; omega
  have hwi : IntKind.i64.wrap (now + 1000) = now + 1000 := by have q := hw; unfold wrap64 at q; exact (IntKind.wrap_i64 _).trans q
  obtain ⟨D, hD⟩ : ∃ D, x.d = D := ⟨_, rfl⟩
  have HF : Hid (Fb w f x W H A) := h
  have hrow := h.row
  have hfl := h.lt
  rw [hD] at hop hk hi ⊢
  clear h
  go_enter Try.func19, Try.ntmps19
  go_upto_region 6 with (first
    | (have kk := q8; (with_reducible refine stQ0 (.tmp 8) (.tmp 26) ?_ ?_ g8 D.e.p zeroQ ?_ ?_ ?_ ?_); (focus rfl); (focus rfl); (focus rfl); (focus rfl); (focus exact q8); intro W6 gr6 r8; clear q8)
    | (have kk := rf5; (with_reducible refine alG infoQz ?_ ?_ ?_); (focus rfl); (focus rfl); intro g8 W5 h8 l8 b8 q8)
    | (have kk := rf5; (with_reducible refine ldQ (.tmp 25) ?_ ?_ g7 1 D.e.p ?_ ?_ ?_); (focus rfl); (focus rfl); (focus rfl); (focus exact (r75.op.e.q)))
    | (have kk := rf3; (with_reducible refine stD (T := 79) (.tmp 23) (.tmp 21) ?_ ?_ f zeroO x ?_ ?_ ?_ ?_); (focus rfl); (focus rfl); (focus rfl); (focus rfl); (focus exact rf3); intro W4 gr4 rf5; have r75 := r7.keep gr4 (fun e => by omega); clear rf3)
    | (have kk := rf3; (with_reducible refine bdG [] ?_ ?_ ?_ ?_); (focus rfl); (focus rfl); (focus exact bdO0 _))
    | (have kk := q7; (with_reducible refine stO (.tmp 7) (.tmp 19) ?_ ?_ g7 D zeroO ?_ ?_ ?_ ?_); (focus rfl); (focus rfl); (focus rfl); (focus rfl); (focus exact q7); intro W3 gr3 r7; have k3 := grown_below gr3 b7 h7 b7.size; have rf3 := hrow.below k3 hfl; clear q7)
    | ((with_reducible refine alG infoOz ?_ ?_ ?_); (focus rfl); (focus rfl); intro g7 W2 h7 l7 b7 q7)
    | ((with_reducible refine ldO (.tmp 18) ?_ ?_ f 3 D ?_ ?_ ?_); (focus rfl); (focus rfl); (focus rfl); (focus exact hop))
    | (go_at_call 38; refine hb.mono ?_; rintro e w1 ⟨rfl, rfl⟩))
  have k6 := grown_below gr6 b8 h8 b8.size
  have F6 : Fb W6 f ⟨x.mW, x.mH, x.mA, zeroO, x.pl, x.ti⟩ W H A := ((HF.out.below k3).own_ gr4 zeroO x.pl x.ti rf5).below k6
  have T6 : FTurn w W6 f x := (FTurn.of k3).trans ((FTurn.self (x := x) gr4).trans (FTurn.of (x := x) k6) rfl rfl) rfl rfl
  have r76 := r75.below k6 r75.lt
  have r76l := r76.lt
  have r8l := r8.lt
  have hfl6 := F6.lt
  clear gr3 k3 gr4 h8 l8 b8 gr6 rf5 r75 r7 hrow hop h7 l7 b7 k6 hb hfl
  clear hD
  have HK : Hid (∀ V, Below W6.heap.size W6 V → V.cell? ⟨f, 2, none⟩ = some (.map (some x.mA)) ∧ LQ V g8 0 D.e.p) := fun V hV => ⟨(F6.row.below hV hfl6).f2, (r8.below hV r8l).range⟩
  have hml : (1000000 : Nat) < maxLen := by unfold maxLen; omega
  cases ok with
  | false =>
    go_upto_region 7 with fail
    refine wp_region_noPanic ?_
    refine wp_region_N (S := fun V => Below W6.heap.size W6 V) 7 (by kernel_rfl) ((Below.refl _ _).drew) (fun hHeld => ?_)
    refine takeN_lit (i := 0) (v := ?_) (F := #[false, false, false, false, true, true, true, false]) rfl (by kernel_rfl) (by kernel_rfl) (by kernel_rfl) (by kernel_rfl) (fun _ _ _ h => h) (Or.inl ⟨by rfl, ?_⟩) (by assumption) ?_
    rotate_left
    · (intro w hSw; (try dsimp only at hSw); go_simp <;> with_reducible rfl)
    try simp only [Act.put, List.setIfInBounds_toArray, List.set_cons_zero, List.set_cons_succ]
    refine takeN_lit (i := 1) (v := ?_) (F := #[true, false, false, false, true, true, true, false]) rfl (by kernel_rfl) (by kernel_rfl) (by kernel_rfl) (by kernel_rfl) (fun _ _ _ h => h) (Or.inl ⟨by rfl, ?_⟩) (by assumption) ?_
    rotate_left
    · (intro w hSw; (try dsimp only at hSw); go_simp <;> with_reducible rfl)
    try simp only [Act.put, List.setIfInBounds_toArray, List.set_cons_zero, List.set_cons_succ]
    refine takeN_lit (i := 2) (v := ?_) (F := #[true, true, false, false, true, true, true, false]) rfl (by kernel_rfl) (by kernel_rfl) (by kernel_rfl) (by kernel_rfl) (fun _ _ _ h => h) (Or.inl ⟨by rfl, ?_⟩) (by assumption) ?_
    rotate_left
    · (intro w hSw; (try dsimp only at hSw); go_simp <;> with_reducible rfl)
    try simp only [Act.put, List.setIfInBounds_toArray, List.set_cons_zero, List.set_cons_succ]
    refine takeN_lit (i := 3) (v := ?_) (F := #[true, true, true, false, true, true, true, false]) rfl (by kernel_rfl) (by kernel_rfl) (by kernel_rfl) (by kernel_rfl) (fun _ _ _ h => h) (Or.inl ⟨by rfl, ?_⟩) (by assumption) ?_
    rotate_left
    · (intro w hSw; (try dsimp only at hSw); have z := (HK.out _ hSw).1; go_simp <;> with_reducible rfl)
    try simp only [Act.put, List.setIfInBounds_toArray, List.set_cons_zero, List.set_cons_succ]
    refine takeN_lit (i := 4) (F := #[true, true, true, true, false, true, true, false]) rfl (by kernel_rfl) (by kernel_rfl) (by kernel_rfl) (by kernel_rfl) (fun _ _ _ h => h) (yQ D.e.p (fun w h => (HK.out _ h).2) (by rfl) rfl rfl) (by assumption) ?_
    try simp only [Act.put, List.setIfInBounds_toArray, List.set_cons_zero, List.set_cons_succ]
    refine takeN_lit (i := 5) (v := ?_) (F := #[true, true, true, true, true, false, false, false]) rfl (by kernel_rfl) (by kernel_rfl) (by kernel_rfl) (by kernel_rfl) (fun _ _ _ h => h) (Or.inl ⟨by rfl, ?_⟩) (by assumption) ?_
    rotate_left
    · (intro w hSw; (try dsimp only at hSw); go_simp <;> with_reducible rfl)
    try simp only [Act.put, List.setIfInBounds_toArray, List.set_cons_zero, List.set_cons_succ]
    refine takeN_lit (i := 6) (v := ?_) (F := #[true, true, true, true, true, true, false, false]) rfl (by kernel_rfl) (by kernel_rfl) (by kernel_rfl) (by kernel_rfl) (fun _ _ _ h => h) (Or.inl ⟨by rfl, ?_⟩) (by assumption) ?_
    rotate_left
    · (intro w hSw; (try dsimp only at hSw); go_simp <;> with_reducible rfl)
    try simp only [Act.put, List.setIfInBounds_toArray, List.set_cons_zero, List.set_cons_succ]
    refine wpAnyN_ready (rs := [7]) (by kernel_rfl) (by simp) ?_
    refine consN_lit rfl (fun K hK => ?_) ?_
    · skip
      obtain ⟨W7, hmu, M7, gm7⟩ := (F6.ma.below hHeld F6.ma.lt).put (D.e.p, now + 1000) hi (by omega)
      refine sMu (.tmp 32) (.tmp 33) (.tmp 35) (by rfl) rfl rfl rfl (by first | rfl | exact congrArg (Value.int .i64) hw) hmu ?_
      have F7 := (F6.below hHeld).again gm7 M7 (by have := putN_le (k := mT) (L := A) (n := (D.e.p, now + 1000)); omega)
      have T7 := T6.trans ((FTurn.of (x := x) hHeld).trans (FTurn.again (x := x) gm7) rfl rfl) rfl rfl
      have r87 := (r8.below hHeld r8l).keep gm7 ((F6.ma.below hHeld F6.ma.lt).ne_row (r8.below hHeld r8l))
      refine hK.out _ _ (Or.inl rfl) (fun _ => ?_)
      clear hK K
      try simp only [Act.put, List.setIfInBounds_toArray, List.set_cons_zero, List.set_cons_succ]
      refine wpAnyN_done (by kernel_rfl) ?_ _
      refine NoPanic.normal ?_
      have r87l := r87.lt
      have hfl7 := F7.lt
      have hl1 : ∀ V, Below W7.heap.size W7 V → (Instr.lookup 76 (.map (some x.mA)) (Value.agg (qcells D.e.p).toArray) false).run Try.prog V = .ok (.int .i64 (now + 1000)) V := fun V hV => by
        have q := (F7.ma.below hV F7.ma.lt).look1 hi
        rw [show getN mT (putN mT A (D.e.p, now + 1000)) D.e.p = some (D.e.p, now + 1000) from getN_put (k := mT) (n := (D.e.p, now + 1000))] at q
        exact q
      have HK7 : Hid (∀ V, Below W7.heap.size W7 V → V.cell? ⟨f, 2, none⟩ = some (.map (some x.mA)) ∧ LQ V g8 0 D.e.p ∧ V.cell? ⟨f, 56, none⟩ = some (.int .i64 x.ti)) := fun V hV => ⟨(F7.row.below hV hfl7).f2, (r87.below hV r87l).range, (F7.row.below hV hfl7).f56⟩
      clear HK r8 r76 F6 T6
      go_upto_region 8 with fail
      refine wp_region_noPanic ?_
      refine wp_region_N (S := fun V => Below W7.heap.size W7 V) 14 (by kernel_rfl) ((Below.refl _ _).drew) (fun hHeld => ?_)
      refine takeN_lit (i := 0) (v := ?_) (F := #[false, true, true, true, true, true, true, true, true, true, true, true, false, false, false]) rfl (by kernel_rfl) (by kernel_rfl) (by kernel_rfl) (by kernel_rfl) (fun _ _ _ h => h) (Or.inl ⟨by rfl, ?_⟩) (by assumption) ?_
      rotate_left
      · (intro w hSw; (try dsimp only at hSw); go_simp <;> with_reducible rfl)
      try simp only [Act.put, List.setIfInBounds_toArray, List.set_cons_zero, List.set_cons_succ]
      refine takeN_lit (i := 1) (v := ?_) (F := #[true, false, false, false, false, true, true, true, true, true, true, false, false, false, false]) rfl (by kernel_rfl) (by kernel_rfl) (by kernel_rfl) (by kernel_rfl) (fun _ _ _ h => h) (Or.inl ⟨by rfl, ?_⟩) (by assumption) ?_
      rotate_left
      · (intro w hSw; (try dsimp only at hSw); go_simp <;> with_reducible rfl)
      try simp only [Act.put, List.setIfInBounds_toArray, List.set_cons_zero, List.set_cons_succ]
      refine takeN_lit (i := 2) (v := ?_) (F := #[true, true, false, false, false, true, true, true, true, true, true, false, false, false, false]) rfl (by kernel_rfl) (by kernel_rfl) (by kernel_rfl) (by kernel_rfl) (fun _ _ _ h => h) (Or.inl ⟨by rfl, ?_⟩) (by assumption) ?_
      rotate_left
      · (intro w hSw; (try dsimp only at hSw); go_simp <;> with_reducible rfl)
      try simp only [Act.put, List.setIfInBounds_toArray, List.set_cons_zero, List.set_cons_succ]
      refine takeN_lit (i := 3) (v := ?_) (F := #[true, true, true, false, false, true, true, true, true, true, true, false, false, false, false]) rfl (by kernel_rfl) (by kernel_rfl) (by kernel_rfl) (by kernel_rfl) (fun _ _ _ h => h) (Or.inl ⟨by rfl, ?_⟩) (by assumption) ?_
      rotate_left
      · (intro w hSw; (try dsimp only at hSw); go_simp <;> with_reducible rfl)
      try simp only [Act.put, List.setIfInBounds_toArray, List.set_cons_zero, List.set_cons_succ]
      refine takeN_lit (i := 4) (v := ?_) (F := #[true, true, true, true, false, true, true, true, true, true, true, false, false, false, false]) rfl (by kernel_rfl) (by kernel_rfl) (by kernel_rfl) (by kernel_rfl) (fun _ _ _ h => h) (Or.inl ⟨by rfl, ?_⟩) (by assumption) ?_
      rotate_left
      · (intro w hSw; (try dsimp only at hSw); have z := (HK7.out _ hSw).2.2; go_simp <;> with_reducible rfl)
      try simp only [Act.put, List.setIfInBounds_toArray, List.set_cons_zero, List.set_cons_succ]
      refine takeN_lit (i := 5) (v := ?_) (F := #[true, true, true, true, true, false, false, false, false, true, false, false, false, false, false]) rfl (by kernel_rfl) (by kernel_rfl) (by kernel_rfl) (by kernel_rfl) (fun _ _ _ h => h) (Or.inl ⟨by rfl, ?_⟩) (by assumption) ?_
      rotate_left
      · (intro w hSw; (try dsimp only at hSw); go_simp <;> with_reducible rfl)
      try simp only [Act.put, List.setIfInBounds_toArray, List.set_cons_zero, List.set_cons_succ]
      refine takeN_lit (i := 6) (v := ?_) (F := #[true, true, true, true, true, true, false, false, false, true, false, false, false, false, false]) rfl (by kernel_rfl) (by kernel_rfl) (by kernel_rfl) (by kernel_rfl) (fun _ _ _ h => h) (Or.inl ⟨by rfl, ?_⟩) (by assumption) ?_
      rotate_left
      · (intro w hSw; (try dsimp only at hSw); go_simp <;> with_reducible rfl)
      try simp only [Act.put, List.setIfInBounds_toArray, List.set_cons_zero, List.set_cons_succ]
      refine takeN_lit (i := 7) (v := ?_) (F := #[true, true, true, true, true, true, true, false, false, true, false, false, false, false, false]) rfl (by kernel_rfl) (by kernel_rfl) (by kernel_rfl) (by kernel_rfl) (fun _ _ _ h => h) (Or.inl ⟨by rfl, ?_⟩) (by assumption) ?_
      rotate_left
      · (intro w hSw; (try dsimp only at hSw); go_simp <;> with_reducible rfl)
      try simp only [Act.put, List.setIfInBounds_toArray, List.set_cons_zero, List.set_cons_succ]
      refine takeN_lit (i := 8) (v := ?_) (F := #[true, true, true, true, true, true, true, true, false, true, false, false, false, false, false]) rfl (by kernel_rfl) (by kernel_rfl) (by kernel_rfl) (by kernel_rfl) (fun _ _ _ h => h) (Or.inl ⟨by rfl, ?_⟩) (by assumption) ?_
      rotate_left
      · (intro w hSw; (try dsimp only at hSw); have z := (HK7.out _ hSw).1; go_simp <;> with_reducible rfl)
      try simp only [Act.put, List.setIfInBounds_toArray, List.set_cons_zero, List.set_cons_succ]
      refine takeN_lit (i := 9) (F := #[true, true, true, true, true, true, true, true, true, false, false, false, false, false, false]) rfl (by kernel_rfl) (by kernel_rfl) (by kernel_rfl) (by kernel_rfl) (fun _ _ _ h => h) (yQ D.e.p (fun w h => (HK7.out _ h).2.1) (by rfl) rfl rfl) (by assumption) ?_
      try simp only [Act.put, List.setIfInBounds_toArray, List.set_cons_zero, List.set_cons_succ]
      refine takeN_lit (i := 10) (v := ?_) (F := #[true, true, true, true, true, true, true, true, true, true, false, false, false, false, false]) rfl (by kernel_rfl) (by kernel_rfl) (by kernel_rfl) (by kernel_rfl) (fun _ _ _ h => h) (Or.inl ⟨by rfl, ?_⟩) (by assumption) ?_
      rotate_left
      · (intro w hSw; (try dsimp only at hSw); have z := hl1 _ hSw; go_simp <;> with_reducible rfl)
      try simp only [Act.put, List.setIfInBounds_toArray, List.set_cons_zero, List.set_cons_succ]
      refine takeN_lit (i := 11) (v := ?_) (F := #[true, true, true, true, true, true, true, true, true, true, true, false, false, false, false]) rfl (by kernel_rfl) (by kernel_rfl) (by kernel_rfl) (by kernel_rfl) (fun _ _ _ h => h) (Or.inl ⟨by rfl, ?_⟩) (by assumption) ?_
      rotate_left
      · (intro w hSw; (try dsimp only at hSw); go_simp <;> with_reducible rfl)
      try simp only [Act.put, List.setIfInBounds_toArray, List.set_cons_zero, List.set_cons_succ]
      refine takeN_lit (i := 12) (v := ?_) (F := #[true, true, true, true, true, true, true, true, true, true, true, true, false, false, false]) rfl (by kernel_rfl) (by kernel_rfl) (by kernel_rfl) (by kernel_rfl) (fun _ _ _ h => h) (Or.inl ⟨by rfl, ?_⟩) (by assumption) ?_
      rotate_left
      · (intro w hSw; (try dsimp only at hSw); go_simp <;> with_reducible rfl)
      try simp only [Act.put, List.setIfInBounds_toArray, List.set_cons_zero, List.set_cons_succ]
      refine takeN_lit (i := 13) (v := ?_) (F := #[true, true, true, true, true, true, true, true, true, true, true, true, true, false, false]) rfl (by kernel_rfl) (by kernel_rfl) (by kernel_rfl) (by kernel_rfl) (fun _ _ _ h => h) (Or.inl ⟨by rfl, ?_⟩) (by assumption) ?_
      rotate_left
      · (intro w hSw; (try dsimp only at hSw); go_simp <;> with_reducible rfl)
      try simp only [Act.put, List.setIfInBounds_toArray, List.set_cons_zero, List.set_cons_succ]
      refine wpAnyN_ready (rs := [14]) (by kernel_rfl) (by simp) ?_
      refine consN_lit rfl (fun K hK => ?_) ?_
      · skip
        refine sStTi (U := 79) (.tmp 49) (.tmp 47) (by rfl) rfl f (min x.ti (now + 1000)) _ rfl rfl (F7.row.below hHeld hfl7) ?_
        intro W9 g9 r9
        have F9 := (F7.below hHeld).own_ g9 _ _ _ r9
        have T9 := T7.trans ((FTurn.of (x := x) hHeld).trans (FTurn.self (x := x) g9) rfl rfl) rfl rfl
        refine hK.out _ _ (Or.inl rfl) (fun _ => ?_)
        clear hK K
        try simp only [Act.put, List.setIfInBounds_toArray, List.set_cons_zero, List.set_cons_succ]
        refine wpAnyN_done (by kernel_rfl) ?_ _
        refine NoPanic.normal ?_
        go_wp2_with fail
        go_ret
        exact ⟨rfl, F9, T9⟩
      exact AllReadyN.nil
    exact AllReadyN.nil
  | true =>
    have HK2 : Hid (∀ V, Below W6.heap.size W6 V → V.cell? ⟨f, 2, none⟩ = some (.map (some x.mA)) ∧ LQ V g8 0 D.e.p) := HK
    go_upto_region 10 with fail
    refine wp_region_noPanic ?_
    refine wp_region_N (S := fun V => Below W6.heap.size W6 V) 5 (by kernel_rfl) ((Below.refl _ _).drew) (fun hHeld => ?_)
    refine takeN_lit (i := 0) (v := ?_) (F := #[false, false, false, false, true, false]) rfl (by kernel_rfl) (by kernel_rfl) (by kernel_rfl) (by kernel_rfl) (fun _ _ _ h => h) (Or.inl ⟨by rfl, ?_⟩) (by assumption) ?_
    rotate_left
    · (intro w hSw; (try dsimp only at hSw); go_simp <;> with_reducible rfl)
    try simp only [Act.put, List.setIfInBounds_toArray, List.set_cons_zero, List.set_cons_succ]
    refine takeN_lit (i := 1) (v := ?_) (F := #[true, false, false, false, true, false]) rfl (by kernel_rfl) (by kernel_rfl) (by kernel_rfl) (by kernel_rfl) (fun _ _ _ h => h) (Or.inl ⟨by rfl, ?_⟩) (by assumption) ?_
    rotate_left
    · (intro w hSw; (try dsimp only at hSw); go_simp <;> with_reducible rfl)
    try simp only [Act.put, List.setIfInBounds_toArray, List.set_cons_zero, List.set_cons_succ]
    refine takeN_lit (i := 2) (v := ?_) (F := #[true, true, false, false, true, false]) rfl (by kernel_rfl) (by kernel_rfl) (by kernel_rfl) (by kernel_rfl) (fun _ _ _ h => h) (Or.inl ⟨by rfl, ?_⟩) (by assumption) ?_
    rotate_left
    · (intro w hSw; (try dsimp only at hSw); go_simp <;> with_reducible rfl)
    try simp only [Act.put, List.setIfInBounds_toArray, List.set_cons_zero, List.set_cons_succ]
    refine takeN_lit (i := 3) (v := ?_) (F := #[true, true, true, false, true, false]) rfl (by kernel_rfl) (by kernel_rfl) (by kernel_rfl) (by kernel_rfl) (fun _ _ _ h => h) (Or.inl ⟨by rfl, ?_⟩) (by assumption) ?_
    rotate_left
    · (intro w hSw; (try dsimp only at hSw); have z := (HK.out _ hSw).1; go_simp <;> with_reducible rfl)
    try simp only [Act.put, List.setIfInBounds_toArray, List.set_cons_zero, List.set_cons_succ]
    refine takeN_lit (i := 4) (F := #[true, true, true, true, false, false]) rfl (by kernel_rfl) (by kernel_rfl) (by kernel_rfl) (by kernel_rfl) (fun _ _ _ h => h) (yQ D.e.p (fun w h => (HK.out _ h).2) (by rfl) rfl rfl) (by assumption) ?_
    try simp only [Act.put, List.setIfInBounds_toArray, List.set_cons_zero, List.set_cons_succ]
    refine wpAnyN_ready (rs := [5]) (by kernel_rfl) (by simp) ?_
    refine consN_lit rfl (fun K hK => ?_) ?_
    · skip
      obtain ⟨W7, hdl, M7, gm7⟩ := (F6.ma.below hHeld F6.ma.lt).del hi _
      refine sDel (.tmp 53) (.tmp 54) (by rfl) rfl rfl rfl hdl ?_
      have F7 := (F6.below hHeld).again gm7 M7 (by have := delN_le (k := mT) (L := A) (p := D.e.p); omega)
      have T7 := T6.trans ((FTurn.of (x := x) hHeld).trans (FTurn.again (x := x) gm7) rfl rfl) rfl rfl
      have r87 := (r8.below hHeld r8l).keep gm7 ((F6.ma.below hHeld F6.ma.lt).ne_row (r8.below hHeld r8l))
      have r77 := (r76.below hHeld r76l).keep gm7 ((F6.ma.below hHeld F6.ma.lt).ne_row (r76.below hHeld r76l))
      refine hK.out _ _ (Or.inl rfl) (fun _ => ?_)
      clear hK K
      try simp only [Act.put, List.setIfInBounds_toArray, List.set_cons_zero, List.set_cons_succ]
      refine wpAnyN_done (by kernel_rfl) ?_ _
      refine NoPanic.normal ?_
      have r87l := r87.lt
      have r77l := r77.lt
      have hfl7 := F7.lt
      have ck := r77.op.k
      have HK7 : Hid (∀ V, Below W7.heap.size W7 V → V.cell? ⟨f, 1, none⟩ = some (.map (some x.mH)) ∧ LQ V g8 0 D.e.p ∧ LE V g7 1 D.e) := fun V hV => ⟨(F7.row.below hV hfl7).f1, (r87.below hV r87l).range, (r77.below hV r77l).op.e⟩
      clear HK HK2 r8 r76 F6 T6
      by_cases h3 : D.k = 3
      · have h3' : (D.k == 3) = true := by simpa using h3
        have HR : Hid (replH H D true = delN mE H D.e.p) := by show (if true = true then (if D.k = 3 then _ else _) else _) = _; rw [if_pos rfl, if_pos h3]
        clear h3
        go_upto_region 12 with fail
        refine wp_region_noPanic ?_
        refine wp_region_N (S := fun V => Below W7.heap.size W7 V) 5 (by kernel_rfl) ((Below.refl _ _).drew) (fun hHeld => ?_)
        refine takeN_lit (i := 0) (v := ?_) (F := #[false, false, false, false, true, false]) rfl (by kernel_rfl) (by kernel_rfl) (by kernel_rfl) (by kernel_rfl) (fun _ _ _ h => h) (Or.inl ⟨by rfl, ?_⟩) (by assumption) ?_
        rotate_left
        · (intro w hSw; (try dsimp only at hSw); go_simp <;> with_reducible rfl)
        try simp only [Act.put, List.setIfInBounds_toArray, List.set_cons_zero, List.set_cons_succ]
        refine takeN_lit (i := 1) (v := ?_) (F := #[true, false, false, false, true, false]) rfl (by kernel_rfl) (by kernel_rfl) (by kernel_rfl) (by kernel_rfl) (fun _ _ _ h => h) (Or.inl ⟨by rfl, ?_⟩) (by assumption) ?_
        rotate_left
        · (intro w hSw; (try dsimp only at hSw); go_simp <;> with_reducible rfl)
        try simp only [Act.put, List.setIfInBounds_toArray, List.set_cons_zero, List.set_cons_succ]
        refine takeN_lit (i := 2) (v := ?_) (F := #[true, true, false, false, true, false]) rfl (by kernel_rfl) (by kernel_rfl) (by kernel_rfl) (by kernel_rfl) (fun _ _ _ h => h) (Or.inl ⟨by rfl, ?_⟩) (by assumption) ?_
        rotate_left
        · (intro w hSw; (try dsimp only at hSw); go_simp <;> with_reducible rfl)
        try simp only [Act.put, List.setIfInBounds_toArray, List.set_cons_zero, List.set_cons_succ]
        refine takeN_lit (i := 3) (v := ?_) (F := #[true, true, true, false, true, false]) rfl (by kernel_rfl) (by kernel_rfl) (by kernel_rfl) (by kernel_rfl) (fun _ _ _ h => h) (Or.inl ⟨by rfl, ?_⟩) (by assumption) ?_
        rotate_left
        · (intro w hSw; (try dsimp only at hSw); have z := (HK7.out _ hSw).1; go_simp <;> with_reducible rfl)
        try simp only [Act.put, List.setIfInBounds_toArray, List.set_cons_zero, List.set_cons_succ]
        refine takeN_lit (i := 4) (F := #[true, true, true, true, false, false]) rfl (by kernel_rfl) (by kernel_rfl) (by kernel_rfl) (by kernel_rfl) (fun _ _ _ h => h) (yQ D.e.p (fun w h => (HK7.out _ h).2.1) (by rfl) rfl rfl) (by assumption) ?_
        try simp only [Act.put, List.setIfInBounds_toArray, List.set_cons_zero, List.set_cons_succ]
        refine wpAnyN_ready (rs := [5]) (by kernel_rfl) (by simp) ?_
        refine consN_lit rfl (fun K hK => ?_) ?_
        · skip
          obtain ⟨W9, hdl, M9, g9⟩ := (F7.mh.below hHeld F7.mh.lt).del hi _
          refine sDel (.tmp 61) (.tmp 62) (by rfl) rfl rfl rfl hdl ?_
          have F9 := (F7.below hHeld).has_ g9 M9 (by have := delN_le (k := mE) (L := H) (p := D.e.p); omega)
          have T9 := T7.trans ((FTurn.of (x := x) hHeld).trans (FTurn.has (x := x) g9) rfl rfl) rfl rfl
          refine hK.out _ _ (Or.inl rfl) (fun _ => ?_)
          clear hK K
          try simp only [Act.put, List.setIfInBounds_toArray, List.set_cons_zero, List.set_cons_succ]
          refine wpAnyN_done (by kernel_rfl) ?_ _
          refine NoPanic.normal ?_
          go_wp2_with fail
          go_ret
          exact ⟨rfl, by rw [HR.out]; exact F9, T9⟩
        exact AllReadyN.nil
      · have h3' : (D.k == 3) = false := by simpa using h3
        have HR : Hid (replH H D true = putN mE H D.e) := by show (if true = true then (if D.k = 3 then _ else _) else _) = _; rw [if_pos rfl, if_neg h3]
        clear h3
        go_upto_region 13 with fail
        refine wp_region_noPanic ?_
        refine wp_region_N (S := fun V => Below W7.heap.size W7 V) 7 (by kernel_rfl) ((Below.refl _ _).drew) (fun hHeld => ?_)
        refine takeN_lit (i := 0) (v := ?_) (F := #[false, false, false, false, true, true, true, false]) rfl (by kernel_rfl) (by kernel_rfl) (by kernel_rfl) (by kernel_rfl) (fun _ _ _ h => h) (Or.inl ⟨by rfl, ?_⟩) (by assumption) ?_
        rotate_left
        · (intro w hSw; (try dsimp only at hSw); go_simp <;> with_reducible rfl)
        try simp only [Act.put, List.setIfInBounds_toArray, List.set_cons_zero, List.set_cons_succ]
        refine takeN_lit (i := 1) (v := ?_) (F := #[true, false, false, false, true, true, true, false]) rfl (by kernel_rfl) (by kernel_rfl) (by kernel_rfl) (by kernel_rfl) (fun _ _ _ h => h) (Or.inl ⟨by rfl, ?_⟩) (by assumption) ?_
        rotate_left
        · (intro w hSw; (try dsimp only at hSw); go_simp <;> with_reducible rfl)
        try simp only [Act.put, List.setIfInBounds_toArray, List.set_cons_zero, List.set_cons_succ]
        refine takeN_lit (i := 2) (v := ?_) (F := #[true, true, false, false, true, true, true, false]) rfl (by kernel_rfl) (by kernel_rfl) (by kernel_rfl) (by kernel_rfl) (fun _ _ _ h => h) (Or.inl ⟨by rfl, ?_⟩) (by assumption) ?_
        rotate_left
        · (intro w hSw; (try dsimp only at hSw); go_simp <;> with_reducible rfl)
        try simp only [Act.put, List.setIfInBounds_toArray, List.set_cons_zero, List.set_cons_succ]
        refine takeN_lit (i := 3) (v := ?_) (F := #[true, true, true, false, true, true, true, false]) rfl (by kernel_rfl) (by kernel_rfl) (by kernel_rfl) (by kernel_rfl) (fun _ _ _ h => h) (Or.inl ⟨by rfl, ?_⟩) (by assumption) ?_
        rotate_left
        · (intro w hSw; (try dsimp only at hSw); have z := (HK7.out _ hSw).1; go_simp <;> with_reducible rfl)
        try simp only [Act.put, List.setIfInBounds_toArray, List.set_cons_zero, List.set_cons_succ]
        refine takeN_lit (i := 4) (F := #[true, true, true, true, false, true, true, false]) rfl (by kernel_rfl) (by kernel_rfl) (by kernel_rfl) (by kernel_rfl) (fun _ _ _ h => h) (yQ D.e.p (fun w h => (HK7.out _ h).2.1) (by rfl) rfl rfl) (by assumption) ?_
        try simp only [Act.put, List.setIfInBounds_toArray, List.set_cons_zero, List.set_cons_succ]
        refine takeN_lit (i := 5) (v := ?_) (F := #[true, true, true, true, true, false, false, false]) rfl (by kernel_rfl) (by kernel_rfl) (by kernel_rfl) (by kernel_rfl) (fun _ _ _ h => h) (Or.inl ⟨by rfl, ?_⟩) (by assumption) ?_
        rotate_left
        · (intro w hSw; (try dsimp only at hSw); go_simp <;> with_reducible rfl)
        try simp only [Act.put, List.setIfInBounds_toArray, List.set_cons_zero, List.set_cons_succ]
        refine takeN_lit (i := 6) (F := #[true, true, true, true, true, true, false, false]) rfl (by kernel_rfl) (by kernel_rfl) (by kernel_rfl) (by kernel_rfl) (fun _ _ _ h => h) (yE D.e (fun w h => (HK7.out _ h).2.2) (by rfl) rfl rfl) (by assumption) ?_
        try simp only [Act.put, List.setIfInBounds_toArray, List.set_cons_zero, List.set_cons_succ]
        refine wpAnyN_ready (rs := [7]) (by kernel_rfl) (by simp) ?_
        refine consN_lit rfl (fun K hK => ?_) ?_
        · skip
          obtain ⟨W9, hmu, M9, g9⟩ := (F7.mh.below hHeld F7.mh.lt).put D.e hi (by omega)
          refine sMu (.tmp 66) (.tmp 67) (.tmp 69) (by rfl) rfl rfl rfl rfl hmu ?_
          have F9 := (F7.below hHeld).has_ g9 M9 (by have := putN_le (k := mE) (L := H) (n := D.e); omega)
          have T9 := T7.trans ((FTurn.of (x := x) hHeld).trans (FTurn.has (x := x) g9) rfl rfl) rfl rfl
          refine hK.out _ _ (Or.inl rfl) (fun _ => ?_)
          clear hK K
          try simp only [Act.put, List.setIfInBounds_toArray, List.set_cons_zero, List.set_cons_succ]
          refine wpAnyN_done (by kernel_rfl) ?_ _
          refine NoPanic.normal ?_
          go_wp2_with fail
          go_ret
          exact ⟨rfl, by rw [HR.out]; exact F9, T9⟩
        exact AllReadyN.nil
    exact AllReadyN.nil
end Go.Proofs.Ytiihlgcafppehaa
