/-
  The walk of SourceAlone.
-/
import Derived.Test.YtdcbnibgckdkbaaV12
namespace Go.Proofs.Ytdcbnibgckdkbaa
open Go.RowKit Go.Maps Go.Shelf
set_option linter.unusedSimpArgs false
set_option linter.unusedVariables false
set_option maxRecDepth 20000
theorem keepR_room {L : List Sr} {now : Int} {p : Pr} {i : Id8} {s m : Int} (h : L.length < 200) : (keepR 200 L now p i s m).2 = if m = 65535 then L else putN L (keepS (getN L p i) now p i s m) := by
  unfold keepR
  split
  · rfl
  · rw [if_neg (fun h2 => by have := h2.2; omega)]
def keyA (p : Pr) (i : Id8) (a : Ac) : Bool := qB a.p p && decide (a.i.l = i.l)
theorem keyA_iff {p : Pr} {i : Id8} {a : Ac} : keyA p i a = true ↔ a.p = p ∧ a.i = i := by
  unfold keyA
  simp only [Bool.and_eq_true, decide_eq_true_eq, qB_iff]
  exact ⟨fun ⟨h1, h2⟩ => ⟨h1, Id8.ext h2⟩, fun ⟨h1, h2⟩ => ⟨h1, by rw [h2]⟩⟩
/-- What the other table keeps. -/
def alS (p : Pr) (i : Id8) (now : Int) (y : List Sr) (a : Ac) : List Sr := if a.k = 0 then if keyA p i a = true then (keepR 200 y now p i a.s a.m).2 else y else y
structure AlI (p : Pr) (i : Id8) (j : Nat) (x y : List Sr) : Prop where
  same : getN x p i = getN y p i
  len : y.length ≤ j
  key : ∀ n ∈ y, n.p = p ∧ n.id = i
theorem AlI.step {p : Pr} {i : Id8} {j : Nat} {x : Int × List Sr} {y : List Sr} {a : Ac} (h : AlI p i j x.2 y) (hx : x.2.length ≤ j) (hj : j < 200) : AlI p i (j + 1) (fgS x a).2 (alS p i (x.1 + a.g) y a) := by
  have hl := h.len
  refine ⟨?_, ?_, ?_⟩
  · unfold fgS alS
    dsimp only
    split
    · rw [keepR_room (by omega)]
      split
      · rename_i hm
        split
        · rw [keepR_room (by omega), if_pos hm]
          exact h.same
        · exact h.same
      · rename_i hm
        split
        · rename_i hk
          obtain ⟨e1, e2⟩ := keyA_iff.1 hk
          rw [keepR_room (by omega), if_neg hm, e1, e2, getN_put_same (n := keepS (getN x.2 p i) (x.1 + a.g) p i a.s a.m) (p := p) (i := i) ⟨rfl, rfl⟩, getN_put_same (n := keepS (getN y p i) (x.1 + a.g) p i a.s a.m) (p := p) (i := i) ⟨rfl, rfl⟩, h.same]
        · rename_i hk
          rw [getN_put_other (fun e => hk (keyA_iff.2 e))]
          exact h.same
    · exact h.same
  · unfold alS
    split
    · split
      · have := keepR_len (most := 200) (L := y) (now := x.1 + a.g) (p := p) (i := i) (s := a.s) (m := a.m)
        omega
      · omega
    · omega
  · unfold alS
    split
    · split
      · intro n hn
        rcases keepR_mem hn with h1 | h1
        · exact h.key n h1
        · rw [h1]; exact ⟨rfl, rfl⟩
      · exact h.key
    · exact h.key
theorem one_key {p : Pr} {i : Id8} {y : List Sr} (hnd : (y.map keyN).Nodup) (h : ∀ n ∈ y, n.p = p ∧ n.id = i) : y.length ≤ 1 := by
  match y, hnd, h with
  | [], _, _ => simp
  | [_], _, _ => simp
  | a :: b :: r, hnd, h =>
    exfalso
    rw [List.map_cons, List.nodup_cons] at hnd
    apply hnd.1
    have h1 := h a (by simp)
    have h2 := h b (by simp)
    have e : keyN a = keyN b := by unfold keyN; rw [h1.1, h1.2, h2.1, h2.2]
    rw [e]
    simp
theorem Turn.other {w w' : World} {t mb u mu : Nat} {most most' : Int} {L0 L L' : List Sr} (h : Turn w w' t mb most L) (h0 : Mp w mb L0) (k : Tb w u mu most' L') (hne : mu ≠ mb) : Tb w' u mu most' L' :=
  ⟨k.row.keep h.gr (h0.ne_row k.row), k.map.keep h.gr hne, k.nok, k.ll⟩
set_option maxHeartbeats 32000000 in
theorem alone_walk (ad : Option Addr) (c : Nat) (l : List Ac) (p : Pr) (i : Id8) (s m : Int) (w : World) (hl : AsW w ad l) (hf : ∀ x ∈ l, AcFit x) (hn : l.length ≤ maxLen) (hp : wfQ p) :
    Calls Try.prog 7 #[.slice ad l.length c, (Value.agg (qcells p).toArray), idV i, dV s m] w (Gives w (.bool true)) := by
  obtain ⟨hB, r0, r1, r2⟩ := low_rows3 w (qcells p) (icells i) (dcs s m) 36 38 41
  go_enter Try.func7, Try.ntmps7
  go_upto_region 1 with fail
  refine name_world (R := fun W => Code.wp _ _ _ _ W) (P := fun W => Below w.heap.size w W ∧ Row W w.heap.size 36 (qcells p) ∧ Row W (w.heap.size + 1) 38 (icells i) ∧ Row W (w.heap.size + 2) 41 (dcs s m)) _ ⟨hB, r0, r1, r2⟩ ?_
  clear hB r0 r1 r2
  rintro X ⟨hB, r0, r1, r2⟩
  have hlX := hl.below hB
  have HQ : Hid (∀ W, Below X.heap.size X W → LQ W w.heap.size 0 p) := fun W h => (r0.below h r0.lt).range
  have HI : Hid (∀ W, Below X.heap.size X W → LI W (w.heap.size + 1) 0 i) := fun W h => (r1.below h r1.lt).range
  have HD : Hid (∀ W, Below X.heap.size X W → Sn.LD W (w.heap.size + 2) 0 s m) := fun W h => (r2.below h r2.lt).range
  have HB : Hid (∀ W, Below X.heap.size X W → Below w.heap.size w W) := fun W h => bt hB h
  have hR := right_any ad c l X hlX hn
  have hNew := new_any 200
  clear r0 r1 r2 hl hB
  go_wp2_with (first
    | (have kk := hb; go_at_call 9; refine (live_any _).mono ?_; rintro e w9 ⟨rfl, k⟩)
    | (have kk := tb0; go_at_call 10; refine (hNew _).mono ?_; rintro e w3 ⟨rfl, ub0, b3⟩)
    | (have kk := hb; go_at_call 10; refine (hNew _).mono ?_; rintro e w0 ⟨rfl, tb0, b0⟩)
    | (go_at_call 8; refine hR.mono ?_; rintro e w1 ⟨b, rfl, rfl, hb⟩; cases b))
  · go_ret
    exact ⟨rfl, HB.out _ k⟩
  obtain ⟨hl2, hok⟩ := hb trivial
  clear hR hNew hb hn
  have tb3 := tb0.below b3
  have bX0 := bt b0 b3
  have hm0 := tb0.map.lt
  obtain ⟨mb, hmb⟩ : ∃ mb, X.heap.size = mb := ⟨_, rfl⟩
  obtain ⟨t, ht⟩ : ∃ t, X.heap.size + 1 = t := ⟨_, rfl⟩
  obtain ⟨mu, hmu⟩ : ∃ mb, w0.heap.size = mb := ⟨_, rfl⟩
  obtain ⟨u, hu⟩ : ∃ t, w0.heap.size + 1 = t := ⟨_, rfl⟩
  have hz := b0.size
  have HT : Hid (∀ (W W' : World) (L : List Sr), Below X.heap.size X W → Turn W W' t mb 200 L → Below X.heap.size X W') := fun W W' L h k => k.below h (by omega) h.size
  have HU : Hid (∀ (W W' : World) (L : List Sr), Below X.heap.size X W → Turn W W' u mu 200 L → Below X.heap.size X W') := fun W W' L h k => k.below h (by omega) h.size
  have HNe : Hid (mu ≠ mb) := by show mu ≠ mb; omega
  rw [ht, hmb] at tb3
  rw [hu, hmu] at ub0
  rw [ht, hu]
  clear ht hmb hu hmu hm0 tb0 b0 b3 hz
  go_loopw [11, 12] (fun v z wr => ∃ (j : Nat) (x : Int × List Sr) (y : List Sr), j ≤ l.length ∧ z = .int .i64 j ∧ v = .int .i64 x.1 ∧ FgI j x ∧ AlI p i j x.2 y ∧ Tb wr t mb 200 x.2 ∧ Tb wr u mu 200 y ∧ Below X.heap.size X wr) (fun _ u _ => l.length - (intOf u).toNat)
  case atStart => exact ⟨0, (0, []), [], Nat.zero_le _, rfl, rfl, ⟨by simp, by simp, by simp, by simp⟩, ⟨rfl, by simp, by simp⟩, tb3, ub0, bX0⟩
  case round =>
    clear tb3 ub0 bX0
    obtain ⟨j, x, y, hj, rfl, rfl, hI, hA, tb, ub, bX⟩ := hrel
    by_cases hlt : j < l.length
    · have hlr := hlX.below bX
      rcases hlr.lies with h0 | ⟨g, o, rfl, hg, hcs⟩
      · rw [h0] at hlt; simp at hlt
      have hq : LC wr g (o + j * 46) l[j] := hcs j l[j] (List.getElem?_eq_getElem hlt)
      have HQA : Hid (∀ W, Below X.heap.size X W → LC W g (o + j * 46) l[j] ∧ g < W.heap.size) := fun W hW => by
        rcases (hlX.below hW).lies with h0 | ⟨g', o', e, hg', hcs'⟩
        · rw [h0] at hlt; simp at hlt
        · cases e
          exact ⟨hcs' j l[j] (List.getElem?_eq_getElem hlt), hg'⟩
      have ha := hf l[j] (List.getElem_mem hlt)
      have hG := hok l[j] (List.getElem_mem hlt)
      have hji : (j : Int) < (l.length : Int) := by omega
      have hw64 : wrap64 ((j : Int) + 1) = (j : Int) + 1 := by unfold wrap64; omega
      have HJ : Hid (j + 1 ≤ l.length) := hlt
      have HM : Hid (l.length - ((j : Int) + 1).toNat < l.length - ((j : Int)).toNat) := meas hlt
      have hj2 : j < 200 := by omega
      clear hcs hlr hok hf
      generalize l[j] = a at *
      have hw2 : wrap64 (x.1 + a.g) = (fgS x a).1 := by
        show wrap64 (x.1 + a.g) = x.1 + a.g
        have := hI.t0; have := hI.t1; have := hG.1; have := hG.2
        unfold wrap64; omega
      have HKt : Hid (a.k = 0 → ∀ W, Below wr.heap.size wr W → Calls Try.prog 12 #[.pointer (some ⟨t, 0, none⟩), .int .i64 (fgS x a).1, (Value.agg (qcells a.p).toArray), idV a.i, dV a.s a.m] W fun e w' => ∃ z, e = .returned (.int .i64 z) ∧ Tb w' t mb 200 (fgS x a).2 ∧ Tb w' u mu 200 y ∧ Below X.heap.size X w') := fun hk W hW => by
        have := hI.t0; have := hI.t1; have := hG.1; have := hG.2; have := hI.ll
        refine (keep_any (tb.below hW) (x.1 + a.g) a.p a.i a.s a.m ha.q (by omega) (by omega) ha.s0 ha.s1 ha.m0 ha.m1 (by omega)).mono ?_
        rintro e w' ⟨rfl, hT⟩
        refine ⟨_, rfl, ?_, hT.other (tb.below hW).map (ub.below hW) HNe.out, HT.out _ _ _ (bt bX hW) hT⟩
        unfold fgS
        rw [if_pos hk]
        exact hT.tb
      have HKu : Hid (a.k = 0 → keyA p i a = true → ∀ W, Tb W t mb 200 (fgS x a).2 → Tb W u mu 200 y → Below X.heap.size X W → Calls Try.prog 12 #[.pointer (some ⟨u, 0, none⟩), .int .i64 (fgS x a).1, (Value.agg (qcells p).toArray), idV i, dV a.s a.m] W fun e w' => ∃ z, e = .returned (.int .i64 z) ∧ Tb w' t mb 200 (fgS x a).2 ∧ Tb w' u mu 200 (alS p i (x.1 + a.g) y a) ∧ Below X.heap.size X w') := fun hk hka W h1 h2 h3 => by
        have := hI.t0; have := hI.t1; have := hG.1; have := hG.2; have := hA.len
        refine (keep_any h2 (x.1 + a.g) p i a.s a.m hp (by omega) (by omega) ha.s0 ha.s1 ha.m0 ha.m1 (by omega)).mono ?_
        rintro e w' ⟨rfl, hT⟩
        refine ⟨_, rfl, hT.other h2.map h1 (Ne.symm HNe.out), ?_, HU.out _ _ _ h3 hT⟩
        unfold alS
        rw [if_pos hk, if_pos hka]
        exact hT.tb
      have HN1 : Hid (a.k ≠ 0 → (fgS x a).2 = x.2 ∧ alS p i (x.1 + a.g) y a = y) := fun hk => by
        unfold fgS alS
        rw [if_neg hk, if_neg hk]
        exact ⟨rfl, rfl⟩
      have HN2 : Hid (a.k = 0 → keyA p i a = false → alS p i (x.1 + a.g) y a = y) := fun hk hka => by
        unfold alS
        rw [if_pos hk, hka]
        rfl
      have HI2 : Hid (FgI (j + 1) (fgS x a) ∧ AlI p i (j + 1) (fgS x a).2 (alS p i (x.1 + a.g) y a)) := ⟨hI.step hG, hA.step hI.ll hj2⟩
      have ck := hq.k
      have cg := hq.g
      obtain ⟨y2, hy2⟩ : ∃ y2, alS p i (x.1 + a.g) y a = y2 := ⟨_, rfl⟩
      obtain ⟨x2, hx2⟩ : ∃ x2, fgS x a = x2 := ⟨_, rfl⟩
      rw [hy2] at HKu HN1 HN2 HI2
      rw [hx2] at HKt HKu HN1 HI2 hw2
      clear hy2 hx2 hI hA hG ha hj hj2
      by_cases hk : a.k = 0
      · have hk' : (a.k == 0) = true := by simpa using hk
        have hKeT := HKt.out hk
        replace HKu := HKu.out hk
        replace HN2 := HN2.out hk
        clear HKt HN1 hk tb ub
        go_upto_region 12 with fail
        refine wp_region_noPanic ?_
        refine wp_region_N (S := fun W => Below wr.heap.size wr W) 17 (by kernel_rfl) ((Below.refl _ _).drew) (fun hHeld => ?_)
        refine takeN_lit (i := 0) (v := ?_) (F := #[false, true, true, true, true, true, true, true, true, true, true, true, true, true, true, true, true, false]) rfl (by kernel_rfl) (by kernel_rfl) (by kernel_rfl) (by kernel_rfl) (fun _ _ _ h => h) (Or.inl ⟨by rfl, ?_⟩) (by assumption) ?_
        rotate_left
        · (intro w hSw; (try dsimp only at hSw); go_simp <;> with_reducible rfl)
        try simp only [Act.put, List.setIfInBounds_toArray, List.set_cons_zero, List.set_cons_succ]
        refine takeN_lit (i := 1) (v := ?_) (F := #[true, false, true, true, true, true, true, true, true, true, true, true, true, true, true, true, true, false]) rfl (by kernel_rfl) (by kernel_rfl) (by kernel_rfl) (by kernel_rfl) (fun _ _ _ h => h) (Or.inl ⟨by rfl, ?_⟩) (by assumption) ?_
        rotate_left
        · (intro w hSw; (try dsimp only at hSw); go_simp <;> with_reducible rfl)
        try simp only [Act.put, List.setIfInBounds_toArray, List.set_cons_zero, List.set_cons_succ]
        refine takeN_lit (i := 2) (v := ?_) (F := #[true, true, false, true, false, false, false, true, true, true, true, true, true, true, true, true, true, false]) rfl (by kernel_rfl) (by kernel_rfl) (by kernel_rfl) (by kernel_rfl) (fun _ _ _ h => h) (Or.inl ⟨by rfl, ?_⟩) (by assumption) ?_
        rotate_left
        · (intro w hSw; (try dsimp only at hSw); go_simp <;> with_reducible rfl)
        try simp only [Act.put, List.setIfInBounds_toArray, List.set_cons_zero, List.set_cons_succ]
        refine takeN_lit (i := 3) (v := ?_) (F := #[true, true, true, false, false, false, false, true, true, true, true, true, true, true, true, true, true, false]) rfl (by kernel_rfl) (by kernel_rfl) (by kernel_rfl) (by kernel_rfl) (fun _ _ _ h => h) (Or.inl ⟨by rfl, ?_⟩) (by assumption) ?_
        rotate_left
        · (intro w hSw; (try dsimp only at hSw); go_simp <;> with_reducible rfl)
        try simp only [Act.put, List.setIfInBounds_toArray, List.set_cons_zero, List.set_cons_succ]
        refine takeN_lit (i := 4) (v := ?_) (F := #[true, true, true, true, false, false, false, true, true, true, true, true, true, true, true, true, true, false]) rfl (by kernel_rfl) (by kernel_rfl) (by kernel_rfl) (by kernel_rfl) (fun _ _ _ h => h) (Or.inl ⟨by rfl, ?_⟩) (by assumption) ?_
        rotate_left
        · (intro w hSw; (try dsimp only at hSw); go_simp <;> with_reducible rfl)
        try simp only [Act.put, List.setIfInBounds_toArray, List.set_cons_zero, List.set_cons_succ]
        refine takeN_lit (i := 5) (v := ?_) (F := #[true, true, true, true, true, false, false, true, true, true, true, true, true, true, true, true, true, false]) rfl (by kernel_rfl) (by kernel_rfl) (by kernel_rfl) (by kernel_rfl) (fun _ _ _ h => h) (Or.inl ⟨by rfl, ?_⟩) (by assumption) ?_
        rotate_left
        · (intro w hSw; (try dsimp only at hSw); go_simp <;> with_reducible rfl)
        try simp only [Act.put, List.setIfInBounds_toArray, List.set_cons_zero, List.set_cons_succ]
        refine takeN_lit (i := 6) (F := #[true, true, true, true, true, true, false, true, true, true, true, true, true, true, true, true, true, false]) rfl (by kernel_rfl) (by kernel_rfl) (by kernel_rfl) (by kernel_rfl) (fun _ _ _ h => h) (yQ a.p (fun w h => (hq.below h hg).p) (by rfl) rfl rfl) (by assumption) ?_
        try simp only [Act.put, List.setIfInBounds_toArray, List.set_cons_zero, List.set_cons_succ]
        refine takeN_lit (i := 7) (v := ?_) (F := #[true, true, true, true, true, true, true, false, true, false, false, false, true, true, true, true, true, false]) rfl (by kernel_rfl) (by kernel_rfl) (by kernel_rfl) (by kernel_rfl) (fun _ _ _ h => h) (Or.inl ⟨by rfl, ?_⟩) (by assumption) ?_
        rotate_left
        · (intro w hSw; (try dsimp only at hSw); go_simp <;> with_reducible rfl)
        try simp only [Act.put, List.setIfInBounds_toArray, List.set_cons_zero, List.set_cons_succ]
        refine takeN_lit (i := 8) (v := ?_) (F := #[true, true, true, true, true, true, true, true, false, false, false, false, true, true, true, true, true, false]) rfl (by kernel_rfl) (by kernel_rfl) (by kernel_rfl) (by kernel_rfl) (fun _ _ _ h => h) (Or.inl ⟨by rfl, ?_⟩) (by assumption) ?_
        rotate_left
        · (intro w hSw; (try dsimp only at hSw); go_simp <;> with_reducible rfl)
        try simp only [Act.put, List.setIfInBounds_toArray, List.set_cons_zero, List.set_cons_succ]
        refine takeN_lit (i := 9) (v := ?_) (F := #[true, true, true, true, true, true, true, true, true, false, false, false, true, true, true, true, true, false]) rfl (by kernel_rfl) (by kernel_rfl) (by kernel_rfl) (by kernel_rfl) (fun _ _ _ h => h) (Or.inl ⟨by rfl, ?_⟩) (by assumption) ?_
        rotate_left
        · (intro w hSw; (try dsimp only at hSw); go_simp <;> with_reducible rfl)
        try simp only [Act.put, List.setIfInBounds_toArray, List.set_cons_zero, List.set_cons_succ]
        refine takeN_lit (i := 10) (v := ?_) (F := #[true, true, true, true, true, true, true, true, true, true, false, false, true, true, true, true, true, false]) rfl (by kernel_rfl) (by kernel_rfl) (by kernel_rfl) (by kernel_rfl) (fun _ _ _ h => h) (Or.inl ⟨by rfl, ?_⟩) (by assumption) ?_
        rotate_left
        · (intro w hSw; (try dsimp only at hSw); go_simp <;> with_reducible rfl)
        try simp only [Act.put, List.setIfInBounds_toArray, List.set_cons_zero, List.set_cons_succ]
        refine takeN_lit (i := 11) (F := #[true, true, true, true, true, true, true, true, true, true, true, false, true, true, true, true, true, false]) rfl (by kernel_rfl) (by kernel_rfl) (by kernel_rfl) (by kernel_rfl) (fun _ _ _ h => h) (yI a.i (fun w h => (hq.below h hg).i) (by rfl) rfl rfl) (by assumption) ?_
        try simp only [Act.put, List.setIfInBounds_toArray, List.set_cons_zero, List.set_cons_succ]
        refine takeN_lit (i := 12) (v := ?_) (F := #[true, true, true, true, true, true, true, true, true, true, true, true, false, true, false, false, false, false]) rfl (by kernel_rfl) (by kernel_rfl) (by kernel_rfl) (by kernel_rfl) (fun _ _ _ h => h) (Or.inl ⟨by rfl, ?_⟩) (by assumption) ?_
        rotate_left
        · (intro w hSw; (try dsimp only at hSw); go_simp <;> with_reducible rfl)
        try simp only [Act.put, List.setIfInBounds_toArray, List.set_cons_zero, List.set_cons_succ]
        refine takeN_lit (i := 13) (v := ?_) (F := #[true, true, true, true, true, true, true, true, true, true, true, true, true, false, false, false, false, false]) rfl (by kernel_rfl) (by kernel_rfl) (by kernel_rfl) (by kernel_rfl) (fun _ _ _ h => h) (Or.inl ⟨by rfl, ?_⟩) (by assumption) ?_
        rotate_left
        · (intro w hSw; (try dsimp only at hSw); go_simp <;> with_reducible rfl)
        try simp only [Act.put, List.setIfInBounds_toArray, List.set_cons_zero, List.set_cons_succ]
        refine takeN_lit (i := 14) (v := ?_) (F := #[true, true, true, true, true, true, true, true, true, true, true, true, true, true, false, false, false, false]) rfl (by kernel_rfl) (by kernel_rfl) (by kernel_rfl) (by kernel_rfl) (fun _ _ _ h => h) (Or.inl ⟨by rfl, ?_⟩) (by assumption) ?_
        rotate_left
        · (intro w hSw; (try dsimp only at hSw); go_simp <;> with_reducible rfl)
        try simp only [Act.put, List.setIfInBounds_toArray, List.set_cons_zero, List.set_cons_succ]
        refine takeN_lit (i := 15) (v := ?_) (F := #[true, true, true, true, true, true, true, true, true, true, true, true, true, true, true, false, false, false]) rfl (by kernel_rfl) (by kernel_rfl) (by kernel_rfl) (by kernel_rfl) (fun _ _ _ h => h) (Or.inl ⟨by rfl, ?_⟩) (by assumption) ?_
        rotate_left
        · (intro w hSw; (try dsimp only at hSw); go_simp <;> with_reducible rfl)
        try simp only [Act.put, List.setIfInBounds_toArray, List.set_cons_zero, List.set_cons_succ]
        refine takeN_lit (i := 16) (F := #[true, true, true, true, true, true, true, true, true, true, true, true, true, true, true, true, false, false]) rfl (by kernel_rfl) (by kernel_rfl) (by kernel_rfl) (by kernel_rfl) (fun _ _ _ h => h) (Sn.yD a.s a.m (fun w h => (hq.below h hg).d) (by rfl) rfl rfl) (by assumption) ?_
        try simp only [Act.put, List.setIfInBounds_toArray, List.set_cons_zero, List.set_cons_succ]
        refine wpAnyN_ready (rs := [17]) (by kernel_rfl) (by simp) ?_
        refine consN_lit rfl (fun K hK => ?_) ?_
        · go_simp
          refine (hKeT _ hHeld).mono ?_
          rintro e w2 ⟨z, rfl, tb2, ub2, b2⟩
          refine hK.out _ _ (Or.inl rfl) (fun _ => ?_)
          clear hK K
          try simp only [Act.put, List.setIfInBounds_toArray, List.set_cons_zero, List.set_cons_succ]
          refine wpAnyN_done (by kernel_rfl) ?_ _
          refine NoPanic.normal ?_
          clear hKeT hHeld ck cg hq hg bX
          obtain ⟨hq, hg⟩ := HQA.out _ b2
          have hp2 := HQ.out _ b2
          have hi2 := HI.out _ b2
          have hpl : w.heap.size < w2.heap.size := block_lt_of_cell hp2.d.n
          have hil : w.heap.size + 1 < w2.heap.size := by
            obtain ⟨v0, hv0⟩ : ∃ v0, (icells i)[0]? = some v0 := ⟨_, List.getElem?_eq_getElem (by rw [icells_len]; omega)⟩
            exact block_lt_of_cell (hi2 0 _ hv0)
          go_upto_region 13 with fail
          have hEQ := fun W => run_eqlQ' a.p p W
          have hEI := fun W => run_eqlI a.i i W
          have gEQ := fun op x y W => guardQ op x y a.p p W
          have gEI := fun op x y W => guardI op x y a.i i W
          have HKA : Hid (keyA p i a = (qB a.p p && decide (a.i.l = i.l))) := rfl
          generalize qB a.p p = b1 at *
          generalize decide (a.i.l = i.l) = b2' at *
          cases b1 with
          | false =>
            have hy2 := HN2 (by rw [HKA.out]; rfl)
            subst hy2
            clear HKu
            refine wp_region_noPanic ?_
            refine wp_region_held_drew (S := fun W => Below w2.heap.size w2 W) (by kernel_rfl) ((Below.refl _ _).drew) (fun hHeld => ?_)
            refine take_lit (i := 0) (v := ?_) rfl (by kernel_rfl) (by kernel_rfl) (by kernel_rfl) (fun _ _ _ h => h) (Or.inl ⟨by rfl, ?_⟩) (by assumption) ?_
            rotate_left
            · (intro w hSw; (try dsimp only at hSw); go_simp <;> with_reducible rfl)
            try simp only [Act.put, List.setIfInBounds_toArray, List.set_cons_zero, List.set_cons_succ]
            refine take_lit (i := 1) (v := ?_) rfl (by kernel_rfl) (by kernel_rfl) (by kernel_rfl) (fun _ _ _ h => h) (Or.inl ⟨by rfl, ?_⟩) (by assumption) ?_
            rotate_left
            · (intro w hSw; (try dsimp only at hSw); go_simp <;> with_reducible rfl)
            try simp only [Act.put, List.setIfInBounds_toArray, List.set_cons_zero, List.set_cons_succ]
            refine take_lit (i := 2) (v := ?_) rfl (by kernel_rfl) (by kernel_rfl) (by kernel_rfl) (fun _ _ _ h => h) (Or.inl ⟨by rfl, ?_⟩) (by assumption) ?_
            rotate_left
            · (intro w hSw; (try dsimp only at hSw); go_simp <;> with_reducible rfl)
            try simp only [Act.put, List.setIfInBounds_toArray, List.set_cons_zero, List.set_cons_succ]
            refine take_lit (i := 3) (v := ?_) rfl (by kernel_rfl) (by kernel_rfl) (by kernel_rfl) (fun _ _ _ h => h) (Or.inl ⟨by rfl, ?_⟩) (by assumption) ?_
            rotate_left
            · (intro w hSw; (try dsimp only at hSw); go_simp <;> with_reducible rfl)
            try simp only [Act.put, List.setIfInBounds_toArray, List.set_cons_zero, List.set_cons_succ]
            refine take_lit (i := 4) rfl (by kernel_rfl) (by kernel_rfl) (by kernel_rfl) (fun _ _ _ h => h) (yQ a.p (fun w h => (hq.below h hg).p) (by rfl) rfl rfl) (by assumption) ?_
            try simp only [Act.put, List.setIfInBounds_toArray, List.set_cons_zero, List.set_cons_succ]
            refine take_lit (i := 5) rfl (by kernel_rfl) (by kernel_rfl) (by kernel_rfl) (fun _ _ _ h => h) (yQ p (fun w h => (hp2.below h hpl)) (by rfl) rfl rfl) (by assumption) ?_
            try simp only [Act.put, List.setIfInBounds_toArray, List.set_cons_zero, List.set_cons_succ]
            refine take_lit (i := 6) (v := ?_) rfl (by kernel_rfl) (by kernel_rfl) (by kernel_rfl) (fun _ _ _ h => h) (Or.inl ⟨by rfl, ?_⟩) (by assumption) ?_
            rotate_left
            · (intro w hSw; (try dsimp only at hSw); have z := hEQ w; have z2 := fun op x y => gEQ op x y w; go_simp <;> with_reducible rfl)
            try simp only [Act.put, List.setIfInBounds_toArray, List.set_cons_zero, List.set_cons_succ]
            refine take_lit (i := 7) (v := ?_) rfl (by kernel_rfl) (by kernel_rfl) (by kernel_rfl) (fun _ _ _ h => h) (Or.inl ⟨by rfl, ?_⟩) (by assumption) ?_
            rotate_left
            · (intro w hSw; (try dsimp only at hSw); go_simp <;> with_reducible rfl)
            try simp only [Act.put, List.setIfInBounds_toArray, List.set_cons_zero, List.set_cons_succ]
            refine take_lit (i := 8) rfl (by kernel_rfl) (by kernel_rfl) (by kernel_rfl) (fun _ _ _ h => h) (Or.inr ⟨by rfl, rfl⟩) (by assumption) ?_
            try simp only [Act.put, List.setIfInBounds_toArray, List.set_cons_zero, List.set_cons_succ]
            refine take_lit (i := 9) rfl (by kernel_rfl) (by kernel_rfl) (by kernel_rfl) (fun _ _ _ h => h) (Or.inr ⟨by rfl, rfl⟩) (by assumption) ?_
            try simp only [Act.put, List.setIfInBounds_toArray, List.set_cons_zero, List.set_cons_succ]
            refine take_lit (i := 10) rfl (by kernel_rfl) (by kernel_rfl) (by kernel_rfl) (fun _ _ _ h => h) (Or.inr ⟨by rfl, rfl⟩) (by assumption) ?_
            try simp only [Act.put, List.setIfInBounds_toArray, List.set_cons_zero, List.set_cons_succ]
            refine take_lit (i := 11) rfl (by kernel_rfl) (by kernel_rfl) (by kernel_rfl) (fun _ _ _ h => h) (Or.inr ⟨by rfl, rfl⟩) (by assumption) ?_
            try simp only [Act.put, List.setIfInBounds_toArray, List.set_cons_zero, List.set_cons_succ]
            refine take_lit (i := 12) rfl (by kernel_rfl) (by kernel_rfl) (by kernel_rfl) (fun _ _ _ h => h) (Or.inr ⟨by rfl, rfl⟩) (by assumption) ?_
            try simp only [Act.put, List.setIfInBounds_toArray, List.set_cons_zero, List.set_cons_succ]
            refine take_lit (i := 13) rfl (by kernel_rfl) (by kernel_rfl) (by kernel_rfl) (fun _ _ _ h => h) (Or.inr ⟨by rfl, rfl⟩) (by assumption) ?_
            try simp only [Act.put, List.setIfInBounds_toArray, List.set_cons_zero, List.set_cons_succ]
            refine take_lit (i := 14) rfl (by kernel_rfl) (by kernel_rfl) (by kernel_rfl) (fun _ _ _ h => h) (Or.inr ⟨by rfl, rfl⟩) (by assumption) ?_
            try simp only [Act.put, List.setIfInBounds_toArray, List.set_cons_zero, List.set_cons_succ]
            refine take_lit (i := 15) (v := ?_) rfl (by kernel_rfl) (by kernel_rfl) (by kernel_rfl) (fun _ _ _ h => h) (Or.inl ⟨by rfl, ?_⟩) (by assumption) ?_
            rotate_left
            · (intro w hSw; (try dsimp only at hSw); go_simp <;> with_reducible rfl)
            try simp only [Act.put, List.setIfInBounds_toArray, List.set_cons_zero, List.set_cons_succ]
            refine wpAnyH_done (by kernel_rfl) ?_ _
            refine NoPanic.normal ?_
            have tb5 := tb2.below hHeld
            have ub5 := ub2.below hHeld
            have b5 := bt b2 hHeld
            clear hHeld tb2 ub2 b2 hEQ hEI gEQ gEI hq hp2 hi2
            go_wp2_with fail
            go_roundw
            case rel => exact ⟨j + 1, x2, y2, HJ.out, by first | rfl | go_num, by first | rfl | exact congrArg (Value.int .i64) hw2, HI2.out.1, HI2.out.2, tb5, ub5, b5⟩
            case measure => first | (rw [hw64]; simp only [intOf]; exact HM.out) | (simp only [intOf]; exact HM.out)
          | true =>
            refine wp_region_noPanic ?_
            refine wp_region_held_drew (S := fun W => Below w2.heap.size w2 W) (by kernel_rfl) ((Below.refl _ _).drew) (fun hHeld => ?_)
            refine take_lit (i := 0) (v := ?_) rfl (by kernel_rfl) (by kernel_rfl) (by kernel_rfl) (fun _ _ _ h => h) (Or.inl ⟨by rfl, ?_⟩) (by assumption) ?_
            rotate_left
            · (intro w hSw; (try dsimp only at hSw); go_simp <;> with_reducible rfl)
            try simp only [Act.put, List.setIfInBounds_toArray, List.set_cons_zero, List.set_cons_succ]
            refine take_lit (i := 1) (v := ?_) rfl (by kernel_rfl) (by kernel_rfl) (by kernel_rfl) (fun _ _ _ h => h) (Or.inl ⟨by rfl, ?_⟩) (by assumption) ?_
            rotate_left
            · (intro w hSw; (try dsimp only at hSw); go_simp <;> with_reducible rfl)
            try simp only [Act.put, List.setIfInBounds_toArray, List.set_cons_zero, List.set_cons_succ]
            refine take_lit (i := 2) (v := ?_) rfl (by kernel_rfl) (by kernel_rfl) (by kernel_rfl) (fun _ _ _ h => h) (Or.inl ⟨by rfl, ?_⟩) (by assumption) ?_
            rotate_left
            · (intro w hSw; (try dsimp only at hSw); go_simp <;> with_reducible rfl)
            try simp only [Act.put, List.setIfInBounds_toArray, List.set_cons_zero, List.set_cons_succ]
            refine take_lit (i := 3) (v := ?_) rfl (by kernel_rfl) (by kernel_rfl) (by kernel_rfl) (fun _ _ _ h => h) (Or.inl ⟨by rfl, ?_⟩) (by assumption) ?_
            rotate_left
            · (intro w hSw; (try dsimp only at hSw); go_simp <;> with_reducible rfl)
            try simp only [Act.put, List.setIfInBounds_toArray, List.set_cons_zero, List.set_cons_succ]
            refine take_lit (i := 4) rfl (by kernel_rfl) (by kernel_rfl) (by kernel_rfl) (fun _ _ _ h => h) (yQ a.p (fun w h => (hq.below h hg).p) (by rfl) rfl rfl) (by assumption) ?_
            try simp only [Act.put, List.setIfInBounds_toArray, List.set_cons_zero, List.set_cons_succ]
            refine take_lit (i := 5) rfl (by kernel_rfl) (by kernel_rfl) (by kernel_rfl) (fun _ _ _ h => h) (yQ p (fun w h => (hp2.below h hpl)) (by rfl) rfl rfl) (by assumption) ?_
            try simp only [Act.put, List.setIfInBounds_toArray, List.set_cons_zero, List.set_cons_succ]
            refine take_lit (i := 6) (v := ?_) rfl (by kernel_rfl) (by kernel_rfl) (by kernel_rfl) (fun _ _ _ h => h) (Or.inl ⟨by rfl, ?_⟩) (by assumption) ?_
            rotate_left
            · (intro w hSw; (try dsimp only at hSw); have z := hEQ w; have z2 := fun op x y => gEQ op x y w; go_simp <;> with_reducible rfl)
            try simp only [Act.put, List.setIfInBounds_toArray, List.set_cons_zero, List.set_cons_succ]
            refine take_lit (i := 7) (v := ?_) rfl (by kernel_rfl) (by kernel_rfl) (by kernel_rfl) (fun _ _ _ h => h) (Or.inl ⟨by rfl, ?_⟩) (by assumption) ?_
            rotate_left
            · (intro w hSw; (try dsimp only at hSw); go_simp <;> with_reducible rfl)
            try simp only [Act.put, List.setIfInBounds_toArray, List.set_cons_zero, List.set_cons_succ]
            refine take_lit (i := 8) (v := ?_) rfl (by kernel_rfl) (by kernel_rfl) (by kernel_rfl) (fun _ _ _ h => h) (Or.inl ⟨by rfl, ?_⟩) (by assumption) ?_
            rotate_left
            · (intro w hSw; (try dsimp only at hSw); go_simp <;> with_reducible rfl)
            try simp only [Act.put, List.setIfInBounds_toArray, List.set_cons_zero, List.set_cons_succ]
            refine take_lit (i := 9) (v := ?_) rfl (by kernel_rfl) (by kernel_rfl) (by kernel_rfl) (fun _ _ _ h => h) (Or.inl ⟨by rfl, ?_⟩) (by assumption) ?_
            rotate_left
            · (intro w hSw; (try dsimp only at hSw); go_simp <;> with_reducible rfl)
            try simp only [Act.put, List.setIfInBounds_toArray, List.set_cons_zero, List.set_cons_succ]
            refine take_lit (i := 10) (v := ?_) rfl (by kernel_rfl) (by kernel_rfl) (by kernel_rfl) (fun _ _ _ h => h) (Or.inl ⟨by rfl, ?_⟩) (by assumption) ?_
            rotate_left
            · (intro w hSw; (try dsimp only at hSw); go_simp <;> with_reducible rfl)
            try simp only [Act.put, List.setIfInBounds_toArray, List.set_cons_zero, List.set_cons_succ]
            refine take_lit (i := 11) (v := ?_) rfl (by kernel_rfl) (by kernel_rfl) (by kernel_rfl) (fun _ _ _ h => h) (Or.inl ⟨by rfl, ?_⟩) (by assumption) ?_
            rotate_left
            · (intro w hSw; (try dsimp only at hSw); go_simp <;> with_reducible rfl)
            try simp only [Act.put, List.setIfInBounds_toArray, List.set_cons_zero, List.set_cons_succ]
            refine take_lit (i := 12) rfl (by kernel_rfl) (by kernel_rfl) (by kernel_rfl) (fun _ _ _ h => h) (yI a.i (fun w h => (hq.below h hg).i) (by rfl) rfl rfl) (by assumption) ?_
            try simp only [Act.put, List.setIfInBounds_toArray, List.set_cons_zero, List.set_cons_succ]
            refine take_lit (i := 13) rfl (by kernel_rfl) (by kernel_rfl) (by kernel_rfl) (fun _ _ _ h => h) (yI i (fun w h => (hi2.below h hil)) (by rfl) rfl rfl) (by assumption) ?_
            try simp only [Act.put, List.setIfInBounds_toArray, List.set_cons_zero, List.set_cons_succ]
            refine take_lit (i := 14) (v := ?_) rfl (by kernel_rfl) (by kernel_rfl) (by kernel_rfl) (fun _ _ _ h => h) (Or.inl ⟨by rfl, ?_⟩) (by assumption) ?_
            rotate_left
            · (intro w hSw; (try dsimp only at hSw); have z := hEI w; have z2 := fun op x y => gEI op x y w; go_simp <;> with_reducible rfl)
            try simp only [Act.put, List.setIfInBounds_toArray, List.set_cons_zero, List.set_cons_succ]
            refine take_lit (i := 15) (v := ?_) rfl (by kernel_rfl) (by kernel_rfl) (by kernel_rfl) (fun _ _ _ h => h) (Or.inl ⟨by rfl, ?_⟩) (by assumption) ?_
            rotate_left
            · (intro w hSw; (try dsimp only at hSw); go_simp <;> with_reducible rfl)
            try simp only [Act.put, List.setIfInBounds_toArray, List.set_cons_zero, List.set_cons_succ]
            refine wpAnyH_done (by kernel_rfl) ?_ _
            refine NoPanic.normal ?_
            refine name_world (R := fun W => Exit.then _ _ _ _ W) (P := fun W => Below w2.heap.size w2 W) _ hHeld ?_
            clear hHeld
            intro W5 hHeld
            have tb5 := tb2.below hHeld
            have ub5 := ub2.below hHeld
            have b5 := bt b2 hHeld
            have hq5 := hq.below hHeld hg
            have hg5 : g < W5.heap.size := Nat.lt_of_lt_of_le hg hHeld.size
            have hp5 := hp2.below hHeld hpl
            have hi5 := hi2.below hHeld hil
            have hpl5 : w.heap.size < W5.heap.size := Nat.lt_of_lt_of_le hpl hHeld.size
            have hil5 : w.heap.size + 1 < W5.heap.size := Nat.lt_of_lt_of_le hil hHeld.size
            clear hHeld tb2 ub2 b2 hEQ hEI gEQ gEI hq hp2 hi2 hg hpl hil
            cases b2' with
            | false =>
              have hy2 := HN2 (by rw [HKA.out]; rfl)
              subst hy2
              clear HKu
              go_wp2_with fail
              go_roundw
              case rel => exact ⟨j + 1, x2, y2, HJ.out, by first | rfl | go_num, by first | rfl | exact congrArg (Value.int .i64) hw2, HI2.out.1, HI2.out.2, tb5, ub5, b5⟩
              case measure => first | (rw [hw64]; simp only [intOf]; exact HM.out) | (simp only [intOf]; exact HM.out)
            | true =>
              have hKeU := fun W (hW : Below W5.heap.size W5 W) => HKu (by rw [HKA.out]; rfl) W (tb5.below hW) (ub5.below hW) (bt b5 hW)
              clear HKu HN2
              go_upto_region 14 with fail
              refine wp_region_noPanic ?_
              refine wp_region_N (S := fun W => Below W5.heap.size W5 W) 9 (by kernel_rfl) ((Below.refl _ _).drew) (fun hHeld => ?_)
              refine takeN_lit (i := 0) (v := ?_) (F := #[false, true, true, true, true, true, true, true, true, false]) rfl (by kernel_rfl) (by kernel_rfl) (by kernel_rfl) (by kernel_rfl) (fun _ _ _ h => h) (Or.inl ⟨by rfl, ?_⟩) (by assumption) ?_
              rotate_left
              · (intro w hSw; (try dsimp only at hSw); go_simp <;> with_reducible rfl)
              try simp only [Act.put, List.setIfInBounds_toArray, List.set_cons_zero, List.set_cons_succ]
              refine takeN_lit (i := 1) (v := ?_) (F := #[true, false, true, true, true, true, true, true, true, false]) rfl (by kernel_rfl) (by kernel_rfl) (by kernel_rfl) (by kernel_rfl) (fun _ _ _ h => h) (Or.inl ⟨by rfl, ?_⟩) (by assumption) ?_
              rotate_left
              · (intro w hSw; (try dsimp only at hSw); go_simp <;> with_reducible rfl)
              try simp only [Act.put, List.setIfInBounds_toArray, List.set_cons_zero, List.set_cons_succ]
              refine takeN_lit (i := 2) (F := #[true, true, false, true, true, true, true, true, true, false]) rfl (by kernel_rfl) (by kernel_rfl) (by kernel_rfl) (by kernel_rfl) (fun _ _ _ h => h) (yQ p (fun w h => (hp5.below h hpl5)) (by rfl) rfl rfl) (by assumption) ?_
              try simp only [Act.put, List.setIfInBounds_toArray, List.set_cons_zero, List.set_cons_succ]
              refine takeN_lit (i := 3) (F := #[true, true, true, false, true, true, true, true, true, false]) rfl (by kernel_rfl) (by kernel_rfl) (by kernel_rfl) (by kernel_rfl) (fun _ _ _ h => h) (yI i (fun w h => (hi5.below h hil5)) (by rfl) rfl rfl) (by assumption) ?_
              try simp only [Act.put, List.setIfInBounds_toArray, List.set_cons_zero, List.set_cons_succ]
              refine takeN_lit (i := 4) (v := ?_) (F := #[true, true, true, true, false, true, false, false, false, false]) rfl (by kernel_rfl) (by kernel_rfl) (by kernel_rfl) (by kernel_rfl) (fun _ _ _ h => h) (Or.inl ⟨by rfl, ?_⟩) (by assumption) ?_
              rotate_left
              · (intro w hSw; (try dsimp only at hSw); go_simp <;> with_reducible rfl)
              try simp only [Act.put, List.setIfInBounds_toArray, List.set_cons_zero, List.set_cons_succ]
              refine takeN_lit (i := 5) (v := ?_) (F := #[true, true, true, true, true, false, false, false, false, false]) rfl (by kernel_rfl) (by kernel_rfl) (by kernel_rfl) (by kernel_rfl) (fun _ _ _ h => h) (Or.inl ⟨by rfl, ?_⟩) (by assumption) ?_
              rotate_left
              · (intro w hSw; (try dsimp only at hSw); go_simp <;> with_reducible rfl)
              try simp only [Act.put, List.setIfInBounds_toArray, List.set_cons_zero, List.set_cons_succ]
              refine takeN_lit (i := 6) (v := ?_) (F := #[true, true, true, true, true, true, false, false, false, false]) rfl (by kernel_rfl) (by kernel_rfl) (by kernel_rfl) (by kernel_rfl) (fun _ _ _ h => h) (Or.inl ⟨by rfl, ?_⟩) (by assumption) ?_
              rotate_left
              · (intro w hSw; (try dsimp only at hSw); go_simp <;> with_reducible rfl)
              try simp only [Act.put, List.setIfInBounds_toArray, List.set_cons_zero, List.set_cons_succ]
              refine takeN_lit (i := 7) (v := ?_) (F := #[true, true, true, true, true, true, true, false, false, false]) rfl (by kernel_rfl) (by kernel_rfl) (by kernel_rfl) (by kernel_rfl) (fun _ _ _ h => h) (Or.inl ⟨by rfl, ?_⟩) (by assumption) ?_
              rotate_left
              · (intro w hSw; (try dsimp only at hSw); go_simp <;> with_reducible rfl)
              try simp only [Act.put, List.setIfInBounds_toArray, List.set_cons_zero, List.set_cons_succ]
              refine takeN_lit (i := 8) (F := #[true, true, true, true, true, true, true, true, false, false]) rfl (by kernel_rfl) (by kernel_rfl) (by kernel_rfl) (by kernel_rfl) (fun _ _ _ h => h) (Sn.yD a.s a.m (fun w h => (hq5.below h hg5).d) (by rfl) rfl rfl) (by assumption) ?_
              try simp only [Act.put, List.setIfInBounds_toArray, List.set_cons_zero, List.set_cons_succ]
              refine wpAnyN_ready (rs := [9]) (by kernel_rfl) (by simp) ?_
              refine consN_lit rfl (fun K hK => ?_) ?_
              · go_simp
                refine (hKeU _ hHeld).mono ?_
                rintro e w7 ⟨z7, rfl, tb7, ub7, b7⟩
                refine hK.out _ _ (Or.inl rfl) (fun _ => ?_)
                clear hK K
                try simp only [Act.put, List.setIfInBounds_toArray, List.set_cons_zero, List.set_cons_succ]
                refine wpAnyN_done (by kernel_rfl) ?_ _
                refine NoPanic.normal ?_
                clear hHeld hKeU tb5 ub5 b5 hq5 hp5 hi5
                go_wp2_with fail
                go_roundw
                case rel => exact ⟨j + 1, x2, y2, HJ.out, by first | rfl | go_num, by first | rfl | exact congrArg (Value.int .i64) hw2, HI2.out.1, HI2.out.2, tb7, ub7, b7⟩
                case measure => first | (rw [hw64]; simp only [intOf]; exact HM.out) | (simp only [intOf]; exact HM.out)
              exact AllReadyN.nil
        exact AllReadyN.nil
      · have hk' : (a.k == 0) = false := by simpa using hk
        obtain ⟨e1, e2⟩ := HN1.out hk
        clear hk HKt HKu HN1 HN2
        go_wp2_with fail
        go_roundw
        case rel => exact ⟨j + 1, x2, y2, HJ.out, by first | rfl | go_num, by first | rfl | exact congrArg (Value.int .i64) hw2, HI2.out.1, HI2.out.2, by rw [e1]; exact tb, by rw [e2]; exact ub, bX⟩
        case measure => first | (rw [hw64]; simp only [intOf]; exact HM.out) | (simp only [intOf]; exact HM.out)
    · have hjl : j = l.length := by omega
      subst hjl
      have hlen : (y.length : Int) ≤ 1 := by have := one_key ub.map.nd hA.key; omega
      have hGt := fun W (hW : Below wr.heap.size wr W) => get_any (tb.below hW) p i hp
      have hGu := fun W (hW : Below wr.heap.size wr W) => get_any (ub.below hW) p i hp
      have hFt := fun W (hW : Below wr.heap.size wr W) => feas_any (tb.below hW) p i s m hp
      have hFu := fun W (hW : Below wr.heap.size wr W) => feas_any (ub.below hW) p i s m hp
      have hLs := fun W (hW : Below wr.heap.size wr W) => list_len (ub.below hW)
      rw [hA.same] at hGt hFt
      rw [show getV (getN y p i) = .tuple #[sV ((getN y p i).getD zeroS), .bool (getN y p i).isSome] from rfl] at hGt hGu
      generalize (getN y p i).getD zeroS = sr at *
      generalize (getN y p i).isSome = th at *
      generalize feaO (getN y p i) s m = fe at *
      generalize y.length = N at *
      have hEq : ∀ W, (binOp .eql 53 (sV sr) (sV sr)).run Try.prog W = .ok (.bool true) W := fun W => by rw [run_eqlS, eqSr_self]
      have gEq := fun op a b W => guardS op a b sr sr W
      clear hI hA hok hf hl2 hlX tb ub hj hlt
      have bW := Below.refl wr.heap.size wr
      go_upto_region 17 with (first
        | (have kk := r8; refine stS (.tmp 15) (.tmp 104) rfl rfl g8 sr _ rfl rfl r8 ?_; intro W9 g9 r9; have k9 := grown_below g9 hB8 hge8 hB8.size; replace bW := bt bW k9; replace r5 := r5.below k9 r5.lt; clear r8)
        | (have kk := q7; refine alG infoSz rfl rfl ?_; intro g8 W8 hge8 hgl8 hB8 r8)
        | (have kk := r5; go_at_call 19; refine (hGu _ bW).mono ?_; rintro e w7 ⟨rfl, k7⟩; replace bW := bt bW k7; replace r5 := r5.below k7 r5.lt; have q7 := k7)
        | (have kk := r4; refine stS (.tmp 13) (.tmp 97) rfl rfl g4 sr _ rfl rfl r4 ?_; intro W5 g5 r5; replace bW := bt bW (grown_below g5 hB4 hge4 hB4.size); clear r4)
        | (have kk := q3; refine alG infoSz rfl rfl ?_; intro g4 W4 hge4 hgl4 hB4 r4)
        | (go_at_call 19; refine (hGt _ bW).mono ?_; rintro e w3 ⟨rfl, k3⟩; replace bW := bt bW k3; have q3 := k3)
        | (refine ldI (.tmp 6) rfl rfl _ _ i rfl (HI.out _ (bt bX bW)) ?_)
        | (refine ldQ (.tmp 5) rfl rfl _ _ p rfl (HQ.out _ (bt bX bW)) ?_))
      have hs5 := r5.lt
      have hs9 := r9.lt
      have HQ9 : Hid (∀ W, Below W9.heap.size W9 W → LQ W w.heap.size 0 p ∧ LI W (w.heap.size + 1) 0 i ∧ Sn.LD W (w.heap.size + 2) 0 s m) := fun W h => ⟨HQ.out _ (bt bX (bt bW h)), HI.out _ (bt bX (bt bW h)), HD.out _ (bt bX (bt bW h))⟩
      have hth : (th == th) = true := by simp
      have hfe : (fe == fe) = true := by simp
      refine wp_region_noPanic ?_
      refine wp_region_held_drew (S := fun W => Below W9.heap.size W9 W) (by kernel_rfl) ((Below.refl _ _).drew) (fun hHeld => ?_)
      refine take_lit (i := 0) rfl (by kernel_rfl) (by kernel_rfl) (by kernel_rfl) (fun _ _ _ h => h) (yS sr (fun w h => (r5.below h hs5).sr) (by rfl) rfl rfl) (by assumption) ?_
      try simp only [Act.put, List.setIfInBounds_toArray, List.set_cons_zero, List.set_cons_succ]
      refine take_lit (i := 1) rfl (by kernel_rfl) (by kernel_rfl) (by kernel_rfl) (fun _ _ _ h => h) (yS sr (fun w h => (r9.below h hs9).sr) (by rfl) rfl rfl) (by assumption) ?_
      try simp only [Act.put, List.setIfInBounds_toArray, List.set_cons_zero, List.set_cons_succ]
      refine take_lit (i := 2) (v := ?_) rfl (by kernel_rfl) (by kernel_rfl) (by kernel_rfl) (fun _ _ _ h => h) (Or.inl ⟨by rfl, ?_⟩) (by assumption) ?_
      rotate_left
      · (intro w hSw; (try dsimp only at hSw); have z := hEq w; have z2 := fun op x y => gEq op x y w; go_simp <;> with_reducible rfl)
      try simp only [Act.put, List.setIfInBounds_toArray, List.set_cons_zero, List.set_cons_succ]
      refine take_lit (i := 3) (v := ?_) rfl (by kernel_rfl) (by kernel_rfl) (by kernel_rfl) (fun _ _ _ h => h) (Or.inl ⟨by rfl, ?_⟩) (by assumption) ?_
      rotate_left
      · (intro w hSw; (try dsimp only at hSw); go_simp <;> with_reducible rfl)
      try simp only [Act.put, List.setIfInBounds_toArray, List.set_cons_zero, List.set_cons_succ]
      refine take_lit (i := 4) (v := ?_) rfl (by kernel_rfl) (by kernel_rfl) (by kernel_rfl) (fun _ _ _ h => h) (Or.inl ⟨by rfl, ?_⟩) (by assumption) ?_
      rotate_left
      · (intro w hSw; (try dsimp only at hSw); go_simp <;> with_reducible rfl)
      try simp only [Act.put, List.setIfInBounds_toArray, List.set_cons_zero, List.set_cons_succ]
      refine take_lit (i := 5) (v := ?_) rfl (by kernel_rfl) (by kernel_rfl) (by kernel_rfl) (fun _ _ _ h => h) (Or.inl ⟨by rfl, ?_⟩) (by assumption) ?_
      rotate_left
      · (intro w hSw; (try dsimp only at hSw); go_simp <;> with_reducible rfl)
      try simp only [Act.put, List.setIfInBounds_toArray, List.set_cons_zero, List.set_cons_succ]
      refine take_lit (i := 6) (v := ?_) rfl (by kernel_rfl) (by kernel_rfl) (by kernel_rfl) (fun _ _ _ h => h) (Or.inl ⟨by rfl, ?_⟩) (by assumption) ?_
      rotate_left
      · (intro w hSw; (try dsimp only at hSw); go_simp <;> with_reducible rfl)
      try simp only [Act.put, List.setIfInBounds_toArray, List.set_cons_zero, List.set_cons_succ]
      refine take_lit (i := 7) (v := ?_) rfl (by kernel_rfl) (by kernel_rfl) (by kernel_rfl) (fun _ _ _ h => h) (Or.inl ⟨by rfl, ?_⟩) (by assumption) ?_
      rotate_left
      · (intro w hSw; (try dsimp only at hSw); go_simp <;> with_reducible rfl)
      try simp only [Act.put, List.setIfInBounds_toArray, List.set_cons_zero, List.set_cons_succ]
      refine take_lit (i := 8) (v := ?_) rfl (by kernel_rfl) (by kernel_rfl) (by kernel_rfl) (fun _ _ _ h => h) (Or.inl ⟨by rfl, ?_⟩) (by assumption) ?_
      rotate_left
      · (intro w hSw; (try dsimp only at hSw); go_simp <;> with_reducible rfl)
      try simp only [Act.put, List.setIfInBounds_toArray, List.set_cons_zero, List.set_cons_succ]
      refine take_lit (i := 9) (v := ?_) rfl (by kernel_rfl) (by kernel_rfl) (by kernel_rfl) (fun _ _ _ h => h) (Or.inl ⟨by rfl, ?_⟩) (by assumption) ?_
      rotate_left
      · (intro w hSw; (try dsimp only at hSw); go_simp <;> with_reducible rfl)
      try simp only [Act.put, List.setIfInBounds_toArray, List.set_cons_zero, List.set_cons_succ]
      refine take_lit (i := 10) rfl (by kernel_rfl) (by kernel_rfl) (by kernel_rfl) (fun _ _ _ h => h) (yQ p (fun w h => (HQ9.out _ h).1) (by rfl) rfl rfl) (by assumption) ?_
      try simp only [Act.put, List.setIfInBounds_toArray, List.set_cons_zero, List.set_cons_succ]
      refine take_lit (i := 11) rfl (by kernel_rfl) (by kernel_rfl) (by kernel_rfl) (fun _ _ _ h => h) (yI i (fun w h => (HQ9.out _ h).2.1) (by rfl) rfl rfl) (by assumption) ?_
      try simp only [Act.put, List.setIfInBounds_toArray, List.set_cons_zero, List.set_cons_succ]
      refine take_lit (i := 12) rfl (by kernel_rfl) (by kernel_rfl) (by kernel_rfl) (fun _ _ _ h => h) (Sn.yD s m (fun w h => (HQ9.out _ h).2.2) (by rfl) rfl rfl) (by assumption) ?_
      try simp only [Act.put, List.setIfInBounds_toArray, List.set_cons_zero, List.set_cons_succ]
      refine take_lit (i := 14) (v := ?_) rfl (by kernel_rfl) (by kernel_rfl) (by kernel_rfl) (fun _ _ _ h => h) (Or.inl ⟨by rfl, ?_⟩) (by assumption) ?_
      rotate_left
      · (intro w hSw; (try dsimp only at hSw); go_simp <;> with_reducible rfl)
      try simp only [Act.put, List.setIfInBounds_toArray, List.set_cons_zero, List.set_cons_succ]
      refine take_lit (i := 15) rfl (by kernel_rfl) (by kernel_rfl) (by kernel_rfl) (fun _ _ _ h => h) (yQ p (fun w h => (HQ9.out _ h).1) (by rfl) rfl rfl) (by assumption) ?_
      try simp only [Act.put, List.setIfInBounds_toArray, List.set_cons_zero, List.set_cons_succ]
      refine take_lit (i := 16) rfl (by kernel_rfl) (by kernel_rfl) (by kernel_rfl) (fun _ _ _ h => h) (yI i (fun w h => (HQ9.out _ h).2.1) (by rfl) rfl rfl) (by assumption) ?_
      try simp only [Act.put, List.setIfInBounds_toArray, List.set_cons_zero, List.set_cons_succ]
      refine take_lit (i := 17) rfl (by kernel_rfl) (by kernel_rfl) (by kernel_rfl) (fun _ _ _ h => h) (Sn.yD s m (fun w h => (HQ9.out _ h).2.2) (by rfl) rfl rfl) (by assumption) ?_
      try simp only [Act.put, List.setIfInBounds_toArray, List.set_cons_zero, List.set_cons_succ]
      refine wpAnyH_ready (rs := [13]) (by kernel_rfl) (by simp) ?_
      refine cons_lit rfl (fun K hK => ?_) ?_
      · go_simp
        refine (hFt _ (bt bW hHeld)).mono ?_
        rintro e wa ⟨rfl, ka⟩
        refine hK.out _ _ ?_ (fun hHeld => ?_)
        · exact bt hHeld ka
        clear hK K
        try simp only [Act.put, List.setIfInBounds_toArray, List.set_cons_zero, List.set_cons_succ]
        refine wpAnyH_ready (rs := [18]) (by kernel_rfl) (by simp) ?_
        refine cons_lit rfl (fun K hK => ?_) ?_
        · go_simp
          refine (hFu _ (bt bW hHeld)).mono ?_
          rintro e wb ⟨rfl, kb⟩
          refine hK.out _ _ ?_ (fun hHeld => ?_)
          · exact bt hHeld kb
          clear hK K
          try simp only [Act.put, List.setIfInBounds_toArray, List.set_cons_zero, List.set_cons_succ]
          refine take_lit (i := 19) (v := ?_) rfl (by kernel_rfl) (by kernel_rfl) (by kernel_rfl) (fun _ _ _ h => h) (Or.inl ⟨by rfl, ?_⟩) (by assumption) ?_
          rotate_left
          · (intro w hSw; (try dsimp only at hSw); go_simp <;> with_reducible rfl)
          try simp only [Act.put, List.setIfInBounds_toArray, List.set_cons_zero, List.set_cons_succ]
          refine take_lit (i := 20) (v := ?_) rfl (by kernel_rfl) (by kernel_rfl) (by kernel_rfl) (fun _ _ _ h => h) (Or.inl ⟨by rfl, ?_⟩) (by assumption) ?_
          rotate_left
          · (intro w hSw; (try dsimp only at hSw); go_simp <;> with_reducible rfl)
          try simp only [Act.put, List.setIfInBounds_toArray, List.set_cons_zero, List.set_cons_succ]
          refine take_lit (i := 21) (v := ?_) rfl (by kernel_rfl) (by kernel_rfl) (by kernel_rfl) (fun _ _ _ h => h) (Or.inl ⟨by rfl, ?_⟩) (by assumption) ?_
          rotate_left
          · (intro w hSw; (try dsimp only at hSw); go_simp <;> with_reducible rfl)
          try simp only [Act.put, List.setIfInBounds_toArray, List.set_cons_zero, List.set_cons_succ]
          refine take_lit (i := 22) (v := ?_) rfl (by kernel_rfl) (by kernel_rfl) (by kernel_rfl) (fun _ _ _ h => h) (Or.inl ⟨by rfl, ?_⟩) (by assumption) ?_
          rotate_left
          · (intro w hSw; (try dsimp only at hSw); go_simp <;> with_reducible rfl)
          try simp only [Act.put, List.setIfInBounds_toArray, List.set_cons_zero, List.set_cons_succ]
          refine wpAnyH_ready (rs := [23]) (by kernel_rfl) (by simp) ?_
          refine cons_lit rfl (fun K hK => ?_) ?_
          · go_simp
            refine (hLs _ (bt bW hHeld)).mono ?_
            rintro e wc ⟨ac, cc, rfl, kc⟩
            refine hK.out _ _ ?_ (fun hHeld => ?_)
            · exact bt hHeld kc
            clear hK K
            try simp only [Act.put, List.setIfInBounds_toArray, List.set_cons_zero, List.set_cons_succ]
            refine take_lit (i := 24) (v := ?_) rfl (by kernel_rfl) (by kernel_rfl) (by kernel_rfl) (fun _ _ _ h => h) (Or.inl ⟨by rfl, ?_⟩) (by assumption) ?_
            rotate_left
            · (intro w hSw; (try dsimp only at hSw); go_simp <;> with_reducible rfl)
            try simp only [Act.put, List.setIfInBounds_toArray, List.set_cons_zero, List.set_cons_succ]
            refine take_lit (i := 25) (v := ?_) rfl (by kernel_rfl) (by kernel_rfl) (by kernel_rfl) (fun _ _ _ h => h) (Or.inl ⟨by rfl, ?_⟩) (by assumption) ?_
            rotate_left
            · (intro w hSw; (try dsimp only at hSw); go_simp <;> with_reducible rfl)
            try simp only [Act.put, List.setIfInBounds_toArray, List.set_cons_zero, List.set_cons_succ]
            refine take_lit (i := 26) (v := ?_) rfl (by kernel_rfl) (by kernel_rfl) (by kernel_rfl) (fun _ _ _ h => h) (Or.inl ⟨by rfl, ?_⟩) (by assumption) ?_
            rotate_left
            · (intro w hSw; (try dsimp only at hSw); go_simp <;> with_reducible rfl)
            try simp only [Act.put, List.setIfInBounds_toArray, List.set_cons_zero, List.set_cons_succ]
            refine take_lit (i := 27) (v := ?_) rfl (by kernel_rfl) (by kernel_rfl) (by kernel_rfl) (fun _ _ _ h => h) (Or.inl ⟨by rfl, ?_⟩) (by assumption) ?_
            rotate_left
            · (intro w hSw; (try dsimp only at hSw); go_simp <;> with_reducible rfl)
            try simp only [Act.put, List.setIfInBounds_toArray, List.set_cons_zero, List.set_cons_succ]
            refine wpAnyH_ready (rs := [28]) (by kernel_rfl) (by simp) ?_
            refine cons_lit rfl (fun K hK => ?_) ?_
            · go_simp
              refine (live_any _).mono ?_
              rintro e wd ⟨rfl, kd⟩
              refine hK.out _ _ ?_ (fun hHeld => ?_)
              · exact bt hHeld kd
              clear hK K
              try simp only [Act.put, List.setIfInBounds_toArray, List.set_cons_zero, List.set_cons_succ]
              refine take_lit (i := 29) (v := ?_) rfl (by kernel_rfl) (by kernel_rfl) (by kernel_rfl) (fun _ _ _ h => h) (Or.inl ⟨by rfl, ?_⟩) (by assumption) ?_
              rotate_left
              · (intro w hSw; (try dsimp only at hSw); go_simp <;> with_reducible rfl)
              try simp only [Act.put, List.setIfInBounds_toArray, List.set_cons_zero, List.set_cons_succ]
              refine take_lit (i := 30) (v := ?_) rfl (by kernel_rfl) (by kernel_rfl) (by kernel_rfl) (fun _ _ _ h => h) (Or.inl ⟨by rfl, ?_⟩) (by assumption) ?_
              rotate_left
              · (intro w hSw; (try dsimp only at hSw); go_simp <;> with_reducible rfl)
              try simp only [Act.put, List.setIfInBounds_toArray, List.set_cons_zero, List.set_cons_succ]
              refine wpAnyH_done (by kernel_rfl) ?_ _
              refine NoPanic.normal ?_
              go_wp2_with fail
              go_ret
              exact ⟨by first | rfl | simp, HB.out _ (bt bX (bt bW hHeld))⟩
            exact AllReadyH.nil
          exact AllReadyH.nil
        exact AllReadyH.nil
      exact AllReadyH.nil
end Go.Proofs.Ytdcbnibgckdkbaa
