/-
  The walk of SourceForgets.
-/
import Derived.Test.YtdcbnibgckdkbaaV10
import Derived.Test.YtdcbnibgckdkbaaArgs
namespace Go.Proofs.Ytdcbnibgckdkbaa
open Go.RowKit Go.Maps Go.Shelf
set_option linter.unusedSimpArgs false
set_option linter.unusedVariables false
set_option maxRecDepth 20000
theorem keepR_mem {most : Int} {L : List Sr} {now : Int} {p : Pr} {i : Id8} {s m : Int} {x : Sr} (h : x ∈ (keepR most L now p i s m).2) : x ∈ L ∨ x = keepS (getN L p i) now p i s m := by
  unfold keepR at h
  split at h
  · exact .inl h
  · split at h
    · exact .inl h
    · rcases mem_putN.1 h with h | ⟨h, _⟩
      · exact .inr h
      · exact .inl h
theorem keepR_len {most : Int} {L : List Sr} {now : Int} {p : Pr} {i : Id8} {s m : Int} : (keepR most L now p i s m).2.length ≤ L.length + 1 := by
  unfold keepR
  split
  · show L.length ≤ _; omega
  · split
    · show L.length ≤ _; omega
    · exact putN_le
/-- The time and what is kept behind some acts. -/
def fgS (x : Int × List Sr) (a : Ac) : Int × List Sr := (x.1 + a.g, if a.k = 0 then (keepR 200 x.2 (x.1 + a.g) a.p a.i a.s a.m).2 else x.2)
def fgR (l : List Ac) : Int × List Sr := l.foldl fgS (0, [])
structure FgI (j : Nat) (x : Int × List Sr) : Prop where
  t0 : 0 ≤ x.1
  t1 : x.1 ≤ j * 1073741824
  ll : x.2.length ≤ j
  at_ : ∀ n ∈ x.2, n.t ≤ x.1
theorem FgI.step {j : Nat} {x : Int × List Sr} {a : Ac} (h : FgI j x) (ha : AcOk a) : FgI (j + 1) (fgS x a) := by
  obtain ⟨a0, a1⟩ := ha
  have t0 := h.t0
  have t1 := h.t1
  refine ⟨?_, ?_, ?_, ?_⟩
  · show 0 ≤ x.1 + a.g; omega
  · show x.1 + a.g ≤ _; omega
  · show (if a.k = 0 then (keepR 200 x.2 (x.1 + a.g) a.p a.i a.s a.m).2 else x.2).length ≤ j + 1
    have := h.ll
    split
    · have := keepR_len (most := 200) (L := x.2) (now := x.1 + a.g) (p := a.p) (i := a.i) (s := a.s) (m := a.m)
      omega
    · omega
  · intro n hn
    show n.t ≤ x.1 + a.g
    change n ∈ (if a.k = 0 then (keepR 200 x.2 (x.1 + a.g) a.p a.i a.s a.m).2 else x.2) at hn
    split at hn
    · rcases keepR_mem hn with h1 | h1
      · have := h.at_ n h1; omega
      · rw [h1]; exact Int.le_refl _
    · have := h.at_ n hn; omega
theorem fgR_take {l : List Ac} {j : Nat} (hj : j < l.length) : fgR (l.take (j + 1)) = fgS (fgR (l.take j)) l[j] := by
  unfold fgR
  rw [List.take_succ_eq_append_getElem hj, List.foldl_append]
  rfl
theorem fgR_ok {l : List Ac} (h : ∀ x ∈ l, AcOk x) : ∀ j, j ≤ l.length → FgI j (fgR (l.take j))
  | 0, _ => ⟨by simp [fgR], by simp [fgR], by simp [fgR], by simp [fgR]⟩
  | j + 1, hj => by
    rw [fgR_take (by omega)]
    exact (fgR_ok h j (by omega)).step (h _ (List.getElem_mem _))
theorem filter_all {L : List Sr} {now : Int} (h : ∀ n ∈ L, n.t ≤ now) : (L.filter (overB (now + 180000))).length = L.length ∧ L.filter (fun n => !overB (now + 180000) n) = [] := by
  constructor
  · rw [List.filter_eq_self.2]
    intro n hn
    have := h n hn
    exact decide_eq_true (by omega)
  · rw [List.filter_eq_nil_iff]
    intro n hn
    have := h n hn
    have h2 : overB (now + 180000) n = true := decide_eq_true (by omega)
    simp [h2]
theorem next_none {w : World} {t mb : Nat} {most : Int} (h : Tb w t mb most []) : Calls Try.prog 21 #[.pointer (some ⟨t, 0, none⟩)] w (Gives w (.tuple #[.int .i64 0, .bool false])) := by
  refine (next_any h).mono ?_
  rintro e w' ⟨f, b, rfl, hN, hB⟩
  rcases hN with ⟨_, rfl, rfl⟩ | ⟨_, ⟨n, hn, _⟩, _⟩
  · exact ⟨rfl, hB⟩
  · cases hn
set_option maxHeartbeats 16000000 in
theorem forgets_walk (ad : Option Addr) (c : Nat) (l : List Ac) (p : Pr) (i : Id8) (s m : Int) (w : World) (hl : AsW w ad l) (hf : ∀ x ∈ l, AcFit x) (hn : l.length ≤ maxLen) (hp : wfQ p) :
    Calls Try.prog 6 #[.slice ad l.length c, (Value.agg (qcells p).toArray), idV i, dV s m] w (Gives w (.bool true)) := by
  obtain ⟨hB, r0, r1, r2⟩ := low_rows3 w (qcells p) (icells i) (dcs s m) 36 38 41
  go_enter Try.func6, Try.ntmps6
  go_upto_region 1 with fail
  refine name_world (R := fun W => Code.wp _ _ _ _ W) (P := fun W => Below w.heap.size w W ∧ Row W w.heap.size 36 (qcells p) ∧ Row W (w.heap.size + 1) 38 (icells i) ∧ Row W (w.heap.size + 2) 41 (dcs s m)) _ ⟨hB, r0, r1, r2⟩ ?_
  clear hB r0 r1 r2
  rintro X ⟨hB, r0, r1, r2⟩
  have hlX := hl.below hB
  have HQ : Hid (∀ W, Below X.heap.size X W → LQ W w.heap.size 0 p) := fun W h => (r0.below h r0.lt).range
  have HI : Hid (∀ W, Below X.heap.size X W → LI W (w.heap.size + 1) 0 i) := fun W h => (r1.below h r1.lt).range
  have HD : Hid (∀ W, Below X.heap.size X W → Sn.LD W (w.heap.size + 2) 0 s m) := fun W h => (r2.below h r2.lt).range
  have HB : Hid (∀ W, Below X.heap.size X W → Below w.heap.size w W) := fun W h => bt hB h
  have hR := right_any ad c l X hlX hn
  have hNew := new_any 200 X
  clear r0 r1 r2 hl hB
  go_wp2_with (first
    | (have kk := hb; go_at_call 9; refine (live_any _).mono ?_; rintro e w9 ⟨rfl, k⟩)
    | (have kk := hb; go_at_call 10; refine hNew.mono ?_; rintro e w0 ⟨rfl, tb0, b0⟩)
    | (go_at_call 8; refine hR.mono ?_; rintro e w1 ⟨b, rfl, rfl, hb⟩; cases b))
  · go_ret
    exact ⟨rfl, HB.out _ k⟩
  obtain ⟨hl2, hok⟩ := hb trivial
  clear hR hNew hb hn
  have hl0 := hlX.below b0
  obtain ⟨mb, hmb⟩ : ∃ mb, X.heap.size = mb := ⟨_, rfl⟩
  obtain ⟨t, ht⟩ : ∃ t, X.heap.size + 1 = t := ⟨_, rfl⟩
  have HT : Hid (∀ (W W' : World) (L : List Sr), Below X.heap.size X W → Turn W W' t mb 200 L → Below X.heap.size X W') := fun W W' L h k => k.below h (by omega) h.size
  rw [ht, hmb] at tb0
  rw [ht]
  clear ht hmb hl0
  go_loopw [10, 11] (fun v u wr => ∃ j : Nat, j ≤ l.length ∧ u = .int .i64 j ∧ v = .int .i64 (fgR (l.take j)).1 ∧ Tb wr t mb 200 (fgR (l.take j)).2 ∧ Below X.heap.size X wr) (fun _ u _ => l.length - (intOf u).toNat)
  case atStart => exact ⟨0, Nat.zero_le _, rfl, rfl, tb0, b0⟩
  case round =>
    clear tb0 b0
    obtain ⟨j, hj, rfl, rfl, tb, bX⟩ := hrel
    have hI := fgR_ok hok j hj
    by_cases hlt : j < l.length
    · have hlr := hlX.below bX
      rcases hlr.lies with h0 | ⟨g, o, rfl, hg, hcs⟩
      · rw [h0] at hlt; simp at hlt
      have hq : LC wr g (o + j * 46) l[j] := hcs j l[j] (List.getElem?_eq_getElem hlt)
      have hI2 := fgR_ok hok (j + 1) hlt
      have ha := hf l[j] (List.getElem_mem hlt)
      have HS : Hid (fgR (l.take (j + 1)) = fgS (fgR (l.take j)) l[j]) := fgR_take hlt
      have hji : (j : Int) < (l.length : Int) := by omega
      have hw64 : wrap64 ((j : Int) + 1) = (j : Int) + 1 := by unfold wrap64; omega
      have HJ : Hid (j + 1 ≤ l.length) := hlt
      have HM : Hid (l.length - ((j : Int) + 1).toNat < l.length - ((j : Int)).toNat) := meas hlt
      have HF : Hid (fgS (fgR (l.take j)) l[j] = ((fgR (l.take j)).1 + l[j].g, if l[j].k = 0 then (keepR 200 (fgR (l.take j)).2 ((fgR (l.take j)).1 + l[j].g) l[j].p l[j].i l[j].s l[j].m).2 else (fgR (l.take j)).2)) := rfl
      have hG := hok l[j] (List.getElem_mem hlt)
      have hw2 : wrap64 ((fgR (l.take j)).1 + l[j].g) = (fgR (l.take j)).1 + l[j].g := by
        have := hI.t0; have := hI.t1; have := hG.1; have := hG.2
        unfold wrap64; omega
      have hKeep : ∀ W, Below wr.heap.size wr W → Calls Try.prog 12 #[.pointer (some ⟨t, 0, none⟩), .int .i64 ((fgR (l.take j)).1 + l[j].g), (Value.agg (qcells (l[j].p)).toArray), idV l[j].i, dV l[j].s l[j].m] W fun e w' => ∃ z, e = .returned (.int .i64 z) ∧ Tb w' t mb 200 (keepR 200 (fgR (l.take j)).2 ((fgR (l.take j)).1 + l[j].g) l[j].p l[j].i l[j].s l[j].m).2 ∧ Below X.heap.size X w' := fun W hW => by
        have := hI.t0; have := hI.t1; have := hG.1; have := hG.2; have := hI.ll
        refine (keep_any (tb.below hW) _ l[j].p l[j].i l[j].s l[j].m ha.q (by omega) (by omega) ha.s0 ha.s1 ha.m0 ha.m1 (by omega)).mono ?_
        rintro e w' ⟨rfl, hT⟩
        exact ⟨_, rfl, hT.tb, HT.out _ _ _ (bt bX hW) hT⟩
      have ck := hq.k
      have cg := hq.g
      clear hI2 hI hcs hlr hok hf hj hl2
      generalize l[j] = a at *
      clear hG ha
      have hqd := hq
      obtain ⟨x, hx⟩ : ∃ x, fgR (l.take j) = x := ⟨_, rfl⟩
      rw [hx] at HS HF hw2 hKeep tb ⊢
      clear hx
      by_cases hk : a.k = 0
      · have hk' : (a.k == 0) = true := by simpa using hk
        have HE : Hid (fgR (l.take (j + 1)) = (x.1 + a.g, (keepR 200 x.2 (x.1 + a.g) a.p a.i a.s a.m).2)) := by show _ = _; rw [HS.out, HF.out, if_pos hk]
        clear hk HS HF
        go_upto_region 12 with fail
        refine wp_region_noPanic ?_
        refine wp_region_N (S := fun W => Below wr.heap.size wr W) 17 (by kernel_rfl) ((Below.refl _ _).drew) (fun hHeld => ?_)
        refine takeN_lit (i := 0) (v := ?_) (F := #[false, true, true, true, true, true, true, true, true, true, true, true, true, true, true, true, true, false]) rfl (by kernel_rfl) (by kernel_rfl) (by kernel_rfl) (by kernel_rfl) (fun _ _ _ h => h) (Or.inl ⟨by rfl, ?_⟩) (by assumption) ?_
        rotate_left
        · (intro w hSw; (try dsimp only at hSw); go_simp <;> with_reducible rfl)
        try simp only [Act.put, List.setIfInBounds_toArray, List.set_cons_zero, List.set_cons_succ]
        refine takeN_lit (i := 1) (v := ?_) (F := #[true, false, true, true, true, true, true, true, true, true, true, true, true, true, true, true, true, false]) rfl (by kernel_rfl) (by kernel_rfl) (by kernel_rfl) (by kernel_rfl) (fun _ _ _ h => h) (Or.inl ⟨by rfl, ?_⟩) (by assumption) ?_
        rotate_left
        · (intro w hSw; (try dsimp only at hSw); go_simp <;> with_reducible rfl)
        try simp only [Act.put, List.setIfInBounds_toArray, List.set_cons_zero, List.set_cons_succ]
        refine takeN_lit (i := 2) (v := ?_) (F := #[true, true, false, true, false, false, false, true, true, true, true, true, true, true, true, true, true, false]) rfl (by kernel_rfl) (by kernel_rfl) (by kernel_rfl) (by kernel_rfl) (fun _ _ _ h => h) (Or.inl ⟨by rfl, ?_⟩) (by assumption) ?_
        rotate_left
        · (intro w hSw; (try dsimp only at hSw); go_simp <;> with_reducible rfl)
        try simp only [Act.put, List.setIfInBounds_toArray, List.set_cons_zero, List.set_cons_succ]
        refine takeN_lit (i := 3) (v := ?_) (F := #[true, true, true, false, false, false, false, true, true, true, true, true, true, true, true, true, true, false]) rfl (by kernel_rfl) (by kernel_rfl) (by kernel_rfl) (by kernel_rfl) (fun _ _ _ h => h) (Or.inl ⟨by rfl, ?_⟩) (by assumption) ?_
        rotate_left
        · (intro w hSw; (try dsimp only at hSw); go_simp <;> with_reducible rfl)
        try simp only [Act.put, List.setIfInBounds_toArray, List.set_cons_zero, List.set_cons_succ]
        refine takeN_lit (i := 4) (v := ?_) (F := #[true, true, true, true, false, false, false, true, true, true, true, true, true, true, true, true, true, false]) rfl (by kernel_rfl) (by kernel_rfl) (by kernel_rfl) (by kernel_rfl) (fun _ _ _ h => h) (Or.inl ⟨by rfl, ?_⟩) (by assumption) ?_
        rotate_left
        · (intro w hSw; (try dsimp only at hSw); go_simp <;> with_reducible rfl)
        try simp only [Act.put, List.setIfInBounds_toArray, List.set_cons_zero, List.set_cons_succ]
        refine takeN_lit (i := 5) (v := ?_) (F := #[true, true, true, true, true, false, false, true, true, true, true, true, true, true, true, true, true, false]) rfl (by kernel_rfl) (by kernel_rfl) (by kernel_rfl) (by kernel_rfl) (fun _ _ _ h => h) (Or.inl ⟨by rfl, ?_⟩) (by assumption) ?_
        rotate_left
        · (intro w hSw; (try dsimp only at hSw); go_simp <;> with_reducible rfl)
        try simp only [Act.put, List.setIfInBounds_toArray, List.set_cons_zero, List.set_cons_succ]
        refine takeN_lit (i := 6) (F := #[true, true, true, true, true, true, false, true, true, true, true, true, true, true, true, true, true, false]) rfl (by kernel_rfl) (by kernel_rfl) (by kernel_rfl) (by kernel_rfl) (fun _ _ _ h => h) (yQ a.p (fun w h => (hqd.below h hg).p) (by rfl) rfl rfl) (by assumption) ?_
        try simp only [Act.put, List.setIfInBounds_toArray, List.set_cons_zero, List.set_cons_succ]
        refine takeN_lit (i := 7) (v := ?_) (F := #[true, true, true, true, true, true, true, false, true, false, false, false, true, true, true, true, true, false]) rfl (by kernel_rfl) (by kernel_rfl) (by kernel_rfl) (by kernel_rfl) (fun _ _ _ h => h) (Or.inl ⟨by rfl, ?_⟩) (by assumption) ?_
        rotate_left
        · (intro w hSw; (try dsimp only at hSw); go_simp <;> with_reducible rfl)
        try simp only [Act.put, List.setIfInBounds_toArray, List.set_cons_zero, List.set_cons_succ]
        refine takeN_lit (i := 8) (v := ?_) (F := #[true, true, true, true, true, true, true, true, false, false, false, false, true, true, true, true, true, false]) rfl (by kernel_rfl) (by kernel_rfl) (by kernel_rfl) (by kernel_rfl) (fun _ _ _ h => h) (Or.inl ⟨by rfl, ?_⟩) (by assumption) ?_
        rotate_left
        · (intro w hSw; (try dsimp only at hSw); go_simp <;> with_reducible rfl)
        try simp only [Act.put, List.setIfInBounds_toArray, List.set_cons_zero, List.set_cons_succ]
        refine takeN_lit (i := 9) (v := ?_) (F := #[true, true, true, true, true, true, true, true, true, false, false, false, true, true, true, true, true, false]) rfl (by kernel_rfl) (by kernel_rfl) (by kernel_rfl) (by kernel_rfl) (fun _ _ _ h => h) (Or.inl ⟨by rfl, ?_⟩) (by assumption) ?_
        rotate_left
        · (intro w hSw; (try dsimp only at hSw); go_simp <;> with_reducible rfl)
        try simp only [Act.put, List.setIfInBounds_toArray, List.set_cons_zero, List.set_cons_succ]
        refine takeN_lit (i := 10) (v := ?_) (F := #[true, true, true, true, true, true, true, true, true, true, false, false, true, true, true, true, true, false]) rfl (by kernel_rfl) (by kernel_rfl) (by kernel_rfl) (by kernel_rfl) (fun _ _ _ h => h) (Or.inl ⟨by rfl, ?_⟩) (by assumption) ?_
        rotate_left
        · (intro w hSw; (try dsimp only at hSw); go_simp <;> with_reducible rfl)
        try simp only [Act.put, List.setIfInBounds_toArray, List.set_cons_zero, List.set_cons_succ]
        refine takeN_lit (i := 11) (F := #[true, true, true, true, true, true, true, true, true, true, true, false, true, true, true, true, true, false]) rfl (by kernel_rfl) (by kernel_rfl) (by kernel_rfl) (by kernel_rfl) (fun _ _ _ h => h) (yI a.i (fun w h => (hqd.below h hg).i) (by rfl) rfl rfl) (by assumption) ?_
        try simp only [Act.put, List.setIfInBounds_toArray, List.set_cons_zero, List.set_cons_succ]
        refine takeN_lit (i := 12) (v := ?_) (F := #[true, true, true, true, true, true, true, true, true, true, true, true, false, true, false, false, false, false]) rfl (by kernel_rfl) (by kernel_rfl) (by kernel_rfl) (by kernel_rfl) (fun _ _ _ h => h) (Or.inl ⟨by rfl, ?_⟩) (by assumption) ?_
        rotate_left
        · (intro w hSw; (try dsimp only at hSw); go_simp <;> with_reducible rfl)
        try simp only [Act.put, List.setIfInBounds_toArray, List.set_cons_zero, List.set_cons_succ]
        refine takeN_lit (i := 13) (v := ?_) (F := #[true, true, true, true, true, true, true, true, true, true, true, true, true, false, false, false, false, false]) rfl (by kernel_rfl) (by kernel_rfl) (by kernel_rfl) (by kernel_rfl) (fun _ _ _ h => h) (Or.inl ⟨by rfl, ?_⟩) (by assumption) ?_
        rotate_left
        · (intro w hSw; (try dsimp only at hSw); go_simp <;> with_reducible rfl)
        try simp only [Act.put, List.setIfInBounds_toArray, List.set_cons_zero, List.set_cons_succ]
        refine takeN_lit (i := 14) (v := ?_) (F := #[true, true, true, true, true, true, true, true, true, true, true, true, true, true, false, false, false, false]) rfl (by kernel_rfl) (by kernel_rfl) (by kernel_rfl) (by kernel_rfl) (fun _ _ _ h => h) (Or.inl ⟨by rfl, ?_⟩) (by assumption) ?_
        rotate_left
        · (intro w hSw; (try dsimp only at hSw); go_simp <;> with_reducible rfl)
        try simp only [Act.put, List.setIfInBounds_toArray, List.set_cons_zero, List.set_cons_succ]
        refine takeN_lit (i := 15) (v := ?_) (F := #[true, true, true, true, true, true, true, true, true, true, true, true, true, true, true, false, false, false]) rfl (by kernel_rfl) (by kernel_rfl) (by kernel_rfl) (by kernel_rfl) (fun _ _ _ h => h) (Or.inl ⟨by rfl, ?_⟩) (by assumption) ?_
        rotate_left
        · (intro w hSw; (try dsimp only at hSw); go_simp <;> with_reducible rfl)
        try simp only [Act.put, List.setIfInBounds_toArray, List.set_cons_zero, List.set_cons_succ]
        refine takeN_lit (i := 16) (F := #[true, true, true, true, true, true, true, true, true, true, true, true, true, true, true, true, false, false]) rfl (by kernel_rfl) (by kernel_rfl) (by kernel_rfl) (by kernel_rfl) (fun _ _ _ h => h) (Sn.yD a.s a.m (fun w h => (hqd.below h hg).d) (by rfl) rfl rfl) (by assumption) ?_
        try simp only [Act.put, List.setIfInBounds_toArray, List.set_cons_zero, List.set_cons_succ]
        refine wpAnyN_ready (rs := [17]) (by kernel_rfl) (by simp) ?_
        refine consN_lit rfl (fun K hK => ?_) ?_
        · go_simp
          refine (hKeep _ hHeld).mono ?_
          rintro e w2 ⟨z, rfl, tb2, b2⟩
          refine hK.out _ _ (Or.inl rfl) (fun _ => ?_)
          clear hK K
          try simp only [Act.put, List.setIfInBounds_toArray, List.set_cons_zero, List.set_cons_succ]
          refine wpAnyN_done (by kernel_rfl) ?_ _
          refine NoPanic.normal ?_
          clear hKeep hHeld
          go_wp2_with fail
          go_roundw
          case rel => exact ⟨j + 1, HJ.out, by first | rfl | go_num, by rw [HE.out] <;> first | rfl | exact congrArg (Value.int .i64) hw2, by rw [HE.out]; exact tb2, b2⟩
          case measure => first | (rw [hw64]; simp only [intOf]; exact HM.out) | (simp only [intOf]; exact HM.out)
        exact AllReadyN.nil
      · have hk' : (a.k == 0) = false := by simpa using hk
        have HE : Hid (fgR (l.take (j + 1)) = (x.1 + a.g, x.2)) := by show _ = _; rw [HS.out, HF.out, if_neg hk]
        clear hk HS HF hKeep
        go_wp2_with fail
        go_roundw
        case rel => exact ⟨j + 1, HJ.out, by first | rfl | go_num, by rw [HE.out] <;> first | rfl | exact congrArg (Value.int .i64) hw2, by rw [HE.out]; exact tb, bX⟩
        case measure => first | (rw [hw64]; simp only [intOf]; exact HM.out) | (simp only [intOf]; exact HM.out)
    · have hjl : j = l.length := by omega
      subst hjl
      rw [List.take_length] at *
      obtain ⟨f1, f2⟩ := filter_all hI.at_
      have hw3 : wrap64 ((fgR l).1 + 180000) = (fgR l).1 + 180000 := by have := hI.t0; have := hI.t1; unfold wrap64; omega
      generalize (fgR l).1 = now at *
      generalize (fgR l).2 = L at *
      have hTk := fun W (hW : Below wr.heap.size wr W) => tick_len (tb.below hW) (now + 180000)
      rw [f1, f2] at hTk
      have hLs := list_len tb
      have hLn := fun (W : World) (h : Tb W t mb 200 []) => list_len h
      have hFe := fun (W : World) (h : Tb W t mb 200 []) => feas_any h p i s m hp
      have hNx := fun (W : World) (h : Tb W t mb 200 []) => next_none h
      rw [show feaO (getN [] p i) s m = true from rfl] at hFe
      clear f1 f2 hI hj hlt hok hf hl2 hlX tb
      go_wp2_with (first
        | (have kk := t5; go_at_call 9; refine (live_any _).mono ?_; rintro e w6 ⟨rfl, k6⟩; replace bX := bt bX k6)
        | (have kk := t4; go_at_call 24; refine (hFe _ t4).mono ?_; rintro e w5 ⟨rfl, k5⟩; have t5 := t4.below k5; replace bX := bt bX k5)
        | (have kk := t4; refine Sn.ldD (.tmp 7) rfl rfl s m rfl (HD.out _ bX) ?_)
        | (have kk := t4; refine ldI (.tmp 6) rfl rfl _ _ i rfl (HI.out _ bX) ?_)
        | (have kk := t4; refine ldQ (.tmp 5) rfl rfl _ _ p rfl (HQ.out _ bX) ?_)
        | (have kk := t3; go_at_call 23; refine (hLn _ t3).mono ?_; rintro e w4 ⟨a4, c4, rfl, k4⟩; have t4 := t3.below k4; replace bX := bt bX k4)
        | (have kk := t2; go_at_call 21; refine (hNx _ t2).mono ?_; rintro e w3 ⟨rfl, k3⟩; have t3 := t2.below k3; replace bX := bt bX k3)
        | (have kk := k1; go_at_call 15; refine (hTk _ k1).mono ?_; rintro e w2 ⟨a2, c2, rfl, hT2⟩; have t2 := hT2.tb; replace bX := HT.out _ _ _ (bt bX k1) hT2)
        | (go_at_call 23; refine hLs.mono ?_; rintro e w1 ⟨a1, c1, rfl, k1⟩))
      go_ret
      exact ⟨by first | rfl | simp, HB.out _ bX⟩
end Go.Proofs.Ytdcbnibgckdkbaa
