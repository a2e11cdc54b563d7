/-
  Feasible, Keep, end.
-/
import Derived.Test.YtdcbnibgckdkbaaV3
namespace Go.Proofs.Ytdcbnibgckdkbaa
open Go.RowKit Go.Maps
set_option linter.unusedSimpArgs false
set_option linter.unusedVariables false
set_option maxRecDepth 20000
theorem Turn.of {w w' : World} {t mb : Nat} {most : Int} {L : List Sr} (h : Tb w t mb most L) (hb : Below w.heap.size w w') : Turn w w' t mb most L :=
  ⟨h.below hb, hb.os, hb.tape, hb.output, hb.size, fun i hi _ => hb.block i hi⟩
theorem end_any (n : Sr) (w : World) (h : n.ok) : Calls Try.prog 32 #[sV n] w (Gives w (.int .i64 (n.t + 180000))) := by
  have r0 := Row.new w 53 (scs n)
  have c0 := (r0.cell 44).trans (sc44 n)
  have hw : wrap64 (n.t + 180000) = n.t + 180000 := by have := h.t0; have := h.t1; unfold wrap64; omega
  clear r0 h
  go_enter Try.func32, Try.ntmps32
  go_wp2_with fail
  go_ret
  exact ⟨congrArg (fun z => Ending.returned (Value.int .i64 z)) hw, ba _ _⟩
/-- Whether a distance is feasible by what is kept. -/
def feaO (o : Option Sr) (s m : Int) : Bool := match o with | none => true | some n => Sn.feaB s m n.s n.m
theorem low_rows3 (w : World) (cs ds es : List Value) (t u v : TypeId) : Below w.heap.size w (((w.alloc (.cells cs.toArray t)).alloc (.cells ds.toArray u)).alloc (.cells es.toArray v)) ∧ Row (((w.alloc (.cells cs.toArray t)).alloc (.cells ds.toArray u)).alloc (.cells es.toArray v)) w.heap.size t cs ∧ Row (((w.alloc (.cells cs.toArray t)).alloc (.cells ds.toArray u)).alloc (.cells es.toArray v)) (w.heap.size + 1) u ds ∧ Row (((w.alloc (.cells cs.toArray t)).alloc (.cells ds.toArray u)).alloc (.cells es.toArray v)) (w.heap.size + 2) v es := by
  obtain ⟨h0, h1, h2⟩ := low_rows w cs ds t u
  have q := Row.new ((w.alloc (.cells cs.toArray t)).alloc (.cells ds.toArray u)) v es
  simp only [World.size_alloc] at q
  exact ⟨bt h0 (ba _ _), h1.alloc _, h2.alloc _, q⟩
theorem feas_of (ptr : Value) (o : Option Sr) (p : Pr) (i : Id8) (s m : Int) (w : World) (hP : ptr = .pointer none ∨ ∃ t, ptr = .pointer (some ⟨t, 0, none⟩)) (hKp : ∀ W, Below w.heap.size w W → Calls Try.prog 26 #[ptr, (Value.agg (qcells p).toArray), idV i] W fun e w' => KeptAt W w' o e) :
    Calls Try.prog 24 #[ptr, (Value.agg (qcells p).toArray), idV i, dV s m] w (Gives w (.bool (feaO o s m))) := by
  obtain ⟨hB, r0, r1, r2⟩ := low_rows3 w (qcells p) (icells i) (dcs s m) 36 38 41
  have hF : ∀ (W : World) (g : Nat), Row W g 53 (scs (o.getD zeroS)) → Calls Try.prog 37 #[dV s m, keptV o g] W (Gives W (.bool (feaO o s m))) := fun W g hr => by
    cases o with
    | none => exact Sn.feas_none s m W
    | some n => exact Sn.feas_some s m n.s n.m g 42 W (by have := hr.sr.d; simpa using this)
  generalize feaO o s m = R at *
  have hs2 := r2.lt
  go_enter Try.func24, Try.ntmps24
  go_upto_region 1 with fail
  refine name_world (R := fun W => Code.wp _ _ _ _ W) (P := fun W => Below w.heap.size w W ∧ Row W w.heap.size 36 (qcells p) ∧ Row W (w.heap.size + 1) 38 (icells i) ∧ Row W (w.heap.size + 2) 41 (dcs s m)) _ ⟨hB, r0, r1, r2⟩ ?_
  clear hB r0 r1 r2 hs2
  rintro X ⟨hB, r0, r1, r2⟩
  have h0 := r0.lt
  have h1 := r1.lt
  have h2 := r2.lt
  refine wp_region_noPanic ?_
  refine wp_region_held_drew (S := fun W => Below X.heap.size X W) (by kernel_rfl) ((Below.refl _ _).drew) (fun hHeld => ?_)
  refine take_lit (i := 0) rfl (by kernel_rfl) (by kernel_rfl) (by kernel_rfl) (fun _ _ _ h => h) (Sn.yD s m (fun w h => (r2.below h h2).range) (by rfl) rfl rfl) (by assumption) ?_
  try simp only [Act.put, List.setIfInBounds_toArray, List.set_cons_zero, List.set_cons_succ]
  refine take_lit (i := 1) (v := ?_) rfl (by kernel_rfl) (by kernel_rfl) (by kernel_rfl) (fun _ _ _ h => h) (Or.inl ⟨by rfl, ?_⟩) (by assumption) ?_
  rotate_left
  · (intro w hSw; (try dsimp only at hSw); go_simp <;> with_reducible rfl)
  try simp only [Act.put, List.setIfInBounds_toArray, List.set_cons_zero, List.set_cons_succ]
  refine take_lit (i := 2) rfl (by kernel_rfl) (by kernel_rfl) (by kernel_rfl) (fun _ _ _ h => h) (yQ p (fun w h => (r0.below h h0).range) (by rfl) rfl rfl) (by assumption) ?_
  try simp only [Act.put, List.setIfInBounds_toArray, List.set_cons_zero, List.set_cons_succ]
  refine take_lit (i := 3) rfl (by kernel_rfl) (by kernel_rfl) (by kernel_rfl) (fun _ _ _ h => h) (yI i (fun w h => (r1.below h h1).range) (by rfl) rfl rfl) (by assumption) ?_
  try simp only [Act.put, List.setIfInBounds_toArray, List.set_cons_zero, List.set_cons_succ]
  refine wpAnyH_ready (rs := [4]) (by kernel_rfl) (by simp) ?_
  refine cons_lit rfl (fun K hK => ?_) ?_
  · go_simp
    refine (hKp _ (bt hB hHeld)).mono ?_
    rintro e w1 ⟨g, rfl, hge, hrg, b1⟩
    refine hK.out _ _ ?_ (fun hHeld => ?_)
    · exact bt hHeld b1
    clear hK K
    try simp only [Act.put, List.setIfInBounds_toArray, List.set_cons_zero, List.set_cons_succ]
    refine wpAnyH_ready (rs := [5]) (by kernel_rfl) (by simp) ?_
    refine cons_lit rfl (fun K hK => ?_) ?_
    · go_simp
      refine (hF _ _ hrg).mono ?_
      rintro e w2 ⟨rfl, b2⟩
      refine hK.out _ _ ?_ (fun hHeld => ?_)
      · exact bt hHeld b2
      clear hK K
      try simp only [Act.put, List.setIfInBounds_toArray, List.set_cons_zero, List.set_cons_succ]
      refine take_lit (i := 6) (v := ?_) rfl (by kernel_rfl) (by kernel_rfl) (by kernel_rfl) (fun _ _ _ h => h) (Or.inl ⟨by rfl, ?_⟩) (by assumption) ?_
      rotate_left
      · (intro w hSw; (try dsimp only at hSw); go_simp <;> with_reducible rfl)
      try simp only [Act.put, List.setIfInBounds_toArray, List.set_cons_zero, List.set_cons_succ]
      refine wpAnyH_done (by kernel_rfl) ?_ _
      refine NoPanic.normal ?_
      go_wp2
      go_ret
      exact ⟨rfl, bt hB hHeld⟩
    exact AllReadyH.nil
  exact AllReadyH.nil
theorem feas_any {w : World} {t mb : Nat} {most : Int} {L : List Sr} (h : Tb w t mb most L) (p : Pr) (i : Id8) (s m : Int) (hi : wfQ p) : Calls Try.prog 24 #[.pointer (some ⟨t, 0, none⟩), (Value.agg (qcells p).toArray), idV i, dV s m] w (Gives w (.bool (feaO (getN L p i) s m))) :=
  feas_of _ _ p i s m w (.inr ⟨t, rfl⟩) fun W hW => kept_any (h.below hW) p i hi
theorem feas_nil (p : Pr) (i : Id8) (s m : Int) (w : World) : Calls Try.prog 24 #[.pointer none, (Value.agg (qcells p).toArray), idV i, dV s m] w (Gives w (.bool true)) :=
  feas_of _ none p i s m w (.inl rfl) fun W _ => kept_nil p i W
/-- What is kept behind a distance that is told. -/
def keepD (o : Option Sr) (s m : Int) : Int × Int := match o with | none => (s, m) | some n => if Sn.betB s m n.s n.m = true then (s, m) else (n.s, n.m)
def keepS (o : Option Sr) (now : Int) (p : Pr) (i : Id8) (s m : Int) : Sr := ⟨p, i, (keepD o s m).1, (keepD o s m).2, now⟩
def keepR (most : Int) (L : List Sr) (now : Int) (p : Pr) (i : Id8) (s m : Int) : Int × List Sr :=
  if m = 65535 then (2, L) else if (getN L p i).isNone = true ∧ most ≤ L.length then (6, L) else (0, putN L (keepS (getN L p i) now p i s m))
theorem keep_nil (now : Int) (p : Pr) (i : Id8) (s m : Int) (w : World) : Calls Try.prog 12 #[.pointer none, .int .i64 now, (Value.agg (qcells p).toArray), idV i, dV s m] w (Gives w (.int .i64 7)) := by
  obtain ⟨hB, r0, r1, r2⟩ := low_rows3 w (qcells p) (icells i) (dcs s m) 36 38 41
  go_enter Try.func12, Try.ntmps12
  go_wp2_with fail
  go_ret
  exact ⟨rfl, hB⟩
theorem skeep_any (o : Option Sr) (s m : Int) (W : World) (g : Nat) (hr : Row W g 53 (scs (o.getD zeroS))) : Calls Try.prog 28 #[keptV o g, dV s m] W (Gives W (dV (keepD o s m).1 (keepD o s m).2)) := by
  cases o with
  | none => exact Sn.keep_none s m W
  | some n =>
    refine (Sn.keep_some s m n.s n.m g 42 W (by have := hr.sr.d; simpa using this)).mono ?_
    rintro e w' ⟨rfl, hb⟩
    refine ⟨?_, hb⟩
    unfold keepD
    dsimp only
    split <;> rfl
theorem keepD_ok {o : Option Sr} {s m : Int} (ho : ∀ n, o = some n → n.ok) (s0 : 0 ≤ s) (s1 : s < 65536) (m0 : 0 ≤ m) (m1 : m < 65536) : 0 ≤ (keepD o s m).1 ∧ (keepD o s m).1 < 65536 ∧ 0 ≤ (keepD o s m).2 ∧ (keepD o s m).2 < 65536 := by
  unfold keepD
  cases o with
  | none => exact ⟨s0, s1, m0, m1⟩
  | some n =>
    have := ho n rfl
    dsimp only
    split
    · exact ⟨s0, s1, m0, m1⟩
    · exact ⟨this.s0, this.s1, this.m0, this.m1⟩
theorem putN_le {L : List Sr} {n : Sr} : (putN L n).length ≤ L.length + 1 := by
  rw [putN_len]
  split <;> omega
set_option maxHeartbeats 8000000 in
theorem keep_any {w : World} {t mb : Nat} {most : Int} {L : List Sr} (h : Tb w t mb most L) (now : Int) (p : Pr) (i : Id8) (s m : Int) (hi : wfQ p) (t0 : 0 ≤ now) (t1 : now ≤ 1125899906842624) (s0 : 0 ≤ s) (s1 : s < 65536) (m0 : 0 ≤ m) (m1 : m < 65536) (hl : L.length < 1000000) :
    Calls Try.prog 12 #[.pointer (some ⟨t, 0, none⟩), .int .i64 now, (Value.agg (qcells p).toArray), idV i, dV s m] w fun e w' => e = .returned (.int .i64 (keepR most L now p i s m).1) ∧ Turn w w' t mb most (keepR most L now p i s m).2 := by
  obtain ⟨hB, r0, r1, r2⟩ := low_rows3 w (qcells p) (icells i) (dcs s m) 36 38 41
  have hs2 := r2.lt
  have HR : Hid (keepR most L now p i s m = if m = 65535 then (2, L) else if (getN L p i).isNone = true ∧ most ≤ L.length then (6, L) else (0, putN L (keepS (getN L p i) now p i s m))) := rfl
  generalize keepR most L now p i s m = R at *
  have hX : ∀ W, Below w.heap.size w W → Tb W t mb most L := fun W hW => h.below hW
  have hKe : ∀ W, Below w.heap.size w W → Calls Try.prog 26 #[.pointer (some ⟨t, 0, none⟩), (Value.agg (qcells p).toArray), idV i] W fun e w' => KeptAt W w' (getN L p i) e := fun W hW => kept_any (h.below hW) p i hi
  have ho : ∀ n, getN L p i = some n → n.ok := fun n hn => h.nok n (getN_some hn).1
  have hfin : ∀ W, Below w.heap.size w W → Calls Try.prog 27 #[.pointer (some ⟨t, 0, none⟩), sV (keepS (getN L p i) now p i s m)] W fun e w' => e = .returned (.tuple #[]) ∧ Turn w w' t mb most (putN L (keepS (getN L p i) now p i s m)) := fun W hW => by
    have hd := keepD_ok ho s0 s1 m0 m1
    refine (put_any (h.below hW) (keepS (getN L p i) now p i s m) hi ⟨hd.1, hd.2.1, hd.2.2.1, hd.2.2.2, t0, t1⟩ (by have := putN_le (L := L) (n := keepS (getN L p i) now p i s m); omega)).mono ?_
    rintro e w' ⟨rfl, hT⟩
    exact ⟨rfl, hT.pre hW⟩
  have hSk := skeep_any (getN L p i) s m
  have HKS : Hid (keepS (getN L p i) now p i s m = ⟨p, i, (keepD (getN L p i) s m).1, (keepD (getN L p i) s m).2, now⟩) := rfl
  have HT : Hid (Tb w t mb most L) := h
  clear h ho t0 t1 s0 s1 m0 m1 hl hi
  go_enter Try.func12, Try.ntmps12
  go_upto_region 1 with fail
  refine name_world (R := fun W => Code.wp _ _ _ _ W) (P := fun W => Below w.heap.size w W ∧ Row W w.heap.size 36 (qcells p) ∧ Row W (w.heap.size + 1) 38 (icells i) ∧ Row W (w.heap.size + 2) 41 (dcs s m)) _ ⟨hB, r0, r1, r2⟩ ?_
  clear hB r0 r1 r2 hs2
  rintro X ⟨hB, r0, r1, r2⟩
  have h0 := r0.lt
  have h1 := r1.lt
  have h2 := r2.lt
  have c1 : X.cell? ⟨w.heap.size + 2, 1, none⟩ = some (.int .u16 m) := r2.cell 1
  by_cases hm : m = 65535
  · obtain rfl : R = (2, L) := by rw [HR.out, if_pos hm]
    have hm' : (m == 65535) = true := by simpa using hm
    clear hm HR hfin hKe hSk hX
    go_wp2_with fail
    go_ret
    exact ⟨rfl, Turn.of HT.out hB⟩
  · have hm' : (m == 65535) = false := by simpa using hm
    replace HR : Hid (R = if (getN L p i).isNone = true ∧ most ≤ L.length then (6, L) else (0, putN L (keepS (getN L p i) now p i s m))) := by
      show R = _
      rw [HR.out, if_neg hm]
    clear hm
    replace hKe := hKe X hB
    have HK : Hid (∀ W, Below X.heap.size X W → W.cell? ⟨t, 1, none⟩ = some (.map (some mb)) ∧ W.cell? ⟨t, 0, none⟩ = some (.int .i64 most) ∧ ∀ ty, (Builtin.len_ #[64] ty #[.map (some mb)]).run Try.prog W = .ok (.int .i64 (L.length : Nat)) W) := fun W hW => by
      have hr := (hX W (bt hB hW)).row
      exact ⟨hr.cell 1, hr.cell 0, fun ty => (hX W (bt hB hW)).map.len ty⟩
    have HF : Hid (∀ W, Below X.heap.size X W → Calls Try.prog 27 #[.pointer (some ⟨t, 0, none⟩), sV (keepS (getN L p i) now p i s m)] W fun e w' => e = .returned (.tuple #[]) ∧ Turn w w' t mb most (putN L (keepS (getN L p i) now p i s m))) := fun W hW => hfin W (bt hB hW)
    clear hX hfin
    generalize hG : getN L p i = G at *
    generalize putN L (keepS G now p i s m) = PL at *
    cases G with
    | some n =>
      obtain rfl : R = (0, PL) := by rw [HR.out, if_neg (by simp)]
      clear HK hG
      go_upto_region 6 with (first
        | (go_at_call 26; refine hKe.mono ?_; rintro e w1 ⟨g, rfl, hge, hrg, b1⟩)
        | (refine ldI (.tmp 8) rfl rfl _ _ i rfl r1.range ?_)
        | (refine ldQ (.tmp 7) rfl rfl _ _ p rfl r0.range ?_))
      dsimp only [keptV]
      refine wp_region_noPanic ?_
      refine wp_region_held_drew (S := fun W => Below w1.heap.size w1 W) (by kernel_rfl) ((Below.refl _ _).drew) (fun hHeld => ?_)
      refine take_lit (i := 0) (v := ?_) rfl (by kernel_rfl) (by kernel_rfl) (by kernel_rfl) (fun _ _ _ h => h) (Or.inl ⟨by rfl, ?_⟩) (by assumption) ?_
      rotate_left
      · (intro w hSw; (try dsimp only at hSw); go_simp <;> with_reducible rfl)
      try simp only [Act.put, List.setIfInBounds_toArray, List.set_cons_zero, List.set_cons_succ]
      refine take_lit (i := 1) (v := ?_) rfl (by kernel_rfl) (by kernel_rfl) (by kernel_rfl) (fun _ _ _ h => h) (Or.inl ⟨by rfl, ?_⟩) (by assumption) ?_
      rotate_left
      · (intro w hSw; (try dsimp only at hSw); go_simp <;> with_reducible rfl)
      try simp only [Act.put, List.setIfInBounds_toArray, List.set_cons_zero, List.set_cons_succ]
      refine take_lit (i := 2) (v := ?_) rfl (by kernel_rfl) (by kernel_rfl) (by kernel_rfl) (fun _ _ _ h => h) (Or.inl ⟨by rfl, ?_⟩) (by assumption) ?_
      rotate_left
      · (intro w hSw; (try dsimp only at hSw); go_simp <;> with_reducible rfl)
      try simp only [Act.put, List.setIfInBounds_toArray, List.set_cons_zero, List.set_cons_succ]
      refine take_lit (i := 3) rfl (by kernel_rfl) (by kernel_rfl) (by kernel_rfl) (fun _ _ _ h => h) (Or.inr ⟨by rfl, rfl⟩) (by assumption) ?_
      try simp only [Act.put, List.setIfInBounds_toArray, List.set_cons_zero, List.set_cons_succ]
      refine take_lit (i := 4) rfl (by kernel_rfl) (by kernel_rfl) (by kernel_rfl) (fun _ _ _ h => h) (Or.inr ⟨by rfl, rfl⟩) (by assumption) ?_
      try simp only [Act.put, List.setIfInBounds_toArray, List.set_cons_zero, List.set_cons_succ]
      refine take_lit (i := 5) rfl (by kernel_rfl) (by kernel_rfl) (by kernel_rfl) (fun _ _ _ h => h) (Or.inr ⟨by rfl, rfl⟩) (by assumption) ?_
      try simp only [Act.put, List.setIfInBounds_toArray, List.set_cons_zero, List.set_cons_succ]
      refine take_lit (i := 6) rfl (by kernel_rfl) (by kernel_rfl) (by kernel_rfl) (fun _ _ _ h => h) (Or.inr ⟨by rfl, rfl⟩) (by assumption) ?_
      try simp only [Act.put, List.setIfInBounds_toArray, List.set_cons_zero, List.set_cons_succ]
      refine take_lit (i := 7) rfl (by kernel_rfl) (by kernel_rfl) (by kernel_rfl) (fun _ _ _ h => h) (Or.inr ⟨by rfl, rfl⟩) (by assumption) ?_
      try simp only [Act.put, List.setIfInBounds_toArray, List.set_cons_zero, List.set_cons_succ]
      refine take_lit (i := 8) rfl (by kernel_rfl) (by kernel_rfl) (by kernel_rfl) (fun _ _ _ h => h) (Or.inr ⟨by rfl, rfl⟩) (by assumption) ?_
      try simp only [Act.put, List.setIfInBounds_toArray, List.set_cons_zero, List.set_cons_succ]
      refine take_lit (i := 9) rfl (by kernel_rfl) (by kernel_rfl) (by kernel_rfl) (fun _ _ _ h => h) (Or.inr ⟨by rfl, rfl⟩) (by assumption) ?_
      try simp only [Act.put, List.setIfInBounds_toArray, List.set_cons_zero, List.set_cons_succ]
      refine take_lit (i := 10) rfl (by kernel_rfl) (by kernel_rfl) (by kernel_rfl) (fun _ _ _ h => h) (Or.inr ⟨by rfl, rfl⟩) (by assumption) ?_
      try simp only [Act.put, List.setIfInBounds_toArray, List.set_cons_zero, List.set_cons_succ]
      refine take_lit (i := 11) rfl (by kernel_rfl) (by kernel_rfl) (by kernel_rfl) (fun _ _ _ h => h) (Or.inr ⟨by rfl, rfl⟩) (by assumption) ?_
      try simp only [Act.put, List.setIfInBounds_toArray, List.set_cons_zero, List.set_cons_succ]
      refine take_lit (i := 12) rfl (by kernel_rfl) (by kernel_rfl) (by kernel_rfl) (fun _ _ _ h => h) (Or.inr ⟨by rfl, rfl⟩) (by assumption) ?_
      try simp only [Act.put, List.setIfInBounds_toArray, List.set_cons_zero, List.set_cons_succ]
      refine take_lit (i := 13) (v := ?_) rfl (by kernel_rfl) (by kernel_rfl) (by kernel_rfl) (fun _ _ _ h => h) (Or.inl ⟨by rfl, ?_⟩) (by assumption) ?_
      rotate_left
      · (intro w hSw; (try dsimp only at hSw); go_simp <;> with_reducible rfl)
      try simp only [Act.put, List.setIfInBounds_toArray, List.set_cons_zero, List.set_cons_succ]
      refine wpAnyH_done (by kernel_rfl) ?_ _
      refine NoPanic.normal ?_
      refine name_world (R := fun W => Exit.then _ _ _ _ W) (P := fun W => Below w1.heap.size w1 W) _ hHeld ?_
      clear hHeld
      intro W4 hHeld
      have b4 := bt b1 hHeld
      have r04 := r0.below b4 h0
      have r14 := r1.below b4 h1
      have r24 := r2.below b4 h2
      have g4 := hrg.below hHeld hrg.lt
      have k0 := r04.lt
      have k1 := r14.lt
      have k2 := r24.lt
      have kg := g4.lt
      clear hKe hHeld hrg
      go_upto_region 8 with fail
      refine wp_region_noPanic ?_
      refine wp_region_N (S := fun W => Below W4.heap.size W4 W) 8 (by kernel_rfl) ((Below.refl _ _).drew) (fun hHeld => ?_)
      refine takeN_lit (i := 0) (v := ?_) (F := #[false, true, true, true, true, true, true, true, false]) rfl (by kernel_rfl) (by kernel_rfl) (by kernel_rfl) (by kernel_rfl) (fun _ _ _ h => h) (Or.inl ⟨by rfl, ?_⟩) (by assumption) ?_
      rotate_left
      · (intro w hSw; (try dsimp only at hSw); go_simp <;> with_reducible rfl)
      try simp only [Act.put, List.setIfInBounds_toArray, List.set_cons_zero, List.set_cons_succ]
      refine takeN_lit (i := 1) (F := #[true, false, true, true, true, true, true, false, false]) rfl (by kernel_rfl) (by kernel_rfl) (by kernel_rfl) (by kernel_rfl) (fun _ _ _ h => h) (yQ p (fun w h => (r04.below h k0).range) (by rfl) rfl rfl) (by assumption) ?_
      try simp only [Act.put, List.setIfInBounds_toArray, List.set_cons_zero, List.set_cons_succ]
      refine takeN_lit (i := 2) (F := #[true, true, false, true, true, true, true, false, false]) rfl (by kernel_rfl) (by kernel_rfl) (by kernel_rfl) (by kernel_rfl) (fun _ _ _ h => h) (yI i (fun w h => (r14.below h k1).range) (by rfl) rfl rfl) (by assumption) ?_
      try simp only [Act.put, List.setIfInBounds_toArray, List.set_cons_zero, List.set_cons_succ]
      refine takeN_lit (i := 3) (v := ?_) (F := #[true, true, true, false, true, false, true, false, false]) rfl (by kernel_rfl) (by kernel_rfl) (by kernel_rfl) (by kernel_rfl) (fun _ _ _ h => h) (Or.inl ⟨by rfl, ?_⟩) (by assumption) ?_
      rotate_left
      · (intro w hSw; (try dsimp only at hSw); go_simp <;> with_reducible rfl)
      try simp only [Act.put, List.setIfInBounds_toArray, List.set_cons_zero, List.set_cons_succ]
      refine takeN_lit (i := 4) (F := #[true, true, true, true, false, false, true, false, false]) rfl (by kernel_rfl) (by kernel_rfl) (by kernel_rfl) (by kernel_rfl) (fun _ _ _ h => h) (Sn.yD s m (fun w h => (r24.below h k2).range) (by rfl) rfl rfl) (by assumption) ?_
      try simp only [Act.put, List.setIfInBounds_toArray, List.set_cons_zero, List.set_cons_succ]
      refine takeN_lit (i := 6) (v := ?_) (F := #[true, true, true, true, true, true, false, false, false]) rfl (by kernel_rfl) (by kernel_rfl) (by kernel_rfl) (by kernel_rfl) (fun _ _ _ h => h) (Or.inl ⟨by rfl, ?_⟩) (by assumption) ?_
      rotate_left
      · (intro w hSw; (try dsimp only at hSw); go_simp <;> with_reducible rfl)
      try simp only [Act.put, List.setIfInBounds_toArray, List.set_cons_zero, List.set_cons_succ]
      refine wpAnyN_ready (rs := [5]) (by kernel_rfl) (by simp) ?_
      refine consN_lit rfl (fun K hK => ?_) ?_
      · go_simp
        refine (hSk _ g (g4.below hHeld kg)).mono ?_
        rintro e w2 ⟨rfl, b2⟩
        refine hK.out _ _ (Or.inr ?_) (fun hHeld => ?_)
        · exact bt hHeld b2
        replace hHeld := hHeld.resolve_left (by decide)
        clear hK K
        try simp only [Act.put, List.setIfInBounds_toArray, List.set_cons_zero, List.set_cons_succ]
        refine takeN_lit (i := 7) (F := #[true, true, true, true, true, true, true, false, false]) rfl (by kernel_rfl) (by kernel_rfl) (by kernel_rfl) (by kernel_rfl) (fun _ _ _ h => h) (yB (v := sV (keepS (some n) now p i s m)) [(0, .tmp 36), (1, .tmp 37), (2, .tmp 40), (3, .tmp 41)] (by rfl) rfl (fun w => bdSr p i _ _ now w)) (by assumption) ?_
        try simp only [Act.put, List.setIfInBounds_toArray, List.set_cons_zero, List.set_cons_succ]
        refine wpAnyN_ready (rs := [8]) (by kernel_rfl) (by simp) ?_
        refine consN_lit rfl (fun K hK => ?_) ?_
        · go_simp
          refine (HF.out _ (bt b4 hHeld)).mono ?_
          rintro e w3 ⟨rfl, hT⟩
          refine hK.out _ _ (Or.inl rfl) (fun _ => ?_)
          clear hK K
          try simp only [Act.put, List.setIfInBounds_toArray, List.set_cons_zero, List.set_cons_succ]
          refine wpAnyN_done (by kernel_rfl) ?_ _
          refine NoPanic.normal ?_
          go_wp2
          go_ret
          exact ⟨rfl, hT⟩
        exact AllReadyN.nil
      exact AllReadyN.nil
    | none =>
      replace HR : Hid (R = if most ≤ L.length then (6, L) else (0, PL)) := by
        show R = _
        rw [HR.out]
        simp
      have HLT : Hid (∀ W, Below X.heap.size X W → Turn w W t mb most L) := fun W hW => Turn.of HT.out (bt hB hW)
      clear HT hG
      generalize hN : L.length = N at *
      go_upto_region 6 with (first
        | (go_at_call 26; refine hKe.mono ?_; rintro e w1 ⟨g, rfl, hge, hrg, b1⟩)
        | (refine ldI (.tmp 8) rfl rfl _ _ i rfl r1.range ?_)
        | (refine ldQ (.tmp 7) rfl rfl _ _ p rfl r0.range ?_))
      dsimp only [keptV]
      have HW : ∀ W, Below w1.heap.size w1 W → W.cell? ⟨t, 1, none⟩ = some (.map (some mb)) ∧ W.cell? ⟨t, 0, none⟩ = some (.int .i64 most) ∧ ∀ ty, (Builtin.len_ #[64] ty #[.map (some mb)]).run Try.prog W = .ok (.int .i64 (N : Nat)) W := fun W hW => HK.out W (bt b1 hW)
      refine wp_region_noPanic ?_
      refine wp_region_held_drew (S := fun W => Below w1.heap.size w1 W) (by kernel_rfl) ((Below.refl _ _).drew) (fun hHeld => ?_)
      refine take_lit (i := 0) (v := ?_) rfl (by kernel_rfl) (by kernel_rfl) (by kernel_rfl) (fun _ _ _ h => h) (Or.inl ⟨by rfl, ?_⟩) (by assumption) ?_
      rotate_left
      · (intro w hSw; (try dsimp only at hSw); go_simp <;> with_reducible rfl)
      try simp only [Act.put, List.setIfInBounds_toArray, List.set_cons_zero, List.set_cons_succ]
      refine take_lit (i := 1) (v := ?_) rfl (by kernel_rfl) (by kernel_rfl) (by kernel_rfl) (fun _ _ _ h => h) (Or.inl ⟨by rfl, ?_⟩) (by assumption) ?_
      rotate_left
      · (intro w hSw; (try dsimp only at hSw); go_simp <;> with_reducible rfl)
      try simp only [Act.put, List.setIfInBounds_toArray, List.set_cons_zero, List.set_cons_succ]
      refine take_lit (i := 2) (v := ?_) rfl (by kernel_rfl) (by kernel_rfl) (by kernel_rfl) (fun _ _ _ h => h) (Or.inl ⟨by rfl, ?_⟩) (by assumption) ?_
      rotate_left
      · (intro w hSw; (try dsimp only at hSw); go_simp <;> with_reducible rfl)
      try simp only [Act.put, List.setIfInBounds_toArray, List.set_cons_zero, List.set_cons_succ]
      refine take_lit (i := 3) (v := ?_) rfl (by kernel_rfl) (by kernel_rfl) (by kernel_rfl) (fun _ _ _ h => h) (Or.inl ⟨by rfl, ?_⟩) (by assumption) ?_
      rotate_left
      · (intro w hSw; (try dsimp only at hSw); go_simp <;> with_reducible rfl)
      try simp only [Act.put, List.setIfInBounds_toArray, List.set_cons_zero, List.set_cons_succ]
      refine take_lit (i := 4) (v := ?_) rfl (by kernel_rfl) (by kernel_rfl) (by kernel_rfl) (fun _ _ _ h => h) (Or.inl ⟨by rfl, ?_⟩) (by assumption) ?_
      rotate_left
      · (intro w hSw; (try dsimp only at hSw); go_simp <;> with_reducible rfl)
      try simp only [Act.put, List.setIfInBounds_toArray, List.set_cons_zero, List.set_cons_succ]
      refine take_lit (i := 5) (v := ?_) rfl (by kernel_rfl) (by kernel_rfl) (by kernel_rfl) (fun _ _ _ h => h) (Or.inl ⟨by rfl, ?_⟩) (by assumption) ?_
      rotate_left
      · (intro w hSw; (try dsimp only at hSw); go_simp <;> with_reducible rfl)
      try simp only [Act.put, List.setIfInBounds_toArray, List.set_cons_zero, List.set_cons_succ]
      refine take_lit (i := 6) (v := ?_) rfl (by kernel_rfl) (by kernel_rfl) (by kernel_rfl) (fun _ _ _ h => h) (Or.inl ⟨by rfl, ?_⟩) (by assumption) ?_
      rotate_left
      · (intro w hSw; (try dsimp only at hSw); have z := (HW _ hSw).1; go_simp <;> with_reducible rfl)
      try simp only [Act.put, List.setIfInBounds_toArray, List.set_cons_zero, List.set_cons_succ]
      refine take_lit (i := 7) (v := ?_) rfl (by kernel_rfl) (by kernel_rfl) (by kernel_rfl) (fun _ _ _ h => h) (Or.inl ⟨by rfl, ?_⟩) (by assumption) ?_
      rotate_left
      · (intro w hSw; (try dsimp only at hSw); have z := (HW _ hSw).2.2; go_simp <;> with_reducible rfl)
      try simp only [Act.put, List.setIfInBounds_toArray, List.set_cons_zero, List.set_cons_succ]
      refine take_lit (i := 8) (v := ?_) rfl (by kernel_rfl) (by kernel_rfl) (by kernel_rfl) (fun _ _ _ h => h) (Or.inl ⟨by rfl, ?_⟩) (by assumption) ?_
      rotate_left
      · (intro w hSw; (try dsimp only at hSw); go_simp <;> with_reducible rfl)
      try simp only [Act.put, List.setIfInBounds_toArray, List.set_cons_zero, List.set_cons_succ]
      refine take_lit (i := 9) (v := ?_) rfl (by kernel_rfl) (by kernel_rfl) (by kernel_rfl) (fun _ _ _ h => h) (Or.inl ⟨by rfl, ?_⟩) (by assumption) ?_
      rotate_left
      · (intro w hSw; (try dsimp only at hSw); go_simp <;> with_reducible rfl)
      try simp only [Act.put, List.setIfInBounds_toArray, List.set_cons_zero, List.set_cons_succ]
      refine take_lit (i := 10) (v := ?_) rfl (by kernel_rfl) (by kernel_rfl) (by kernel_rfl) (fun _ _ _ h => h) (Or.inl ⟨by rfl, ?_⟩) (by assumption) ?_
      rotate_left
      · (intro w hSw; (try dsimp only at hSw); go_simp <;> with_reducible rfl)
      try simp only [Act.put, List.setIfInBounds_toArray, List.set_cons_zero, List.set_cons_succ]
      refine take_lit (i := 11) (v := ?_) rfl (by kernel_rfl) (by kernel_rfl) (by kernel_rfl) (fun _ _ _ h => h) (Or.inl ⟨by rfl, ?_⟩) (by assumption) ?_
      rotate_left
      · (intro w hSw; (try dsimp only at hSw); have z := (HW _ hSw).2.1; go_simp <;> with_reducible rfl)
      try simp only [Act.put, List.setIfInBounds_toArray, List.set_cons_zero, List.set_cons_succ]
      refine take_lit (i := 12) (v := ?_) rfl (by kernel_rfl) (by kernel_rfl) (by kernel_rfl) (fun _ _ _ h => h) (Or.inl ⟨by rfl, ?_⟩) (by assumption) ?_
      rotate_left
      · (intro w hSw; (try dsimp only at hSw); go_simp <;> with_reducible rfl)
      try simp only [Act.put, List.setIfInBounds_toArray, List.set_cons_zero, List.set_cons_succ]
      refine take_lit (i := 13) (v := ?_) rfl (by kernel_rfl) (by kernel_rfl) (by kernel_rfl) (fun _ _ _ h => h) (Or.inl ⟨by rfl, ?_⟩) (by assumption) ?_
      rotate_left
      · (intro w hSw; (try dsimp only at hSw); go_simp <;> with_reducible rfl)
      try simp only [Act.put, List.setIfInBounds_toArray, List.set_cons_zero, List.set_cons_succ]
      refine wpAnyH_done (by kernel_rfl) ?_ _
      refine NoPanic.normal ?_
      refine name_world (R := fun W => Exit.then _ _ _ _ W) (P := fun W => Below w1.heap.size w1 W) _ hHeld ?_
      clear hHeld
      intro W4 hHeld
      have b4 := bt b1 hHeld
      have r04 := r0.below b4 h0
      have r14 := r1.below b4 h1
      have r24 := r2.below b4 h2
      have g4 := hrg.below hHeld hrg.lt
      have k0 := r04.lt
      have k1 := r14.lt
      have k2 := r24.lt
      have kg := g4.lt
      clear hKe hHeld hrg HK HW
      by_cases hm : most ≤ (N : Int)
      · obtain rfl : R = (6, L) := by rw [HR.out, if_pos hm]
        go_wp2_with fail
        go_ret
        exact ⟨rfl, HLT.out _ b4⟩
      · obtain rfl : R = (0, PL) := by rw [HR.out, if_neg hm]
        have hm2 : (N : Int) < most := by omega
        clear hm HLT
        go_upto_region 8 with fail
        refine wp_region_noPanic ?_
        refine wp_region_N (S := fun W => Below W4.heap.size W4 W) 8 (by kernel_rfl) ((Below.refl _ _).drew) (fun hHeld => ?_)
        refine takeN_lit (i := 0) (v := ?_) (F := #[false, true, true, true, true, true, true, true, false]) rfl (by kernel_rfl) (by kernel_rfl) (by kernel_rfl) (by kernel_rfl) (fun _ _ _ h => h) (Or.inl ⟨by rfl, ?_⟩) (by assumption) ?_
        rotate_left
        · (intro w hSw; (try dsimp only at hSw); go_simp <;> with_reducible rfl)
        try simp only [Act.put, List.setIfInBounds_toArray, List.set_cons_zero, List.set_cons_succ]
        refine takeN_lit (i := 1) (F := #[true, false, true, true, true, true, true, false, false]) rfl (by kernel_rfl) (by kernel_rfl) (by kernel_rfl) (by kernel_rfl) (fun _ _ _ h => h) (yQ p (fun w h => (r04.below h k0).range) (by rfl) rfl rfl) (by assumption) ?_
        try simp only [Act.put, List.setIfInBounds_toArray, List.set_cons_zero, List.set_cons_succ]
        refine takeN_lit (i := 2) (F := #[true, true, false, true, true, true, true, false, false]) rfl (by kernel_rfl) (by kernel_rfl) (by kernel_rfl) (by kernel_rfl) (fun _ _ _ h => h) (yI i (fun w h => (r14.below h k1).range) (by rfl) rfl rfl) (by assumption) ?_
        try simp only [Act.put, List.setIfInBounds_toArray, List.set_cons_zero, List.set_cons_succ]
        refine takeN_lit (i := 3) (v := ?_) (F := #[true, true, true, false, true, false, true, false, false]) rfl (by kernel_rfl) (by kernel_rfl) (by kernel_rfl) (by kernel_rfl) (fun _ _ _ h => h) (Or.inl ⟨by rfl, ?_⟩) (by assumption) ?_
        rotate_left
        · (intro w hSw; (try dsimp only at hSw); go_simp <;> with_reducible rfl)
        try simp only [Act.put, List.setIfInBounds_toArray, List.set_cons_zero, List.set_cons_succ]
        refine takeN_lit (i := 4) (F := #[true, true, true, true, false, false, true, false, false]) rfl (by kernel_rfl) (by kernel_rfl) (by kernel_rfl) (by kernel_rfl) (fun _ _ _ h => h) (Sn.yD s m (fun w h => (r24.below h k2).range) (by rfl) rfl rfl) (by assumption) ?_
        try simp only [Act.put, List.setIfInBounds_toArray, List.set_cons_zero, List.set_cons_succ]
        refine takeN_lit (i := 6) (v := ?_) (F := #[true, true, true, true, true, true, false, false, false]) rfl (by kernel_rfl) (by kernel_rfl) (by kernel_rfl) (by kernel_rfl) (fun _ _ _ h => h) (Or.inl ⟨by rfl, ?_⟩) (by assumption) ?_
        rotate_left
        · (intro w hSw; (try dsimp only at hSw); go_simp <;> with_reducible rfl)
        try simp only [Act.put, List.setIfInBounds_toArray, List.set_cons_zero, List.set_cons_succ]
        refine wpAnyN_ready (rs := [5]) (by kernel_rfl) (by simp) ?_
        refine consN_lit rfl (fun K hK => ?_) ?_
        · go_simp
          refine (hSk _ g (g4.below hHeld kg)).mono ?_
          rintro e w2 ⟨rfl, b2⟩
          refine hK.out _ _ (Or.inr ?_) (fun hHeld => ?_)
          · exact bt hHeld b2
          replace hHeld := hHeld.resolve_left (by decide)
          clear hK K
          try simp only [Act.put, List.setIfInBounds_toArray, List.set_cons_zero, List.set_cons_succ]
          refine takeN_lit (i := 7) (F := #[true, true, true, true, true, true, true, false, false]) rfl (by kernel_rfl) (by kernel_rfl) (by kernel_rfl) (by kernel_rfl) (fun _ _ _ h => h) (yB (v := sV (keepS none now p i s m)) [(0, .tmp 36), (1, .tmp 37), (2, .tmp 40), (3, .tmp 41)] (by rfl) rfl (fun w => bdSr p i _ _ now w)) (by assumption) ?_
          try simp only [Act.put, List.setIfInBounds_toArray, List.set_cons_zero, List.set_cons_succ]
          refine wpAnyN_ready (rs := [8]) (by kernel_rfl) (by simp) ?_
          refine consN_lit rfl (fun K hK => ?_) ?_
          · go_simp
            refine (HF.out _ (bt b4 hHeld)).mono ?_
            rintro e w3 ⟨rfl, hT⟩
            refine hK.out _ _ (Or.inl rfl) (fun _ => ?_)
            clear hK K
            try simp only [Act.put, List.setIfInBounds_toArray, List.set_cons_zero, List.set_cons_succ]
            refine wpAnyN_done (by kernel_rfl) ?_ _
            refine NoPanic.normal ?_
            go_wp2
            go_ret
            exact ⟨rfl, hT⟩
          exact AllReadyN.nil
        exact AllReadyN.nil
end Go.Proofs.Ytdcbnibgckdkbaa
