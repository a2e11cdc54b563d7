/-
  The contract of with of package pack: what must stand in front of a Tlv, its piece, and what is told then.
-/
import Derived.Test.YtdibjgcokebfbaaGreatM14
import Derived.Test.YtdibjgcokebfbaaGreatM13
namespace Go.Proofs.YtdibjgcokebfbaaGreat
open Go.RowKit
set_option linter.unusedSimpArgs false
set_option maxRecDepth 20000

theorem retTC {P : Program} {fn : Func} {p u : Tmp} {ty : TypeId} {v : Value} {w : World} (h : fn.results = #[.tmp u, .cell p ty]) (tmps : Array Value) (b o : Nat) (hp : tmps.getD p undef = .pointer (some ⟨b, o, none⟩))
    (hl : (loadVar ty ⟨b, o, none⟩).run P w = .ok v w) : (results fn tmps).run P w = .ok (.tuple #[tmps.getD u undef, v]) w := by
  simp only [results, h]
  rw [Array.getD_eq_getD_getElem?] at hp
  simp [Sem.run_bind, hp, asAddr, hl, Result.andThen]
/-- What holds while with goes on. -/
structure Wi (w W : World) (t : Tl) (o : TS) (g : Nat) (z : TS) (v : Value) (ps : List Pc) : Prop where
  bel : Below w.heap.size w W
  rO : Row W w.heap.size 70 (ocells o)
  rT : Row W (w.heap.size + 1) 45 (tcells t)
  rZ : Row W g 70 (ocells z)
  hz : w.heap.size + 1 < g
  own : W.ownsRow w.heap.size 94 2 v ps.length (rcs ps)
  bods : Bods w.heap.size W ps
section
variable {w W W' : World} {t : Tl} {o z : TS} {g : Nat} {v : Value} {ps : List Pc}
theorem Wi.below (h : Wi w W t o g z v ps) (hb : Below W.heap.size W W') : Wi w W' t o g z v ps :=
  ⟨bt h.bel hb, h.rO.below hb h.rO.lt, h.rT.below hb h.rT.lt, h.rZ.below hb h.rZ.lt, h.hz, own_keep h.own (grownBy_below none hb) (.inr rfl), h.bods.below hb⟩
theorem Bods.told {B g' : Nat} {T : TypeId} {cs : List Value} (h : Bods B W ps) (hg : W.grownBy W' (some g')) (hr : Row W g' T cs) (hT : T ≠ 5) : Bods B W' ps := h.keep hg (fun p hp => .inl fun e => own_ne (h p hp) hr hT e.symm)
theorem Wi.setO {o' : TS} (h : Wi w W t o g z v ps) (hg : W.grownBy W' (some w.heap.size)) (hr : Row W' w.heap.size 70 (ocells o')) : Wi w W' t o' g z v ps :=
  ⟨h.bel.grown hg h.bel.size (fun k hk => by cases hk; exact Nat.le_refl _), hr, h.rT.grown hg (by simp), h.rZ.grown hg (fun e => by have := Option.some.inj e; have := h.hz; omega), h.hz, own_keep h.own hg (.inl fun e => own_ne h.own h.rO (by decide) e.symm), h.bods.told hg h.rO (by decide)⟩
theorem Wi.setZ {z' : TS} (h : Wi w W t o g z v ps) (hg : W.grownBy W' (some g)) (hr : Row W' g 70 (ocells z')) : Wi w W' t o g z' v ps :=
  ⟨h.bel.grown hg h.bel.size (fun k hk => by cases hk; have := h.hz; omega), h.rO.grown hg (fun e => by have := Option.some.inj e; have := h.hz; omega), h.rT.grown hg (fun e => by have := Option.some.inj e; have := h.hz; omega), hr, h.hz, own_keep h.own hg (.inl fun e => own_ne h.own h.rZ (by decide) e.symm), h.bods.told hg h.rZ (by decide)⟩
/-- A store into a block that nobody else has. -/
theorem Wi.other {g' : Nat} {T : TypeId} {cs : List Value} (h : Wi w W t o g z v ps) (hg : W.grownBy W' (some g')) (hr : Row W g' T cs) (hge : w.heap.size ≤ g') (h1 : T ≠ 70) (h2 : T ≠ 45) (h3 : T ≠ 94) (h4 : T ≠ 5) : Wi w W' t o g z v ps := by
  have ne : ∀ {b : Nat} {U : TypeId} {ds : List Value}, Row W b U ds → T ≠ U → b ≠ g' := fun hb hT e => by
    subst e
    unfold Row at hb hr
    rw [hb] at hr
    cases hr
    exact hT rfl
  exact ⟨h.bel.grown hg h.bel.size (fun k hk => by cases hk; exact hge), h.rO.grown hg (fun e => ne h.rO h1 (Option.some.inj e)), h.rT.grown hg (fun e => ne h.rT h2 (Option.some.inj e)), h.rZ.grown hg (fun e => ne h.rZ h1 (Option.some.inj e)), h.hz, own_keep h.own hg (.inl fun e => own_ne h.own hr h3 e.symm), h.bods.told hg hr h4⟩
/-- Behind an append of one piece. -/
theorem Wi.app {v' : Value} {p : Pc} (h : Wi w W t o g z v ps) (hp : W.ownsRow w.heap.size 5 1 (.slice p.a p.n p.c) p.n (bcells p.l)) (own' : W'.ownsRow w.heap.size 94 2 v' (ps.length + 1) (rcs (ps ++ [p]))) (hg : W.grownBy W' v.ownBlock) : Wi w W' t o g z v' (ps ++ [p]) := by
  have no : ∀ {b : Nat} {U : TypeId} {ds : List Value}, Row W b U ds → U ≠ 94 → Row W' b U ds := fun hb hT => hb.grown hg (own_ne h.own hb hT)
  refine ⟨h.bel.grown hg h.bel.size (fun k hk => (h.own.lt k hk).1), no h.rO (by decide), no h.rT (by decide), no h.rZ (by decide), h.hz, by simpa using own', ?_⟩
  intro q hq
  have hq' : W.ownsRow w.heap.size 5 1 (.slice q.a q.n q.c) q.n (bcells q.l) := by
    rcases List.mem_append.1 hq with h1 | h1
    · exact h.bods q h1
    · obtain rfl : q = p := by simpa using h1
      exact hp
  exact own_keep hq' hg (own_apart hq' h.own (by decide))
end
theorem Row.ne {W : World} {b b' : Nat} {U U' : TypeId} {ds ds' : List Value} (h : Row W b U ds) (h' : Row W b' U' ds') (hT : U ≠ U') : b ≠ b' := fun e => by
  subst e
  unfold Row at h h'
  rw [h] at h'
  cases h'
  exact hT rfl
theorem Row.rcSrc {W : World} {g : Nat} {p : Pc} (h : Row W g 94 (rc p)) : ∀ j u, (rcs [p])[j]? = some u → W.cell? (Addr.add ⟨g, 0, none⟩ j) = some u := by
  have e : rcs [p] = rc p := by simp [rcs]
  rw [e]
  intro j u hu
  rw [Addr.add_lit, Nat.zero_add, h.cell]
  exact hu
/-- What with answers. -/
def Wid (w : World) (o : TS) (k : TK) (e : Ending) (w' : World) : Prop := ∃ a n c ps, e = .returned (.tuple #[.slice a n c, .agg (ocells (witS o k)).toArray]) ∧ keys ps = witP o k ∧ w'.ownsRow w.heap.size 94 2 (.slice a n c) n (rcs ps) ∧ Bods w.heap.size w' ps ∧ Below w.heap.size w w'
theorem rbR (x : Int) (a : Option Addr) (n c : Nat) (w : World) : (Instr.buildSlice 71 1 #[(0, .agg #[.int .u8 x, .slice a n c])]).run Tryz.prog w = .ok (.slice (some ⟨w.heap.size, 0, none⟩) 1 1) (w.alloc (.cells #[.int .u8 x, .slice a n c] 94)) := by kernel_rfl
section
variable {ops : Array Oper} {rest : List Oper} {op : Oper} {a : Act} {w : World} {K : Act → World → Prop} {Q : Exit → Act → World → Prop} {E : Prop}
theorem sBR (x : Operand) (hw : Region.wanted op (yielded ops a.tmps) = true) (ho : op.op = .buildSlice 71 1 #[(0, x)]) (p : Pc) (hx : a.eval x = .agg #[.int .u8 (p.t.toNat : Int), .slice p.a p.n p.c])
    (h : ∀ g W, Row W g 94 (rc p) → Below w.heap.size w W → K (a.put op.dst (.slice (some ⟨g, 0, none⟩) 1 1)) W) : if Region.wanted op (yielded ops a.tmps) = true then Oper.wp Tryz.prog op a w K Q else E := by
  rw [if_pos hw]
  unfold Oper.wp execOp
  simp only [ho, List.map_toArray, List.map_cons, List.map_nil, hx, Sem.run_bind, rbR, Result.andThen_ok, Sem.run_pure]
  exact h _ _ (Row.new w 94 (rc p)) (ba _ _)
theorem bR (x : Operand) (hw : Region.wanted op (yielded ops a.tmps) = true) (ho : op.op = .buildSlice 71 1 #[(0, x)]) (p : Pc) (hx : a.eval x = .agg #[.int .u8 (p.t.toNat : Int), .slice p.a p.n p.c])
    (h : ∀ g W, Row W g 94 (rc p) → Below w.heap.size w W → wpList Tryz.prog ops Q rest (a.put op.dst (.slice (some ⟨g, 0, none⟩) 1 1)) W) : wpList Tryz.prog ops Q (op :: rest) a w :=
  wpList_step fun K hK => by
    rw [if_pos hw]
    unfold Oper.wp execOp
    simp only [ho, List.map_toArray, List.map_cons, List.map_nil, hx, Sem.run_bind, rbR, Result.andThen_ok, Sem.run_pure]
    exact hK _ _ (h _ _ (Row.new w 94 (rc p)) (ba _ _))
end
theorem keys_append (ps qs : List Pc) : keys (ps ++ qs) = keys ps ++ keys qs := by simp [keys]
set_option maxHeartbeats 4000000 in
theorem with_no (o : TS) (t : Tl) (w : World) (ht : TSrc w t) (h : TOk t.key) (hway : wayB t.key = false) : Calls Tryz.prog 49 #[.agg (ocells o).toArray, .agg (tcells t).toArray] w (Wid w o t.key) := by
  have HP : Hid (∀ W, Below w.heap.size w W → Calls Tryz.prog 39 #[.agg (tcells t).toArray] W (Pcd W (pieK t.key))) := fun W hW => piece_any t W (Src.below ht hW (Src.lt ht)) h
  have HW := isWay_any t
  rw [hway] at HW
  obtain ⟨pk, hpk⟩ : ∃ p, pieK t.key = p := ⟨_, rfl⟩
  rw [hpk] at HP
  have RO := (Row.new w 70 (ocells o)).alloc (.cells (tcells t).toArray 45)
  have RT := two_newR w (.cells (ocells o).toArray 70) 45 (tcells t)
  have BX := bt (ba w (.cells (ocells o).toArray 70)) (ba _ (.cells (tcells t).toArray 45))
  have HWS : Hid (witS o t.key = o) := by show _ = _; unfold witS; rw [hway]; rfl
  have HWP : Hid (witP o t.key = [(pk.1, pk.2)]) := by show _ = _; unfold witP; rw [hway, hpk]; rfl
  clear hpk hway ht h
  go_enter Tryz.func49, Tryz.ntmps49
  go_wp2_with (first
    | (go_at_call 47; refine (HW _).mono ?_; rintro e w1 ⟨rfl, b1⟩; have H1 := H0.below b1; clear b1)
    | (refine ldT (.tmp 3) (by rfl) rfl (w.heap.size + 1) t rfl H0.rT ?_)
    | (refine alG infoOz (by rfl) rfl ?_; intro gZ wZ a1 a2 a3 rZ; have H0 : Wi w wZ t o gZ zeroO (.slice none 0 0) [] := ⟨bt BX a3, RO.below a3 RO.lt, RT.below a3 RT.lt, rZ, (by simp at a1; omega), World.ownsRow_nil _ _ _ _, (fun q hq => by cases hq)⟩))
  have HX := H1.below (bd _)
  clear H0 H1
  refine wp_region_noPanic ?_
  refine wp_region_held_drew (S := fun W => Row W (w.heap.size + 1) 45 (tcells t) ∧ Row W w.heap.size 70 (ocells (o))) (by kernel_rfl) (⟨HX.rT, HX.rO⟩) (fun hHeld => ?_)
  refine tA 0 ?_
  refine tL 1 rfl (yT t (fun W hW => hW.1) (by rfl) rfl rfl) ?_
  refine tL 5 rfl (yO (o) (fun W hW => hW.2.range) (by rfl) rfl rfl) ?_
  refine r1 2 fun K hK => ?_
  go_simp
  refine (HP.out _ HX.bel).mono ?_
  rintro e w2 ⟨pa, pn, pc, rfl, oP, d2⟩
  replace oP := own_le oP HX.bel.size
  replace HX := HX.below d2
  clear d2
  refine oK hK (by exact ⟨HX.rT, HX.rO⟩) fun hHeld => ?_
  clear hK K
  refine r1 3 fun K hK => ?_
  refine sBR (.tmp 51) (by rfl) rfl ⟨pk.1, pa, pn, pc, pk.2⟩ rfl ?_
  intro g3 w3 s3 d3
  replace oP := own_keep oP (grownBy_below none d3) (.inr rfl)
  replace HX := HX.below d3
  clear d3
  refine oK hK (by exact ⟨HX.rT, HX.rO⟩) fun hHeld => ?_
  clear hK K
  refine r1 4 fun K hK => ?_
  refine sAppR (.tmp 49) (.tmp 52) (by rfl) rfl w.heap.size (.slice none 0 0) _ ([]) rfl HX.own ⟨g3, 0, none⟩ 1 1 [⟨pk.1, pa, pn, pc, pk.2⟩] rfl s3.rcSrc rfl (by simp) HX.bel.size ?_
  intro v4 w4 own4 hg4
  replace HX := HX.app oP own4 hg4
  clear oP s3
  refine oK hK (by exact ⟨HX.rT, HX.rO⟩) fun hHeld => ?_
  clear hK K
  refine tA 6 ?_
  refine r1 7 fun K hK => ?_
  refine sStO (.tmp 5) (.tmp 54) (by rfl) rfl gZ (o) (ocells zeroO) [] rfl rfl (ocells_len _) (by simpa using HX.rZ) ?_
  intro w7 hg7 r7
  try replace oP := own_keep oP hg7 (.inl fun e => own_ne oP HX.rZ (by decide) e.symm)
  try replace s3 := s3.grown hg7 (fun e => s3.ne HX.rZ (by decide) (Option.some.inj e))
  replace HX := HX.setZ hg7 (by simpa using r7)
  refine oK hK (by exact ⟨HX.rT, HX.rO⟩) fun hHeld => ?_
  clear hK K
  refine dN ?_
  refine NoPanic.normal ?_
  go_wp2
  obtain ⟨aF, cF, rfl⟩ := own_shape2 HX.own
  exact bodyPost_ret (retTC rfl _ _ 0 rfl (lvO HX.rZ.range)) rfl ⟨aF, _, cF, _, by rw [HWS.out]; rfl, by rw [HWP.out]; first | rfl | simp [keys], HX.own, HX.bods, HX.bel⟩
theorem wis_n4n (o : TS) (t : Tl) : ({ ({ o with r := t.id } : TS) with h4 := t.ad, k4 := true } : TS) = { o with r := t.id, h4 := t.ad, k4 := true } := by
  obtain ⟨r, h4, k4, h6, k6⟩ := o
  rfl
set_option maxHeartbeats 8000000 in
theorem with_n4n (o : TS) (t : Tl) (w : World) (ht : TSrc w t) (h : TOk t.key) (hway : wayB t.key = true) (hrr : decide (o.r.l = t.id.l) = false) (hf : famP t.pr.d = 4) (hh : (decide (o.h4.l = t.ad.l) && o.k4) = false) : Calls Tryz.prog 49 #[.agg (ocells o).toArray, .agg (tcells t).toArray] w (Wid w o t.key) := by
  have HP : Hid (∀ W, Below w.heap.size w W → Calls Tryz.prog 39 #[.agg (tcells t).toArray] W (Pcd W (pieK t.key))) := fun W hW => piece_any t W (Src.below ht hW (Src.lt ht)) h
  have HW := isWay_any t
  rw [hway] at HW
  obtain ⟨pk, hpk⟩ : ∃ p, pieK t.key = p := ⟨_, rfl⟩
  rw [hpk] at HP
  have RO := (Row.new w 70 (ocells o)).alloc (.cells (tcells t).toArray 45)
  have RT := two_newR w (.cells (ocells o).toArray 70) 45 (tcells t)
  have BX := bt (ba w (.cells (ocells o).toArray 70)) (ba _ (.cells (tcells t).toArray 45))
  have HB : hasB o t.key = false := by
    rw [← hh]; unfold hasB; rw [show t.key.pr = t.pr from rfl, hf]; rfl
  have HWS : Hid (witS o t.key = { o with r := t.id, h4 := t.ad, k4 := true }) := by
    show _ = _
    unfold witS hopS rtrS
    rw [hway, show t.key.pr = t.pr from rfl, hf]
    rw [if_pos rfl]
    rw [if_pos rfl]
    exact wis_n4n o t
  have HWP0 : witP o t.key = [rtrK t.id] ++ [hopK t.ad] ++ [pieK t.key] := by
    unfold witP rtrP hopP
    rw [hway, HB, show t.key.id = t.id from rfl, hrr]
    rfl
  have HR := routerPiece_any t.id
  obtain ⟨rk, hrk⟩ : ∃ p, rtrK t.id = p := ⟨_, rfl⟩
  rw [hrk] at HR HWP0
  have HO := hopPiece_any t.ad
  obtain ⟨ok, hok⟩ : ∃ p, hopK t.ad = p := ⟨_, rfl⟩
  rw [hok] at HO HWP0
  rw [hpk] at HWP0
  have HWP : Hid (witP o t.key = [(rk.1, rk.2)] ++ [(ok.1, ok.2)] ++ [(pk.1, pk.2)]) := HWP0
  have HF := pfam_any t.pr.d
  rw [hf] at HF
  have HPL := place_any 4
  rw [show plcI 4 = 0 from rfl] at HPL
  have eI := fun w => eqI 9998 o.r t.id w
  rw [hrr] at eI
  have eH := fun w => eqH 9997 o.h4 t.ad o.k4 true w
  rw [show (o.k4 == true) = o.k4 from by cases o.k4 <;> rfl, hh] at eH
  clear hpk hway ht h HWP0 HB hrr hf hh hrk hok
  go_enter Tryz.func49, Tryz.ntmps49
  go_wp2_with (first
    | (at_builtin; have kk := r4; refine append_raw rfl (.tmp 19) (.tmp 23) rfl w.heap.size (.slice none 0 0) 0 [] rfl H4.own g4 ⟨rk.1, ra, rn, rcc, rk.2⟩ 1 rfl r4 (by decide) H4.bel.size ?_; intro v5 w5 own5 hg5; have H5 := H4.app (p := ⟨rk.1, ra, rn, rcc, rk.2⟩) oR own5 hg5)
    | (have kk := H3; refine bR (.tmp 22) (by rfl) rfl ⟨rk.1, ra, rn, rcc, rk.2⟩ rfl ?_; intro g4 w4 r4 d4; have H4 := H3.below d4; replace oR := own_keep oR (grownBy_below none d4) (.inr rfl); clear d4)
    | (go_at_call 86; have kk := H2; refine (HR _).mono ?_; rintro e w3 ⟨ra, rn, rcc, rfl, oR, b3⟩; replace oR := own_le oR H2.bel.size; have H3 := H2.below b3; clear b3)
    | (have kk := H2; refine ldI (.tmp 20) (by rfl) rfl (w.heap.size + 1) 9 t.id rfl H2.rT.rId2 ?_)
    | (have kk := H1; refine stOr (.tmp 18) (.tmp 17) (by rfl) rfl w.heap.size o t.id rfl rfl H1.rO ?_; intro w2 hg2 r2; have H2 := H1.setO hg2 r2)
    | (have kk := H1; refine ldI (.tmp 16) (by rfl) rfl (w.heap.size + 1) 9 t.id rfl H1.rT.rId2 ?_)
    | (have kk := H1; refine ldI (.tmp 13) (by rfl) rfl (w.heap.size + 1) 9 t.id rfl H1.rT.rId2 ?_)
    | (have kk := H1; refine ldI (.tmp 11) (by rfl) rfl w.heap.size 0 o.r rfl (rangeAt_left H1.rO.range) ?_)
    | (go_at_call 47; refine (HW _).mono ?_; rintro e w1 ⟨rfl, b1⟩; have H1 := H0.below b1; clear b1)
    | (refine ldT (.tmp 3) (by rfl) rfl (w.heap.size + 1) t rfl H0.rT ?_)
    | (refine alG infoOz (by rfl) rfl ?_; intro gZ wZ a1 a2 a3 rZ; have H0 : Wi w wZ t o gZ zeroO (.slice none 0 0) [] := ⟨bt BX a3, RO.below a3 RO.lt, RT.below a3 RT.lt, rZ, (by simp at a1; omega), World.ownsRow_nil _ _ _ _, (fun q hq => by cases hq)⟩))
  have HX := H5.below (bd _)
  clear H0 H1 H2 H3 H4 H5 oR r4
  apply region_ex (PP := fun gH W => Row W gH 67 (hopc t.ad true) ∧ w.heap.size ≤ gH ∧ Wi w W t ({ o with r := t.id }) gZ zeroO v5 [⟨rk.1, ra, rn, rcc, rk.2⟩])
  case h1 =>
    refine wp_region_held_drew (S := fun W => Row W (w.heap.size + 1) 45 (tcells t)) (by kernel_rfl) (HX.rT) (fun hHeld => ?_)
    refine tA 0 ?_
    refine tA 1 ?_
    refine tL 2 rfl (yP t.pr.d (fun W hW => hW.rPr.d) (by rfl) rfl rfl) ?_
    refine tA 5 ?_
    refine tL 6 rfl (yA t.ad (fun W hW => hW.rAd) (by rfl) rfl rfl) ?_
    refine tL 7 rfl (yB [(0, .tmp 31), (1, .const (.bool true))] (by rfl) rfl (bdH t.ad)) ?_
    refine rM [3,8] ?_
    refine cL (fun K hK => ?_) ?_
    · skip
      go_simp
      refine (HF _).mono ?_
      rintro e w3 ⟨rfl, d3⟩
      replace HX := HX.below d3
      try replace rH := rH.below d3 rH.lt
      clear d3
      refine oK hK (by exact HX.rT) fun hHeld => ?_
      clear hK K
      refine rM [4,8] ?_
      refine cL (fun K hK => ?_) ?_
      · skip
        go_simp
        refine (HPL _).mono ?_
        rintro e w4 ⟨rfl, rfl⟩
        refine oK hK (by exact HX.rT) fun hHeld => ?_
        clear hK K
        refine r1 8 fun K hK => ?_
        refine sAlG infoHz (by rfl) rfl ?_
        intro gH wH d1 d2 d8 rH
        have hgH := Nat.le_trans HX.bel.size d1
        replace HX := HX.below d8
        clear d1 d2 d8
        refine oK hK (by exact HX.rT) fun hHeld => ?_
        clear hK K
        refine tA 9 ?_
        refine r1 10 fun K hK => ?_
        refine sStH (.tmp 8) (.tmp 32) (by rfl) rfl gH 0 t.ad true [] (hopc zeroA false) [] rfl rfl rfl (hopc_len _ _) (by simpa using rH) ?_
        intro w10 hg10 r10
        replace HX := HX.other hg10 rH hgH (by decide) (by decide) (by decide) (by decide)
        replace rH := r10
        simp only [List.nil_append, List.append_nil] at rH
        clear r10
        refine oK hK (by exact HX.rT) fun hHeld => ?_
        clear hK K
        refine dN ?_
        exact ⟨gH, rfl, rH, hgH, HX⟩
      refine cE fun K hK => ?_
      refine sAlG infoHz (by rfl) rfl ?_
      intro gH wH d1 d2 d8 rH
      have hgH := Nat.le_trans HX.bel.size d1
      replace HX := HX.below d8
      clear d1 d2 d8
      refine oK hK (by exact HX.rT) fun hHeld => ?_
      clear hK K
      refine r1 4 fun K hK => ?_
      go_simp
      refine (HPL _).mono ?_
      rintro e w4 ⟨rfl, rfl⟩
      refine oK hK (by exact HX.rT) fun hHeld => ?_
      clear hK K
      refine tA 9 ?_
      refine r1 10 fun K hK => ?_
      refine sStH (.tmp 8) (.tmp 32) (by rfl) rfl gH 0 t.ad true [] (hopc zeroA false) [] rfl rfl rfl (hopc_len _ _) (by simpa using rH) ?_
      intro w10 hg10 r10
      replace HX := HX.other hg10 rH hgH (by decide) (by decide) (by decide) (by decide)
      replace rH := r10
      simp only [List.nil_append, List.append_nil] at rH
      clear r10
      refine oK hK (by exact HX.rT) fun hHeld => ?_
      clear hK K
      refine dN ?_
      exact ⟨gH, rfl, rH, hgH, HX⟩
    refine cE fun K hK => ?_
    refine sAlG infoHz (by rfl) rfl ?_
    intro gH wH d1 d2 d8 rH
    have hgH := Nat.le_trans HX.bel.size d1
    replace HX := HX.below d8
    clear d1 d2 d8
    refine oK hK (by exact HX.rT) fun hHeld => ?_
    clear hK K
    refine r1 3 fun K hK => ?_
    go_simp
    refine (HF _).mono ?_
    rintro e w3 ⟨rfl, d3⟩
    replace HX := HX.below d3
    try replace rH := rH.below d3 rH.lt
    clear d3
    refine oK hK (by exact HX.rT) fun hHeld => ?_
    clear hK K
    refine r1 4 fun K hK => ?_
    go_simp
    refine (HPL _).mono ?_
    rintro e w4 ⟨rfl, rfl⟩
    refine oK hK (by exact HX.rT) fun hHeld => ?_
    clear hK K
    refine tA 9 ?_
    refine r1 10 fun K hK => ?_
    refine sStH (.tmp 8) (.tmp 32) (by rfl) rfl gH 0 t.ad true [] (hopc zeroA false) [] rfl rfl rfl (hopc_len _ _) (by simpa using rH) ?_
    intro w10 hg10 r10
    replace HX := HX.other hg10 rH hgH (by decide) (by decide) (by decide) (by decide)
    replace rH := r10
    simp only [List.nil_append, List.append_nil] at rH
    clear r10
    refine oK hK (by exact HX.rT) fun hHeld => ?_
    clear hK K
    refine dN ?_
    exact ⟨gH, rfl, rH, hgH, HX⟩
  case h2 =>
  clear HX HF HPL
  rintro gH wH ⟨rH, hgH, HX⟩
  go_wp2
  replace rH := rH.below (bd _) rH.lt
  replace HX := HX.below (bd _)
  refine wp_region_noPanic ?_
  refine wp_region_held_drew (S := fun W => Row W w.heap.size 70 (ocells ({ o with r := t.id })) ∧ Row W gH 67 (hopc t.ad true)) (by kernel_rfl) (⟨HX.rO, rH⟩) (fun hHeld => ?_)
  refine tA 0 ?_
  refine tA 1 ?_
  refine tA 2 ?_
  refine tL 3 rfl (yH o.h4 o.k4 (fun W hW => o4_at (o := { o with r := t.id }) hW.1) (by rfl) rfl rfl) ?_
  refine tL 4 rfl (yH t.ad true (fun W hW => hW.2.range) (by rfl) rfl rfl) ?_
  refine tA 5 ?_
  refine dN ?_
  refine NoPanic.normal ?_
  clear hHeld
  go_wp2_with (first
    | (at_builtin; have kk := r11; refine append_raw rfl (.tmp 43) (.tmp 47) rfl w.heap.size v5 _ [⟨rk.1, ra, rn, rcc, rk.2⟩] rfl H11.own g11 ⟨ok.1, oa, on, oc, ok.2⟩ 1 rfl r11 (by simp) H11.bel.size ?_; intro v12 w12 own12 hg12; have H12 := H11.app (p := ⟨ok.1, oa, on, oc, ok.2⟩) oO own12 hg12)
    | (have kk := H10; refine bR (.tmp 46) (by rfl) rfl ⟨ok.1, oa, on, oc, ok.2⟩ rfl ?_; intro g11 w11 r11 d11; have H11 := H10.below d11; replace oO := own_keep oO (grownBy_below none d11) (.inr rfl); clear d11)
    | (go_at_call 87; have kk := H8; refine (HO _).mono ?_; rintro e w10 ⟨oa, on, oc, rfl, oO, b10⟩; replace oO := own_le oO H8.bel.size; have H10 := H8.below b10; clear b10)
    | (have kk := H8; refine ldA (.tmp 44) (by rfl) rfl (w.heap.size + 1) 17 t.ad rfl H8.rT.rAd ?_)
    | (refine stH (T := 70) (.tmp 42) (.tmp 40) (by rfl) rfl w.heap.size 8 t.ad true (icells (({ o with r := t.id } : TS)).r) (hopc o.h4 o.k4) (hopc o.h6 o.k6) (icells_len _) rfl rfl (hopc_len _ _) ?row1 ?_; exact HX.rO; intro w8 hg8 r8; have H8 : Wi w w8 t ({ o with r := t.id, h4 := t.ad, k4 := true }) gZ zeroO v5 [⟨rk.1, ra, rn, rcc, rk.2⟩] := HX.setO hg8 r8)
    | (refine ldH (.tmp 8) (by rfl) rfl gH 0 t.ad true rfl rH.range ?_))
  replace HX := H12.below (bd _)
  clear H8 H10 H11 H12 oO r11 rH
  refine wp_region_noPanic ?_
  refine wp_region_held_drew (S := fun W => Row W (w.heap.size + 1) 45 (tcells t) ∧ Row W w.heap.size 70 (ocells ({ o with r := t.id, h4 := t.ad, k4 := true }))) (by kernel_rfl) (⟨HX.rT, HX.rO⟩) (fun hHeld => ?_)
  refine tA 0 ?_
  refine tL 1 rfl (yT t (fun W hW => hW.1) (by rfl) rfl rfl) ?_
  refine tL 5 rfl (yO ({ o with r := t.id, h4 := t.ad, k4 := true }) (fun W hW => hW.2.range) (by rfl) rfl rfl) ?_
  refine r1 2 fun K hK => ?_
  go_simp
  refine (HP.out _ HX.bel).mono ?_
  rintro e w2 ⟨pa, pn, pc, rfl, oP, d2⟩
  replace oP := own_le oP HX.bel.size
  replace HX := HX.below d2
  clear d2
  refine oK hK (by exact ⟨HX.rT, HX.rO⟩) fun hHeld => ?_
  clear hK K
  refine r1 3 fun K hK => ?_
  refine sBR (.tmp 51) (by rfl) rfl ⟨pk.1, pa, pn, pc, pk.2⟩ rfl ?_
  intro g3 w3 s3 d3
  replace oP := own_keep oP (grownBy_below none d3) (.inr rfl)
  replace HX := HX.below d3
  clear d3
  refine oK hK (by exact ⟨HX.rT, HX.rO⟩) fun hHeld => ?_
  clear hK K
  refine r1 4 fun K hK => ?_
  refine sAppR (.tmp 49) (.tmp 52) (by rfl) rfl w.heap.size v12 _ (([⟨rk.1, ra, rn, rcc, rk.2⟩] ++ [⟨ok.1, oa, on, oc, ok.2⟩])) rfl HX.own ⟨g3, 0, none⟩ 1 1 [⟨pk.1, pa, pn, pc, pk.2⟩] rfl s3.rcSrc rfl (by simp) HX.bel.size ?_
  intro v4 w4 own4 hg4
  replace HX := HX.app oP own4 hg4
  clear oP s3
  refine oK hK (by exact ⟨HX.rT, HX.rO⟩) fun hHeld => ?_
  clear hK K
  refine tA 6 ?_
  refine r1 7 fun K hK => ?_
  refine sStO (.tmp 5) (.tmp 54) (by rfl) rfl gZ ({ o with r := t.id, h4 := t.ad, k4 := true }) (ocells zeroO) [] rfl rfl (ocells_len _) (by simpa using HX.rZ) ?_
  intro w7 hg7 r7
  try replace oP := own_keep oP hg7 (.inl fun e => own_ne oP HX.rZ (by decide) e.symm)
  try replace s3 := s3.grown hg7 (fun e => s3.ne HX.rZ (by decide) (Option.some.inj e))
  replace HX := HX.setZ hg7 (by simpa using r7)
  refine oK hK (by exact ⟨HX.rT, HX.rO⟩) fun hHeld => ?_
  clear hK K
  refine dN ?_
  refine NoPanic.normal ?_
  go_wp2
  obtain ⟨aF, cF, rfl⟩ := own_shape2 HX.own
  exact bodyPost_ret (retTC rfl _ _ 0 rfl (lvO HX.rZ.range)) rfl ⟨aF, _, cF, _, by rw [HWS.out]; rfl, by rw [HWP.out]; first | rfl | simp [keys], HX.own, HX.bods, HX.bel⟩
theorem wis_n4e (o : TS) (t : Tl) (hh : (decide (o.h4.l = t.ad.l) && o.k4) = true) : ({ ({ o with r := t.id } : TS) with h4 := t.ad, k4 := true } : TS) = { o with r := t.id } := by
  simp only [Bool.and_eq_true, decide_eq_true_eq] at hh
  have e2 : o.h4 = t.ad := Ad.ext hh.1
  have e3 := hh.2
  obtain ⟨r, h4, k4, h6, k6⟩ := o
  simp only at *
  subst e2
  subst e3
  rfl
set_option maxHeartbeats 8000000 in
theorem with_n4e (o : TS) (t : Tl) (w : World) (ht : TSrc w t) (h : TOk t.key) (hway : wayB t.key = true) (hrr : decide (o.r.l = t.id.l) = false) (hf : famP t.pr.d = 4) (hh : (decide (o.h4.l = t.ad.l) && o.k4) = true) : Calls Tryz.prog 49 #[.agg (ocells o).toArray, .agg (tcells t).toArray] w (Wid w o t.key) := by
  have HP : Hid (∀ W, Below w.heap.size w W → Calls Tryz.prog 39 #[.agg (tcells t).toArray] W (Pcd W (pieK t.key))) := fun W hW => piece_any t W (Src.below ht hW (Src.lt ht)) h
  have HW := isWay_any t
  rw [hway] at HW
  obtain ⟨pk, hpk⟩ : ∃ p, pieK t.key = p := ⟨_, rfl⟩
  rw [hpk] at HP
  have RO := (Row.new w 70 (ocells o)).alloc (.cells (tcells t).toArray 45)
  have RT := two_newR w (.cells (ocells o).toArray 70) 45 (tcells t)
  have BX := bt (ba w (.cells (ocells o).toArray 70)) (ba _ (.cells (tcells t).toArray 45))
  have HB : hasB o t.key = true := by
    rw [← hh]; unfold hasB; rw [show t.key.pr = t.pr from rfl, hf]; rfl
  have HWS : Hid (witS o t.key = { o with r := t.id }) := by
    show _ = _
    unfold witS hopS rtrS
    rw [hway, show t.key.pr = t.pr from rfl, hf]
    rw [if_pos rfl]
    rw [if_pos rfl]
    exact wis_n4e o t hh
  have HWP0 : witP o t.key = [rtrK t.id] ++ [pieK t.key] := by
    unfold witP rtrP hopP
    rw [hway, HB, show t.key.id = t.id from rfl, hrr]
    rfl
  have HR := routerPiece_any t.id
  obtain ⟨rk, hrk⟩ : ∃ p, rtrK t.id = p := ⟨_, rfl⟩
  rw [hrk] at HR HWP0
  rw [hpk] at HWP0
  have HWP : Hid (witP o t.key = [(rk.1, rk.2)] ++ [(pk.1, pk.2)]) := HWP0
  have HF := pfam_any t.pr.d
  rw [hf] at HF
  have HPL := place_any 4
  rw [show plcI 4 = 0 from rfl] at HPL
  have eI := fun w => eqI 9998 o.r t.id w
  rw [hrr] at eI
  have eH := fun w => eqH 9997 o.h4 t.ad o.k4 true w
  rw [show (o.k4 == true) = o.k4 from by cases o.k4 <;> rfl, hh] at eH
  clear hpk hway ht h HWP0 HB hrr hf hh hrk
  go_enter Tryz.func49, Tryz.ntmps49
  go_wp2_with (first
    | (at_builtin; have kk := r4; refine append_raw rfl (.tmp 19) (.tmp 23) rfl w.heap.size (.slice none 0 0) 0 [] rfl H4.own g4 ⟨rk.1, ra, rn, rcc, rk.2⟩ 1 rfl r4 (by decide) H4.bel.size ?_; intro v5 w5 own5 hg5; have H5 := H4.app (p := ⟨rk.1, ra, rn, rcc, rk.2⟩) oR own5 hg5)
    | (have kk := H3; refine bR (.tmp 22) (by rfl) rfl ⟨rk.1, ra, rn, rcc, rk.2⟩ rfl ?_; intro g4 w4 r4 d4; have H4 := H3.below d4; replace oR := own_keep oR (grownBy_below none d4) (.inr rfl); clear d4)
    | (go_at_call 86; have kk := H2; refine (HR _).mono ?_; rintro e w3 ⟨ra, rn, rcc, rfl, oR, b3⟩; replace oR := own_le oR H2.bel.size; have H3 := H2.below b3; clear b3)
    | (have kk := H2; refine ldI (.tmp 20) (by rfl) rfl (w.heap.size + 1) 9 t.id rfl H2.rT.rId2 ?_)
    | (have kk := H1; refine stOr (.tmp 18) (.tmp 17) (by rfl) rfl w.heap.size o t.id rfl rfl H1.rO ?_; intro w2 hg2 r2; have H2 := H1.setO hg2 r2)
    | (have kk := H1; refine ldI (.tmp 16) (by rfl) rfl (w.heap.size + 1) 9 t.id rfl H1.rT.rId2 ?_)
    | (have kk := H1; refine ldI (.tmp 13) (by rfl) rfl (w.heap.size + 1) 9 t.id rfl H1.rT.rId2 ?_)
    | (have kk := H1; refine ldI (.tmp 11) (by rfl) rfl w.heap.size 0 o.r rfl (rangeAt_left H1.rO.range) ?_)
    | (go_at_call 47; refine (HW _).mono ?_; rintro e w1 ⟨rfl, b1⟩; have H1 := H0.below b1; clear b1)
    | (refine ldT (.tmp 3) (by rfl) rfl (w.heap.size + 1) t rfl H0.rT ?_)
    | (refine alG infoOz (by rfl) rfl ?_; intro gZ wZ a1 a2 a3 rZ; have H0 : Wi w wZ t o gZ zeroO (.slice none 0 0) [] := ⟨bt BX a3, RO.below a3 RO.lt, RT.below a3 RT.lt, rZ, (by simp at a1; omega), World.ownsRow_nil _ _ _ _, (fun q hq => by cases hq)⟩))
  have HX := H5.below (bd _)
  clear H0 H1 H2 H3 H4 H5 oR r4
  apply region_ex (PP := fun gH W => Row W gH 67 (hopc t.ad true) ∧ w.heap.size ≤ gH ∧ Wi w W t ({ o with r := t.id }) gZ zeroO v5 [⟨rk.1, ra, rn, rcc, rk.2⟩])
  case h1 =>
    refine wp_region_held_drew (S := fun W => Row W (w.heap.size + 1) 45 (tcells t)) (by kernel_rfl) (HX.rT) (fun hHeld => ?_)
    refine tA 0 ?_
    refine tA 1 ?_
    refine tL 2 rfl (yP t.pr.d (fun W hW => hW.rPr.d) (by rfl) rfl rfl) ?_
    refine tA 5 ?_
    refine tL 6 rfl (yA t.ad (fun W hW => hW.rAd) (by rfl) rfl rfl) ?_
    refine tL 7 rfl (yB [(0, .tmp 31), (1, .const (.bool true))] (by rfl) rfl (bdH t.ad)) ?_
    refine rM [3,8] ?_
    refine cL (fun K hK => ?_) ?_
    · skip
      go_simp
      refine (HF _).mono ?_
      rintro e w3 ⟨rfl, d3⟩
      replace HX := HX.below d3
      try replace rH := rH.below d3 rH.lt
      clear d3
      refine oK hK (by exact HX.rT) fun hHeld => ?_
      clear hK K
      refine rM [4,8] ?_
      refine cL (fun K hK => ?_) ?_
      · skip
        go_simp
        refine (HPL _).mono ?_
        rintro e w4 ⟨rfl, rfl⟩
        refine oK hK (by exact HX.rT) fun hHeld => ?_
        clear hK K
        refine r1 8 fun K hK => ?_
        refine sAlG infoHz (by rfl) rfl ?_
        intro gH wH d1 d2 d8 rH
        have hgH := Nat.le_trans HX.bel.size d1
        replace HX := HX.below d8
        clear d1 d2 d8
        refine oK hK (by exact HX.rT) fun hHeld => ?_
        clear hK K
        refine tA 9 ?_
        refine r1 10 fun K hK => ?_
        refine sStH (.tmp 8) (.tmp 32) (by rfl) rfl gH 0 t.ad true [] (hopc zeroA false) [] rfl rfl rfl (hopc_len _ _) (by simpa using rH) ?_
        intro w10 hg10 r10
        replace HX := HX.other hg10 rH hgH (by decide) (by decide) (by decide) (by decide)
        replace rH := r10
        simp only [List.nil_append, List.append_nil] at rH
        clear r10
        refine oK hK (by exact HX.rT) fun hHeld => ?_
        clear hK K
        refine dN ?_
        exact ⟨gH, rfl, rH, hgH, HX⟩
      refine cE fun K hK => ?_
      refine sAlG infoHz (by rfl) rfl ?_
      intro gH wH d1 d2 d8 rH
      have hgH := Nat.le_trans HX.bel.size d1
      replace HX := HX.below d8
      clear d1 d2 d8
      refine oK hK (by exact HX.rT) fun hHeld => ?_
      clear hK K
      refine r1 4 fun K hK => ?_
      go_simp
      refine (HPL _).mono ?_
      rintro e w4 ⟨rfl, rfl⟩
      refine oK hK (by exact HX.rT) fun hHeld => ?_
      clear hK K
      refine tA 9 ?_
      refine r1 10 fun K hK => ?_
      refine sStH (.tmp 8) (.tmp 32) (by rfl) rfl gH 0 t.ad true [] (hopc zeroA false) [] rfl rfl rfl (hopc_len _ _) (by simpa using rH) ?_
      intro w10 hg10 r10
      replace HX := HX.other hg10 rH hgH (by decide) (by decide) (by decide) (by decide)
      replace rH := r10
      simp only [List.nil_append, List.append_nil] at rH
      clear r10
      refine oK hK (by exact HX.rT) fun hHeld => ?_
      clear hK K
      refine dN ?_
      exact ⟨gH, rfl, rH, hgH, HX⟩
    refine cE fun K hK => ?_
    refine sAlG infoHz (by rfl) rfl ?_
    intro gH wH d1 d2 d8 rH
    have hgH := Nat.le_trans HX.bel.size d1
    replace HX := HX.below d8
    clear d1 d2 d8
    refine oK hK (by exact HX.rT) fun hHeld => ?_
    clear hK K
    refine r1 3 fun K hK => ?_
    go_simp
    refine (HF _).mono ?_
    rintro e w3 ⟨rfl, d3⟩
    replace HX := HX.below d3
    try replace rH := rH.below d3 rH.lt
    clear d3
    refine oK hK (by exact HX.rT) fun hHeld => ?_
    clear hK K
    refine r1 4 fun K hK => ?_
    go_simp
    refine (HPL _).mono ?_
    rintro e w4 ⟨rfl, rfl⟩
    refine oK hK (by exact HX.rT) fun hHeld => ?_
    clear hK K
    refine tA 9 ?_
    refine r1 10 fun K hK => ?_
    refine sStH (.tmp 8) (.tmp 32) (by rfl) rfl gH 0 t.ad true [] (hopc zeroA false) [] rfl rfl rfl (hopc_len _ _) (by simpa using rH) ?_
    intro w10 hg10 r10
    replace HX := HX.other hg10 rH hgH (by decide) (by decide) (by decide) (by decide)
    replace rH := r10
    simp only [List.nil_append, List.append_nil] at rH
    clear r10
    refine oK hK (by exact HX.rT) fun hHeld => ?_
    clear hK K
    refine dN ?_
    exact ⟨gH, rfl, rH, hgH, HX⟩
  case h2 =>
  clear HX HF HPL
  rintro gH wH ⟨rH, hgH, HX⟩
  go_wp2
  replace rH := rH.below (bd _) rH.lt
  replace HX := HX.below (bd _)
  refine wp_region_noPanic ?_
  refine wp_region_held_drew (S := fun W => Row W w.heap.size 70 (ocells ({ o with r := t.id })) ∧ Row W gH 67 (hopc t.ad true)) (by kernel_rfl) (⟨HX.rO, rH⟩) (fun hHeld => ?_)
  refine tA 0 ?_
  refine tA 1 ?_
  refine tA 2 ?_
  refine tL 3 rfl (yH o.h4 o.k4 (fun W hW => o4_at (o := { o with r := t.id }) hW.1) (by rfl) rfl rfl) ?_
  refine tL 4 rfl (yH t.ad true (fun W hW => hW.2.range) (by rfl) rfl rfl) ?_
  refine tA 5 ?_
  refine dN ?_
  refine NoPanic.normal ?_
  go_wp2
  clear hHeld
  replace HX := HX.below (bd _)
  refine wp_region_noPanic ?_
  refine wp_region_held_drew (S := fun W => Row W (w.heap.size + 1) 45 (tcells t) ∧ Row W w.heap.size 70 (ocells ({ o with r := t.id }))) (by kernel_rfl) (⟨HX.rT, HX.rO⟩) (fun hHeld => ?_)
  refine tA 0 ?_
  refine tL 1 rfl (yT t (fun W hW => hW.1) (by rfl) rfl rfl) ?_
  refine tL 5 rfl (yO ({ o with r := t.id }) (fun W hW => hW.2.range) (by rfl) rfl rfl) ?_
  refine r1 2 fun K hK => ?_
  go_simp
  refine (HP.out _ HX.bel).mono ?_
  rintro e w2 ⟨pa, pn, pc, rfl, oP, d2⟩
  replace oP := own_le oP HX.bel.size
  replace HX := HX.below d2
  clear d2
  refine oK hK (by exact ⟨HX.rT, HX.rO⟩) fun hHeld => ?_
  clear hK K
  refine r1 3 fun K hK => ?_
  refine sBR (.tmp 51) (by rfl) rfl ⟨pk.1, pa, pn, pc, pk.2⟩ rfl ?_
  intro g3 w3 s3 d3
  replace oP := own_keep oP (grownBy_below none d3) (.inr rfl)
  replace HX := HX.below d3
  clear d3
  refine oK hK (by exact ⟨HX.rT, HX.rO⟩) fun hHeld => ?_
  clear hK K
  refine r1 4 fun K hK => ?_
  refine sAppR (.tmp 49) (.tmp 52) (by rfl) rfl w.heap.size v5 _ ([⟨rk.1, ra, rn, rcc, rk.2⟩]) rfl HX.own ⟨g3, 0, none⟩ 1 1 [⟨pk.1, pa, pn, pc, pk.2⟩] rfl s3.rcSrc rfl (by simp) HX.bel.size ?_
  intro v4 w4 own4 hg4
  replace HX := HX.app oP own4 hg4
  clear oP s3
  refine oK hK (by exact ⟨HX.rT, HX.rO⟩) fun hHeld => ?_
  clear hK K
  refine tA 6 ?_
  refine r1 7 fun K hK => ?_
  refine sStO (.tmp 5) (.tmp 54) (by rfl) rfl gZ ({ o with r := t.id }) (ocells zeroO) [] rfl rfl (ocells_len _) (by simpa using HX.rZ) ?_
  intro w7 hg7 r7
  try replace oP := own_keep oP hg7 (.inl fun e => own_ne oP HX.rZ (by decide) e.symm)
  try replace s3 := s3.grown hg7 (fun e => s3.ne HX.rZ (by decide) (Option.some.inj e))
  replace HX := HX.setZ hg7 (by simpa using r7)
  refine oK hK (by exact ⟨HX.rT, HX.rO⟩) fun hHeld => ?_
  clear hK K
  refine dN ?_
  refine NoPanic.normal ?_
  go_wp2
  obtain ⟨aF, cF, rfl⟩ := own_shape2 HX.own
  exact bodyPost_ret (retTC rfl _ _ 0 rfl (lvO HX.rZ.range)) rfl ⟨aF, _, cF, _, by rw [HWS.out]; rfl, by rw [HWP.out]; first | rfl | simp [keys], HX.own, HX.bods, HX.bel⟩
theorem wis_n6n (o : TS) (t : Tl) : ({ ({ o with r := t.id } : TS) with h6 := t.ad, k6 := true } : TS) = { o with r := t.id, h6 := t.ad, k6 := true } := by
  obtain ⟨r, h4, k4, h6, k6⟩ := o
  rfl
set_option maxHeartbeats 8000000 in
theorem with_n6n (o : TS) (t : Tl) (w : World) (ht : TSrc w t) (h : TOk t.key) (hway : wayB t.key = true) (hrr : decide (o.r.l = t.id.l) = false) (hf : famP t.pr.d = 6) (hh : (decide (o.h6.l = t.ad.l) && o.k6) = false) : Calls Tryz.prog 49 #[.agg (ocells o).toArray, .agg (tcells t).toArray] w (Wid w o t.key) := by
  have HP : Hid (∀ W, Below w.heap.size w W → Calls Tryz.prog 39 #[.agg (tcells t).toArray] W (Pcd W (pieK t.key))) := fun W hW => piece_any t W (Src.below ht hW (Src.lt ht)) h
  have HW := isWay_any t
  rw [hway] at HW
  obtain ⟨pk, hpk⟩ : ∃ p, pieK t.key = p := ⟨_, rfl⟩
  rw [hpk] at HP
  have RO := (Row.new w 70 (ocells o)).alloc (.cells (tcells t).toArray 45)
  have RT := two_newR w (.cells (ocells o).toArray 70) 45 (tcells t)
  have BX := bt (ba w (.cells (ocells o).toArray 70)) (ba _ (.cells (tcells t).toArray 45))
  have HB : hasB o t.key = false := by
    rw [← hh]; unfold hasB; rw [show t.key.pr = t.pr from rfl, hf]; rfl
  have HWS : Hid (witS o t.key = { o with r := t.id, h6 := t.ad, k6 := true }) := by
    show _ = _
    unfold witS hopS rtrS
    rw [hway, show t.key.pr = t.pr from rfl, hf]
    rw [if_pos rfl]
    rw [if_neg (by decide)]
    exact wis_n6n o t
  have HWP0 : witP o t.key = [rtrK t.id] ++ [hopK t.ad] ++ [pieK t.key] := by
    unfold witP rtrP hopP
    rw [hway, HB, show t.key.id = t.id from rfl, hrr]
    rfl
  have HR := routerPiece_any t.id
  obtain ⟨rk, hrk⟩ : ∃ p, rtrK t.id = p := ⟨_, rfl⟩
  rw [hrk] at HR HWP0
  have HO := hopPiece_any t.ad
  obtain ⟨ok, hok⟩ : ∃ p, hopK t.ad = p := ⟨_, rfl⟩
  rw [hok] at HO HWP0
  rw [hpk] at HWP0
  have HWP : Hid (witP o t.key = [(rk.1, rk.2)] ++ [(ok.1, ok.2)] ++ [(pk.1, pk.2)]) := HWP0
  have HF := pfam_any t.pr.d
  rw [hf] at HF
  have HPL := place_any 6
  rw [show plcI 6 = 1 from rfl] at HPL
  have eI := fun w => eqI 9998 o.r t.id w
  rw [hrr] at eI
  have eH := fun w => eqH 9997 o.h6 t.ad o.k6 true w
  rw [show (o.k6 == true) = o.k6 from by cases o.k6 <;> rfl, hh] at eH
  clear hpk hway ht h HWP0 HB hrr hf hh hrk hok
  go_enter Tryz.func49, Tryz.ntmps49
  go_wp2_with (first
    | (at_builtin; have kk := r4; refine append_raw rfl (.tmp 19) (.tmp 23) rfl w.heap.size (.slice none 0 0) 0 [] rfl H4.own g4 ⟨rk.1, ra, rn, rcc, rk.2⟩ 1 rfl r4 (by decide) H4.bel.size ?_; intro v5 w5 own5 hg5; have H5 := H4.app (p := ⟨rk.1, ra, rn, rcc, rk.2⟩) oR own5 hg5)
    | (have kk := H3; refine bR (.tmp 22) (by rfl) rfl ⟨rk.1, ra, rn, rcc, rk.2⟩ rfl ?_; intro g4 w4 r4 d4; have H4 := H3.below d4; replace oR := own_keep oR (grownBy_below none d4) (.inr rfl); clear d4)
    | (go_at_call 86; have kk := H2; refine (HR _).mono ?_; rintro e w3 ⟨ra, rn, rcc, rfl, oR, b3⟩; replace oR := own_le oR H2.bel.size; have H3 := H2.below b3; clear b3)
    | (have kk := H2; refine ldI (.tmp 20) (by rfl) rfl (w.heap.size + 1) 9 t.id rfl H2.rT.rId2 ?_)
    | (have kk := H1; refine stOr (.tmp 18) (.tmp 17) (by rfl) rfl w.heap.size o t.id rfl rfl H1.rO ?_; intro w2 hg2 r2; have H2 := H1.setO hg2 r2)
    | (have kk := H1; refine ldI (.tmp 16) (by rfl) rfl (w.heap.size + 1) 9 t.id rfl H1.rT.rId2 ?_)
    | (have kk := H1; refine ldI (.tmp 13) (by rfl) rfl (w.heap.size + 1) 9 t.id rfl H1.rT.rId2 ?_)
    | (have kk := H1; refine ldI (.tmp 11) (by rfl) rfl w.heap.size 0 o.r rfl (rangeAt_left H1.rO.range) ?_)
    | (go_at_call 47; refine (HW _).mono ?_; rintro e w1 ⟨rfl, b1⟩; have H1 := H0.below b1; clear b1)
    | (refine ldT (.tmp 3) (by rfl) rfl (w.heap.size + 1) t rfl H0.rT ?_)
    | (refine alG infoOz (by rfl) rfl ?_; intro gZ wZ a1 a2 a3 rZ; have H0 : Wi w wZ t o gZ zeroO (.slice none 0 0) [] := ⟨bt BX a3, RO.below a3 RO.lt, RT.below a3 RT.lt, rZ, (by simp at a1; omega), World.ownsRow_nil _ _ _ _, (fun q hq => by cases hq)⟩))
  have HX := H5.below (bd _)
  clear H0 H1 H2 H3 H4 H5 oR r4
  apply region_ex (PP := fun gH W => Row W gH 67 (hopc t.ad true) ∧ w.heap.size ≤ gH ∧ Wi w W t ({ o with r := t.id }) gZ zeroO v5 [⟨rk.1, ra, rn, rcc, rk.2⟩])
  case h1 =>
    refine wp_region_held_drew (S := fun W => Row W (w.heap.size + 1) 45 (tcells t)) (by kernel_rfl) (HX.rT) (fun hHeld => ?_)
    refine tA 0 ?_
    refine tA 1 ?_
    refine tL 2 rfl (yP t.pr.d (fun W hW => hW.rPr.d) (by rfl) rfl rfl) ?_
    refine tA 5 ?_
    refine tL 6 rfl (yA t.ad (fun W hW => hW.rAd) (by rfl) rfl rfl) ?_
    refine tL 7 rfl (yB [(0, .tmp 31), (1, .const (.bool true))] (by rfl) rfl (bdH t.ad)) ?_
    refine rM [3,8] ?_
    refine cL (fun K hK => ?_) ?_
    · skip
      go_simp
      refine (HF _).mono ?_
      rintro e w3 ⟨rfl, d3⟩
      replace HX := HX.below d3
      try replace rH := rH.below d3 rH.lt
      clear d3
      refine oK hK (by exact HX.rT) fun hHeld => ?_
      clear hK K
      refine rM [4,8] ?_
      refine cL (fun K hK => ?_) ?_
      · skip
        go_simp
        refine (HPL _).mono ?_
        rintro e w4 ⟨rfl, rfl⟩
        refine oK hK (by exact HX.rT) fun hHeld => ?_
        clear hK K
        refine r1 8 fun K hK => ?_
        refine sAlG infoHz (by rfl) rfl ?_
        intro gH wH d1 d2 d8 rH
        have hgH := Nat.le_trans HX.bel.size d1
        replace HX := HX.below d8
        clear d1 d2 d8
        refine oK hK (by exact HX.rT) fun hHeld => ?_
        clear hK K
        refine tA 9 ?_
        refine r1 10 fun K hK => ?_
        refine sStH (.tmp 8) (.tmp 32) (by rfl) rfl gH 0 t.ad true [] (hopc zeroA false) [] rfl rfl rfl (hopc_len _ _) (by simpa using rH) ?_
        intro w10 hg10 r10
        replace HX := HX.other hg10 rH hgH (by decide) (by decide) (by decide) (by decide)
        replace rH := r10
        simp only [List.nil_append, List.append_nil] at rH
        clear r10
        refine oK hK (by exact HX.rT) fun hHeld => ?_
        clear hK K
        refine dN ?_
        exact ⟨gH, rfl, rH, hgH, HX⟩
      refine cE fun K hK => ?_
      refine sAlG infoHz (by rfl) rfl ?_
      intro gH wH d1 d2 d8 rH
      have hgH := Nat.le_trans HX.bel.size d1
      replace HX := HX.below d8
      clear d1 d2 d8
      refine oK hK (by exact HX.rT) fun hHeld => ?_
      clear hK K
      refine r1 4 fun K hK => ?_
      go_simp
      refine (HPL _).mono ?_
      rintro e w4 ⟨rfl, rfl⟩
      refine oK hK (by exact HX.rT) fun hHeld => ?_
      clear hK K
      refine tA 9 ?_
      refine r1 10 fun K hK => ?_
      refine sStH (.tmp 8) (.tmp 32) (by rfl) rfl gH 0 t.ad true [] (hopc zeroA false) [] rfl rfl rfl (hopc_len _ _) (by simpa using rH) ?_
      intro w10 hg10 r10
      replace HX := HX.other hg10 rH hgH (by decide) (by decide) (by decide) (by decide)
      replace rH := r10
      simp only [List.nil_append, List.append_nil] at rH
      clear r10
      refine oK hK (by exact HX.rT) fun hHeld => ?_
      clear hK K
      refine dN ?_
      exact ⟨gH, rfl, rH, hgH, HX⟩
    refine cE fun K hK => ?_
    refine sAlG infoHz (by rfl) rfl ?_
    intro gH wH d1 d2 d8 rH
    have hgH := Nat.le_trans HX.bel.size d1
    replace HX := HX.below d8
    clear d1 d2 d8
    refine oK hK (by exact HX.rT) fun hHeld => ?_
    clear hK K
    refine r1 3 fun K hK => ?_
    go_simp
    refine (HF _).mono ?_
    rintro e w3 ⟨rfl, d3⟩
    replace HX := HX.below d3
    try replace rH := rH.below d3 rH.lt
    clear d3
    refine oK hK (by exact HX.rT) fun hHeld => ?_
    clear hK K
    refine r1 4 fun K hK => ?_
    go_simp
    refine (HPL _).mono ?_
    rintro e w4 ⟨rfl, rfl⟩
    refine oK hK (by exact HX.rT) fun hHeld => ?_
    clear hK K
    refine tA 9 ?_
    refine r1 10 fun K hK => ?_
    refine sStH (.tmp 8) (.tmp 32) (by rfl) rfl gH 0 t.ad true [] (hopc zeroA false) [] rfl rfl rfl (hopc_len _ _) (by simpa using rH) ?_
    intro w10 hg10 r10
    replace HX := HX.other hg10 rH hgH (by decide) (by decide) (by decide) (by decide)
    replace rH := r10
    simp only [List.nil_append, List.append_nil] at rH
    clear r10
    refine oK hK (by exact HX.rT) fun hHeld => ?_
    clear hK K
    refine dN ?_
    exact ⟨gH, rfl, rH, hgH, HX⟩
  case h2 =>
  clear HX HF HPL
  rintro gH wH ⟨rH, hgH, HX⟩
  go_wp2
  replace rH := rH.below (bd _) rH.lt
  replace HX := HX.below (bd _)
  refine wp_region_noPanic ?_
  refine wp_region_held_drew (S := fun W => Row W w.heap.size 70 (ocells ({ o with r := t.id })) ∧ Row W gH 67 (hopc t.ad true)) (by kernel_rfl) (⟨HX.rO, rH⟩) (fun hHeld => ?_)
  refine tA 0 ?_
  refine tA 1 ?_
  refine tA 2 ?_
  refine tL 3 rfl (yH o.h6 o.k6 (fun W hW => o6_at (o := { o with r := t.id }) hW.1) (by rfl) rfl rfl) ?_
  refine tL 4 rfl (yH t.ad true (fun W hW => hW.2.range) (by rfl) rfl rfl) ?_
  refine tA 5 ?_
  refine dN ?_
  refine NoPanic.normal ?_
  clear hHeld
  go_wp2_with (first
    | (at_builtin; have kk := r11; refine append_raw rfl (.tmp 43) (.tmp 47) rfl w.heap.size v5 _ [⟨rk.1, ra, rn, rcc, rk.2⟩] rfl H11.own g11 ⟨ok.1, oa, on, oc, ok.2⟩ 1 rfl r11 (by simp) H11.bel.size ?_; intro v12 w12 own12 hg12; have H12 := H11.app (p := ⟨ok.1, oa, on, oc, ok.2⟩) oO own12 hg12)
    | (have kk := H10; refine bR (.tmp 46) (by rfl) rfl ⟨ok.1, oa, on, oc, ok.2⟩ rfl ?_; intro g11 w11 r11 d11; have H11 := H10.below d11; replace oO := own_keep oO (grownBy_below none d11) (.inr rfl); clear d11)
    | (go_at_call 87; have kk := H8; refine (HO _).mono ?_; rintro e w10 ⟨oa, on, oc, rfl, oO, b10⟩; replace oO := own_le oO H8.bel.size; have H10 := H8.below b10; clear b10)
    | (have kk := H8; refine ldA (.tmp 44) (by rfl) rfl (w.heap.size + 1) 17 t.ad rfl H8.rT.rAd ?_)
    | (refine stH (T := 70) (.tmp 42) (.tmp 40) (by rfl) rfl w.heap.size 25 t.ad true (icells (({ o with r := t.id } : TS)).r ++ hopc o.h4 o.k4) (hopc o.h6 o.k6) [] (by rw [List.length_append, icells_len, hopc_len]) rfl rfl (hopc_len _ _) ?row1 ?_; exact (by have := HX.rO; unfold ocells at this; simpa using this); intro w8 hg8 r8; have H8 : Wi w w8 t ({ o with r := t.id, h6 := t.ad, k6 := true }) gZ zeroO v5 [⟨rk.1, ra, rn, rcc, rk.2⟩] := HX.setO hg8 (by unfold ocells; simpa using r8))
    | (refine ldH (.tmp 8) (by rfl) rfl gH 0 t.ad true rfl rH.range ?_))
  replace HX := H12.below (bd _)
  clear H8 H10 H11 H12 oO r11 rH
  refine wp_region_noPanic ?_
  refine wp_region_held_drew (S := fun W => Row W (w.heap.size + 1) 45 (tcells t) ∧ Row W w.heap.size 70 (ocells ({ o with r := t.id, h6 := t.ad, k6 := true }))) (by kernel_rfl) (⟨HX.rT, HX.rO⟩) (fun hHeld => ?_)
  refine tA 0 ?_
  refine tL 1 rfl (yT t (fun W hW => hW.1) (by rfl) rfl rfl) ?_
  refine tL 5 rfl (yO ({ o with r := t.id, h6 := t.ad, k6 := true }) (fun W hW => hW.2.range) (by rfl) rfl rfl) ?_
  refine r1 2 fun K hK => ?_
  go_simp
  refine (HP.out _ HX.bel).mono ?_
  rintro e w2 ⟨pa, pn, pc, rfl, oP, d2⟩
  replace oP := own_le oP HX.bel.size
  replace HX := HX.below d2
  clear d2
  refine oK hK (by exact ⟨HX.rT, HX.rO⟩) fun hHeld => ?_
  clear hK K
  refine r1 3 fun K hK => ?_
  refine sBR (.tmp 51) (by rfl) rfl ⟨pk.1, pa, pn, pc, pk.2⟩ rfl ?_
  intro g3 w3 s3 d3
  replace oP := own_keep oP (grownBy_below none d3) (.inr rfl)
  replace HX := HX.below d3
  clear d3
  refine oK hK (by exact ⟨HX.rT, HX.rO⟩) fun hHeld => ?_
  clear hK K
  refine r1 4 fun K hK => ?_
  refine sAppR (.tmp 49) (.tmp 52) (by rfl) rfl w.heap.size v12 _ (([⟨rk.1, ra, rn, rcc, rk.2⟩] ++ [⟨ok.1, oa, on, oc, ok.2⟩])) rfl HX.own ⟨g3, 0, none⟩ 1 1 [⟨pk.1, pa, pn, pc, pk.2⟩] rfl s3.rcSrc rfl (by simp) HX.bel.size ?_
  intro v4 w4 own4 hg4
  replace HX := HX.app oP own4 hg4
  clear oP s3
  refine oK hK (by exact ⟨HX.rT, HX.rO⟩) fun hHeld => ?_
  clear hK K
  refine tA 6 ?_
  refine r1 7 fun K hK => ?_
  refine sStO (.tmp 5) (.tmp 54) (by rfl) rfl gZ ({ o with r := t.id, h6 := t.ad, k6 := true }) (ocells zeroO) [] rfl rfl (ocells_len _) (by simpa using HX.rZ) ?_
  intro w7 hg7 r7
  try replace oP := own_keep oP hg7 (.inl fun e => own_ne oP HX.rZ (by decide) e.symm)
  try replace s3 := s3.grown hg7 (fun e => s3.ne HX.rZ (by decide) (Option.some.inj e))
  replace HX := HX.setZ hg7 (by simpa using r7)
  refine oK hK (by exact ⟨HX.rT, HX.rO⟩) fun hHeld => ?_
  clear hK K
  refine dN ?_
  refine NoPanic.normal ?_
  go_wp2
  obtain ⟨aF, cF, rfl⟩ := own_shape2 HX.own
  exact bodyPost_ret (retTC rfl _ _ 0 rfl (lvO HX.rZ.range)) rfl ⟨aF, _, cF, _, by rw [HWS.out]; rfl, by rw [HWP.out]; first | rfl | simp [keys], HX.own, HX.bods, HX.bel⟩
theorem wis_n6e (o : TS) (t : Tl) (hh : (decide (o.h6.l = t.ad.l) && o.k6) = true) : ({ ({ o with r := t.id } : TS) with h6 := t.ad, k6 := true } : TS) = { o with r := t.id } := by
  simp only [Bool.and_eq_true, decide_eq_true_eq] at hh
  have e2 : o.h6 = t.ad := Ad.ext hh.1
  have e3 := hh.2
  obtain ⟨r, h4, k4, h6, k6⟩ := o
  simp only at *
  subst e2
  subst e3
  rfl
set_option maxHeartbeats 8000000 in
theorem with_n6e (o : TS) (t : Tl) (w : World) (ht : TSrc w t) (h : TOk t.key) (hway : wayB t.key = true) (hrr : decide (o.r.l = t.id.l) = false) (hf : famP t.pr.d = 6) (hh : (decide (o.h6.l = t.ad.l) && o.k6) = true) : Calls Tryz.prog 49 #[.agg (ocells o).toArray, .agg (tcells t).toArray] w (Wid w o t.key) := by
  have HP : Hid (∀ W, Below w.heap.size w W → Calls Tryz.prog 39 #[.agg (tcells t).toArray] W (Pcd W (pieK t.key))) := fun W hW => piece_any t W (Src.below ht hW (Src.lt ht)) h
  have HW := isWay_any t
  rw [hway] at HW
  obtain ⟨pk, hpk⟩ : ∃ p, pieK t.key = p := ⟨_, rfl⟩
  rw [hpk] at HP
  have RO := (Row.new w 70 (ocells o)).alloc (.cells (tcells t).toArray 45)
  have RT := two_newR w (.cells (ocells o).toArray 70) 45 (tcells t)
  have BX := bt (ba w (.cells (ocells o).toArray 70)) (ba _ (.cells (tcells t).toArray 45))
  have HB : hasB o t.key = true := by
    rw [← hh]; unfold hasB; rw [show t.key.pr = t.pr from rfl, hf]; rfl
  have HWS : Hid (witS o t.key = { o with r := t.id }) := by
    show _ = _
    unfold witS hopS rtrS
    rw [hway, show t.key.pr = t.pr from rfl, hf]
    rw [if_pos rfl]
    rw [if_neg (by decide)]
    exact wis_n6e o t hh
  have HWP0 : witP o t.key = [rtrK t.id] ++ [pieK t.key] := by
    unfold witP rtrP hopP
    rw [hway, HB, show t.key.id = t.id from rfl, hrr]
    rfl
  have HR := routerPiece_any t.id
  obtain ⟨rk, hrk⟩ : ∃ p, rtrK t.id = p := ⟨_, rfl⟩
  rw [hrk] at HR HWP0
  rw [hpk] at HWP0
  have HWP : Hid (witP o t.key = [(rk.1, rk.2)] ++ [(pk.1, pk.2)]) := HWP0
  have HF := pfam_any t.pr.d
  rw [hf] at HF
  have HPL := place_any 6
  rw [show plcI 6 = 1 from rfl] at HPL
  have eI := fun w => eqI 9998 o.r t.id w
  rw [hrr] at eI
  have eH := fun w => eqH 9997 o.h6 t.ad o.k6 true w
  rw [show (o.k6 == true) = o.k6 from by cases o.k6 <;> rfl, hh] at eH
  clear hpk hway ht h HWP0 HB hrr hf hh hrk
  go_enter Tryz.func49, Tryz.ntmps49
  go_wp2_with (first
    | (at_builtin; have kk := r4; refine append_raw rfl (.tmp 19) (.tmp 23) rfl w.heap.size (.slice none 0 0) 0 [] rfl H4.own g4 ⟨rk.1, ra, rn, rcc, rk.2⟩ 1 rfl r4 (by decide) H4.bel.size ?_; intro v5 w5 own5 hg5; have H5 := H4.app (p := ⟨rk.1, ra, rn, rcc, rk.2⟩) oR own5 hg5)
    | (have kk := H3; refine bR (.tmp 22) (by rfl) rfl ⟨rk.1, ra, rn, rcc, rk.2⟩ rfl ?_; intro g4 w4 r4 d4; have H4 := H3.below d4; replace oR := own_keep oR (grownBy_below none d4) (.inr rfl); clear d4)
    | (go_at_call 86; have kk := H2; refine (HR _).mono ?_; rintro e w3 ⟨ra, rn, rcc, rfl, oR, b3⟩; replace oR := own_le oR H2.bel.size; have H3 := H2.below b3; clear b3)
    | (have kk := H2; refine ldI (.tmp 20) (by rfl) rfl (w.heap.size + 1) 9 t.id rfl H2.rT.rId2 ?_)
    | (have kk := H1; refine stOr (.tmp 18) (.tmp 17) (by rfl) rfl w.heap.size o t.id rfl rfl H1.rO ?_; intro w2 hg2 r2; have H2 := H1.setO hg2 r2)
    | (have kk := H1; refine ldI (.tmp 16) (by rfl) rfl (w.heap.size + 1) 9 t.id rfl H1.rT.rId2 ?_)
    | (have kk := H1; refine ldI (.tmp 13) (by rfl) rfl (w.heap.size + 1) 9 t.id rfl H1.rT.rId2 ?_)
    | (have kk := H1; refine ldI (.tmp 11) (by rfl) rfl w.heap.size 0 o.r rfl (rangeAt_left H1.rO.range) ?_)
    | (go_at_call 47; refine (HW _).mono ?_; rintro e w1 ⟨rfl, b1⟩; have H1 := H0.below b1; clear b1)
    | (refine ldT (.tmp 3) (by rfl) rfl (w.heap.size + 1) t rfl H0.rT ?_)
    | (refine alG infoOz (by rfl) rfl ?_; intro gZ wZ a1 a2 a3 rZ; have H0 : Wi w wZ t o gZ zeroO (.slice none 0 0) [] := ⟨bt BX a3, RO.below a3 RO.lt, RT.below a3 RT.lt, rZ, (by simp at a1; omega), World.ownsRow_nil _ _ _ _, (fun q hq => by cases hq)⟩))
  have HX := H5.below (bd _)
  clear H0 H1 H2 H3 H4 H5 oR r4
  apply region_ex (PP := fun gH W => Row W gH 67 (hopc t.ad true) ∧ w.heap.size ≤ gH ∧ Wi w W t ({ o with r := t.id }) gZ zeroO v5 [⟨rk.1, ra, rn, rcc, rk.2⟩])
  case h1 =>
    refine wp_region_held_drew (S := fun W => Row W (w.heap.size + 1) 45 (tcells t)) (by kernel_rfl) (HX.rT) (fun hHeld => ?_)
    refine tA 0 ?_
    refine tA 1 ?_
    refine tL 2 rfl (yP t.pr.d (fun W hW => hW.rPr.d) (by rfl) rfl rfl) ?_
    refine tA 5 ?_
    refine tL 6 rfl (yA t.ad (fun W hW => hW.rAd) (by rfl) rfl rfl) ?_
    refine tL 7 rfl (yB [(0, .tmp 31), (1, .const (.bool true))] (by rfl) rfl (bdH t.ad)) ?_
    refine rM [3,8] ?_
    refine cL (fun K hK => ?_) ?_
    · skip
      go_simp
      refine (HF _).mono ?_
      rintro e w3 ⟨rfl, d3⟩
      replace HX := HX.below d3
      try replace rH := rH.below d3 rH.lt
      clear d3
      refine oK hK (by exact HX.rT) fun hHeld => ?_
      clear hK K
      refine rM [4,8] ?_
      refine cL (fun K hK => ?_) ?_
      · skip
        go_simp
        refine (HPL _).mono ?_
        rintro e w4 ⟨rfl, rfl⟩
        refine oK hK (by exact HX.rT) fun hHeld => ?_
        clear hK K
        refine r1 8 fun K hK => ?_
        refine sAlG infoHz (by rfl) rfl ?_
        intro gH wH d1 d2 d8 rH
        have hgH := Nat.le_trans HX.bel.size d1
        replace HX := HX.below d8
        clear d1 d2 d8
        refine oK hK (by exact HX.rT) fun hHeld => ?_
        clear hK K
        refine tA 9 ?_
        refine r1 10 fun K hK => ?_
        refine sStH (.tmp 8) (.tmp 32) (by rfl) rfl gH 0 t.ad true [] (hopc zeroA false) [] rfl rfl rfl (hopc_len _ _) (by simpa using rH) ?_
        intro w10 hg10 r10
        replace HX := HX.other hg10 rH hgH (by decide) (by decide) (by decide) (by decide)
        replace rH := r10
        simp only [List.nil_append, List.append_nil] at rH
        clear r10
        refine oK hK (by exact HX.rT) fun hHeld => ?_
        clear hK K
        refine dN ?_
        exact ⟨gH, rfl, rH, hgH, HX⟩
      refine cE fun K hK => ?_
      refine sAlG infoHz (by rfl) rfl ?_
      intro gH wH d1 d2 d8 rH
      have hgH := Nat.le_trans HX.bel.size d1
      replace HX := HX.below d8
      clear d1 d2 d8
      refine oK hK (by exact HX.rT) fun hHeld => ?_
      clear hK K
      refine r1 4 fun K hK => ?_
      go_simp
      refine (HPL _).mono ?_
      rintro e w4 ⟨rfl, rfl⟩
      refine oK hK (by exact HX.rT) fun hHeld => ?_
      clear hK K
      refine tA 9 ?_
      refine r1 10 fun K hK => ?_
      refine sStH (.tmp 8) (.tmp 32) (by rfl) rfl gH 0 t.ad true [] (hopc zeroA false) [] rfl rfl rfl (hopc_len _ _) (by simpa using rH) ?_
      intro w10 hg10 r10
      replace HX := HX.other hg10 rH hgH (by decide) (by decide) (by decide) (by decide)
      replace rH := r10
      simp only [List.nil_append, List.append_nil] at rH
      clear r10
      refine oK hK (by exact HX.rT) fun hHeld => ?_
      clear hK K
      refine dN ?_
      exact ⟨gH, rfl, rH, hgH, HX⟩
    refine cE fun K hK => ?_
    refine sAlG infoHz (by rfl) rfl ?_
    intro gH wH d1 d2 d8 rH
    have hgH := Nat.le_trans HX.bel.size d1
    replace HX := HX.below d8
    clear d1 d2 d8
    refine oK hK (by exact HX.rT) fun hHeld => ?_
    clear hK K
    refine r1 3 fun K hK => ?_
    go_simp
    refine (HF _).mono ?_
    rintro e w3 ⟨rfl, d3⟩
    replace HX := HX.below d3
    try replace rH := rH.below d3 rH.lt
    clear d3
    refine oK hK (by exact HX.rT) fun hHeld => ?_
    clear hK K
    refine r1 4 fun K hK => ?_
    go_simp
    refine (HPL _).mono ?_
    rintro e w4 ⟨rfl, rfl⟩
    refine oK hK (by exact HX.rT) fun hHeld => ?_
    clear hK K
    refine tA 9 ?_
    refine r1 10 fun K hK => ?_
    refine sStH (.tmp 8) (.tmp 32) (by rfl) rfl gH 0 t.ad true [] (hopc zeroA false) [] rfl rfl rfl (hopc_len _ _) (by simpa using rH) ?_
    intro w10 hg10 r10
    replace HX := HX.other hg10 rH hgH (by decide) (by decide) (by decide) (by decide)
    replace rH := r10
    simp only [List.nil_append, List.append_nil] at rH
    clear r10
    refine oK hK (by exact HX.rT) fun hHeld => ?_
    clear hK K
    refine dN ?_
    exact ⟨gH, rfl, rH, hgH, HX⟩
  case h2 =>
  clear HX HF HPL
  rintro gH wH ⟨rH, hgH, HX⟩
  go_wp2
  replace rH := rH.below (bd _) rH.lt
  replace HX := HX.below (bd _)
  refine wp_region_noPanic ?_
  refine wp_region_held_drew (S := fun W => Row W w.heap.size 70 (ocells ({ o with r := t.id })) ∧ Row W gH 67 (hopc t.ad true)) (by kernel_rfl) (⟨HX.rO, rH⟩) (fun hHeld => ?_)
  refine tA 0 ?_
  refine tA 1 ?_
  refine tA 2 ?_
  refine tL 3 rfl (yH o.h6 o.k6 (fun W hW => o6_at (o := { o with r := t.id }) hW.1) (by rfl) rfl rfl) ?_
  refine tL 4 rfl (yH t.ad true (fun W hW => hW.2.range) (by rfl) rfl rfl) ?_
  refine tA 5 ?_
  refine dN ?_
  refine NoPanic.normal ?_
  go_wp2
  clear hHeld
  replace HX := HX.below (bd _)
  refine wp_region_noPanic ?_
  refine wp_region_held_drew (S := fun W => Row W (w.heap.size + 1) 45 (tcells t) ∧ Row W w.heap.size 70 (ocells ({ o with r := t.id }))) (by kernel_rfl) (⟨HX.rT, HX.rO⟩) (fun hHeld => ?_)
  refine tA 0 ?_
  refine tL 1 rfl (yT t (fun W hW => hW.1) (by rfl) rfl rfl) ?_
  refine tL 5 rfl (yO ({ o with r := t.id }) (fun W hW => hW.2.range) (by rfl) rfl rfl) ?_
  refine r1 2 fun K hK => ?_
  go_simp
  refine (HP.out _ HX.bel).mono ?_
  rintro e w2 ⟨pa, pn, pc, rfl, oP, d2⟩
  replace oP := own_le oP HX.bel.size
  replace HX := HX.below d2
  clear d2
  refine oK hK (by exact ⟨HX.rT, HX.rO⟩) fun hHeld => ?_
  clear hK K
  refine r1 3 fun K hK => ?_
  refine sBR (.tmp 51) (by rfl) rfl ⟨pk.1, pa, pn, pc, pk.2⟩ rfl ?_
  intro g3 w3 s3 d3
  replace oP := own_keep oP (grownBy_below none d3) (.inr rfl)
  replace HX := HX.below d3
  clear d3
  refine oK hK (by exact ⟨HX.rT, HX.rO⟩) fun hHeld => ?_
  clear hK K
  refine r1 4 fun K hK => ?_
  refine sAppR (.tmp 49) (.tmp 52) (by rfl) rfl w.heap.size v5 _ ([⟨rk.1, ra, rn, rcc, rk.2⟩]) rfl HX.own ⟨g3, 0, none⟩ 1 1 [⟨pk.1, pa, pn, pc, pk.2⟩] rfl s3.rcSrc rfl (by simp) HX.bel.size ?_
  intro v4 w4 own4 hg4
  replace HX := HX.app oP own4 hg4
  clear oP s3
  refine oK hK (by exact ⟨HX.rT, HX.rO⟩) fun hHeld => ?_
  clear hK K
  refine tA 6 ?_
  refine r1 7 fun K hK => ?_
  refine sStO (.tmp 5) (.tmp 54) (by rfl) rfl gZ ({ o with r := t.id }) (ocells zeroO) [] rfl rfl (ocells_len _) (by simpa using HX.rZ) ?_
  intro w7 hg7 r7
  try replace oP := own_keep oP hg7 (.inl fun e => own_ne oP HX.rZ (by decide) e.symm)
  try replace s3 := s3.grown hg7 (fun e => s3.ne HX.rZ (by decide) (Option.some.inj e))
  replace HX := HX.setZ hg7 (by simpa using r7)
  refine oK hK (by exact ⟨HX.rT, HX.rO⟩) fun hHeld => ?_
  clear hK K
  refine dN ?_
  refine NoPanic.normal ?_
  go_wp2
  obtain ⟨aF, cF, rfl⟩ := own_shape2 HX.own
  exact bodyPost_ret (retTC rfl _ _ 0 rfl (lvO HX.rZ.range)) rfl ⟨aF, _, cF, _, by rw [HWS.out]; rfl, by rw [HWP.out]; first | rfl | simp [keys], HX.own, HX.bods, HX.bel⟩
theorem wis_e4n (o : TS) (t : Tl) (hrr : o.r.l = t.id.l) : ({ ({ o with r := t.id } : TS) with h4 := t.ad, k4 := true } : TS) = { o with h4 := t.ad, k4 := true } := by
  have e : o.r = t.id := Id8.ext hrr
  obtain ⟨r, h4, k4, h6, k6⟩ := o
  simp only at *
  subst e
  rfl
set_option maxHeartbeats 8000000 in
theorem with_e4n (o : TS) (t : Tl) (w : World) (ht : TSrc w t) (h : TOk t.key) (hway : wayB t.key = true) (hrr : decide (o.r.l = t.id.l) = true) (hf : famP t.pr.d = 4) (hh : (decide (o.h4.l = t.ad.l) && o.k4) = false) : Calls Tryz.prog 49 #[.agg (ocells o).toArray, .agg (tcells t).toArray] w (Wid w o t.key) := by
  have HP : Hid (∀ W, Below w.heap.size w W → Calls Tryz.prog 39 #[.agg (tcells t).toArray] W (Pcd W (pieK t.key))) := fun W hW => piece_any t W (Src.below ht hW (Src.lt ht)) h
  have HW := isWay_any t
  rw [hway] at HW
  obtain ⟨pk, hpk⟩ : ∃ p, pieK t.key = p := ⟨_, rfl⟩
  rw [hpk] at HP
  have RO := (Row.new w 70 (ocells o)).alloc (.cells (tcells t).toArray 45)
  have RT := two_newR w (.cells (ocells o).toArray 70) 45 (tcells t)
  have BX := bt (ba w (.cells (ocells o).toArray 70)) (ba _ (.cells (tcells t).toArray 45))
  have HB : hasB o t.key = false := by
    rw [← hh]; unfold hasB; rw [show t.key.pr = t.pr from rfl, hf]; rfl
  have HWS : Hid (witS o t.key = { o with h4 := t.ad, k4 := true }) := by
    show _ = _
    unfold witS hopS rtrS
    rw [hway, show t.key.pr = t.pr from rfl, hf]
    rw [if_pos rfl]
    rw [if_pos rfl]
    exact wis_e4n o t (of_decide_eq_true hrr)
  have HWP0 : witP o t.key = [hopK t.ad] ++ [pieK t.key] := by
    unfold witP rtrP hopP
    rw [hway, HB, show t.key.id = t.id from rfl, hrr]
    rfl
  have HO := hopPiece_any t.ad
  obtain ⟨ok, hok⟩ : ∃ p, hopK t.ad = p := ⟨_, rfl⟩
  rw [hok] at HO HWP0
  rw [hpk] at HWP0
  have HWP : Hid (witP o t.key = [(ok.1, ok.2)] ++ [(pk.1, pk.2)]) := HWP0
  have HF := pfam_any t.pr.d
  rw [hf] at HF
  have HPL := place_any 4
  rw [show plcI 4 = 0 from rfl] at HPL
  have eI := fun w => eqI 9998 o.r t.id w
  rw [hrr] at eI
  have eH := fun w => eqH 9997 o.h4 t.ad o.k4 true w
  rw [show (o.k4 == true) = o.k4 from by cases o.k4 <;> rfl, hh] at eH
  clear hpk hway ht h HWP0 HB hrr hf hh hok
  go_enter Tryz.func49, Tryz.ntmps49
  go_wp2_with (first
    | (have kk := H1; refine ldI (.tmp 13) (by rfl) rfl (w.heap.size + 1) 9 t.id rfl H1.rT.rId2 ?_)
    | (have kk := H1; refine ldI (.tmp 11) (by rfl) rfl w.heap.size 0 o.r rfl (rangeAt_left H1.rO.range) ?_)
    | (go_at_call 47; refine (HW _).mono ?_; rintro e w1 ⟨rfl, b1⟩; have H1 := H0.below b1; clear b1)
    | (refine ldT (.tmp 3) (by rfl) rfl (w.heap.size + 1) t rfl H0.rT ?_)
    | (refine alG infoOz (by rfl) rfl ?_; intro gZ wZ a1 a2 a3 rZ; have H0 : Wi w wZ t o gZ zeroO (.slice none 0 0) [] := ⟨bt BX a3, RO.below a3 RO.lt, RT.below a3 RT.lt, rZ, (by simp at a1; omega), World.ownsRow_nil _ _ _ _, (fun q hq => by cases hq)⟩))
  have HX := H1.below (bd _)
  clear H0 H1
  apply region_ex (PP := fun gH W => Row W gH 67 (hopc t.ad true) ∧ w.heap.size ≤ gH ∧ Wi w W t (o) gZ zeroO (.slice none 0 0) [])
  case h1 =>
    refine wp_region_held_drew (S := fun W => Row W (w.heap.size + 1) 45 (tcells t)) (by kernel_rfl) (HX.rT) (fun hHeld => ?_)
    refine tA 0 ?_
    refine tA 1 ?_
    refine tL 2 rfl (yP t.pr.d (fun W hW => hW.rPr.d) (by rfl) rfl rfl) ?_
    refine tA 5 ?_
    refine tL 6 rfl (yA t.ad (fun W hW => hW.rAd) (by rfl) rfl rfl) ?_
    refine tL 7 rfl (yB [(0, .tmp 31), (1, .const (.bool true))] (by rfl) rfl (bdH t.ad)) ?_
    refine rM [3,8] ?_
    refine cL (fun K hK => ?_) ?_
    · skip
      go_simp
      refine (HF _).mono ?_
      rintro e w3 ⟨rfl, d3⟩
      replace HX := HX.below d3
      try replace rH := rH.below d3 rH.lt
      clear d3
      refine oK hK (by exact HX.rT) fun hHeld => ?_
      clear hK K
      refine rM [4,8] ?_
      refine cL (fun K hK => ?_) ?_
      · skip
        go_simp
        refine (HPL _).mono ?_
        rintro e w4 ⟨rfl, rfl⟩
        refine oK hK (by exact HX.rT) fun hHeld => ?_
        clear hK K
        refine r1 8 fun K hK => ?_
        refine sAlG infoHz (by rfl) rfl ?_
        intro gH wH d1 d2 d8 rH
        have hgH := Nat.le_trans HX.bel.size d1
        replace HX := HX.below d8
        clear d1 d2 d8
        refine oK hK (by exact HX.rT) fun hHeld => ?_
        clear hK K
        refine tA 9 ?_
        refine r1 10 fun K hK => ?_
        refine sStH (.tmp 8) (.tmp 32) (by rfl) rfl gH 0 t.ad true [] (hopc zeroA false) [] rfl rfl rfl (hopc_len _ _) (by simpa using rH) ?_
        intro w10 hg10 r10
        replace HX := HX.other hg10 rH hgH (by decide) (by decide) (by decide) (by decide)
        replace rH := r10
        simp only [List.nil_append, List.append_nil] at rH
        clear r10
        refine oK hK (by exact HX.rT) fun hHeld => ?_
        clear hK K
        refine dN ?_
        exact ⟨gH, rfl, rH, hgH, HX⟩
      refine cE fun K hK => ?_
      refine sAlG infoHz (by rfl) rfl ?_
      intro gH wH d1 d2 d8 rH
      have hgH := Nat.le_trans HX.bel.size d1
      replace HX := HX.below d8
      clear d1 d2 d8
      refine oK hK (by exact HX.rT) fun hHeld => ?_
      clear hK K
      refine r1 4 fun K hK => ?_
      go_simp
      refine (HPL _).mono ?_
      rintro e w4 ⟨rfl, rfl⟩
      refine oK hK (by exact HX.rT) fun hHeld => ?_
      clear hK K
      refine tA 9 ?_
      refine r1 10 fun K hK => ?_
      refine sStH (.tmp 8) (.tmp 32) (by rfl) rfl gH 0 t.ad true [] (hopc zeroA false) [] rfl rfl rfl (hopc_len _ _) (by simpa using rH) ?_
      intro w10 hg10 r10
      replace HX := HX.other hg10 rH hgH (by decide) (by decide) (by decide) (by decide)
      replace rH := r10
      simp only [List.nil_append, List.append_nil] at rH
      clear r10
      refine oK hK (by exact HX.rT) fun hHeld => ?_
      clear hK K
      refine dN ?_
      exact ⟨gH, rfl, rH, hgH, HX⟩
    refine cE fun K hK => ?_
    refine sAlG infoHz (by rfl) rfl ?_
    intro gH wH d1 d2 d8 rH
    have hgH := Nat.le_trans HX.bel.size d1
    replace HX := HX.below d8
    clear d1 d2 d8
    refine oK hK (by exact HX.rT) fun hHeld => ?_
    clear hK K
    refine r1 3 fun K hK => ?_
    go_simp
    refine (HF _).mono ?_
    rintro e w3 ⟨rfl, d3⟩
    replace HX := HX.below d3
    try replace rH := rH.below d3 rH.lt
    clear d3
    refine oK hK (by exact HX.rT) fun hHeld => ?_
    clear hK K
    refine r1 4 fun K hK => ?_
    go_simp
    refine (HPL _).mono ?_
    rintro e w4 ⟨rfl, rfl⟩
    refine oK hK (by exact HX.rT) fun hHeld => ?_
    clear hK K
    refine tA 9 ?_
    refine r1 10 fun K hK => ?_
    refine sStH (.tmp 8) (.tmp 32) (by rfl) rfl gH 0 t.ad true [] (hopc zeroA false) [] rfl rfl rfl (hopc_len _ _) (by simpa using rH) ?_
    intro w10 hg10 r10
    replace HX := HX.other hg10 rH hgH (by decide) (by decide) (by decide) (by decide)
    replace rH := r10
    simp only [List.nil_append, List.append_nil] at rH
    clear r10
    refine oK hK (by exact HX.rT) fun hHeld => ?_
    clear hK K
    refine dN ?_
    exact ⟨gH, rfl, rH, hgH, HX⟩
  case h2 =>
  clear HX HF HPL
  rintro gH wH ⟨rH, hgH, HX⟩
  go_wp2
  replace rH := rH.below (bd _) rH.lt
  replace HX := HX.below (bd _)
  refine wp_region_noPanic ?_
  refine wp_region_held_drew (S := fun W => Row W w.heap.size 70 (ocells (o)) ∧ Row W gH 67 (hopc t.ad true)) (by kernel_rfl) (⟨HX.rO, rH⟩) (fun hHeld => ?_)
  refine tA 0 ?_
  refine tA 1 ?_
  refine tA 2 ?_
  refine tL 3 rfl (yH o.h4 o.k4 (fun W hW => o4_at (o := o) hW.1) (by rfl) rfl rfl) ?_
  refine tL 4 rfl (yH t.ad true (fun W hW => hW.2.range) (by rfl) rfl rfl) ?_
  refine tA 5 ?_
  refine dN ?_
  refine NoPanic.normal ?_
  clear hHeld
  go_wp2_with (first
    | (at_builtin; have kk := r11; refine append_raw rfl (.tmp 43) (.tmp 47) rfl w.heap.size (.slice none 0 0) _ [] rfl H11.own g11 ⟨ok.1, oa, on, oc, ok.2⟩ 1 rfl r11 (by simp) H11.bel.size ?_; intro v12 w12 own12 hg12; have H12 := H11.app (p := ⟨ok.1, oa, on, oc, ok.2⟩) oO own12 hg12)
    | (have kk := H10; refine bR (.tmp 46) (by rfl) rfl ⟨ok.1, oa, on, oc, ok.2⟩ rfl ?_; intro g11 w11 r11 d11; have H11 := H10.below d11; replace oO := own_keep oO (grownBy_below none d11) (.inr rfl); clear d11)
    | (go_at_call 87; have kk := H8; refine (HO _).mono ?_; rintro e w10 ⟨oa, on, oc, rfl, oO, b10⟩; replace oO := own_le oO H8.bel.size; have H10 := H8.below b10; clear b10)
    | (have kk := H8; refine ldA (.tmp 44) (by rfl) rfl (w.heap.size + 1) 17 t.ad rfl H8.rT.rAd ?_)
    | (refine stH (T := 70) (.tmp 42) (.tmp 40) (by rfl) rfl w.heap.size 8 t.ad true (icells ((o : TS)).r) (hopc o.h4 o.k4) (hopc o.h6 o.k6) (icells_len _) rfl rfl (hopc_len _ _) ?row1 ?_; exact HX.rO; intro w8 hg8 r8; have H8 : Wi w w8 t ({ o with h4 := t.ad, k4 := true }) gZ zeroO (.slice none 0 0) [] := HX.setO hg8 r8)
    | (refine ldH (.tmp 8) (by rfl) rfl gH 0 t.ad true rfl rH.range ?_))
  replace HX := H12.below (bd _)
  clear H8 H10 H11 H12 oO r11 rH
  refine wp_region_noPanic ?_
  refine wp_region_held_drew (S := fun W => Row W (w.heap.size + 1) 45 (tcells t) ∧ Row W w.heap.size 70 (ocells ({ o with h4 := t.ad, k4 := true }))) (by kernel_rfl) (⟨HX.rT, HX.rO⟩) (fun hHeld => ?_)
  refine tA 0 ?_
  refine tL 1 rfl (yT t (fun W hW => hW.1) (by rfl) rfl rfl) ?_
  refine tL 5 rfl (yO ({ o with h4 := t.ad, k4 := true }) (fun W hW => hW.2.range) (by rfl) rfl rfl) ?_
  refine r1 2 fun K hK => ?_
  go_simp
  refine (HP.out _ HX.bel).mono ?_
  rintro e w2 ⟨pa, pn, pc, rfl, oP, d2⟩
  replace oP := own_le oP HX.bel.size
  replace HX := HX.below d2
  clear d2
  refine oK hK (by exact ⟨HX.rT, HX.rO⟩) fun hHeld => ?_
  clear hK K
  refine r1 3 fun K hK => ?_
  refine sBR (.tmp 51) (by rfl) rfl ⟨pk.1, pa, pn, pc, pk.2⟩ rfl ?_
  intro g3 w3 s3 d3
  replace oP := own_keep oP (grownBy_below none d3) (.inr rfl)
  replace HX := HX.below d3
  clear d3
  refine oK hK (by exact ⟨HX.rT, HX.rO⟩) fun hHeld => ?_
  clear hK K
  refine r1 4 fun K hK => ?_
  refine sAppR (.tmp 49) (.tmp 52) (by rfl) rfl w.heap.size v12 _ (([] ++ [⟨ok.1, oa, on, oc, ok.2⟩])) rfl HX.own ⟨g3, 0, none⟩ 1 1 [⟨pk.1, pa, pn, pc, pk.2⟩] rfl s3.rcSrc rfl (by simp) HX.bel.size ?_
  intro v4 w4 own4 hg4
  replace HX := HX.app oP own4 hg4
  clear oP s3
  refine oK hK (by exact ⟨HX.rT, HX.rO⟩) fun hHeld => ?_
  clear hK K
  refine tA 6 ?_
  refine r1 7 fun K hK => ?_
  refine sStO (.tmp 5) (.tmp 54) (by rfl) rfl gZ ({ o with h4 := t.ad, k4 := true }) (ocells zeroO) [] rfl rfl (ocells_len _) (by simpa using HX.rZ) ?_
  intro w7 hg7 r7
  try replace oP := own_keep oP hg7 (.inl fun e => own_ne oP HX.rZ (by decide) e.symm)
  try replace s3 := s3.grown hg7 (fun e => s3.ne HX.rZ (by decide) (Option.some.inj e))
  replace HX := HX.setZ hg7 (by simpa using r7)
  refine oK hK (by exact ⟨HX.rT, HX.rO⟩) fun hHeld => ?_
  clear hK K
  refine dN ?_
  refine NoPanic.normal ?_
  go_wp2
  obtain ⟨aF, cF, rfl⟩ := own_shape2 HX.own
  exact bodyPost_ret (retTC rfl _ _ 0 rfl (lvO HX.rZ.range)) rfl ⟨aF, _, cF, _, by rw [HWS.out]; rfl, by rw [HWP.out]; first | rfl | simp [keys], HX.own, HX.bods, HX.bel⟩
theorem wis_e4e (o : TS) (t : Tl) (hrr : o.r.l = t.id.l) (hh : (decide (o.h4.l = t.ad.l) && o.k4) = true) : ({ ({ o with r := t.id } : TS) with h4 := t.ad, k4 := true } : TS) = o := by
  have e : o.r = t.id := Id8.ext hrr
  simp only [Bool.and_eq_true, decide_eq_true_eq] at hh
  have e2 : o.h4 = t.ad := Ad.ext hh.1
  have e3 := hh.2
  obtain ⟨r, h4, k4, h6, k6⟩ := o
  simp only at *
  subst e
  subst e2
  subst e3
  rfl
set_option maxHeartbeats 8000000 in
theorem with_e4e (o : TS) (t : Tl) (w : World) (ht : TSrc w t) (h : TOk t.key) (hway : wayB t.key = true) (hrr : decide (o.r.l = t.id.l) = true) (hf : famP t.pr.d = 4) (hh : (decide (o.h4.l = t.ad.l) && o.k4) = true) : Calls Tryz.prog 49 #[.agg (ocells o).toArray, .agg (tcells t).toArray] w (Wid w o t.key) := by
  have HP : Hid (∀ W, Below w.heap.size w W → Calls Tryz.prog 39 #[.agg (tcells t).toArray] W (Pcd W (pieK t.key))) := fun W hW => piece_any t W (Src.below ht hW (Src.lt ht)) h
  have HW := isWay_any t
  rw [hway] at HW
  obtain ⟨pk, hpk⟩ : ∃ p, pieK t.key = p := ⟨_, rfl⟩
  rw [hpk] at HP
  have RO := (Row.new w 70 (ocells o)).alloc (.cells (tcells t).toArray 45)
  have RT := two_newR w (.cells (ocells o).toArray 70) 45 (tcells t)
  have BX := bt (ba w (.cells (ocells o).toArray 70)) (ba _ (.cells (tcells t).toArray 45))
  have HB : hasB o t.key = true := by
    rw [← hh]; unfold hasB; rw [show t.key.pr = t.pr from rfl, hf]; rfl
  have HWS : Hid (witS o t.key = o) := by
    show _ = _
    unfold witS hopS rtrS
    rw [hway, show t.key.pr = t.pr from rfl, hf]
    rw [if_pos rfl]
    rw [if_pos rfl]
    exact wis_e4e o t (of_decide_eq_true hrr) hh
  have HWP0 : witP o t.key = [pieK t.key] := by
    unfold witP rtrP hopP
    rw [hway, HB, show t.key.id = t.id from rfl, hrr]
    rfl
  rw [hpk] at HWP0
  have HWP : Hid (witP o t.key = [(pk.1, pk.2)]) := HWP0
  have HF := pfam_any t.pr.d
  rw [hf] at HF
  have HPL := place_any 4
  rw [show plcI 4 = 0 from rfl] at HPL
  have eI := fun w => eqI 9998 o.r t.id w
  rw [hrr] at eI
  have eH := fun w => eqH 9997 o.h4 t.ad o.k4 true w
  rw [show (o.k4 == true) = o.k4 from by cases o.k4 <;> rfl, hh] at eH
  clear hpk hway ht h HWP0 HB hrr hf hh
  go_enter Tryz.func49, Tryz.ntmps49
  go_wp2_with (first
    | (have kk := H1; refine ldI (.tmp 13) (by rfl) rfl (w.heap.size + 1) 9 t.id rfl H1.rT.rId2 ?_)
    | (have kk := H1; refine ldI (.tmp 11) (by rfl) rfl w.heap.size 0 o.r rfl (rangeAt_left H1.rO.range) ?_)
    | (go_at_call 47; refine (HW _).mono ?_; rintro e w1 ⟨rfl, b1⟩; have H1 := H0.below b1; clear b1)
    | (refine ldT (.tmp 3) (by rfl) rfl (w.heap.size + 1) t rfl H0.rT ?_)
    | (refine alG infoOz (by rfl) rfl ?_; intro gZ wZ a1 a2 a3 rZ; have H0 : Wi w wZ t o gZ zeroO (.slice none 0 0) [] := ⟨bt BX a3, RO.below a3 RO.lt, RT.below a3 RT.lt, rZ, (by simp at a1; omega), World.ownsRow_nil _ _ _ _, (fun q hq => by cases hq)⟩))
  have HX := H1.below (bd _)
  clear H0 H1
  apply region_ex (PP := fun gH W => Row W gH 67 (hopc t.ad true) ∧ w.heap.size ≤ gH ∧ Wi w W t (o) gZ zeroO (.slice none 0 0) [])
  case h1 =>
    refine wp_region_held_drew (S := fun W => Row W (w.heap.size + 1) 45 (tcells t)) (by kernel_rfl) (HX.rT) (fun hHeld => ?_)
    refine tA 0 ?_
    refine tA 1 ?_
    refine tL 2 rfl (yP t.pr.d (fun W hW => hW.rPr.d) (by rfl) rfl rfl) ?_
    refine tA 5 ?_
    refine tL 6 rfl (yA t.ad (fun W hW => hW.rAd) (by rfl) rfl rfl) ?_
    refine tL 7 rfl (yB [(0, .tmp 31), (1, .const (.bool true))] (by rfl) rfl (bdH t.ad)) ?_
    refine rM [3,8] ?_
    refine cL (fun K hK => ?_) ?_
    · skip
      go_simp
      refine (HF _).mono ?_
      rintro e w3 ⟨rfl, d3⟩
      replace HX := HX.below d3
      try replace rH := rH.below d3 rH.lt
      clear d3
      refine oK hK (by exact HX.rT) fun hHeld => ?_
      clear hK K
      refine rM [4,8] ?_
      refine cL (fun K hK => ?_) ?_
      · skip
        go_simp
        refine (HPL _).mono ?_
        rintro e w4 ⟨rfl, rfl⟩
        refine oK hK (by exact HX.rT) fun hHeld => ?_
        clear hK K
        refine r1 8 fun K hK => ?_
        refine sAlG infoHz (by rfl) rfl ?_
        intro gH wH d1 d2 d8 rH
        have hgH := Nat.le_trans HX.bel.size d1
        replace HX := HX.below d8
        clear d1 d2 d8
        refine oK hK (by exact HX.rT) fun hHeld => ?_
        clear hK K
        refine tA 9 ?_
        refine r1 10 fun K hK => ?_
        refine sStH (.tmp 8) (.tmp 32) (by rfl) rfl gH 0 t.ad true [] (hopc zeroA false) [] rfl rfl rfl (hopc_len _ _) (by simpa using rH) ?_
        intro w10 hg10 r10
        replace HX := HX.other hg10 rH hgH (by decide) (by decide) (by decide) (by decide)
        replace rH := r10
        simp only [List.nil_append, List.append_nil] at rH
        clear r10
        refine oK hK (by exact HX.rT) fun hHeld => ?_
        clear hK K
        refine dN ?_
        exact ⟨gH, rfl, rH, hgH, HX⟩
      refine cE fun K hK => ?_
      refine sAlG infoHz (by rfl) rfl ?_
      intro gH wH d1 d2 d8 rH
      have hgH := Nat.le_trans HX.bel.size d1
      replace HX := HX.below d8
      clear d1 d2 d8
      refine oK hK (by exact HX.rT) fun hHeld => ?_
      clear hK K
      refine r1 4 fun K hK => ?_
      go_simp
      refine (HPL _).mono ?_
      rintro e w4 ⟨rfl, rfl⟩
      refine oK hK (by exact HX.rT) fun hHeld => ?_
      clear hK K
      refine tA 9 ?_
      refine r1 10 fun K hK => ?_
      refine sStH (.tmp 8) (.tmp 32) (by rfl) rfl gH 0 t.ad true [] (hopc zeroA false) [] rfl rfl rfl (hopc_len _ _) (by simpa using rH) ?_
      intro w10 hg10 r10
      replace HX := HX.other hg10 rH hgH (by decide) (by decide) (by decide) (by decide)
      replace rH := r10
      simp only [List.nil_append, List.append_nil] at rH
      clear r10
      refine oK hK (by exact HX.rT) fun hHeld => ?_
      clear hK K
      refine dN ?_
      exact ⟨gH, rfl, rH, hgH, HX⟩
    refine cE fun K hK => ?_
    refine sAlG infoHz (by rfl) rfl ?_
    intro gH wH d1 d2 d8 rH
    have hgH := Nat.le_trans HX.bel.size d1
    replace HX := HX.below d8
    clear d1 d2 d8
    refine oK hK (by exact HX.rT) fun hHeld => ?_
    clear hK K
    refine r1 3 fun K hK => ?_
    go_simp
    refine (HF _).mono ?_
    rintro e w3 ⟨rfl, d3⟩
    replace HX := HX.below d3
    try replace rH := rH.below d3 rH.lt
    clear d3
    refine oK hK (by exact HX.rT) fun hHeld => ?_
    clear hK K
    refine r1 4 fun K hK => ?_
    go_simp
    refine (HPL _).mono ?_
    rintro e w4 ⟨rfl, rfl⟩
    refine oK hK (by exact HX.rT) fun hHeld => ?_
    clear hK K
    refine tA 9 ?_
    refine r1 10 fun K hK => ?_
    refine sStH (.tmp 8) (.tmp 32) (by rfl) rfl gH 0 t.ad true [] (hopc zeroA false) [] rfl rfl rfl (hopc_len _ _) (by simpa using rH) ?_
    intro w10 hg10 r10
    replace HX := HX.other hg10 rH hgH (by decide) (by decide) (by decide) (by decide)
    replace rH := r10
    simp only [List.nil_append, List.append_nil] at rH
    clear r10
    refine oK hK (by exact HX.rT) fun hHeld => ?_
    clear hK K
    refine dN ?_
    exact ⟨gH, rfl, rH, hgH, HX⟩
  case h2 =>
  clear HX HF HPL
  rintro gH wH ⟨rH, hgH, HX⟩
  go_wp2
  replace rH := rH.below (bd _) rH.lt
  replace HX := HX.below (bd _)
  refine wp_region_noPanic ?_
  refine wp_region_held_drew (S := fun W => Row W w.heap.size 70 (ocells (o)) ∧ Row W gH 67 (hopc t.ad true)) (by kernel_rfl) (⟨HX.rO, rH⟩) (fun hHeld => ?_)
  refine tA 0 ?_
  refine tA 1 ?_
  refine tA 2 ?_
  refine tL 3 rfl (yH o.h4 o.k4 (fun W hW => o4_at (o := o) hW.1) (by rfl) rfl rfl) ?_
  refine tL 4 rfl (yH t.ad true (fun W hW => hW.2.range) (by rfl) rfl rfl) ?_
  refine tA 5 ?_
  refine dN ?_
  refine NoPanic.normal ?_
  go_wp2
  clear hHeld
  replace HX := HX.below (bd _)
  refine wp_region_noPanic ?_
  refine wp_region_held_drew (S := fun W => Row W (w.heap.size + 1) 45 (tcells t) ∧ Row W w.heap.size 70 (ocells (o))) (by kernel_rfl) (⟨HX.rT, HX.rO⟩) (fun hHeld => ?_)
  refine tA 0 ?_
  refine tL 1 rfl (yT t (fun W hW => hW.1) (by rfl) rfl rfl) ?_
  refine tL 5 rfl (yO (o) (fun W hW => hW.2.range) (by rfl) rfl rfl) ?_
  refine r1 2 fun K hK => ?_
  go_simp
  refine (HP.out _ HX.bel).mono ?_
  rintro e w2 ⟨pa, pn, pc, rfl, oP, d2⟩
  replace oP := own_le oP HX.bel.size
  replace HX := HX.below d2
  clear d2
  refine oK hK (by exact ⟨HX.rT, HX.rO⟩) fun hHeld => ?_
  clear hK K
  refine r1 3 fun K hK => ?_
  refine sBR (.tmp 51) (by rfl) rfl ⟨pk.1, pa, pn, pc, pk.2⟩ rfl ?_
  intro g3 w3 s3 d3
  replace oP := own_keep oP (grownBy_below none d3) (.inr rfl)
  replace HX := HX.below d3
  clear d3
  refine oK hK (by exact ⟨HX.rT, HX.rO⟩) fun hHeld => ?_
  clear hK K
  refine r1 4 fun K hK => ?_
  refine sAppR (.tmp 49) (.tmp 52) (by rfl) rfl w.heap.size (.slice none 0 0) _ ([]) rfl HX.own ⟨g3, 0, none⟩ 1 1 [⟨pk.1, pa, pn, pc, pk.2⟩] rfl s3.rcSrc rfl (by simp) HX.bel.size ?_
  intro v4 w4 own4 hg4
  replace HX := HX.app oP own4 hg4
  clear oP s3
  refine oK hK (by exact ⟨HX.rT, HX.rO⟩) fun hHeld => ?_
  clear hK K
  refine tA 6 ?_
  refine r1 7 fun K hK => ?_
  refine sStO (.tmp 5) (.tmp 54) (by rfl) rfl gZ (o) (ocells zeroO) [] rfl rfl (ocells_len _) (by simpa using HX.rZ) ?_
  intro w7 hg7 r7
  try replace oP := own_keep oP hg7 (.inl fun e => own_ne oP HX.rZ (by decide) e.symm)
  try replace s3 := s3.grown hg7 (fun e => s3.ne HX.rZ (by decide) (Option.some.inj e))
  replace HX := HX.setZ hg7 (by simpa using r7)
  refine oK hK (by exact ⟨HX.rT, HX.rO⟩) fun hHeld => ?_
  clear hK K
  refine dN ?_
  refine NoPanic.normal ?_
  go_wp2
  obtain ⟨aF, cF, rfl⟩ := own_shape2 HX.own
  exact bodyPost_ret (retTC rfl _ _ 0 rfl (lvO HX.rZ.range)) rfl ⟨aF, _, cF, _, by rw [HWS.out]; rfl, by rw [HWP.out]; first | rfl | simp [keys], HX.own, HX.bods, HX.bel⟩
theorem wis_e6n (o : TS) (t : Tl) (hrr : o.r.l = t.id.l) : ({ ({ o with r := t.id } : TS) with h6 := t.ad, k6 := true } : TS) = { o with h6 := t.ad, k6 := true } := by
  have e : o.r = t.id := Id8.ext hrr
  obtain ⟨r, h4, k4, h6, k6⟩ := o
  simp only at *
  subst e
  rfl
set_option maxHeartbeats 8000000 in
theorem with_e6n (o : TS) (t : Tl) (w : World) (ht : TSrc w t) (h : TOk t.key) (hway : wayB t.key = true) (hrr : decide (o.r.l = t.id.l) = true) (hf : famP t.pr.d = 6) (hh : (decide (o.h6.l = t.ad.l) && o.k6) = false) : Calls Tryz.prog 49 #[.agg (ocells o).toArray, .agg (tcells t).toArray] w (Wid w o t.key) := by
  have HP : Hid (∀ W, Below w.heap.size w W → Calls Tryz.prog 39 #[.agg (tcells t).toArray] W (Pcd W (pieK t.key))) := fun W hW => piece_any t W (Src.below ht hW (Src.lt ht)) h
  have HW := isWay_any t
  rw [hway] at HW
  obtain ⟨pk, hpk⟩ : ∃ p, pieK t.key = p := ⟨_, rfl⟩
  rw [hpk] at HP
  have RO := (Row.new w 70 (ocells o)).alloc (.cells (tcells t).toArray 45)
  have RT := two_newR w (.cells (ocells o).toArray 70) 45 (tcells t)
  have BX := bt (ba w (.cells (ocells o).toArray 70)) (ba _ (.cells (tcells t).toArray 45))
  have HB : hasB o t.key = false := by
    rw [← hh]; unfold hasB; rw [show t.key.pr = t.pr from rfl, hf]; rfl
  have HWS : Hid (witS o t.key = { o with h6 := t.ad, k6 := true }) := by
    show _ = _
    unfold witS hopS rtrS
    rw [hway, show t.key.pr = t.pr from rfl, hf]
    rw [if_pos rfl]
    rw [if_neg (by decide)]
    exact wis_e6n o t (of_decide_eq_true hrr)
  have HWP0 : witP o t.key = [hopK t.ad] ++ [pieK t.key] := by
    unfold witP rtrP hopP
    rw [hway, HB, show t.key.id = t.id from rfl, hrr]
    rfl
  have HO := hopPiece_any t.ad
  obtain ⟨ok, hok⟩ : ∃ p, hopK t.ad = p := ⟨_, rfl⟩
  rw [hok] at HO HWP0
  rw [hpk] at HWP0
  have HWP : Hid (witP o t.key = [(ok.1, ok.2)] ++ [(pk.1, pk.2)]) := HWP0
  have HF := pfam_any t.pr.d
  rw [hf] at HF
  have HPL := place_any 6
  rw [show plcI 6 = 1 from rfl] at HPL
  have eI := fun w => eqI 9998 o.r t.id w
  rw [hrr] at eI
  have eH := fun w => eqH 9997 o.h6 t.ad o.k6 true w
  rw [show (o.k6 == true) = o.k6 from by cases o.k6 <;> rfl, hh] at eH
  clear hpk hway ht h HWP0 HB hrr hf hh hok
  go_enter Tryz.func49, Tryz.ntmps49
  go_wp2_with (first
    | (have kk := H1; refine ldI (.tmp 13) (by rfl) rfl (w.heap.size + 1) 9 t.id rfl H1.rT.rId2 ?_)
    | (have kk := H1; refine ldI (.tmp 11) (by rfl) rfl w.heap.size 0 o.r rfl (rangeAt_left H1.rO.range) ?_)
    | (go_at_call 47; refine (HW _).mono ?_; rintro e w1 ⟨rfl, b1⟩; have H1 := H0.below b1; clear b1)
    | (refine ldT (.tmp 3) (by rfl) rfl (w.heap.size + 1) t rfl H0.rT ?_)
    | (refine alG infoOz (by rfl) rfl ?_; intro gZ wZ a1 a2 a3 rZ; have H0 : Wi w wZ t o gZ zeroO (.slice none 0 0) [] := ⟨bt BX a3, RO.below a3 RO.lt, RT.below a3 RT.lt, rZ, (by simp at a1; omega), World.ownsRow_nil _ _ _ _, (fun q hq => by cases hq)⟩))
  have HX := H1.below (bd _)
  clear H0 H1
  apply region_ex (PP := fun gH W => Row W gH 67 (hopc t.ad true) ∧ w.heap.size ≤ gH ∧ Wi w W t (o) gZ zeroO (.slice none 0 0) [])
  case h1 =>
    refine wp_region_held_drew (S := fun W => Row W (w.heap.size + 1) 45 (tcells t)) (by kernel_rfl) (HX.rT) (fun hHeld => ?_)
    refine tA 0 ?_
    refine tA 1 ?_
    refine tL 2 rfl (yP t.pr.d (fun W hW => hW.rPr.d) (by rfl) rfl rfl) ?_
    refine tA 5 ?_
    refine tL 6 rfl (yA t.ad (fun W hW => hW.rAd) (by rfl) rfl rfl) ?_
    refine tL 7 rfl (yB [(0, .tmp 31), (1, .const (.bool true))] (by rfl) rfl (bdH t.ad)) ?_
    refine rM [3,8] ?_
    refine cL (fun K hK => ?_) ?_
    · skip
      go_simp
      refine (HF _).mono ?_
      rintro e w3 ⟨rfl, d3⟩
      replace HX := HX.below d3
      try replace rH := rH.below d3 rH.lt
      clear d3
      refine oK hK (by exact HX.rT) fun hHeld => ?_
      clear hK K
      refine rM [4,8] ?_
      refine cL (fun K hK => ?_) ?_
      · skip
        go_simp
        refine (HPL _).mono ?_
        rintro e w4 ⟨rfl, rfl⟩
        refine oK hK (by exact HX.rT) fun hHeld => ?_
        clear hK K
        refine r1 8 fun K hK => ?_
        refine sAlG infoHz (by rfl) rfl ?_
        intro gH wH d1 d2 d8 rH
        have hgH := Nat.le_trans HX.bel.size d1
        replace HX := HX.below d8
        clear d1 d2 d8
        refine oK hK (by exact HX.rT) fun hHeld => ?_
        clear hK K
        refine tA 9 ?_
        refine r1 10 fun K hK => ?_
        refine sStH (.tmp 8) (.tmp 32) (by rfl) rfl gH 0 t.ad true [] (hopc zeroA false) [] rfl rfl rfl (hopc_len _ _) (by simpa using rH) ?_
        intro w10 hg10 r10
        replace HX := HX.other hg10 rH hgH (by decide) (by decide) (by decide) (by decide)
        replace rH := r10
        simp only [List.nil_append, List.append_nil] at rH
        clear r10
        refine oK hK (by exact HX.rT) fun hHeld => ?_
        clear hK K
        refine dN ?_
        exact ⟨gH, rfl, rH, hgH, HX⟩
      refine cE fun K hK => ?_
      refine sAlG infoHz (by rfl) rfl ?_
      intro gH wH d1 d2 d8 rH
      have hgH := Nat.le_trans HX.bel.size d1
      replace HX := HX.below d8
      clear d1 d2 d8
      refine oK hK (by exact HX.rT) fun hHeld => ?_
      clear hK K
      refine r1 4 fun K hK => ?_
      go_simp
      refine (HPL _).mono ?_
      rintro e w4 ⟨rfl, rfl⟩
      refine oK hK (by exact HX.rT) fun hHeld => ?_
      clear hK K
      refine tA 9 ?_
      refine r1 10 fun K hK => ?_
      refine sStH (.tmp 8) (.tmp 32) (by rfl) rfl gH 0 t.ad true [] (hopc zeroA false) [] rfl rfl rfl (hopc_len _ _) (by simpa using rH) ?_
      intro w10 hg10 r10
      replace HX := HX.other hg10 rH hgH (by decide) (by decide) (by decide) (by decide)
      replace rH := r10
      simp only [List.nil_append, List.append_nil] at rH
      clear r10
      refine oK hK (by exact HX.rT) fun hHeld => ?_
      clear hK K
      refine dN ?_
      exact ⟨gH, rfl, rH, hgH, HX⟩
    refine cE fun K hK => ?_
    refine sAlG infoHz (by rfl) rfl ?_
    intro gH wH d1 d2 d8 rH
    have hgH := Nat.le_trans HX.bel.size d1
    replace HX := HX.below d8
    clear d1 d2 d8
    refine oK hK (by exact HX.rT) fun hHeld => ?_
    clear hK K
    refine r1 3 fun K hK => ?_
    go_simp
    refine (HF _).mono ?_
    rintro e w3 ⟨rfl, d3⟩
    replace HX := HX.below d3
    try replace rH := rH.below d3 rH.lt
    clear d3
    refine oK hK (by exact HX.rT) fun hHeld => ?_
    clear hK K
    refine r1 4 fun K hK => ?_
    go_simp
    refine (HPL _).mono ?_
    rintro e w4 ⟨rfl, rfl⟩
    refine oK hK (by exact HX.rT) fun hHeld => ?_
    clear hK K
    refine tA 9 ?_
    refine r1 10 fun K hK => ?_
    refine sStH (.tmp 8) (.tmp 32) (by rfl) rfl gH 0 t.ad true [] (hopc zeroA false) [] rfl rfl rfl (hopc_len _ _) (by simpa using rH) ?_
    intro w10 hg10 r10
    replace HX := HX.other hg10 rH hgH (by decide) (by decide) (by decide) (by decide)
    replace rH := r10
    simp only [List.nil_append, List.append_nil] at rH
    clear r10
    refine oK hK (by exact HX.rT) fun hHeld => ?_
    clear hK K
    refine dN ?_
    exact ⟨gH, rfl, rH, hgH, HX⟩
  case h2 =>
  clear HX HF HPL
  rintro gH wH ⟨rH, hgH, HX⟩
  go_wp2
  replace rH := rH.below (bd _) rH.lt
  replace HX := HX.below (bd _)
  refine wp_region_noPanic ?_
  refine wp_region_held_drew (S := fun W => Row W w.heap.size 70 (ocells (o)) ∧ Row W gH 67 (hopc t.ad true)) (by kernel_rfl) (⟨HX.rO, rH⟩) (fun hHeld => ?_)
  refine tA 0 ?_
  refine tA 1 ?_
  refine tA 2 ?_
  refine tL 3 rfl (yH o.h6 o.k6 (fun W hW => o6_at (o := o) hW.1) (by rfl) rfl rfl) ?_
  refine tL 4 rfl (yH t.ad true (fun W hW => hW.2.range) (by rfl) rfl rfl) ?_
  refine tA 5 ?_
  refine dN ?_
  refine NoPanic.normal ?_
  clear hHeld
  go_wp2_with (first
    | (at_builtin; have kk := r11; refine append_raw rfl (.tmp 43) (.tmp 47) rfl w.heap.size (.slice none 0 0) _ [] rfl H11.own g11 ⟨ok.1, oa, on, oc, ok.2⟩ 1 rfl r11 (by simp) H11.bel.size ?_; intro v12 w12 own12 hg12; have H12 := H11.app (p := ⟨ok.1, oa, on, oc, ok.2⟩) oO own12 hg12)
    | (have kk := H10; refine bR (.tmp 46) (by rfl) rfl ⟨ok.1, oa, on, oc, ok.2⟩ rfl ?_; intro g11 w11 r11 d11; have H11 := H10.below d11; replace oO := own_keep oO (grownBy_below none d11) (.inr rfl); clear d11)
    | (go_at_call 87; have kk := H8; refine (HO _).mono ?_; rintro e w10 ⟨oa, on, oc, rfl, oO, b10⟩; replace oO := own_le oO H8.bel.size; have H10 := H8.below b10; clear b10)
    | (have kk := H8; refine ldA (.tmp 44) (by rfl) rfl (w.heap.size + 1) 17 t.ad rfl H8.rT.rAd ?_)
    | (refine stH (T := 70) (.tmp 42) (.tmp 40) (by rfl) rfl w.heap.size 25 t.ad true (icells ((o : TS)).r ++ hopc o.h4 o.k4) (hopc o.h6 o.k6) [] (by rw [List.length_append, icells_len, hopc_len]) rfl rfl (hopc_len _ _) ?row1 ?_; exact (by have := HX.rO; unfold ocells at this; simpa using this); intro w8 hg8 r8; have H8 : Wi w w8 t ({ o with h6 := t.ad, k6 := true }) gZ zeroO (.slice none 0 0) [] := HX.setO hg8 (by unfold ocells; simpa using r8))
    | (refine ldH (.tmp 8) (by rfl) rfl gH 0 t.ad true rfl rH.range ?_))
  replace HX := H12.below (bd _)
  clear H8 H10 H11 H12 oO r11 rH
  refine wp_region_noPanic ?_
  refine wp_region_held_drew (S := fun W => Row W (w.heap.size + 1) 45 (tcells t) ∧ Row W w.heap.size 70 (ocells ({ o with h6 := t.ad, k6 := true }))) (by kernel_rfl) (⟨HX.rT, HX.rO⟩) (fun hHeld => ?_)
  refine tA 0 ?_
  refine tL 1 rfl (yT t (fun W hW => hW.1) (by rfl) rfl rfl) ?_
  refine tL 5 rfl (yO ({ o with h6 := t.ad, k6 := true }) (fun W hW => hW.2.range) (by rfl) rfl rfl) ?_
  refine r1 2 fun K hK => ?_
  go_simp
  refine (HP.out _ HX.bel).mono ?_
  rintro e w2 ⟨pa, pn, pc, rfl, oP, d2⟩
  replace oP := own_le oP HX.bel.size
  replace HX := HX.below d2
  clear d2
  refine oK hK (by exact ⟨HX.rT, HX.rO⟩) fun hHeld => ?_
  clear hK K
  refine r1 3 fun K hK => ?_
  refine sBR (.tmp 51) (by rfl) rfl ⟨pk.1, pa, pn, pc, pk.2⟩ rfl ?_
  intro g3 w3 s3 d3
  replace oP := own_keep oP (grownBy_below none d3) (.inr rfl)
  replace HX := HX.below d3
  clear d3
  refine oK hK (by exact ⟨HX.rT, HX.rO⟩) fun hHeld => ?_
  clear hK K
  refine r1 4 fun K hK => ?_
  refine sAppR (.tmp 49) (.tmp 52) (by rfl) rfl w.heap.size v12 _ (([] ++ [⟨ok.1, oa, on, oc, ok.2⟩])) rfl HX.own ⟨g3, 0, none⟩ 1 1 [⟨pk.1, pa, pn, pc, pk.2⟩] rfl s3.rcSrc rfl (by simp) HX.bel.size ?_
  intro v4 w4 own4 hg4
  replace HX := HX.app oP own4 hg4
  clear oP s3
  refine oK hK (by exact ⟨HX.rT, HX.rO⟩) fun hHeld => ?_
  clear hK K
  refine tA 6 ?_
  refine r1 7 fun K hK => ?_
  refine sStO (.tmp 5) (.tmp 54) (by rfl) rfl gZ ({ o with h6 := t.ad, k6 := true }) (ocells zeroO) [] rfl rfl (ocells_len _) (by simpa using HX.rZ) ?_
  intro w7 hg7 r7
  try replace oP := own_keep oP hg7 (.inl fun e => own_ne oP HX.rZ (by decide) e.symm)
  try replace s3 := s3.grown hg7 (fun e => s3.ne HX.rZ (by decide) (Option.some.inj e))
  replace HX := HX.setZ hg7 (by simpa using r7)
  refine oK hK (by exact ⟨HX.rT, HX.rO⟩) fun hHeld => ?_
  clear hK K
  refine dN ?_
  refine NoPanic.normal ?_
  go_wp2
  obtain ⟨aF, cF, rfl⟩ := own_shape2 HX.own
  exact bodyPost_ret (retTC rfl _ _ 0 rfl (lvO HX.rZ.range)) rfl ⟨aF, _, cF, _, by rw [HWS.out]; rfl, by rw [HWP.out]; first | rfl | simp [keys], HX.own, HX.bods, HX.bel⟩
theorem wis_e6e (o : TS) (t : Tl) (hrr : o.r.l = t.id.l) (hh : (decide (o.h6.l = t.ad.l) && o.k6) = true) : ({ ({ o with r := t.id } : TS) with h6 := t.ad, k6 := true } : TS) = o := by
  have e : o.r = t.id := Id8.ext hrr
  simp only [Bool.and_eq_true, decide_eq_true_eq] at hh
  have e2 : o.h6 = t.ad := Ad.ext hh.1
  have e3 := hh.2
  obtain ⟨r, h4, k4, h6, k6⟩ := o
  simp only at *
  subst e
  subst e2
  subst e3
  rfl
set_option maxHeartbeats 8000000 in
theorem with_e6e (o : TS) (t : Tl) (w : World) (ht : TSrc w t) (h : TOk t.key) (hway : wayB t.key = true) (hrr : decide (o.r.l = t.id.l) = true) (hf : famP t.pr.d = 6) (hh : (decide (o.h6.l = t.ad.l) && o.k6) = true) : Calls Tryz.prog 49 #[.agg (ocells o).toArray, .agg (tcells t).toArray] w (Wid w o t.key) := by
  have HP : Hid (∀ W, Below w.heap.size w W → Calls Tryz.prog 39 #[.agg (tcells t).toArray] W (Pcd W (pieK t.key))) := fun W hW => piece_any t W (Src.below ht hW (Src.lt ht)) h
  have HW := isWay_any t
  rw [hway] at HW
  obtain ⟨pk, hpk⟩ : ∃ p, pieK t.key = p := ⟨_, rfl⟩
  rw [hpk] at HP
  have RO := (Row.new w 70 (ocells o)).alloc (.cells (tcells t).toArray 45)
  have RT := two_newR w (.cells (ocells o).toArray 70) 45 (tcells t)
  have BX := bt (ba w (.cells (ocells o).toArray 70)) (ba _ (.cells (tcells t).toArray 45))
  have HB : hasB o t.key = true := by
    rw [← hh]; unfold hasB; rw [show t.key.pr = t.pr from rfl, hf]; rfl
  have HWS : Hid (witS o t.key = o) := by
    show _ = _
    unfold witS hopS rtrS
    rw [hway, show t.key.pr = t.pr from rfl, hf]
    rw [if_pos rfl]
    rw [if_neg (by decide)]
    exact wis_e6e o t (of_decide_eq_true hrr) hh
  have HWP0 : witP o t.key = [pieK t.key] := by
    unfold witP rtrP hopP
    rw [hway, HB, show t.key.id = t.id from rfl, hrr]
    rfl
  rw [hpk] at HWP0
  have HWP : Hid (witP o t.key = [(pk.1, pk.2)]) := HWP0
  have HF := pfam_any t.pr.d
  rw [hf] at HF
  have HPL := place_any 6
  rw [show plcI 6 = 1 from rfl] at HPL
  have eI := fun w => eqI 9998 o.r t.id w
  rw [hrr] at eI
  have eH := fun w => eqH 9997 o.h6 t.ad o.k6 true w
  rw [show (o.k6 == true) = o.k6 from by cases o.k6 <;> rfl, hh] at eH
  clear hpk hway ht h HWP0 HB hrr hf hh
  go_enter Tryz.func49, Tryz.ntmps49
  go_wp2_with (first
    | (have kk := H1; refine ldI (.tmp 13) (by rfl) rfl (w.heap.size + 1) 9 t.id rfl H1.rT.rId2 ?_)
    | (have kk := H1; refine ldI (.tmp 11) (by rfl) rfl w.heap.size 0 o.r rfl (rangeAt_left H1.rO.range) ?_)
    | (go_at_call 47; refine (HW _).mono ?_; rintro e w1 ⟨rfl, b1⟩; have H1 := H0.below b1; clear b1)
    | (refine ldT (.tmp 3) (by rfl) rfl (w.heap.size + 1) t rfl H0.rT ?_)
    | (refine alG infoOz (by rfl) rfl ?_; intro gZ wZ a1 a2 a3 rZ; have H0 : Wi w wZ t o gZ zeroO (.slice none 0 0) [] := ⟨bt BX a3, RO.below a3 RO.lt, RT.below a3 RT.lt, rZ, (by simp at a1; omega), World.ownsRow_nil _ _ _ _, (fun q hq => by cases hq)⟩))
  have HX := H1.below (bd _)
  clear H0 H1
  apply region_ex (PP := fun gH W => Row W gH 67 (hopc t.ad true) ∧ w.heap.size ≤ gH ∧ Wi w W t (o) gZ zeroO (.slice none 0 0) [])
  case h1 =>
    refine wp_region_held_drew (S := fun W => Row W (w.heap.size + 1) 45 (tcells t)) (by kernel_rfl) (HX.rT) (fun hHeld => ?_)
    refine tA 0 ?_
    refine tA 1 ?_
    refine tL 2 rfl (yP t.pr.d (fun W hW => hW.rPr.d) (by rfl) rfl rfl) ?_
    refine tA 5 ?_
    refine tL 6 rfl (yA t.ad (fun W hW => hW.rAd) (by rfl) rfl rfl) ?_
    refine tL 7 rfl (yB [(0, .tmp 31), (1, .const (.bool true))] (by rfl) rfl (bdH t.ad)) ?_
    refine rM [3,8] ?_
    refine cL (fun K hK => ?_) ?_
    · skip
      go_simp
      refine (HF _).mono ?_
      rintro e w3 ⟨rfl, d3⟩
      replace HX := HX.below d3
      try replace rH := rH.below d3 rH.lt
      clear d3
      refine oK hK (by exact HX.rT) fun hHeld => ?_
      clear hK K
      refine rM [4,8] ?_
      refine cL (fun K hK => ?_) ?_
      · skip
        go_simp
        refine (HPL _).mono ?_
        rintro e w4 ⟨rfl, rfl⟩
        refine oK hK (by exact HX.rT) fun hHeld => ?_
        clear hK K
        refine r1 8 fun K hK => ?_
        refine sAlG infoHz (by rfl) rfl ?_
        intro gH wH d1 d2 d8 rH
        have hgH := Nat.le_trans HX.bel.size d1
        replace HX := HX.below d8
        clear d1 d2 d8
        refine oK hK (by exact HX.rT) fun hHeld => ?_
        clear hK K
        refine tA 9 ?_
        refine r1 10 fun K hK => ?_
        refine sStH (.tmp 8) (.tmp 32) (by rfl) rfl gH 0 t.ad true [] (hopc zeroA false) [] rfl rfl rfl (hopc_len _ _) (by simpa using rH) ?_
        intro w10 hg10 r10
        replace HX := HX.other hg10 rH hgH (by decide) (by decide) (by decide) (by decide)
        replace rH := r10
        simp only [List.nil_append, List.append_nil] at rH
        clear r10
        refine oK hK (by exact HX.rT) fun hHeld => ?_
        clear hK K
        refine dN ?_
        exact ⟨gH, rfl, rH, hgH, HX⟩
      refine cE fun K hK => ?_
      refine sAlG infoHz (by rfl) rfl ?_
      intro gH wH d1 d2 d8 rH
      have hgH := Nat.le_trans HX.bel.size d1
      replace HX := HX.below d8
      clear d1 d2 d8
      refine oK hK (by exact HX.rT) fun hHeld => ?_
      clear hK K
      refine r1 4 fun K hK => ?_
      go_simp
      refine (HPL _).mono ?_
      rintro e w4 ⟨rfl, rfl⟩
      refine oK hK (by exact HX.rT) fun hHeld => ?_
      clear hK K
      refine tA 9 ?_
      refine r1 10 fun K hK => ?_
      refine sStH (.tmp 8) (.tmp 32) (by rfl) rfl gH 0 t.ad true [] (hopc zeroA false) [] rfl rfl rfl (hopc_len _ _) (by simpa using rH) ?_
      intro w10 hg10 r10
      replace HX := HX.other hg10 rH hgH (by decide) (by decide) (by decide) (by decide)
      replace rH := r10
      simp only [List.nil_append, List.append_nil] at rH
      clear r10
      refine oK hK (by exact HX.rT) fun hHeld => ?_
      clear hK K
      refine dN ?_
      exact ⟨gH, rfl, rH, hgH, HX⟩
    refine cE fun K hK => ?_
    refine sAlG infoHz (by rfl) rfl ?_
    intro gH wH d1 d2 d8 rH
    have hgH := Nat.le_trans HX.bel.size d1
    replace HX := HX.below d8
    clear d1 d2 d8
    refine oK hK (by exact HX.rT) fun hHeld => ?_
    clear hK K
    refine r1 3 fun K hK => ?_
    go_simp
    refine (HF _).mono ?_
    rintro e w3 ⟨rfl, d3⟩
    replace HX := HX.below d3
    try replace rH := rH.below d3 rH.lt
    clear d3
    refine oK hK (by exact HX.rT) fun hHeld => ?_
    clear hK K
    refine r1 4 fun K hK => ?_
    go_simp
    refine (HPL _).mono ?_
    rintro e w4 ⟨rfl, rfl⟩
    refine oK hK (by exact HX.rT) fun hHeld => ?_
    clear hK K
    refine tA 9 ?_
    refine r1 10 fun K hK => ?_
    refine sStH (.tmp 8) (.tmp 32) (by rfl) rfl gH 0 t.ad true [] (hopc zeroA false) [] rfl rfl rfl (hopc_len _ _) (by simpa using rH) ?_
    intro w10 hg10 r10
    replace HX := HX.other hg10 rH hgH (by decide) (by decide) (by decide) (by decide)
    replace rH := r10
    simp only [List.nil_append, List.append_nil] at rH
    clear r10
    refine oK hK (by exact HX.rT) fun hHeld => ?_
    clear hK K
    refine dN ?_
    exact ⟨gH, rfl, rH, hgH, HX⟩
  case h2 =>
  clear HX HF HPL
  rintro gH wH ⟨rH, hgH, HX⟩
  go_wp2
  replace rH := rH.below (bd _) rH.lt
  replace HX := HX.below (bd _)
  refine wp_region_noPanic ?_
  refine wp_region_held_drew (S := fun W => Row W w.heap.size 70 (ocells (o)) ∧ Row W gH 67 (hopc t.ad true)) (by kernel_rfl) (⟨HX.rO, rH⟩) (fun hHeld => ?_)
  refine tA 0 ?_
  refine tA 1 ?_
  refine tA 2 ?_
  refine tL 3 rfl (yH o.h6 o.k6 (fun W hW => o6_at (o := o) hW.1) (by rfl) rfl rfl) ?_
  refine tL 4 rfl (yH t.ad true (fun W hW => hW.2.range) (by rfl) rfl rfl) ?_
  refine tA 5 ?_
  refine dN ?_
  refine NoPanic.normal ?_
  go_wp2
  clear hHeld
  replace HX := HX.below (bd _)
  refine wp_region_noPanic ?_
  refine wp_region_held_drew (S := fun W => Row W (w.heap.size + 1) 45 (tcells t) ∧ Row W w.heap.size 70 (ocells (o))) (by kernel_rfl) (⟨HX.rT, HX.rO⟩) (fun hHeld => ?_)
  refine tA 0 ?_
  refine tL 1 rfl (yT t (fun W hW => hW.1) (by rfl) rfl rfl) ?_
  refine tL 5 rfl (yO (o) (fun W hW => hW.2.range) (by rfl) rfl rfl) ?_
  refine r1 2 fun K hK => ?_
  go_simp
  refine (HP.out _ HX.bel).mono ?_
  rintro e w2 ⟨pa, pn, pc, rfl, oP, d2⟩
  replace oP := own_le oP HX.bel.size
  replace HX := HX.below d2
  clear d2
  refine oK hK (by exact ⟨HX.rT, HX.rO⟩) fun hHeld => ?_
  clear hK K
  refine r1 3 fun K hK => ?_
  refine sBR (.tmp 51) (by rfl) rfl ⟨pk.1, pa, pn, pc, pk.2⟩ rfl ?_
  intro g3 w3 s3 d3
  replace oP := own_keep oP (grownBy_below none d3) (.inr rfl)
  replace HX := HX.below d3
  clear d3
  refine oK hK (by exact ⟨HX.rT, HX.rO⟩) fun hHeld => ?_
  clear hK K
  refine r1 4 fun K hK => ?_
  refine sAppR (.tmp 49) (.tmp 52) (by rfl) rfl w.heap.size (.slice none 0 0) _ ([]) rfl HX.own ⟨g3, 0, none⟩ 1 1 [⟨pk.1, pa, pn, pc, pk.2⟩] rfl s3.rcSrc rfl (by simp) HX.bel.size ?_
  intro v4 w4 own4 hg4
  replace HX := HX.app oP own4 hg4
  clear oP s3
  refine oK hK (by exact ⟨HX.rT, HX.rO⟩) fun hHeld => ?_
  clear hK K
  refine tA 6 ?_
  refine r1 7 fun K hK => ?_
  refine sStO (.tmp 5) (.tmp 54) (by rfl) rfl gZ (o) (ocells zeroO) [] rfl rfl (ocells_len _) (by simpa using HX.rZ) ?_
  intro w7 hg7 r7
  try replace oP := own_keep oP hg7 (.inl fun e => own_ne oP HX.rZ (by decide) e.symm)
  try replace s3 := s3.grown hg7 (fun e => s3.ne HX.rZ (by decide) (Option.some.inj e))
  replace HX := HX.setZ hg7 (by simpa using r7)
  refine oK hK (by exact ⟨HX.rT, HX.rO⟩) fun hHeld => ?_
  clear hK K
  refine dN ?_
  refine NoPanic.normal ?_
  go_wp2
  obtain ⟨aF, cF, rfl⟩ := own_shape2 HX.own
  exact bodyPost_ret (retTC rfl _ _ 0 rfl (lvO HX.rZ.range)) rfl ⟨aF, _, cF, _, by rw [HWS.out]; rfl, by rw [HWP.out]; first | rfl | simp [keys], HX.own, HX.bods, HX.bel⟩
end Go.Proofs.YtdibjgcokebfbaaGreat
