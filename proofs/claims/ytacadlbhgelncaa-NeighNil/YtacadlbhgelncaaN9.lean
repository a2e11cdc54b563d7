/-
  Ihu of the table.
-/
import Derived.Test.YtacadlbhgelncaaN8
namespace Go.Proofs.Ytacadlbhgelncaa
open Lk (Hi hcs hcs_one)
open Rk (Rt rcs rtV)
open Go.RowKit Go.Maps
set_option linter.unusedSimpArgs false
set_option linter.unusedVariables false
set_option maxRecDepth 20000
theorem wrapI (z : Int) (h : -9223372036854775808 ≤ z) (h' : z ≤ 9223372036854775807) : IntKind.i64.wrap z = z := by
  simp [IntKind.wrap, IntKind.signed, IntKind.bits]
  omega
theorem timed_off (n : Ng) (now : Int) (r : Rt) (sv : Value) (w : World) (hon : r.on = false) : Calls Try.prog 35 #[nV n, .int .i64 now, rtV r, sv] w (Gives w (nV n)) := by
  obtain ⟨on, mi, ma, co, de⟩ := r
  dsimp only at hon
  subst hon
  go_enter Try.func35, Try.ntmps35
  go_upto_region 1 with (first
    | (refine alG infoNz rfl rfl ?_; intro g1 W1 hge hgl hB1 hr1))
  obtain ⟨hB, r0, rR⟩ := row3 (cs := ncs n) (ds := rcs ⟨false, mi, ma, co, de⟩) hB1
  have hg : w.heap.size + 1 < g1 := by simp at hge; omega
  have c0 : W1.cell? ⟨w.heap.size + 1, 0, none⟩ = some (.bool false) := rR.cell 0
  clear hB1 hge
  go_wp2_with (first
    | (refine ldN (.tmp 4) rfl rfl _ _ _ rfl r0.range ?_)
    | (refine stN (.tmp 8) (.tmp 31) rfl rfl g1 n _ rfl rfl hr1 ?_; intro W2 hg2 hr2))
  exact bodyPost_ret (retC rfl _ _ 0 rfl (lvN hr2)) rfl ⟨rfl, grown_below hg2 hB (by omega) hB.size⟩
theorem infoRt : (Try.prog.info? 64).map (·.size) = some 5 := by kernel_rfl
section
variable {ops : Array Oper} {rest : List Oper} {op : Oper} {a : Act} {w : World} {Q : Exit → Act → World → Prop} {K : Act → World → Prop} {E : Prop} {S : World → Prop}
theorem yRt {b o : Nat} {x : Operand} (r : Rt) (hS : ∀ w, S w → w.rangeAt b o (rcs r)) (hw : Region.wanted op (yielded ops a.tmps) = true) (ho : op.op = .load 64 x) (hx : a.eval x = .pointer (some ⟨b, o, none⟩)) : YieldsIf Try.prog ops S op (rtV r) a :=
  yieldsIf_load_mid hw _ x ho b o hx (rcs r) _ hS Try.underlying64 rfl (by rw [infoRt]; rfl)
theorem yTs {b o : Nat} {x : Operand} {T : TypeId} {v : Value} (hS : ∀ w, S w → w.cell? ⟨b, o, none⟩ = some v) (hw : Region.wanted op (yielded ops a.tmps) = true) (ho : op.op = .load T x) (hx : a.eval x = .pointer (some ⟨b, o, none⟩)) (hT : ∀ w, w.cell? ⟨b, o, none⟩ = some v → (Instr.loadAt T (.pointer (some ⟨b, o, none⟩))).run Try.prog w = .ok v w) : YieldsIf Try.prog ops S op v a :=
  .inl ⟨hw, fun w hw' => by
    unfold execOp
    simp only [ho, hx, Sem.run_bind, hT w (hS w hw'), Result.andThen_ok, Sem.run_pure]⟩
theorem sSt16 (x y : Operand) (hw : Region.wanted op (yielded ops a.tmps) = true) (ho : op.op = .store 30 x y) (b c : Nat) {U : TypeId} (cs : List Value) (n : Int) (hx : a.eval x = .pointer (some ⟨b, c, none⟩)) (hy : a.eval y = .int .u16 n) (hr : Row w b U cs) (hc : c < cs.length)
    (h : ∀ W, w.grownBy W (some b) → Row W b U (cs.set c (.int .u16 n)) → K (a.put op.dst undef) W) : if Region.wanted op (yielded ops a.tmps) = true then Oper.wp Try.prog op a w K Q else E := by
  rw [if_pos hw]
  have c1 : w.cell? ⟨b, c, none⟩ = some cs[c] := by rw [hr.cell]; exact List.getElem?_eq_getElem hc
  have c2 := hr.frozen c
  have h1 := h _ (grownBy_setCell w b c (.int .u16 n)) (hr.set c (.int .u16 n))
  unfold Oper.wp execOp
  simp only [ho, hx, hy]
  go_simp
  exact h1
theorem sSt64 (x y : Operand) (hw : Region.wanted op (yielded ops a.tmps) = true) (ho : op.op = .store 3 x y) (b c : Nat) {U : TypeId} (cs : List Value) (n : Int) (hx : a.eval x = .pointer (some ⟨b, c, none⟩)) (hy : a.eval y = .int .i64 n) (hr : Row w b U cs) (hc : c < cs.length)
    (h : ∀ W, w.grownBy W (some b) → Row W b U (cs.set c (.int .i64 n)) → K (a.put op.dst undef) W) : if Region.wanted op (yielded ops a.tmps) = true then Oper.wp Try.prog op a w K Q else E := by
  rw [if_pos hw]
  have c1 : w.cell? ⟨b, c, none⟩ = some cs[c] := by rw [hr.cell]; exact List.getElem?_eq_getElem hc
  have c2 := hr.frozen c
  have h1 := h _ (grownBy_setCell w b c (.int .i64 n)) (hr.set c (.int .i64 n))
  unfold Oper.wp execOp
  simp only [ho, hx, hy]
  go_simp
  exact h1
end
theorem Fs.rtt {w : World} {ad : Option Addr} {l : List Fc} (h : Fs w ad l) {j : Nat} {f : Fc} (hf : l[j]? = some f) : ∃ g o, ad = some ⟨g, o, none⟩ ∧ g < w.heap.size ∧ w.rangeAt g (o + j * 7) (fcs f) := by
  rcases h.lies with rfl | ⟨g, o, e, hg, hl⟩
  · simp at hf
  · exact ⟨g, o, e, hg, hl j f hf⟩
theorem fcs_rtt {w : World} {g o : Nat} {f : Fc} (h : w.rangeAt g o (fcs f)) : w.rangeAt g (o + 2) (rcs f.r) := rangeAt_right (cs := [.int .i64 f.k, .int .u16 f.c]) (ds := rcs f.r) h rfl
/-- A neighbour that tells what it costs to reach it. -/
def toldN (n : Ng) (now : Int) (h : Tl) : Ng := { n with tx := (h.rx : Int), ta := now + (h.intv : Int) * 35 }
def ihuR (F : List Fc) (L : List Ng) (i : Int) (c : Ad) (h : Tl) (m : Ng) : Int × List Ng :=
  if (decide (0 ≤ i) && decide (i < F.length)) = false ∨ h.ty ≠ 5 then (2, L) else
  match getN L i c with
  | some _ => (0, putN L m)
  | none => (7, L)
set_option maxHeartbeats 8000000 in
theorem ihu_any {w : World} {t mb : Nat} {most : Int} {F : List Fc} {L : List Ng} (h : Tb w t mb most F L) (now : Int) (i : Int) (c : Ad) (hl : Tl) (m : Ng) (hi : wfI i) (hf : hl.fit) (t0 : 0 ≤ now) (t1 : now ≤ 1125899906842624) (hS : Sm w hl) (hL : L.length < 1000000)
    (hM : ∀ n, getN L i c = some n → ∀ f, F[i.toNat]? = some f → (∀ W, Below w.heap.size w W → Calls Try.prog 35 #[nV (toldN n now hl), .int .i64 now, rtV f.r, .slice hl.sa hl.sn hl.sc] W (Gives W (nV m))) ∧ m.ok ∧ m.i = i ∧ m.a = c ∧ (m.hr = true → f.r.on = true)) :
    Calls Try.prog 14 #[.pointer (some ⟨t, 0, none⟩), .int .i64 now, .int .i64 i, (Value.agg (acells c).toArray), .agg (tcells hl).toArray] w fun e w' => e = .returned (.int .i64 (ihuR F L i c hl m).1) ∧ Turn w w' t mb most F (ihuR F L i c hl m).2 := by
  have hT : ∀ W, Below w.heap.size w W → Tb W t mb most F L := fun W hW => h.below hW
  have hHas := fun W hW => hasIf_any (hT W hW) i
  have hGet := fun W hW => get_any (hT W hW) i c hi
  have k0 : (tcells hl)[0]? = some (.int .u8 (hl.ty : Int)) := rfl
  have HR : Hid (ihuR F L i c hl m = if (decide (0 ≤ i) && decide (i < F.length)) = false ∨ hl.ty ≠ 5 then ((2 : Int), L) else match getN L i c with | some _ => ((0 : Int), putN L m) | none => ((7 : Int), L)) := rfl
  have HI : Hid ((decide (0 ≤ i) && decide (i < F.length)) = true → 0 ≤ i ∧ i < F.length) := fun h => by simpa using h
  generalize ihuR F L i c hl m = R at *
  generalize (decide (0 ≤ i) && decide (i < F.length)) = hb at *
  go_enter Try.func14, Try.ntmps14
  go_upto_region 3 with fail
  obtain ⟨hB, r0, rT⟩ := low_rows w (acells c) (tcells hl) 29 39
  refine name_world (R := fun W => Code.wp _ _ _ _ W) (P := fun W => Below w.heap.size w W ∧ Row W w.heap.size 29 (acells c) ∧ Row W (w.heap.size + 1) 39 (tcells hl)) _ ⟨hB, r0, rT⟩ ?_
  clear hB r0 rT
  rintro X ⟨hB, r0, rT⟩
  have hs := r0.lt
  have hsT := rT.lt
  have cT0 := (rT.cell 0).trans k0
  replace hHas := hHas X hB
  cases hb with
  | false =>
    obtain rfl : R = (2, L) := by rw [HR.out, if_pos (.inl rfl)]
    clear HR HI k0
    go_wp2_with (first
      | (go_at_call 24; refine hHas.mono ?_; rintro e w1 ⟨rfl, rfl⟩))
    go_ret
    exact ⟨rfl, Turn.of h hB⟩
  | true =>
  by_cases hty : hl.ty = 5
  · have hIF := HI.out rfl
    have hty' : ((hl.ty : Int) != 5) = false := by simp; omega
    have hR := HR.out
    rw [if_neg (by simp [hty])] at hR
    clear HR HI k0
    obtain ⟨G, hG⟩ : ∃ G, getN L i c = G := ⟨_, rfl⟩
    rw [hG] at hR
    replace hGet := hGet X hB
    rw [hG] at hGet
    have hgv : getV G = .tuple #[nV (G.getD zeroN), .bool G.isSome] := rfl
    rw [hgv] at hGet
    clear hgv
    go_upto_region 5 with (first
      | (go_at_call 24; refine hHas.mono ?_; rintro e w1 ⟨rfl, rfl⟩))
    cases G with
    | none =>
      obtain rfl : R = (7, L) := hR
      dsimp only [Option.getD_none, Option.isSome_none] at hGet
      clear hM hS hf hT
      go_wp2_with (first
        | (have kk := r2; refine stN (.tmp 11) (.tmp 29) rfl rfl g2 zeroN _ rfl rfl r2 ?_; intro W3 g3 r3; have b3 := grown_below g3 b2 (Nat.le_trans b1.size hge2) b2.size; clear r2)
        | (have kk := b1; refine alG infoNz rfl rfl ?_; intro g2 W2 hge2 hgl2 hB2 r2; have b2 := bt b1 hB2)
        | (go_at_call 17; refine hGet.mono ?_; rintro e w1 ⟨rfl, b1⟩)
        | (refine ldA (.tmp 8) rfl rfl _ _ c rfl r0.range ?_))
      go_ret
      exact ⟨rfl, Turn.of h (bt hB b3)⟩
    | some n =>
      obtain rfl : R = (0, putN L m) := hR
      dsimp only [Option.getD_some, Option.isSome_some] at hGet
      obtain ⟨j, rfl⟩ := Int.eq_ofNat_of_zero_le hIF.1
      have hjF : j < F.length := by have := hIF.2; omega
      have hFj : F[j]? = some F[j] := List.getElem?_eq_getElem hjF
      obtain ⟨hM1, hM2, hM3, hM4, hM5⟩ := hM n hG F[j] (by simp)
      have hPut : ∀ W, Below w.heap.size w W → Calls Try.prog 25 #[.pointer (some ⟨t, 0, none⟩), nV m] W fun e w' => e = .returned (.tuple #[]) ∧ Turn w w' t mb most F (putN L m) := fun W hW => by
        refine (put_any (hT W hW) m (by rw [hM3]; exact hi) ⟨hM2, by rw [hM3]; exact hIF.1, by rw [hM3]; exact hIF.2, by rw [hM3]; intro h f hf; simp only [Int.toNat_natCast] at hf; rw [hFj] at hf; cases hf; exact hM5 h⟩ (by have := putN_le L m; omega)).mono ?_
        rintro e w' ⟨rfl, hh⟩
        exact ⟨rfl, hh.pre hW⟩
      obtain ⟨fa, fc, hr, hfs⟩ := h.ex
      obtain ⟨fg, fo, rfl, hfg, hfr⟩ := hfs.rtt hFj
      have ht := hr.lt
      have HK : Hid (∀ W, Below w.heap.size w W → W.cell? ⟨t, 1, none⟩ = some (.slice (some ⟨fg, fo, none⟩) F.length fc) ∧ W.rangeAt fg (fo + j * 7 + 2) (rcs F[j].r)) := fun W hW => ⟨(hr.below hW ht).cell 1, fcs_rtt (rangeAt_below hfr hW hfg)⟩
      have iv1 := hf.i1
      clear hM hT hS hf hM2 hM3 hM4 hM5 hHas hG hr hfs hfr hFj
      go_upto_region 8 with (first
        | (have kk := r2; refine stN (.tmp 11) (.tmp 29) rfl rfl g2 n _ rfl rfl r2 ?_; intro W3 g3 r3; have b3 := grown_below g3 b2 (Nat.le_trans b1.size hge2) b2.size; clear r2)
        | (have kk := b1; refine alG infoNz rfl rfl ?_; intro g2 W2 hge2 hgl2 hB2 r2; have b2 := bt b1 hB2)
        | (go_at_call 17; refine hGet.mono ?_; rintro e w1 ⟨rfl, b1⟩)
        | (refine ldA (.tmp 8) rfl rfl _ _ c rfl r0.range ?_))
      have hgX : X.heap.size ≤ g2 := Nat.le_trans b1.size hge2
      have k4 : (tcells hl)[4]? = some (.int .u16 (hl.rx : Int)) := rfl
      have k2 : (tcells hl)[2]? = some (.int .u16 (hl.intv : Int)) := rfl
      have k67 := tcells_get hl
      have HT : Hid (∀ W, Below X.heap.size X W → W.cell? ⟨w.heap.size + 1, 4, none⟩ = some (.int .u16 (hl.rx : Int)) ∧ W.cell? ⟨w.heap.size + 1, 2, none⟩ = some (.int .u16 (hl.intv : Int)) ∧ W.cell? ⟨w.heap.size + 1, 67, none⟩ = some (.slice hl.sa hl.sn hl.sc)) := fun W hW =>
        ⟨((rT.below hW hsT).cell 4).trans k4, ((rT.below hW hsT).cell 2).trans k2, ((rT.below hW hsT).cell 67).trans k67⟩
      have HN : Hid (((ncs n).set 27 (.int .u16 (hl.rx : Int))).set 28 (.int .i64 (now + (hl.intv : Int) * 35)) = ncs (toldN n now hl)) := by
        show _ = _
        rw [(ncs_set n).2.2.2.2.1, (ncs_set _).2.2.2.2.2.1]
        rfl
      have e5 : IntKind.i64.wrap (hl.intv : Int) = hl.intv := wrapI _ (by omega) (by omega)
      have e6 : IntKind.i64.wrap ((hl.intv : Int) * 35) = (hl.intv : Int) * 35 := wrapI _ (by omega) (by omega)
      have e7 : IntKind.i64.wrap (now + (hl.intv : Int) * 35) = now + (hl.intv : Int) * 35 := wrapI _ (by omega) (by omega)
      clear k4 k2 k67 iv1
      generalize (hl.rx : Int) = rx at *
      generalize (hl.intv : Int) = iv at *
      generalize toldN n now hl = N at *
      refine wp_region_noPanic ?_
      refine wp_region_held_drew (S := fun W => Below X.heap.size X W) (by kernel_rfl) (b3.drew) (fun hHeld => ?_)
      refine take_lit (i := 0) (v := ?_) rfl (by kernel_rfl) (by kernel_rfl) (by kernel_rfl) (fun _ _ _ h => h) (Or.inl ⟨by rfl, ?_⟩) (by assumption) ?_
      rotate_left
      · (intro w hSw; (try dsimp only at hSw); go_simp <;> with_reducible rfl)
      try simp only [Act.put, List.setIfInBounds_toArray, List.set_cons_zero, List.set_cons_succ]
      refine take_lit (i := 1) (v := ?_) rfl (by kernel_rfl) (by kernel_rfl) (by kernel_rfl) (fun _ _ _ h => h) (Or.inl ⟨by rfl, ?_⟩) (by assumption) ?_
      rotate_left
      · (intro w hSw; (try dsimp only at hSw); have z := (HT.out _ hSw).1; go_simp <;> with_reducible rfl)
      try simp only [Act.put, List.setIfInBounds_toArray, List.set_cons_zero, List.set_cons_succ]
      refine take_lit (i := 2) (v := ?_) rfl (by kernel_rfl) (by kernel_rfl) (by kernel_rfl) (fun _ _ _ h => h) (Or.inl ⟨by rfl, ?_⟩) (by assumption) ?_
      rotate_left
      · (intro w hSw; (try dsimp only at hSw); go_simp <;> with_reducible rfl)
      try simp only [Act.put, List.setIfInBounds_toArray, List.set_cons_zero, List.set_cons_succ]
      refine take_lit (i := 3) (v := ?_) rfl (by kernel_rfl) (by kernel_rfl) (by kernel_rfl) (fun _ _ _ h => h) (Or.inl ⟨by rfl, ?_⟩) (by assumption) ?_
      rotate_left
      · (intro w hSw; (try dsimp only at hSw); go_simp <;> with_reducible rfl)
      try simp only [Act.put, List.setIfInBounds_toArray, List.set_cons_zero, List.set_cons_succ]
      refine take_lit (i := 4) (v := ?_) rfl (by kernel_rfl) (by kernel_rfl) (by kernel_rfl) (fun _ _ _ h => h) (Or.inl ⟨by rfl, ?_⟩) (by assumption) ?_
      rotate_left
      · (intro w hSw; (try dsimp only at hSw); have z := (HT.out _ hSw).2.1; go_simp <;> with_reducible rfl)
      try simp only [Act.put, List.setIfInBounds_toArray, List.set_cons_zero, List.set_cons_succ]
      refine take_lit (i := 5) (v := ?_) rfl (by kernel_rfl) (by kernel_rfl) (by kernel_rfl) (fun _ _ _ h => h) (Or.inl ⟨by rfl, ?_⟩) (by assumption) ?_
      rotate_left
      · (intro w hSw; (try dsimp only at hSw); go_simp <;> with_reducible rfl)
      try simp only [Act.put, List.setIfInBounds_toArray, List.set_cons_zero, List.set_cons_succ]
      refine take_lit (i := 6) (v := ?_) rfl (by kernel_rfl) (by kernel_rfl) (by kernel_rfl) (fun _ _ _ h => h) (Or.inl ⟨by rfl, ?_⟩) (by assumption) ?_
      rotate_left
      · (intro w hSw; (try dsimp only at hSw); go_simp <;> with_reducible rfl)
      try simp only [Act.put, List.setIfInBounds_toArray, List.set_cons_zero, List.set_cons_succ]
      refine take_lit (i := 7) (v := ?_) rfl (by kernel_rfl) (by kernel_rfl) (by kernel_rfl) (fun _ _ _ h => h) (Or.inl ⟨by rfl, ?_⟩) (by assumption) ?_
      rotate_left
      · (intro w hSw; (try dsimp only at hSw); go_simp <;> with_reducible rfl)
      try simp only [Act.put, List.setIfInBounds_toArray, List.set_cons_zero, List.set_cons_succ]
      refine take_lit (i := 8) (v := ?_) rfl (by kernel_rfl) (by kernel_rfl) (by kernel_rfl) (fun _ _ _ h => h) (Or.inl ⟨by rfl, ?_⟩) (by assumption) ?_
      rotate_left
      · (intro w hSw; (try dsimp only at hSw); go_simp <;> with_reducible rfl)
      try simp only [Act.put, List.setIfInBounds_toArray, List.set_cons_zero, List.set_cons_succ]
      refine wpAnyH_ready (rs := [9]) (by kernel_rfl) (by simp) ?_
      refine cons_lit rfl (fun K hK => ?_) ?_
      · skip
        refine sSt16 (.tmp 41) (.tmp 34) (by rfl) rfl g2 27 _ rx rfl rfl r3.drew (by rw [ncs_len]; omega) ?_
        intro W4 g4 r4
        refine hK.out _ _ ?_ (fun hHeld => ?_)
        · exact grown_below g4 hHeld hgX hHeld.size
        clear hK K
        try simp only [Act.put, List.setIfInBounds_toArray, List.set_cons_zero, List.set_cons_succ]
        refine take_lit (i := 10) (v := ?_) rfl (by kernel_rfl) (by kernel_rfl) (by kernel_rfl) (fun _ _ _ h => h) (Or.inl ⟨by rfl, ?_⟩) (by assumption) ?_
        rotate_left
        · (intro w hSw; (try dsimp only at hSw); go_simp <;> with_reducible rfl)
        try simp only [Act.put, List.setIfInBounds_toArray, List.set_cons_zero, List.set_cons_succ]
        refine wpAnyH_ready (rs := [11]) (by kernel_rfl) (by simp) ?_
        refine cons_lit rfl (fun K hK => ?_) ?_
        · skip
          refine sSt64 (.tmp 42) (.tmp 40) (by rfl) rfl g2 28 _ (now + iv * 35) rfl rfl r4 (by rw [List.length_set, ncs_len]; omega) ?_
          intro W5 g5 r5
          refine hK.out _ _ ?_ (fun hHeld => ?_)
          · exact grown_below g5 hHeld hgX hHeld.size
          clear hK K
          try simp only [Act.put, List.setIfInBounds_toArray, List.set_cons_zero, List.set_cons_succ]
          refine wpAnyH_done (by kernel_rfl) ?_ _
          refine NoPanic.normal ?_
          rw [HN.out] at r5
          go_upto_region 9 with fail
          have hr5 := r5.lt
          refine wp_region_noPanic ?_
          refine wp_region_N (S := fun W => Below X.heap.size X W ∧ Row W g2 55 (ncs N)) 14 (by kernel_rfl) (⟨hHeld.drew, r5.drew⟩) (fun hHeld => ?_)
          refine takeN_lit (i := 0) (v := ?_) (F := #[false, true, true, true, true, true, true, true, true, true, true, true, true, true, false]) rfl (by kernel_rfl) (by kernel_rfl) (by kernel_rfl) (by kernel_rfl) (fun _ _ _ h => h) (Or.inl ⟨by rfl, ?_⟩) (by assumption) ?_
          rotate_left
          · (intro w hSw; (try dsimp only at hSw); go_simp <;> with_reducible rfl)
          try simp only [Act.put, List.setIfInBounds_toArray, List.set_cons_zero, List.set_cons_succ]
          refine takeN_lit (i := 1) (F := #[true, false, true, true, true, true, true, true, true, true, true, true, true, false, false]) rfl (by kernel_rfl) (by kernel_rfl) (by kernel_rfl) (by kernel_rfl) (fun _ _ _ h => h) (yN N (fun w h => h.2.range) (by rfl) rfl rfl) (by assumption) ?_
          try simp only [Act.put, List.setIfInBounds_toArray, List.set_cons_zero, List.set_cons_succ]
          refine takeN_lit (i := 2) (v := ?_) (F := #[true, true, false, true, true, true, true, true, true, true, true, true, true, false, false]) rfl (by kernel_rfl) (by kernel_rfl) (by kernel_rfl) (by kernel_rfl) (fun _ _ _ h => h) (Or.inl ⟨by rfl, ?_⟩) (by assumption) ?_
          rotate_left
          · (intro w hSw; (try dsimp only at hSw); go_simp <;> with_reducible rfl)
          try simp only [Act.put, List.setIfInBounds_toArray, List.set_cons_zero, List.set_cons_succ]
          refine takeN_lit (i := 3) (v := ?_) (F := #[true, true, true, false, false, false, false, true, false, false, false, true, true, false, false]) rfl (by kernel_rfl) (by kernel_rfl) (by kernel_rfl) (by kernel_rfl) (fun _ _ _ h => h) (Or.inl ⟨by rfl, ?_⟩) (by assumption) ?_
          rotate_left
          · (intro w hSw; (try dsimp only at hSw); go_simp <;> with_reducible rfl)
          try simp only [Act.put, List.setIfInBounds_toArray, List.set_cons_zero, List.set_cons_succ]
          refine takeN_lit (i := 4) (v := ?_) (F := #[true, true, true, true, false, false, false, true, false, false, false, true, true, false, false]) rfl (by kernel_rfl) (by kernel_rfl) (by kernel_rfl) (by kernel_rfl) (fun _ _ _ h => h) (Or.inl ⟨by rfl, ?_⟩) (by assumption) ?_
          rotate_left
          · (intro w hSw; (try dsimp only at hSw); go_simp <;> with_reducible rfl)
          try simp only [Act.put, List.setIfInBounds_toArray, List.set_cons_zero, List.set_cons_succ]
          refine takeN_lit (i := 5) (v := ?_) (F := #[true, true, true, true, true, false, false, true, false, false, false, true, true, false, false]) rfl (by kernel_rfl) (by kernel_rfl) (by kernel_rfl) (by kernel_rfl) (fun _ _ _ h => h) (Or.inl ⟨by rfl, ?_⟩) (by assumption) ?_
          rotate_left
          · (intro w hSw; (try dsimp only at hSw); go_simp <;> with_reducible rfl)
          try simp only [Act.put, List.setIfInBounds_toArray, List.set_cons_zero, List.set_cons_succ]
          refine takeN_lit (i := 6) (v := ?_) (F := #[true, true, true, true, true, true, false, true, false, false, false, true, true, false, false]) rfl (by kernel_rfl) (by kernel_rfl) (by kernel_rfl) (by kernel_rfl) (fun _ _ _ h => h) (Or.inl ⟨by rfl, ?_⟩) (by assumption) ?_
          rotate_left
          · (intro w hSw; (try dsimp only at hSw); have z := (HK.out _ (bt hB hSw.1)).1; go_simp <;> with_reducible rfl)
          try simp only [Act.put, List.setIfInBounds_toArray, List.set_cons_zero, List.set_cons_succ]
          refine takeN_lit (i := 7) (v := ?_) (F := #[true, true, true, true, true, true, true, false, false, false, false, true, true, false, false]) rfl (by kernel_rfl) (by kernel_rfl) (by kernel_rfl) (by kernel_rfl) (fun _ _ _ h => h) (Or.inl ⟨by rfl, ?_⟩) (by assumption) ?_
          rotate_left
          · (intro w hSw; (try dsimp only at hSw); go_simp <;> with_reducible rfl)
          try simp only [Act.put, List.setIfInBounds_toArray, List.set_cons_zero, List.set_cons_succ]
          refine takeN_lit (i := 8) (v := ?_) (F := #[true, true, true, true, true, true, true, true, false, false, false, true, true, false, false]) rfl (by kernel_rfl) (by kernel_rfl) (by kernel_rfl) (by kernel_rfl) (fun _ _ _ h => h) (Or.inl ⟨by rfl, ?_⟩) (by assumption) ?_
          rotate_left
          · (intro w hSw; (try dsimp only at hSw); go_simp <;> with_reducible rfl)
          try simp only [Act.put, List.setIfInBounds_toArray, List.set_cons_zero, List.set_cons_succ]
          refine takeN_lit (i := 9) (v := ?_) (F := #[true, true, true, true, true, true, true, true, true, false, false, true, true, false, false]) rfl (by kernel_rfl) (by kernel_rfl) (by kernel_rfl) (by kernel_rfl) (fun _ _ _ h => h) (Or.inl ⟨by rfl, ?_⟩) (by assumption) ?_
          rotate_left
          · (intro w hSw; (try dsimp only at hSw); go_simp <;> with_reducible rfl)
          try simp only [Act.put, List.setIfInBounds_toArray, List.set_cons_zero, List.set_cons_succ]
          refine takeN_lit (i := 10) (F := #[true, true, true, true, true, true, true, true, true, true, false, true, true, false, false]) rfl (by kernel_rfl) (by kernel_rfl) (by kernel_rfl) (by kernel_rfl) (fun _ _ _ h => h) (yRt F[j].r (fun w h => (HK.out _ (bt hB h.1)).2) (by rfl) rfl rfl) (by assumption) ?_
          try simp only [Act.put, List.setIfInBounds_toArray, List.set_cons_zero, List.set_cons_succ]
          refine takeN_lit (i := 11) (v := ?_) (F := #[true, true, true, true, true, true, true, true, true, true, true, false, false, false, false]) rfl (by kernel_rfl) (by kernel_rfl) (by kernel_rfl) (by kernel_rfl) (fun _ _ _ h => h) (Or.inl ⟨by rfl, ?_⟩) (by assumption) ?_
          rotate_left
          · (intro w hSw; (try dsimp only at hSw); go_simp <;> with_reducible rfl)
          try simp only [Act.put, List.setIfInBounds_toArray, List.set_cons_zero, List.set_cons_succ]
          refine takeN_lit (i := 12) (v := ?_) (F := #[true, true, true, true, true, true, true, true, true, true, true, true, false, false, false]) rfl (by kernel_rfl) (by kernel_rfl) (by kernel_rfl) (by kernel_rfl) (fun _ _ _ h => h) (Or.inl ⟨by rfl, ?_⟩) (by assumption) ?_
          rotate_left
          · (intro w hSw; (try dsimp only at hSw); have z := (HT.out _ hSw.1).2.2; go_simp <;> with_reducible rfl)
          try simp only [Act.put, List.setIfInBounds_toArray, List.set_cons_zero, List.set_cons_succ]
          refine wpAnyN_ready (rs := [13]) (by kernel_rfl) (by simp) ?_
          refine consN_lit rfl (fun K hK => ?_) ?_
          · go_simp
            refine (hM1 _ (bt hB hHeld.1)).mono ?_
            rintro e w6 ⟨rfl, hB6⟩
            refine hK.out _ _ (Or.inr ?_) (fun hHeld => ?_)
            · exact ⟨bt hHeld.1 hB6, hHeld.2.below hB6 hHeld.2.lt⟩
            replace hHeld := hHeld.resolve_left (by decide)
            clear hK K
            try simp only [Act.put, List.setIfInBounds_toArray, List.set_cons_zero, List.set_cons_succ]
            refine wpAnyN_ready (rs := [14]) (by kernel_rfl) (by simp) ?_
            refine consN_lit rfl (fun K hK => ?_) ?_
            · go_simp
              refine (hPut _ (bt hB hHeld.1)).mono ?_
              rintro e w7 ⟨rfl, hT7⟩
              refine hK.out _ _ (Or.inl rfl) (fun _ => ?_)
              clear hK K
              try simp only [Act.put, List.setIfInBounds_toArray, List.set_cons_zero, List.set_cons_succ]
              refine wpAnyN_done (by kernel_rfl) ?_ _
              refine NoPanic.normal ?_
              go_wp2
              go_ret
              exact ⟨rfl, hT7⟩
            exact AllReadyN.nil
          exact AllReadyN.nil
        exact AllReadyH.nil
      exact AllReadyH.nil
  · obtain rfl : R = (2, L) := by rw [HR.out, if_pos (.inr hty)]
    have hty' : ((hl.ty : Int) != 5) = true := by simp; omega
    clear HR HI k0
    go_wp2_with (first
      | (go_at_call 24; refine hHas.mono ?_; rintro e w1 ⟨rfl, rfl⟩))
    go_ret
    exact ⟨rfl, Turn.of h hB⟩
end Go.Proofs.Ytacadlbhgelncaa
