/-
  What a neighbour costs.
-/
import Derived.Test.YtacadlbhgelncaaN9
namespace Go.Proofs.Ytacadlbhgelncaa
open Lk (Hi hcs hcs_one)
open Rk (Rt rcs rtV)
open Go.RowKit Go.Maps
set_option linter.unusedSimpArgs false
set_option linter.unusedVariables false
set_option maxRecDepth 20000
section
variable {ops : Array Oper} {rest : List Oper} {op : Oper} {a : Act} {w : World} {Q : Exit → Act → World → Prop} {K : Act → World → Prop} {E : Prop} {S : World → Prop}
theorem wp_bsG {T U : TypeId} {n : Nat} (parts : List (Nat × Operand)) (Z : List Value) (ho : op.op = .buildSlice T n parts.toArray)
    (hrun : ∀ w, (Instr.buildSlice T n (parts.map fun p => (p.1, a.eval p.2)).toArray).run Try.prog w = .ok (.slice (some ⟨w.heap.size, 0, none⟩) n n) (w.alloc (.cells Z.toArray U)))
    (h : ∀ W, Row W w.heap.size U Z → Below w.heap.size w W → K (a.put op.dst (.slice (some ⟨w.heap.size, 0, none⟩) n n)) W) : Oper.wp Try.prog op a w K Q := by
  have h1 := h _ (Row.new w U Z) (ba w _)
  unfold Oper.wp execOp
  simp only [ho, List.map_toArray, Sem.run_bind, hrun, Result.andThen_ok, Sem.run_pure]
  exact h1
theorem bsG {T U : TypeId} {n : Nat} (parts : List (Nat × Operand)) (Z : List Value) (hw : Region.wanted op (yielded ops a.tmps) = true) (ho : op.op = .buildSlice T n parts.toArray)
    (hrun : ∀ w, (Instr.buildSlice T n (parts.map fun p => (p.1, a.eval p.2)).toArray).run Try.prog w = .ok (.slice (some ⟨w.heap.size, 0, none⟩) n n) (w.alloc (.cells Z.toArray U)))
    (h : ∀ W, Row W w.heap.size U Z → Below w.heap.size w W → wpList Try.prog ops Q rest (a.put op.dst (.slice (some ⟨w.heap.size, 0, none⟩) n n)) W) : wpList Try.prog ops Q (op :: rest) a w :=
  wpList_step fun K hK => by
    rw [if_pos hw]
    exact wp_bsG parts Z ho hrun fun W k1 k2 => hK _ _ (h W k1 k2)
theorem yFc {b o : Nat} {x : Operand} (f : Fc) (hS : ∀ w, S w → w.rangeAt b o (fcs f)) (hw : Region.wanted op (yielded ops a.tmps) = true) (ho : op.op = .load 79 x) (hx : a.eval x = .pointer (some ⟨b, o, none⟩)) : YieldsIf Try.prog ops S op (.agg (fcs f).toArray) a :=
  yieldsIf_load_mid hw _ x ho b o hx (fcs f) _ hS Try.underlying79 rfl (by rw [infoFs]; rfl)
theorem ldFc (x : Operand) (hw : Region.wanted op (yielded ops a.tmps) = true) (ho : op.op = .load 79 x) (b o : Nat) (f : Fc) (hx : a.eval x = .pointer (some ⟨b, o, none⟩)) (hc : w.rangeAt b o (fcs f))
    (h : wpList Try.prog ops Q rest (a.put op.dst (.agg (fcs f).toArray)) w) : wpList Try.prog ops Q (op :: rest) a w :=
  wpList_step fun K hK => by
    rw [if_pos hw]
    exact wp_load_mid _ x ho b o hx (fcs f) _ hc Try.underlying79 rfl (by rw [infoFs]; rfl) (hK _ _ h)
theorem stFc (x y : Operand) (hw : Region.wanted op (yielded ops a.tmps) = true) (ho : op.op = .store 79 x y) (b : Nat) (f g : Fc) (hx : a.eval x = .pointer (some ⟨b, 0, none⟩)) (hy : a.eval y = .agg (fcs f).toArray) (hr : Row w b 79 (fcs g))
    (h : ∀ W, w.grownBy W (some b) → Row W b 79 (fcs f) → wpList Try.prog ops Q rest (a.put op.dst undef) W) : wpList Try.prog ops Q (op :: rest) a w :=
  wpList_step fun K hK => by
    rw [if_pos hw]
    refine wp_store_mid _ x y ho b 0 _ hx hy (hr.there (n := 7) (Nat.le_refl _)) (by rw [infoFs]; rfl) (all_oneCell_toArray (fcs_one f)) (hK _ _ (h _ (grownBy_setCells b _ _ _) ?_))
    have := Row.setCells (fcs f) [] w (fcs g) hr rfl
    simpa using this
end
def zeroF : Fc := ⟨0, 0, ⟨false, 0, 0, 0, 0⟩⟩
theorem infoFz : (Try.prog.info? 79).map (·.zero) = some (some (.agg (fcs zeroF).toArray)) := by kernel_rfl
theorem bsH2 (h q : Hi) (w : World) : (Instr.buildSlice 141 2 #[(0, hV h), (1, hV q)]).run Try.prog w = .ok (.slice (some ⟨w.heap.size, 0, none⟩) 2 2) (w.alloc (.cells (hcs h ++ hcs q).toArray 52)) := by
  kernel_rfl
def rxN (f : Fc) (n : Ng) : Int := Lk.rxL f.k f.c [n.m, n.u]
theorem rx_two (f : Fc) (n : Ng) (g c : Nat) (t : TypeId) (W : World) (fo : f.ok) (no : n.ok) (r : Row W g t (hcs n.m ++ hcs n.u)) :
    Calls Try.prog 59 #[.int .i64 f.k, .int .u16 f.c, .slice (some ⟨g, 0, none⟩) 2 c] W (Gives W (.int .u16 (rxN f n))) := by
  have hs : Lk.Hs W (some ⟨g, 0, none⟩) 2 [n.m, n.u] := by
    refine ⟨rfl, ?_, .inr ⟨_, _, rfl, r.lt, ?_⟩⟩
    · intro x hh
      simp at hh
      rcases hh with rfl | rfl
      · exact no.mo
      · exact no.uo
    · intro j x hj
      match j, hj with
      | 0, rfl => exact rangeAt_left r.range
      | 1, rfl => exact rangeAt_right r.range rfl
  exact Lk.rx_any f.k f.c _ 2 c _ _ fo.c0 fo.c1 (by decide) hs
theorem face_rx (f : Fc) (n : Ng) (w : World) (fo : f.ok) (no : n.ok) : Calls Try.prog 37 #[.agg (fcs f).toArray, nV n] w (Gives w (.int .u16 (rxN f n))) := by
  have hx := fun g c W r => rx_two f n g c 52 W fo no r
  obtain ⟨hB, r0, r1⟩ := low_rows w (fcs f) (ncs n) 79 55
  generalize rxN f n = X at *
  clear fo no
  go_enter Try.func37, Try.ntmps37
  go_upto_region 1 with fail
  refine name_world (R := fun W => Code.wp _ _ _ _ W) (P := fun W => Below w.heap.size w W ∧ Row W w.heap.size 79 (fcs f) ∧ Row W (w.heap.size + 1) 55 (ncs n)) _ ⟨hB, r0, r1⟩ ?_
  clear hB r0 r1
  rintro Z ⟨hB, r0, r1⟩
  have c0 : Z.cell? ⟨w.heap.size, 0, none⟩ = some (.int .i64 f.k) := r0.cell 0
  have c1 : Z.cell? ⟨w.heap.size, 1, none⟩ = some (.int .u16 f.c) := r0.cell 1
  go_wp2_with (first
    | (go_at_call 59; refine (hx Z.heap.size 2 _ (Row.new Z 52 (hcs n.m ++ hcs n.u))).mono ?_; rintro e w6 ⟨rfl, b6⟩)
    | (refine ldH (.tmp 9) rfl rfl _ _ n.m rfl r1.nM ?_)
    | (refine ldH (.tmp 11) rfl rfl _ _ n.u rfl r1.nU ?_))
  go_ret
  exact ⟨rfl, bt hB (bt (ba _ _) b6)⟩
def rxO (o : Option Ng) (q : Option Fc) : Int := match o, q with | some n, some f => rxN f n | _, _ => 65535
def rxT (F : List Fc) (L : List Ng) (i : Int) (c : Ad) : Int := rxO (getN L i c) F[i.toNat]?
theorem getN_if {w : World} {t mb : Nat} {most : Int} {F : List Fc} {L : List Ng} (h : Tb w t mb most F L) {i : Int} {c : Ad} {n : Ng} (hg : getN L i c = some n) : ∃ (j : Nat) (f : Fc), i = (j : Int) ∧ F[j]? = some f ∧ j < F.length ∧ n.ok ∧ f.ok := by
  obtain ⟨hn, e1, e2⟩ := getN_some hg
  obtain ⟨ok, p0, p1, _⟩ := h.nok n hn
  rw [e1] at p0 p1
  obtain ⟨j, rfl⟩ := Int.eq_ofNat_of_zero_le p0
  have hj : j < F.length := by omega
  exact ⟨j, F[j], rfl, List.getElem?_eq_getElem hj, hj, ok, h.fok _ (List.getElem_mem hj)⟩
set_option maxHeartbeats 8000000 in
theorem rx_tab {w : World} {t mb : Nat} {most : Int} {F : List Fc} {L : List Ng} (h : Tb w t mb most F L) (i : Int) (c : Ad) (hi : wfI i) : Calls Try.prog 19 #[.pointer (some ⟨t, 0, none⟩), .int .i64 i, (Value.agg (acells c).toArray)] w (Gives w (.int .u16 (rxT F L i c))) := by
  have hT : ∀ W, Below w.heap.size w W → Tb W t mb most F L := fun W hW => h.below hW
  have hGet := fun W hW => get_any (hT W hW) i c hi
  obtain ⟨G, hG⟩ : ∃ G, getN L i c = G := ⟨_, rfl⟩
  have HR : Hid (rxT F L i c = rxO G F[i.toNat]?) := by unfold rxT; rw [hG]; exact rfl
  generalize rxT F L i c = R at *
  rw [hG] at hGet
  have hgv : getV G = .tuple #[nV (G.getD zeroN), .bool G.isSome] := rfl
  rw [hgv] at hGet
  clear hgv
  go_enter Try.func19, Try.ntmps19
  go_upto_region 1 with fail
  have r0 := Row.new w 29 (acells c)
  refine name_world (R := fun W => Code.wp _ _ _ _ W) (P := fun W => Below w.heap.size w W ∧ Row W w.heap.size 29 (acells c)) _ ⟨ba _ _, r0⟩ ?_
  clear r0
  rintro X ⟨hB, r0⟩
  have hs := r0.lt
  replace hGet := hGet X hB
  cases G with
  | none =>
    obtain rfl : R = 65535 := HR.out
    dsimp only [Option.getD_none, Option.isSome_none] at hGet
    clear hT HR
    go_wp2_with (first
      | (have kk := r2; refine stN (.tmp 7) (.tmp 14) rfl rfl g2 zeroN _ rfl rfl r2 ?_; intro W3 g3 r3; have b3 := grown_below g3 b2 (Nat.le_trans b1.size hge2) b2.size; clear r2)
      | (have kk := b1; refine alG infoNz rfl rfl ?_; intro g2 W2 hge2 hgl2 hB2 r2; have b2 := bt b1 hB2)
      | (go_at_call 17; refine hGet.mono ?_; rintro e w1 ⟨rfl, b1⟩)
      | (refine ldA (.tmp 5) rfl rfl _ _ c rfl r0.range ?_))
    go_ret
    exact ⟨rfl, bt hB b3⟩
  | some n =>
    obtain ⟨j, f, rfl, hFj, hjF, no, fo⟩ := getN_if h hG
    obtain rfl : R = rxN f n := by
      have := HR.out
      simp only [Int.toNat_natCast, hFj] at this
      exact this
    have hRX := fun W => face_rx f n W fo no
    obtain ⟨fa, fc, hr, hfs⟩ := h.ex
    obtain ⟨fg, fo, rfl, hfg, hfr⟩ := hfs.rtt hFj
    have ht := hr.lt
    have HK : Hid (∀ W, Below w.heap.size w W → W.cell? ⟨t, 1, none⟩ = some (.slice (some ⟨fg, fo, none⟩) F.length fc) ∧ W.rangeAt fg (fo + j * 7) (fcs f)) := fun W hW => ⟨(hr.below hW ht).cell 1, rangeAt_below hfr hW hfg⟩
    have hjI : (j : Int) < (F.length : Int) := by omega
    dsimp only [Option.getD_some, Option.isSome_some] at hGet
    generalize rxN f n = R at *
    clear hT HR hr hfs hfr hFj hG
    go_upto_region 4 with (first
      | (have kk := r2; refine stN (.tmp 7) (.tmp 14) rfl rfl g2 n _ rfl rfl r2 ?_; intro W3 g3 r3; have b3 := grown_below g3 b2 (Nat.le_trans b1.size hge2) b2.size; clear r2)
      | (have kk := b1; refine alG infoNz rfl rfl ?_; intro g2 W2 hge2 hgl2 hB2 r2; have b2 := bt b1 hB2)
      | (go_at_call 17; refine hGet.mono ?_; rintro e w1 ⟨rfl, b1⟩)
      | (refine ldA (.tmp 5) rfl rfl _ _ c rfl r0.range ?_))
    refine wp_region_noPanic ?_
    refine wp_region_held_drew (S := fun W => Below X.heap.size X W ∧ Row W g2 55 (ncs n)) (by kernel_rfl) (⟨b3.drew, r3.drew⟩) (fun hHeld => ?_)
    refine take_lit (i := 0) (v := ?_) rfl (by kernel_rfl) (by kernel_rfl) (by kernel_rfl) (fun _ _ _ h => h) (Or.inl ⟨by rfl, ?_⟩) (by assumption) ?_
    rotate_left
    · (intro w hSw; (try dsimp only at hSw); go_simp <;> with_reducible rfl)
    try simp only [Act.put, List.setIfInBounds_toArray, List.set_cons_zero, List.set_cons_succ]
    refine take_lit (i := 1) (v := ?_) rfl (by kernel_rfl) (by kernel_rfl) (by kernel_rfl) (fun _ _ _ h => h) (Or.inl ⟨by rfl, ?_⟩) (by assumption) ?_
    rotate_left
    · (intro w hSw; (try dsimp only at hSw); go_simp <;> with_reducible rfl)
    try simp only [Act.put, List.setIfInBounds_toArray, List.set_cons_zero, List.set_cons_succ]
    refine take_lit (i := 2) (v := ?_) rfl (by kernel_rfl) (by kernel_rfl) (by kernel_rfl) (fun _ _ _ h => h) (Or.inl ⟨by rfl, ?_⟩) (by assumption) ?_
    rotate_left
    · (intro w hSw; (try dsimp only at hSw); go_simp <;> with_reducible rfl)
    try simp only [Act.put, List.setIfInBounds_toArray, List.set_cons_zero, List.set_cons_succ]
    refine take_lit (i := 3) (v := ?_) rfl (by kernel_rfl) (by kernel_rfl) (by kernel_rfl) (fun _ _ _ h => h) (Or.inl ⟨by rfl, ?_⟩) (by assumption) ?_
    rotate_left
    · (intro w hSw; (try dsimp only at hSw); have z := (HK.out _ (bt hB hSw.1)).1; go_simp <;> with_reducible rfl)
    try simp only [Act.put, List.setIfInBounds_toArray, List.set_cons_zero, List.set_cons_succ]
    refine take_lit (i := 4) (v := ?_) rfl (by kernel_rfl) (by kernel_rfl) (by kernel_rfl) (fun _ _ _ h => h) (Or.inl ⟨by rfl, ?_⟩) (by assumption) ?_
    rotate_left
    · (intro w hSw; (try dsimp only at hSw); go_simp <;> with_reducible rfl)
    try simp only [Act.put, List.setIfInBounds_toArray, List.set_cons_zero, List.set_cons_succ]
    refine take_lit (i := 5) (v := ?_) rfl (by kernel_rfl) (by kernel_rfl) (by kernel_rfl) (fun _ _ _ h => h) (Or.inl ⟨by rfl, ?_⟩) (by assumption) ?_
    rotate_left
    · (intro w hSw; (try dsimp only at hSw); go_simp <;> with_reducible rfl)
    try simp only [Act.put, List.setIfInBounds_toArray, List.set_cons_zero, List.set_cons_succ]
    refine take_lit (i := 6) rfl (by kernel_rfl) (by kernel_rfl) (by kernel_rfl) (fun _ _ _ h => h) (yFc f (fun w h => (HK.out _ (bt hB h.1)).2) (by rfl) rfl rfl) (by assumption) ?_
    try simp only [Act.put, List.setIfInBounds_toArray, List.set_cons_zero, List.set_cons_succ]
    refine take_lit (i := 7) rfl (by kernel_rfl) (by kernel_rfl) (by kernel_rfl) (fun _ _ _ h => h) (yN n (fun w h => h.2.range) (by rfl) rfl rfl) (by assumption) ?_
    try simp only [Act.put, List.setIfInBounds_toArray, List.set_cons_zero, List.set_cons_succ]
    refine wpAnyH_ready (rs := [8]) (by kernel_rfl) (by simp) ?_
    refine cons_lit rfl (fun K hK => ?_) ?_
    · go_simp
      refine (hRX _).mono ?_
      rintro e w6 ⟨rfl, hB6⟩
      refine hK.out _ _ ?_ (fun hHeld => ?_)
      · exact ⟨bt hHeld.1 hB6, hHeld.2.below hB6 hHeld.2.lt⟩
      clear hK K
      try simp only [Act.put, List.setIfInBounds_toArray, List.set_cons_zero, List.set_cons_succ]
      refine take_lit (i := 9) (v := ?_) rfl (by kernel_rfl) (by kernel_rfl) (by kernel_rfl) (fun _ _ _ h => h) (Or.inl ⟨by rfl, ?_⟩) (by assumption) ?_
      rotate_left
      · (intro w hSw; (try dsimp only at hSw); go_simp <;> with_reducible rfl)
      try simp only [Act.put, List.setIfInBounds_toArray, List.set_cons_zero, List.set_cons_succ]
      refine wpAnyH_done (by kernel_rfl) ?_ _
      refine NoPanic.normal ?_
      go_wp2
      go_ret
      exact ⟨rfl, bt hB hHeld.1⟩
    exact AllReadyH.nil
end Go.Proofs.Ytacadlbhgelncaa
