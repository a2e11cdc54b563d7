/-
  What the link to a neighbour costs.
-/
import Derived.Test.YtacadlbhgelncaaN10
namespace Go.Proofs.Ytacadlbhgelncaa
open Lk (Hi hcs hcs_one)
open Rk (Rt rcs rtV)
open Go.RowKit Go.Maps
set_option linter.unusedSimpArgs false
set_option linter.unusedVariables false
set_option maxRecDepth 20000
def costO (o : Option Ng) (q : Option Fc) : Int := match o, q with | some n, some f => Lk.costZ f.k (rxN f n) n.tx | _, _ => 65535
def costT (F : List Fc) (L : List Ng) (i : Int) (c : Ad) : Int := costO (getN L i c) F[i.toNat]?
theorem rxN_ok (f : Fc) (n : Ng) (fo : f.ok) : 0 ≤ rxN f n ∧ rxN f n < 65536 := by
  have a := Lk.rxZ_ok f.k f.c n.m.b.toNat fo.c0 fo.c1
  have b := Lk.rxZ_ok f.k f.c n.u.b.toNat fo.c0 fo.c1
  show 0 ≤ min (min 65535 _) _ ∧ min (min 65535 _) _ < 65536
  omega
set_option maxHeartbeats 8000000 in
theorem cost_tab {w : World} {t mb : Nat} {most : Int} {F : List Fc} {L : List Ng} (h : Tb w t mb most F L) (i : Int) (c : Ad) (hi : wfI i) (hh : ∀ n, getN L i c = some n → n.hr = false) : Calls Try.prog 20 #[.pointer (some ⟨t, 0, none⟩), .int .i64 i, (Value.agg (acells c).toArray)] w (Gives w (.int .u16 (costT F L i c))) := by
  have hT : ∀ W, Below w.heap.size w W → Tb W t mb most F L := fun W hW => h.below hW
  have hGet := fun W hW => get_any (hT W hW) i c hi
  obtain ⟨G, hG⟩ : ∃ G, getN L i c = G := ⟨_, rfl⟩
  have HR : Hid (costT F L i c = costO G F[i.toNat]?) := by unfold costT; rw [hG]; exact rfl
  generalize costT F L i c = R at *
  rw [hG] at hGet
  have hgv : getV G = .tuple #[nV (G.getD zeroN), .bool G.isSome] := rfl
  rw [hgv] at hGet
  clear hgv
  go_enter Try.func20, Try.ntmps20
  go_upto_region 1 with fail
  have r0 := Row.new w 29 (acells c)
  refine name_world (R := fun W => Code.wp _ _ _ _ W) (P := fun W => Below w.heap.size w W ∧ Row W w.heap.size 29 (acells c)) _ ⟨ba _ _, r0⟩ ?_
  clear r0
  rintro X ⟨hB, r0⟩
  have hs := r0.lt
  replace hGet := hGet X hB
  cases G with
  | none =>
    obtain rfl : R = 65535 := HR.out
    dsimp only [Option.getD_none, Option.isSome_none] at hGet
    clear hT HR
    go_wp2_with (first
      | (have kk := r2; refine stN (.tmp 7) (.tmp 16) rfl rfl g2 zeroN _ rfl rfl r2 ?_; intro W3 g3 r3; have b3 := grown_below g3 b2 (Nat.le_trans b1.size hge2) b2.size; clear r2)
      | (have kk := b1; refine alG infoNz rfl rfl ?_; intro g2 W2 hge2 hgl2 hB2 r2; have b2 := bt b1 hB2)
      | (go_at_call 17; refine hGet.mono ?_; rintro e w1 ⟨rfl, b1⟩)
      | (refine ldA (.tmp 5) rfl rfl _ _ c rfl r0.range ?_))
    go_ret
    exact ⟨rfl, bt hB b3⟩
  | some n =>
    obtain ⟨j, f, rfl, hFj, hjF, no, fo⟩ := getN_if h hG
    obtain rfl : R = Lk.costZ f.k (rxN f n) n.tx := by
      have := HR.out
      simp only [Int.toNat_natCast, hFj] at this
      exact this
    have hRX := fun W => face_rx f n W fo no
    obtain ⟨fa, fc, hr, hfs⟩ := h.ex
    obtain ⟨fg, fq, rfl, hfg, hfr⟩ := hfs.rtt hFj
    have ht := hr.lt
    have HK : Hid (∀ W, Below w.heap.size w W → W.cell? ⟨t, 1, none⟩ = some (.slice (some ⟨fg, fq, none⟩) F.length fc) ∧ W.rangeAt fg (fq + j * 7) (fcs f)) := fun W hW => ⟨(hr.below hW ht).cell 1, rangeAt_below hfr hW hfg⟩
    have hjI : (j : Int) < (F.length : Int) := by omega
    dsimp only [Option.getD_some, Option.isSome_some] at hGet
    have hrx := rxN_ok f n fo
    have hCO := fun W => Lk.cost_any f.k (rxN f n) n.tx W hrx.1 hrx.2 no.tx0 no.tx1
    have hnr := hh n hG
    generalize rxN f n = R at *
    clear hT HR hr hfs hfr hFj hG
    go_upto_region 4 with (first
      | (have kk := r2; refine stN (.tmp 7) (.tmp 16) rfl rfl g2 n _ rfl rfl r2 ?_; intro W3 g3 r3; have b3 := grown_below g3 b2 (Nat.le_trans b1.size hge2) b2.size; clear r2)
      | (have kk := b1; refine alG infoNz rfl rfl ?_; intro g2 W2 hge2 hgl2 hB2 r2; have b2 := bt b1 hB2)
      | (go_at_call 17; refine hGet.mono ?_; rintro e w1 ⟨rfl, b1⟩)
      | (refine ldA (.tmp 5) rfl rfl _ _ c rfl r0.range ?_))
    have k1 := (HK.out _ (bt hB b3)).1
    have k2 := (HK.out _ (bt hB b3)).2
    have hgX : X.heap.size ≤ g2 := Nat.le_trans b1.size hge2
    have hg3 := r3.lt
    go_upto_region 5 with (first
      | (have kk := r4; refine stFc (.tmp 9) (.tmp 26) rfl rfl g4 f _ rfl rfl r4 ?_; intro W5 g5 r5; have b5 := grown_below g5 b4 hge4 b4.size; have q5 := q4.keep g5 hne4; clear r4)
      | (refine ldFc (.tmp 25) rfl rfl _ _ f rfl k2 ?_)
      | (refine alG infoFz rfl rfl ?_; intro g4 W4 hge4' hgl4 hB4 r4; have b4 := bt b3 hB4; have q4 := r3.below hB4 hg3; have hge4 : X.heap.size ≤ g4 := Nat.le_trans b3.size hge4'; have hne4 : g2 ≠ g4 := (by omega)))
    refine wp_region_noPanic ?_
    refine wp_region_held_drew (S := fun W => Below X.heap.size X W ∧ Row W g2 55 (ncs n) ∧ Row W g4 79 (fcs f)) (by kernel_rfl) (⟨b5.drew, q5.drew, r5.drew⟩) (fun hHeld => ?_)
    refine take_lit (i := 0) (v := ?_) rfl (by kernel_rfl) (by kernel_rfl) (by kernel_rfl) (fun _ _ _ h => h) (Or.inl ⟨by rfl, ?_⟩) (by assumption) ?_
    rotate_left
    · (intro w hSw; (try dsimp only at hSw); go_simp <;> with_reducible rfl)
    try simp only [Act.put, List.setIfInBounds_toArray, List.set_cons_zero, List.set_cons_succ]
    refine take_lit (i := 1) (v := ?_) rfl (by kernel_rfl) (by kernel_rfl) (by kernel_rfl) (fun _ _ _ h => h) (Or.inl ⟨by rfl, ?_⟩) (by assumption) ?_
    rotate_left
    · (intro w hSw; (try dsimp only at hSw); have z : w.cell? ⟨g4, 0, none⟩ = some (.int .i64 f.k) := hSw.2.2.cell 0; go_simp <;> with_reducible rfl)
    try simp only [Act.put, List.setIfInBounds_toArray, List.set_cons_zero, List.set_cons_succ]
    refine take_lit (i := 2) rfl (by kernel_rfl) (by kernel_rfl) (by kernel_rfl) (fun _ _ _ h => h) (yFc f (fun w h => h.2.2.range) (by rfl) rfl rfl) (by assumption) ?_
    try simp only [Act.put, List.setIfInBounds_toArray, List.set_cons_zero, List.set_cons_succ]
    refine take_lit (i := 3) rfl (by kernel_rfl) (by kernel_rfl) (by kernel_rfl) (fun _ _ _ h => h) (yN n (fun w h => h.2.1.range) (by rfl) rfl rfl) (by assumption) ?_
    try simp only [Act.put, List.setIfInBounds_toArray, List.set_cons_zero, List.set_cons_succ]
    refine take_lit (i := 5) (v := ?_) rfl (by kernel_rfl) (by kernel_rfl) (by kernel_rfl) (fun _ _ _ h => h) (Or.inl ⟨by rfl, ?_⟩) (by assumption) ?_
    rotate_left
    · (intro w hSw; (try dsimp only at hSw); go_simp <;> with_reducible rfl)
    try simp only [Act.put, List.setIfInBounds_toArray, List.set_cons_zero, List.set_cons_succ]
    refine take_lit (i := 6) (v := ?_) rfl (by kernel_rfl) (by kernel_rfl) (by kernel_rfl) (fun _ _ _ h => h) (Or.inl ⟨by rfl, ?_⟩) (by assumption) ?_
    rotate_left
    · (intro w hSw; (try dsimp only at hSw); have z : w.cell? ⟨g2, 27, none⟩ = some (.int .u16 n.tx) := (hSw.2.1.cell 27).trans (nc27 _); go_simp <;> with_reducible rfl)
    try simp only [Act.put, List.setIfInBounds_toArray, List.set_cons_zero, List.set_cons_succ]
    refine wpAnyH_ready (rs := [4]) (by kernel_rfl) (by simp) ?_
    refine cons_lit rfl (fun K hK => ?_) ?_
    · go_simp
      refine (hRX _).mono ?_
      rintro e w6 ⟨rfl, hB6⟩
      refine hK.out _ _ ?_ (fun hHeld => ?_)
      · exact ⟨bt hHeld.1 hB6, hHeld.2.1.below hB6 hHeld.2.1.lt, hHeld.2.2.below hB6 hHeld.2.2.lt⟩
      clear hK K
      try simp only [Act.put, List.setIfInBounds_toArray, List.set_cons_zero, List.set_cons_succ]
      refine wpAnyH_ready (rs := [7]) (by kernel_rfl) (by simp) ?_
      refine cons_lit rfl (fun K hK => ?_) ?_
      · go_simp
        refine (hCO _).mono ?_
        rintro e w7 ⟨rfl, rfl⟩
        refine hK.out _ _ ?_ (fun hHeld => ?_)
        · exact hHeld
        clear hK K
        try simp only [Act.put, List.setIfInBounds_toArray, List.set_cons_zero, List.set_cons_succ]
        refine take_lit (i := 8) (v := ?_) rfl (by kernel_rfl) (by kernel_rfl) (by kernel_rfl) (fun _ _ _ h => h) (Or.inl ⟨by rfl, ?_⟩) (by assumption) ?_
        rotate_left
        · (intro w hSw; (try dsimp only at hSw); go_simp <;> with_reducible rfl)
        try simp only [Act.put, List.setIfInBounds_toArray, List.set_cons_zero, List.set_cons_succ]
        refine wpAnyH_done (by kernel_rfl) ?_ _
        refine NoPanic.normal ?_
        have c33 := (hHeld.2.1.cell 33).trans (nc33 _)
        rw [hnr] at c33
        go_wp2_with fail
        go_ret
        exact ⟨rfl, bt hB hHeld.1⟩
      exact AllReadyH.nil
    exact AllReadyH.nil
end Go.Proofs.Ytacadlbhgelncaa
