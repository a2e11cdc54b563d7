/-
  The table of neighbours: Get, put, hasIf.
-/
import Derived.Test.YtacadlbhgelncaaN4
namespace Go.Proofs.Ytacadlbhgelncaa
open Lk (Hi hcs hcs_one)
open Rk (Rt rcs rtV)
open Go.RowKit Go.Maps
set_option linter.unusedSimpArgs false
set_option linter.unusedVariables false
set_option maxRecDepth 20000
/-- What of an interface has a part in costs. -/
structure Fc where
  k : Int
  c : Int
  r : Rt
def fcs (f : Fc) : List Value := [.int .i64 f.k, .int .u16 f.c, .bool f.r.on, .int .i64 f.r.mi, .int .i64 f.r.ma, .int .i64 f.r.co, .int .i64 f.r.de]
structure Fc.ok (f : Fc) : Prop where
  c0 : 0 ≤ f.c
  c1 : f.c < 65536
  ro : f.r.on = true → f.r.ok
theorem fcs_one (f : Fc) : ∀ u ∈ fcs f, u.oneCell' = true := by
  intro u hu
  simp [fcs] at hu
  rcases hu with rfl | rfl | rfl | rfl | rfl | rfl | rfl <;> rfl
theorem infoFs : (Try.prog.info? 79).map (·.size) = some 7 := by kernel_rfl
/-- Faces in memory: where a slice of them leads. -/
structure Fs (w : World) (ad : Option Addr) (l : List Fc) : Prop where
  lies : l = [] ∨ ∃ g o, ad = some ⟨g, o, none⟩ ∧ g < w.heap.size ∧ ∀ (j : Nat) (f : Fc), l[j]? = some f → w.rangeAt g (o + j * 7) (fcs f)
  obj : ∀ g o, ad = some ⟨g, o, none⟩ → ∃ cs T f, w.heap[g]? = some (.cells cs T f)
theorem Fs.below {w w' : World} {B : Nat} {ad : Option Addr} {l : List Fc} (h : Fs w ad l) (hb : Below B w w') (hB : ∀ g o, ad = some ⟨g, o, none⟩ → g < B) : Fs w' ad l :=
  ⟨h.lies.imp id fun ⟨g, o, e, hg, hl⟩ => ⟨g, o, e, Nat.lt_of_lt_of_le hg hb.size, fun j f hf => rangeAt_below (hl j f hf) hb (hB g o e)⟩, fun g o e => by
    obtain ⟨cs, T, f, h1⟩ := h.obj g o e
    exact ⟨cs, T, f, (hb.block g (hB g o e)).trans h1⟩⟩
theorem rangeAt_keep {w w' : World} {b g o : Nat} {cs : List Value} (h : w.rangeAt g o cs) (hg : w.grownBy w' (some b)) (hne : g ≠ b) (hlt : g < w.heap.size) : w'.rangeAt g o cs := fun j v hv => by
  have e := hg.block g hlt (fun e => hne (by cases e; rfl))
  have := h j v hv
  unfold World.cell? at *
  rw [e]
  exact this
theorem Fs.keep {w w' : World} {b : Nat} {ad : Option Addr} {l : List Fc} (h : Fs w ad l) (hg : w.grownBy w' (some b)) (hne : ∀ g o, ad = some ⟨g, o, none⟩ → g ≠ b) (hl : ∀ g o, ad = some ⟨g, o, none⟩ → g < w.heap.size) : Fs w' ad l :=
  ⟨h.lies.imp id fun ⟨g, o, e, hlt, hf⟩ => ⟨g, o, e, Nat.lt_of_lt_of_le hlt hg.size, fun j f hj => rangeAt_keep (hf j f hj) hg (hne g o e) hlt⟩, fun g o e => by
    obtain ⟨cs, T, f, h1⟩ := h.obj g o e
    exact ⟨cs, T, f, (hg.block g (hl g o e) (fun e' => hne g o e (by cases e'; rfl))).trans h1⟩⟩
/-- The table: its block, its map, how many it has room for, its interfaces, its neighbours. -/
structure Tb (w : World) (t mb : Nat) (most : Int) (F : List Fc) (L : List Ng) : Prop where
  ex : ∃ fa fc, Row w t 77 [.int .i64 most, .slice fa F.length fc, .map (some mb)] ∧ Fs w fa F
  map : Mp w mb L
  fok : ∀ f ∈ F, f.ok
  nok : ∀ n ∈ L, n.ok ∧ 0 ≤ n.i ∧ n.i < F.length ∧ (n.hr = true → ∀ f, F[n.i.toNat]? = some f → f.r.on = true)
  fl : F.length ≤ 1000000
  ll : L.length ≤ 1000000
theorem Fs.lt {w : World} {ad : Option Addr} {l : List Fc} (h : Fs w ad l) : ∀ g o, ad = some ⟨g, o, none⟩ → g < w.heap.size := fun g o e => by
  obtain ⟨cs, T, f, h1⟩ := h.obj g o e
  exact (Array.getElem?_eq_some_iff.1 h1).1
theorem Fs.ne_map {w : World} {ad : Option Addr} {l : List Fc} {mb : Nat} {L : List Ng} (h : Fs w ad l) (hm : Mp w mb L) : ∀ g o, ad = some ⟨g, o, none⟩ → g ≠ mb := fun g o e => by
  obtain ⟨cs, T, f, h1⟩ := h.obj g o e
  obtain ⟨es, cl, h2⟩ := hm.obj
  intro e'
  rw [e', h2] at h1
  cases h1
theorem Tb.lt {w : World} {t mb : Nat} {most : Int} {F : List Fc} {L : List Ng} (h : Tb w t mb most F L) : t < w.heap.size := by
  obtain ⟨fa, fc, hr, _⟩ := h.ex
  exact hr.lt
theorem Tb.below {w w' : World} {t mb : Nat} {most : Int} {F : List Fc} {L : List Ng} (h : Tb w t mb most F L) (hb : Below w.heap.size w w') : Tb w' t mb most F L := by
  obtain ⟨fa, fc, hr, hf⟩ := h.ex
  exact ⟨⟨fa, fc, hr.below hb hr.lt, hf.below hb hf.lt⟩, h.map.below hb h.map.lt, h.fok, h.nok, h.fl, h.ll⟩
/-- A block of the call's own is written. -/
theorem Tb.own {w w' W : World} {t mb g : Nat} {most : Int} {F : List Fc} {L : List Ng} (h : Tb w t mb most F L) (hb : Below w.heap.size w w') (hg : w'.grownBy W (some g)) (hge : w.heap.size ≤ g) : Tb W t mb most F L :=
  h.below (grown_below hg hb hge hb.size)
theorem Tb.turn {w w' : World} {t mb : Nat} {most : Int} {F : List Fc} {L L' : List Ng} (h : Tb w t mb most F L) (hm : Mp w' mb L') (hg : w.grownBy w' (some mb)) (hn : ∀ n ∈ L', n.ok ∧ 0 ≤ n.i ∧ n.i < F.length ∧ (n.hr = true → ∀ f, F[n.i.toNat]? = some f → f.r.on = true)) (hl : L'.length ≤ 1000000) : Tb w' t mb most F L' := by
  obtain ⟨fa, fc, hr, hf⟩ := h.ex
  exact ⟨⟨fa, fc, hr.keep hg (h.map.ne_row hr), hf.keep hg (hf.ne_map h.map) hf.lt⟩, hm, h.fok, hn, h.fl, hl⟩
section
variable {ops : Array Oper} {rest : List Oper} {op : Oper} {a : Act} {w : World} {Q : Exit → Act → World → Prop} {K : Act → World → Prop} {E : Prop} {S : World → Prop}
theorem sStN (x y : Operand) (hw : Region.wanted op (yielded ops a.tmps) = true) (ho : op.op = .store 55 x y) (b : Nat) (n u : Ng) (hx : a.eval x = .pointer (some ⟨b, 0, none⟩)) (hy : a.eval y = .agg (ncs n).toArray) (hr : Row w b 55 (ncs u))
    (h : ∀ W, w.grownBy W (some b) → Row W b 55 (ncs n) → K (a.put op.dst undef) W) : if Region.wanted op (yielded ops a.tmps) = true then Oper.wp Try.prog op a w K Q else E := by
  rw [if_pos hw]
  refine wp_store_mid _ x y ho b 0 _ hx hy (by simpa [ncs_len] using hr.there (n := 34) (by rw [ncs_len]; omega)) (by rw [infoNs]; simp [ncs_len]) (all_oneCell_toArray (ncs_one n)) (h _ (grownBy_setCells b _ _ _) ?_)
  have := Row.setCells (ncs n) [] w (ncs u) hr (by rw [ncs_len, ncs_len])
  simpa using this
end
theorem hasIf_any {w : World} {t mb : Nat} {most : Int} {F : List Fc} {L : List Ng} (h : Tb w t mb most F L) (i : Int) : Calls Try.prog 24 #[.pointer (some ⟨t, 0, none⟩), .int .i64 i] w fun e w' => e = .returned (.bool (decide (0 ≤ i) && decide (i < F.length))) ∧ w = w' := by
  obtain ⟨fa, fc, hr, _⟩ := h.ex
  have c1 : w.cell? ⟨t, 1, none⟩ = some (.slice fa F.length fc) := hr.cell 1
  generalize F.length = k at *
  by_cases h1 : 0 ≤ i
  · by_cases h2 : i < (k : Int)
    · go_enter Try.func24, Try.ntmps24
      go_wp2
      go_ret
      exact ⟨by simp [h1, h2], rfl⟩
    · go_enter Try.func24, Try.ntmps24
      go_wp2
      go_ret
      exact ⟨by simp [h1, h2], rfl⟩
  · go_enter Try.func24, Try.ntmps24
    go_wp2
    go_ret
    exact ⟨by rw [decide_eq_false (by omega : ¬ 0 ≤ i)]; rfl, rfl⟩
theorem get_nil (i : Int) (c : Ad) (w : World) : Calls Try.prog 17 #[.pointer none, .int .i64 i, (Value.agg (acells c).toArray)] w (Gives w (getV none)) := by
  go_enter Try.func17, Try.ntmps17
  go_upto_region 1 with (first
    | (refine alG infoNz rfl rfl ?_; intro g1 W1 hge hgl hB1 hr1))
  obtain ⟨hB, r0, hs⟩ := stepRow hB1
  have hg : w.heap.size < g1 := by simp at hge; omega
  clear hB1 hge
  go_wp2_with (first
    | ((with_reducible refine bdG (T := 55) (v := nV zeroN) [] ?_ ?_ ?_ ?_); (focus rfl); (focus rfl); (focus exact bdN0 _))
    | (refine stN (.tmp 6) (.tmp 12) rfl rfl g1 zeroN _ rfl rfl hr1 ?_; intro W2 hg2 hr2))
  exact bodyPost_ret (retCT rfl _ _ 0 rfl (lvN hr2)) rfl ⟨rfl, grown_below hg2 hB (by omega) (by omega)⟩
set_option maxHeartbeats 2000000 in
theorem get_any {w : World} {t mb : Nat} {most : Int} {F : List Fc} {L : List Ng} (h : Tb w t mb most F L) (i : Int) (c : Ad) (hi : wfI i) : Calls Try.prog 17 #[.pointer (some ⟨t, 0, none⟩), .int .i64 i, (Value.agg (acells c).toArray)] w (Gives w (getV (getN L i c))) := by
  have hlk : ∀ W, Below w.heap.size w W → (Instr.lookup 74 (.map (some mb)) (.agg (kcs i c).toArray) true).run Try.prog W = .ok (getV (getN L i c)) W := fun W hW => (h.map.below hW h.map.lt).look hi c
  obtain ⟨fa, fc, hr, _⟩ := h.ex
  have ht := hr.lt
  generalize getN L i c = R at *
  have hv : getV R = .tuple #[nV (R.getD zeroN), .bool R.isSome] := rfl
  rw [hv] at hlk ⊢
  clear hv
  generalize R.getD zeroN = x at *
  generalize R.isSome = b at *
  go_enter Try.func17, Try.ntmps17
  go_upto_region 1 with (first
    | (refine alG infoNz rfl rfl ?_; intro g1 W1 hge hgl hB1 hr1))
  obtain ⟨hB, r0, hs⟩ := stepRow hB1
  have hg : w.heap.size < g1 := by simp at hge; omega
  clear hB1 hge
  go_upto_region 3 with fail
  have hlk1 : ∀ W, Below W1.heap.size W1 W → (Instr.lookup 74 (.map (some mb)) (.agg (kcs i c).toArray) true).run Try.prog W = .ok (.tuple #[nV x, .bool b]) W := fun W hW => hlk W (bt hB hW)
  have hr0 := hr.below hB ht
  have HK : ∀ W, Below W1.heap.size W1 W → W.cell? ⟨t, 2, none⟩ = some (.map (some mb)) := fun W hW => (hr0.below hW hr0.lt).cell 2
  clear hlk h hr
  refine wp_region_noPanic ?_
  refine wp_region_held_drew (S := fun W => Below W1.heap.size W1 W) (by kernel_rfl) ((Below.refl _ _).drew) (fun hHeld => ?_)
  refine take_lit (i := 0) (v := ?_) rfl (by kernel_rfl) (by kernel_rfl) (by kernel_rfl) (fun _ _ _ h => h) (Or.inl ⟨by rfl, ?_⟩) (by assumption) ?_
  rotate_left
  · (intro w hSw; (try dsimp only at hSw); go_simp <;> with_reducible rfl)
  try simp only [Act.put, List.setIfInBounds_toArray, List.set_cons_zero, List.set_cons_succ]
  refine take_lit (i := 1) (v := ?_) rfl (by kernel_rfl) (by kernel_rfl) (by kernel_rfl) (fun _ _ _ h => h) (Or.inl ⟨by rfl, ?_⟩) (by assumption) ?_
  rotate_left
  · (intro w hSw; (try dsimp only at hSw); go_simp <;> with_reducible rfl)
  try simp only [Act.put, List.setIfInBounds_toArray, List.set_cons_zero, List.set_cons_succ]
  refine take_lit (i := 2) (v := ?_) rfl (by kernel_rfl) (by kernel_rfl) (by kernel_rfl) (fun _ _ _ h => h) (Or.inl ⟨by rfl, ?_⟩) (by assumption) ?_
  rotate_left
  · (intro w hSw; (try dsimp only at hSw); go_simp <;> with_reducible rfl)
  try simp only [Act.put, List.setIfInBounds_toArray, List.set_cons_zero, List.set_cons_succ]
  refine take_lit (i := 3) (v := ?_) rfl (by kernel_rfl) (by kernel_rfl) (by kernel_rfl) (fun _ _ _ h => h) (Or.inl ⟨by rfl, ?_⟩) (by assumption) ?_
  rotate_left
  · (intro w hSw; (try dsimp only at hSw); have z := HK _ hSw; go_simp <;> with_reducible rfl)
  try simp only [Act.put, List.setIfInBounds_toArray, List.set_cons_zero, List.set_cons_succ]
  refine take_lit (i := 4) (v := ?_) rfl (by kernel_rfl) (by kernel_rfl) (by kernel_rfl) (fun _ _ _ h => h) (Or.inl ⟨by rfl, ?_⟩) (by assumption) ?_
  rotate_left
  · (intro w hSw; (try dsimp only at hSw); go_simp <;> with_reducible rfl)
  try simp only [Act.put, List.setIfInBounds_toArray, List.set_cons_zero, List.set_cons_succ]
  refine take_lit (i := 5) rfl (by kernel_rfl) (by kernel_rfl) (by kernel_rfl) (fun _ _ _ h => h) (yA c (fun w h => (LA.below r0.range h hs)) (by rfl) rfl rfl) (by assumption) ?_
  try simp only [Act.put, List.setIfInBounds_toArray, List.set_cons_zero, List.set_cons_succ]
  refine take_lit (i := 6) rfl (by kernel_rfl) (by kernel_rfl) (by kernel_rfl) (fun _ _ _ h => h) (yB (v := .agg (kcs i c).toArray) [(0, .tmp 18), (1, .tmp 19)] (by rfl) rfl (fun w => bdK i c w)) (by assumption) ?_
  try simp only [Act.put, List.setIfInBounds_toArray, List.set_cons_zero, List.set_cons_succ]
  refine take_lit (i := 7) (v := ?_) rfl (by kernel_rfl) (by kernel_rfl) (by kernel_rfl) (fun _ _ _ h => h) (Or.inl ⟨by rfl, ?_⟩) (by assumption) ?_
  rotate_left
  · (intro w hSw; (try dsimp only at hSw); have z := hlk1 _ hSw; go_simp <;> with_reducible rfl)
  try simp only [Act.put, List.setIfInBounds_toArray, List.set_cons_zero, List.set_cons_succ]
  refine take_lit (i := 8) (v := ?_) rfl (by kernel_rfl) (by kernel_rfl) (by kernel_rfl) (fun _ _ _ h => h) (Or.inl ⟨by rfl, ?_⟩) (by assumption) ?_
  rotate_left
  · (intro w hSw; (try dsimp only at hSw); go_simp <;> with_reducible rfl)
  try simp only [Act.put, List.setIfInBounds_toArray, List.set_cons_zero, List.set_cons_succ]
  refine take_lit (i := 9) (v := ?_) rfl (by kernel_rfl) (by kernel_rfl) (by kernel_rfl) (fun _ _ _ h => h) (Or.inl ⟨by rfl, ?_⟩) (by assumption) ?_
  rotate_left
  · (intro w hSw; (try dsimp only at hSw); go_simp <;> with_reducible rfl)
  try simp only [Act.put, List.setIfInBounds_toArray, List.set_cons_zero, List.set_cons_succ]
  refine take_lit (i := 10) (v := ?_) rfl (by kernel_rfl) (by kernel_rfl) (by kernel_rfl) (fun _ _ _ h => h) (Or.inl ⟨by rfl, ?_⟩) (by assumption) ?_
  rotate_left
  · (intro w hSw; (try dsimp only at hSw); go_simp <;> with_reducible rfl)
  try simp only [Act.put, List.setIfInBounds_toArray, List.set_cons_zero, List.set_cons_succ]
  refine wpAnyH_ready (rs := [11]) (by kernel_rfl) (by simp) ?_
  refine cons_lit rfl (fun K hK => ?_) ?_
  · skip
    refine sAlG infoNz (by rfl) rfl ?_
    intro g2 W2 hge2 hgl2 hB2 hr2
    refine hK.out _ _ ?_ (fun hHeld => ?_)
    · exact bt hHeld hB2
    clear hK K
    try simp only [Act.put, List.setIfInBounds_toArray, List.set_cons_zero, List.set_cons_succ]
    refine wpAnyH_ready (rs := [12]) (by kernel_rfl) (by simp) ?_
    refine cons_lit rfl (fun K hK => ?_) ?_
    · skip
      refine sStN (.tmp 8) (.tmp 22) (by rfl) rfl g2 x _ rfl rfl hr2 ?_
      intro W3 hg3 hr3
      refine hK.out _ _ ?_ (fun hHeld => ?_)
      · exact grown_below hg3 hHeld (show W1.heap.size ≤ g2 from hge2) hHeld.size
      clear hK K
      try simp only [Act.put, List.setIfInBounds_toArray, List.set_cons_zero, List.set_cons_succ]
      refine take_lit (i := 13) (v := ?_) rfl (by kernel_rfl) (by kernel_rfl) (by kernel_rfl) (fun _ _ _ h => h) (Or.inl ⟨by rfl, ?_⟩) (by assumption) ?_
      rotate_left
      · (intro w hSw; (try dsimp only at hSw); go_simp <;> with_reducible rfl)
      try simp only [Act.put, List.setIfInBounds_toArray, List.set_cons_zero, List.set_cons_succ]
      refine wpAnyH_done (by kernel_rfl) ?_ _
      refine NoPanic.normal ?_
      have hr4 := hr1.below hHeld hgl
      have hg4 : g1 < W3.heap.size := hr4.lt
      go_wp2_with (first
        | (refine ldN (.tmp 8) rfl rfl _ _ _ rfl hr3.range ?_)
        | (refine stN (.tmp 6) (.tmp 24) rfl rfl g1 _ _ rfl rfl hr4 ?_; intro W5 hg5 hr5))
      exact bodyPost_ret (retCT rfl _ _ 0 rfl (lvN hr5)) rfl ⟨rfl, grown_below hg5 (bt hB hHeld) (by omega) (by omega)⟩
    exact AllReadyH.nil
  exact AllReadyH.nil
end Go.Proofs.Ytacadlbhgelncaa
