/-
  New: a table on these interfaces.
-/
import Derived.Test.YtacadlbhgelncaaNA
namespace Go.Proofs.Ytacadlbhgelncaa
open Lk (Hi hcs hcs_one)
open Rk (Rt rcs rtV)
open Go.RowKit Go.Maps
set_option linter.unusedSimpArgs false
set_option linter.unusedVariables false
set_option maxRecDepth 20000
/-- An interface as it is configured. -/
structure Ic where
  nm : ByteArray
  k : Int
  c : Int
  he : Int
  up : Int
  mt : Int
  a : Ad
  a4 : Ad
  r : Rt
def ihd (i : Ic) : List Value := [.string i.nm, .int .i64 i.k, .int .i64 i.c, .int .i64 i.he, .int .i64 i.up, .int .i64 i.mt]
def ics (i : Ic) : List Value := ihd i ++ (acells i.a ++ (acells i.a4 ++ rcs i.r))
theorem ics_len (i : Ic) : (ics i).length = 43 := by simp [ics, ihd, acells_len, rcs]
theorem ics_one (i : Ic) : ∀ u ∈ ics i, u.oneCell' = true := by
  intro u hu
  simp only [ics, List.mem_append] at hu
  rcases hu with h | h | h | h
  · simp [ihd] at h
    rcases h with rfl | rfl | rfl | rfl | rfl | rfl <;> rfl
  · exact acells_one _ u h
  · exact acells_one _ u h
  · simp [rcs] at h
    rcases h with rfl | rfl | rfl | rfl | rfl <;> rfl
def zeroC : Ic := ⟨ByteArray.empty, 0, 0, 0, 0, 0, zeroA, zeroA, ⟨false, 0, 0, 0, 0⟩⟩
theorem infoCs : (Try.prog.info? 66).map (·.size) = some 43 := by kernel_rfl
theorem infoCz : (Try.prog.info? 66).map (·.zero) = some (some (.agg (ics zeroC).toArray)) := by kernel_rfl
theorem ics_rtt {w : World} {g o : Nat} {i : Ic} (h : w.rangeAt g o (ics i)) : w.rangeAt g (o + 38) (rcs i.r) := by
  have h1 : w.rangeAt g o ((ihd i ++ (acells i.a ++ acells i.a4)) ++ rcs i.r) := by simpa [ics] using h
  exact rangeAt_right h1 (by simp [ihd, acells_len])
theorem Row.rtt38 {w : World} {g : Nat} {t : TypeId} {i : Ic} (h : Row w g t (ics i)) : w.rangeAt g 38 (rcs i.r) := by
  have := ics_rtt h.range
  rwa [Nat.zero_add] at this
section
variable {ops : Array Oper} {rest : List Oper} {op : Oper} {a : Act} {w : World} {Q : Exit → Act → World → Prop} {K : Act → World → Prop} {E : Prop} {S : World → Prop}
theorem ldC (x : Operand) (hw : Region.wanted op (yielded ops a.tmps) = true) (ho : op.op = .load 66 x) (b o : Nat) (n : Ic) (hx : a.eval x = .pointer (some ⟨b, o, none⟩)) (hc : w.rangeAt b o (ics n))
    (h : wpList Try.prog ops Q rest (a.put op.dst (.agg (ics n).toArray)) w) : wpList Try.prog ops Q (op :: rest) a w :=
  wpList_step fun K hK => by
    rw [if_pos hw]
    exact wp_load_mid _ x ho b o hx (ics n) _ hc Try.underlying66 rfl (by rw [infoCs, ics_len]) (hK _ _ h)
theorem stC (x y : Operand) (hw : Region.wanted op (yielded ops a.tmps) = true) (ho : op.op = .store 66 x y) (b : Nat) (n u : Ic) (hx : a.eval x = .pointer (some ⟨b, 0, none⟩)) (hy : a.eval y = .agg (ics n).toArray) (hr : Row w b 66 (ics u))
    (h : ∀ W, w.grownBy W (some b) → Row W b 66 (ics n) → wpList Try.prog ops Q rest (a.put op.dst undef) W) : wpList Try.prog ops Q (op :: rest) a w :=
  wpList_step fun K hK => by
    rw [if_pos hw]
    refine wp_store_mid _ x y ho b 0 _ hx hy (by simpa [ics_len] using hr.there (n := 43) (by rw [ics_len]; omega)) (by rw [infoCs]; simp [ics_len]) (all_oneCell_toArray (ics_one n)) (hK _ _ (h _ (grownBy_setCells b _ _ _) ?_))
    have := Row.setCells (ics n) [] w (ics u) hr (by rw [ics_len, ics_len])
    simpa using this
theorem sStS (x y : Operand) (hw : Region.wanted op (yielded ops a.tmps) = true) (ho : op.op = .store 75 x y) (b c : Nat) {U : TypeId} (cs : List Value) (ad : Option Addr) (n m : Nat) (hx : a.eval x = .pointer (some ⟨b, c, none⟩)) (hy : a.eval y = .slice ad n m) (hr : Row w b U cs) (hc : c < cs.length)
    (h : ∀ W, w.grownBy W (some b) → Row W b U (cs.set c (.slice ad n m)) → K (a.put op.dst undef) W) : if Region.wanted op (yielded ops a.tmps) = true then Oper.wp Try.prog op a w K Q else E := by
  rw [if_pos hw]
  have c1 : w.cell? ⟨b, c, none⟩ = some cs[c] := by rw [hr.cell]; exact List.getElem?_eq_getElem hc
  have c2 := hr.frozen c
  have h1 := h _ (grownBy_setCell w b c (.slice ad n m)) (hr.set c (.slice ad n m))
  unfold Oper.wp execOp
  simp only [ho, hx, hy]
  go_simp
  exact h1
end
theorem lvC {w : World} {g : Nat} {n : Ic} (h : Row w g 66 (ics n)) : (loadVar 66 ⟨g, 0, none⟩).run Try.prog w = .ok (.agg (ics n).toArray) w :=
  run_loadVar_mid w g 0 _ (ics n) _ h.range Try.underlying66 rfl (by rw [infoCs, ics_len])
/-- Interfaces in memory. -/
structure CsW (w : World) (ad : Option Addr) (l : List Ic) : Prop where
  lies : l = [] ∨ ∃ g o, ad = some ⟨g, o, none⟩ ∧ g < w.heap.size ∧ ∀ (j : Nat) (p : Ic), l[j]? = some p → w.rangeAt g (o + j * 43) (ics p)
theorem CsW.below {w w' : World} {ad : Option Addr} {l : List Ic} (h : CsW w ad l) (hb : Below w.heap.size w w') : CsW w' ad l :=
  ⟨h.lies.imp id fun ⟨g, o, e, hg, hl⟩ => ⟨g, o, e, Nat.lt_of_lt_of_le hg hb.size, fun j p hp => rangeAt_below (hl j p hp) hb hg⟩⟩
def faceI (i : Ic) : Fc := ⟨i.k, IntKind.u16.wrap i.c, i.r⟩
theorem bdFc (f : Fc) (w : World) : (Instr.build 79 #[(0, .int .i64 f.k), (1, .int .u16 f.c), (2, rtV f.r)]).run Try.prog w = .ok (.agg (fcs f).toArray) w := by kernel_rfl
theorem run_mkM (w : World) : (Instr.makeMap 74 none).run Try.prog w = .ok (.map (some w.heap.size)) (w.alloc (.map #[] 0)) := by kernel_rfl
theorem own_ne_row {w : World} {B : Nat} {T T' : TypeId} {sz : Nat} {v : Value} {n : Nat} {xs : List Value} {g : Nat} {cs : List Value} (h : w.ownsRow B T sz v n xs) (hr : Row w g T' cs) (hT : T ≠ T') : v.ownBlock ≠ some g := by
  rcases h.2 with ⟨rfl, _⟩ | ⟨g', cap, cur, rfl, _, hh, _⟩
  · simp [Value.ownBlock]
  · intro e
    simp [Value.ownBlock] at e
    subst e
    unfold Row at hr
    rw [hh] at hr
    cases hr
    exact hT rfl
theorem own_ne_lt {w : World} {B : Nat} {T : TypeId} {sz : Nat} {v : Value} {n : Nat} {xs : List Value} {g : Nat} (h : w.ownsRow B T sz v n xs) (hg : g < B) : v.ownBlock ≠ some g := by
  rcases h.2 with ⟨rfl, _⟩ | ⟨g', cap, cur, rfl, hB, hh, _⟩
  · simp [Value.ownBlock]
  · intro e
    simp [Value.ownBlock] at e
    omega
theorem Row.keepO {w w' : World} {o : Option Nat} {g : Nat} {t : TypeId} {cs : List Value} (h : Row w g t cs) (hg : w.grownBy w' o) (hne : o ≠ some g) : Row w' g t cs :=
  (hg.block g h.lt (fun e => hne e.symm)).trans h
theorem Mp.keepO {w w' : World} {mb : Nat} {o : Option Nat} {L : List Ng} (h : Mp w mb L) (hg : w.grownBy w' o) (hne : o ≠ some mb) : Mp w' mb L := h.same (hg.block mb h.lt (fun e => hne e.symm))
theorem below_keepO {w0 w w' : World} {o : Option Nat} {B : Nat} (hb : Below B w0 w) (hg : w.grownBy w' o) (hne : ∀ g, g < B → o ≠ some g) (hs : B ≤ w.heap.size) : Below B w0 w' :=
  ⟨hg.os.trans hb.os, hg.tape.trans hb.tape, hg.output.trans hb.output, Nat.le_trans hb.size hg.size, fun k hk => (hg.block k (by omega) (fun e => hne k hk e.symm)).trans (hb.block k hk)⟩
structure Newd (w : World) (w' : World) (t mb : Nat) (most : Int) (fa : Value) (F : List Fc) : Prop where
  row : Row w' t 77 [.int .i64 most, fa, .map (some mb)]
  fs : kF.Own w' (w.heap.size + 2) fa F
  map : Mp w' mb []
  bl : Below w.heap.size w w'
set_option maxHeartbeats 8000000 in
theorem new_any (most : Int) (ad : Option Addr) (c : Nat) (l : List Ic) (w : World) (hl : CsW w ad l) (hn : l.length ≤ 1000000) :
    Calls Try.prog 10 #[.int .i64 most, .slice ad l.length c] w fun e w' => ∃ t mb fa, e = .returned (.pointer (some ⟨t, 0, none⟩)) ∧ w.heap.size ≤ t ∧ w.heap.size ≤ mb ∧ Newd w w' t mb most fa (l.map faceI) := by
  have hmk := run_mkM w
  go_enter Try.func10, Try.ntmps10
  go_upto_region 2 with fail
  have x0 : Newd w ((w.alloc (.map #[] 0)).alloc (.cells #[.int .i64 most, .slice none 0 0, .map (some w.heap.size)] 77)) (w.heap.size + 1) w.heap.size most (.slice none 0 0) [] := by
    refine ⟨?_, World.ownsRow_nil _ _ _ _, (Mp.new w).below (ba _ _) (by simp), bt (ba _ _) (ba _ _)⟩
    have := Row.new (w.alloc (.map #[] 0)) 77 [.int .i64 most, .slice none 0 0, .map (some w.heap.size)]
    simpa using this
  refine name_world (R := fun W => Code.wp _ _ _ _ W) (P := fun W => Newd w W (w.heap.size + 1) w.heap.size most (.slice none 0 0) []) _ x0 ?_
  clear x0 hmk
  intro X x0
  go_wp2_with fail
  go_loopw [14] (fun i wr => ∃ j : Nat, j ≤ l.length ∧ i = .int .i64 j ∧ ∃ fa, Newd w wr (w.heap.size + 1) w.heap.size most fa ((l.take j).map faceI)) (fun i _ => l.length - (intOf i).toNat)
  case atStart => exact ⟨0, Nat.zero_le _, rfl, _, x0⟩
  case round =>
    obtain ⟨j, hj, rfl, fa, hN⟩ := hrel
    by_cases hlt : j < l.length
    · have hlW := hl.below hN.bl
      rcases hlW.lies with h0 | ⟨g, o, rfl, hg, hc⟩
      · rw [h0] at hlt; simp at hlt
      have hq := hc j l[j] (List.getElem?_eq_getElem hlt)
      have HS : Hid ((l.take (j + 1)).map faceI = (l.take j).map faceI ++ [faceI l[j]]) := by
        show _ = _
        rw [List.take_succ_eq_append_getElem hlt, List.map_append]; rfl
      have HL : Hid (((l.take j).map faceI).length ≤ 10000000) := by show _ ≤ _; simp; omega
      have hji : (j : Int) < (l.length : Int) := by omega
      generalize l[j] = p at *
      generalize (l.take j).map faceI = F at *
      clear hc hlW hl
      go_upto_region 5 with (first
        | (have kk := r2; refine stC (.tmp 7) (.tmp 17) rfl rfl g2 p _ rfl rfl r2 ?_; intro W3 g3 r3)
        | (refine alG infoCz rfl rfl ?_; intro g2 W2 hge2 hgl2 hB2 r2)
        | (refine ldC (.tmp 16) rfl rfl _ _ p rfl hq ?_))
      have b3 := grown_below g3 hB2 hge2 hB2.size
      have hw2 : w.heap.size + 1 < wr.heap.size := hN.row.lt
      have hw1 : w.heap.size < wr.heap.size := hN.map.lt
      have t3 := hN.row.below b3 hw2
      have m3 := hN.map.below b3 hw1
      have o3 : kF.Own W3 (w.heap.size + 2) fa F := own_below hN.fs b3
      have bw3 : Below w.heap.size w W3 := bt hN.bl b3
      have k1 : (ics p)[1]? = some (.int .i64 p.k) := rfl
      have k2 : (ics p)[2]? = some (.int .i64 p.c) := rfl
      have hf : Hid (faceI p = ⟨p.k, IntKind.u16.wrap p.c, p.r⟩) := rfl
      have HS3 : Hid (w.heap.size + 2 ≤ W3.heap.size) := by show _ ≤ _; have := b3.size; omega
      obtain ⟨fad, fcp, hfa, _⟩ := Kd.own_at o3
      subst hfa
      clear hN hB2 g3 r2 x0
      refine wp_region_noPanic ?_
      refine wp_region_N (S := fun W => Row W (w.heap.size + 1) 77 [.int .i64 most, .slice fad F.length fcp, .map (some w.heap.size)] ∧ Row W g2 66 (ics p) ∧ Mp W w.heap.size [] ∧ Below w.heap.size w W ∧ w.heap.size + 2 ≤ W.heap.size) 17 (by kernel_rfl) (⟨t3.drew, r3.drew, m3.same rfl, bw3.drew, HS3.out⟩) (fun hHeld => ?_)
      refine takeN_lit (i := 0) (v := ?_) (F := #[false, true, true, true, true, true, true, true, true, true, true, true, true, true, true, false, false, false]) rfl (by kernel_rfl) (by kernel_rfl) (by kernel_rfl) (by kernel_rfl) (fun _ _ _ h => h) (Or.inl ⟨by rfl, ?_⟩) (by assumption) ?_
      rotate_left
      · (intro w hSw; (try dsimp only at hSw); go_simp <;> with_reducible rfl)
      try simp only [Act.put, List.setIfInBounds_toArray, List.set_cons_zero, List.set_cons_succ]
      refine takeN_lit (i := 1) (v := ?_) (F := #[true, false, false, false, false, true, true, true, true, true, true, true, true, true, false, false, false, false]) rfl (by kernel_rfl) (by kernel_rfl) (by kernel_rfl) (by kernel_rfl) (fun _ _ _ h => h) (Or.inl ⟨by rfl, ?_⟩) (by assumption) ?_
      rotate_left
      · (intro w hSw; (try dsimp only at hSw); go_simp <;> with_reducible rfl)
      try simp only [Act.put, List.setIfInBounds_toArray, List.set_cons_zero, List.set_cons_succ]
      refine takeN_lit (i := 2) (v := ?_) (F := #[true, true, false, false, false, true, true, true, true, true, true, true, true, true, false, false, false, false]) rfl (by kernel_rfl) (by kernel_rfl) (by kernel_rfl) (by kernel_rfl) (fun _ _ _ h => h) (Or.inl ⟨by rfl, ?_⟩) (by assumption) ?_
      rotate_left
      · (intro w hSw; (try dsimp only at hSw); go_simp <;> with_reducible rfl)
      try simp only [Act.put, List.setIfInBounds_toArray, List.set_cons_zero, List.set_cons_succ]
      refine takeN_lit (i := 3) (v := ?_) (F := #[true, true, true, false, false, true, true, true, true, true, true, true, true, true, false, false, false, false]) rfl (by kernel_rfl) (by kernel_rfl) (by kernel_rfl) (by kernel_rfl) (fun _ _ _ h => h) (Or.inl ⟨by rfl, ?_⟩) (by assumption) ?_
      rotate_left
      · (intro w hSw; (try dsimp only at hSw); go_simp <;> with_reducible rfl)
      try simp only [Act.put, List.setIfInBounds_toArray, List.set_cons_zero, List.set_cons_succ]
      refine takeN_lit (i := 4) (v := ?_) (F := #[true, true, true, true, false, true, true, true, true, true, true, true, true, true, false, false, false, false]) rfl (by kernel_rfl) (by kernel_rfl) (by kernel_rfl) (by kernel_rfl) (fun _ _ _ h => h) (Or.inl ⟨by rfl, ?_⟩) (by assumption) ?_
      rotate_left
      · (intro w hSw; (try dsimp only at hSw); have z : w.cell? _ = some (.slice fad F.length fcp) := hSw.1.cell 1; go_simp <;> with_reducible rfl)
      try simp only [Act.put, List.setIfInBounds_toArray, List.set_cons_zero, List.set_cons_succ]
      refine takeN_lit (i := 5) (v := ?_) (F := #[true, true, true, true, true, false, false, true, true, true, true, true, false, false, false, false, false, false]) rfl (by kernel_rfl) (by kernel_rfl) (by kernel_rfl) (by kernel_rfl) (fun _ _ _ h => h) (Or.inl ⟨by rfl, ?_⟩) (by assumption) ?_
      rotate_left
      · (intro w hSw; (try dsimp only at hSw); go_simp <;> with_reducible rfl)
      try simp only [Act.put, List.setIfInBounds_toArray, List.set_cons_zero, List.set_cons_succ]
      refine takeN_lit (i := 6) (v := ?_) (F := #[true, true, true, true, true, true, false, true, true, true, true, true, false, false, false, false, false, false]) rfl (by kernel_rfl) (by kernel_rfl) (by kernel_rfl) (by kernel_rfl) (fun _ _ _ h => h) (Or.inl ⟨by rfl, ?_⟩) (by assumption) ?_
      rotate_left
      · (intro w hSw; (try dsimp only at hSw); have z := (hSw.2.1.cell 1).trans k1; go_simp <;> with_reducible rfl)
      try simp only [Act.put, List.setIfInBounds_toArray, List.set_cons_zero, List.set_cons_succ]
      refine takeN_lit (i := 7) (v := ?_) (F := #[true, true, true, true, true, true, true, false, false, false, true, true, false, false, false, false, false, false]) rfl (by kernel_rfl) (by kernel_rfl) (by kernel_rfl) (by kernel_rfl) (fun _ _ _ h => h) (Or.inl ⟨by rfl, ?_⟩) (by assumption) ?_
      rotate_left
      · (intro w hSw; (try dsimp only at hSw); go_simp <;> with_reducible rfl)
      try simp only [Act.put, List.setIfInBounds_toArray, List.set_cons_zero, List.set_cons_succ]
      refine takeN_lit (i := 8) (v := ?_) (F := #[true, true, true, true, true, true, true, true, false, false, true, true, false, false, false, false, false, false]) rfl (by kernel_rfl) (by kernel_rfl) (by kernel_rfl) (by kernel_rfl) (fun _ _ _ h => h) (Or.inl ⟨by rfl, ?_⟩) (by assumption) ?_
      rotate_left
      · (intro w hSw; (try dsimp only at hSw); have z := (hSw.2.1.cell 2).trans k2; go_simp <;> with_reducible rfl)
      try simp only [Act.put, List.setIfInBounds_toArray, List.set_cons_zero, List.set_cons_succ]
      refine takeN_lit (i := 9) (v := ?_) (F := #[true, true, true, true, true, true, true, true, true, false, true, true, false, false, false, false, false, false]) rfl (by kernel_rfl) (by kernel_rfl) (by kernel_rfl) (by kernel_rfl) (fun _ _ _ h => h) (Or.inl ⟨by rfl, ?_⟩) (by assumption) ?_
      rotate_left
      · (intro w hSw; (try dsimp only at hSw); go_simp <;> with_reducible rfl)
      try simp only [Act.put, List.setIfInBounds_toArray, List.set_cons_zero, List.set_cons_succ]
      refine takeN_lit (i := 10) (v := ?_) (F := #[true, true, true, true, true, true, true, true, true, true, false, false, false, false, false, false, false, false]) rfl (by kernel_rfl) (by kernel_rfl) (by kernel_rfl) (by kernel_rfl) (fun _ _ _ h => h) (Or.inl ⟨by rfl, ?_⟩) (by assumption) ?_
      rotate_left
      · (intro w hSw; (try dsimp only at hSw); go_simp <;> with_reducible rfl)
      try simp only [Act.put, List.setIfInBounds_toArray, List.set_cons_zero, List.set_cons_succ]
      refine takeN_lit (i := 11) (F := #[true, true, true, true, true, true, true, true, true, true, true, false, false, false, false, false, false, false]) rfl (by kernel_rfl) (by kernel_rfl) (by kernel_rfl) (by kernel_rfl) (fun _ _ _ h => h) (yRt (b := g2) (o := 38) p.r (fun w h => h.2.1.rtt38) (by rfl) rfl rfl) (by assumption) ?_
      try simp only [Act.put, List.setIfInBounds_toArray, List.set_cons_zero, List.set_cons_succ]
      refine takeN_lit (i := 12) (F := #[true, true, true, true, true, true, true, true, true, true, true, true, false, false, false, false, false, false]) rfl (by kernel_rfl) (by kernel_rfl) (by kernel_rfl) (by kernel_rfl) (fun _ _ _ h => h) (yB (v := .agg (fcs ⟨p.k, IntKind.u16.wrap p.c, p.r⟩).toArray) [(0, .tmp 24), (1, .tmp 27), (2, .tmp 29)] (by rfl) rfl (fun w => bdFc ⟨p.k, IntKind.u16.wrap p.c, p.r⟩ w)) (by assumption) ?_
      try simp only [Act.put, List.setIfInBounds_toArray, List.set_cons_zero, List.set_cons_succ]
      refine wpAnyN_ready (rs := [13]) (by kernel_rfl) (by simp) ?_
      refine consN_lit rfl (fun K hK => ?_) ?_
      · skip
        refine sBsG (T := 75) (U := 79) [(0, .tmp 30)] (fcs ⟨p.k, IntKind.u16.wrap p.c, p.r⟩) (by rfl) rfl (fun w => bsF1 _ w) ?_
        intro W4 r4 b4
        refine hK.out _ _ (Or.inr ?_) (fun hHeld => ?_)
        · exact ⟨hHeld.1.below b4 hHeld.1.lt, hHeld.2.1.below b4 hHeld.2.1.lt, hHeld.2.2.1.below b4 hHeld.2.2.1.lt, bt hHeld.2.2.2.1 b4, Nat.le_trans hHeld.2.2.2.2 b4.size⟩
        replace hHeld := hHeld.resolve_left (by decide)
        clear hK K
        try simp only [Act.put, List.setIfInBounds_toArray, List.set_cons_zero, List.set_cons_succ]
        refine wpAnyN_ready (rs := [14]) (by kernel_rfl) (by simp) ?_
        refine consN_lit rfl (fun K hK => ?_) ?_
        · skip
          have o4 : kF.Own W4 (w.heap.size + 2) (.slice fad F.length fcp) F := own_below (W := W3.drew) o3 b4
          refine kF.sAppend (.tmp 22) (.tmp 31) (by rfl) rfl (w.heap.size + 2) (.slice fad F.length fcp) F rfl o4 _ 1 ⟨p.k, IntKind.u16.wrap p.c, p.r⟩ rfl r4 HL.out hHeld.2.2.2.2 ?_
          intro v5 W5 o5 g5
          refine hK.out _ _ (Or.inr ?_) (fun hHeld => ?_)
          · exact ⟨hHeld.1.keepO g5 (own_ne_lt o4 (by omega)), hHeld.2.1.keepO g5 (own_ne_row o4 hHeld.2.1 (by decide)), hHeld.2.2.1.keepO g5 (own_ne_lt o4 (by omega)), below_keepO hHeld.2.2.2.1 g5 (fun g hg => own_ne_lt o4 (by omega)) (by omega), Nat.le_trans hHeld.2.2.2.2 g5.size⟩
          replace hHeld := hHeld.resolve_left (by decide)
          clear hK K
          try simp only [Act.put, List.setIfInBounds_toArray, List.set_cons_zero, List.set_cons_succ]
          refine takeN_lit (i := 15) (v := ?_) (F := #[true, true, true, true, true, true, true, true, true, true, true, true, true, true, true, false, false, false]) rfl (by kernel_rfl) (by kernel_rfl) (by kernel_rfl) (by kernel_rfl) (fun _ _ _ h => h) (Or.inl ⟨by rfl, ?_⟩) (by assumption) ?_
          rotate_left
          · (intro w hSw; (try dsimp only at hSw); go_simp <;> with_reducible rfl)
          try simp only [Act.put, List.setIfInBounds_toArray, List.set_cons_zero, List.set_cons_succ]
          refine takeN_lit (i := 16) (v := ?_) (F := #[true, true, true, true, true, true, true, true, true, true, true, true, true, true, true, true, false, false]) rfl (by kernel_rfl) (by kernel_rfl) (by kernel_rfl) (by kernel_rfl) (fun _ _ _ h => h) (Or.inl ⟨by rfl, ?_⟩) (by assumption) ?_
          rotate_left
          · (intro w hSw; (try dsimp only at hSw); go_simp <;> with_reducible rfl)
          try simp only [Act.put, List.setIfInBounds_toArray, List.set_cons_zero, List.set_cons_succ]
          refine wpAnyN_ready (rs := [17]) (by kernel_rfl) (by simp) ?_
          refine consN_lit rfl (fun K hK => ?_) ?_
          · skip
            obtain ⟨ad5, c5, rfl, _⟩ := Kd.own_at o5
            refine sStS (.tmp 34) (.tmp 32) (by rfl) rfl _ 1 _ _ _ _ rfl rfl hHeld.1 (by simp) ?_
            intro W6 g6 r6
            refine hK.out _ _ (Or.inl rfl) (fun _ => ?_)
            clear hK K
            try simp only [Act.put, List.setIfInBounds_toArray, List.set_cons_zero, List.set_cons_succ]
            refine wpAnyN_done (by kernel_rfl) ?_ _
            refine NoPanic.normal ?_
            have hN6 : Newd w W6 (w.heap.size + 1) w.heap.size most (.slice ad5 (F ++ [faceI p]).length c5) (F ++ [faceI p]) :=
              ⟨r6, World.ownsRow.kept o5 g6 (Or.inr (own_ne_lt o5 (by omega))), hHeld.2.2.1.keep g6 (by omega), grown_below g6 hHeld.2.2.2.1 (by omega) (by omega)⟩
            have hw : wrap64 ((j : Int) + 1) = (j : Int) + 1 := by unfold wrap64; omega
            clear hHeld o5 o4 o3 r6 g6 g5 r4 b4 r3 b3 m3 bw3 t3 k1 k2 hf kk hq
            go_wp2_with fail
            go_roundw
            case rel => exact ⟨j + 1, by omega, by go_num, _, by rw [HS.out]; exact hN6⟩
            case measure => simp [intOf]; omega
          exact AllReadyN.nil
        exact AllReadyN.nil
      exact AllReadyN.nil
    · have hjl : j = l.length := by omega
      subst hjl
      rw [List.take_length] at hN
      clear hl
      go_wp2_with fail
      go_ret
      exact ⟨_, _, fa, rfl, by omega, Nat.le_refl _, hN⟩
end Go.Proofs.Ytacadlbhgelncaa
