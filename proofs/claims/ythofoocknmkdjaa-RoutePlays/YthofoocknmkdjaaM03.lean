/-
  The table of routes: New, Get, keyOf, put.
-/
import Derived.Test.YthofoocknmkdjaaM02
import Derived.Deep.QuietTactic
import Derived.BigQuiet
import Derived.Deep.CutBlock
namespace Go.Proofs.Ythofoocknmkdjaa
open Go.RowKit Go.Maps
set_option linter.unusedSimpArgs false
set_option linter.unusedVariables false
set_option maxRecDepth 20000
/-- Numbers as they are in a route. -/
structure Ro.ok (n : Ro) : Prop where
  q0 : 0 ≤ n.q
  q1 : n.q < 65536
  r0 : 0 ≤ n.r
  r1 : n.r < 65536
  m0 : 0 ≤ n.m
  m1 : n.m < 65536
  u0 : 0 ≤ n.u
  u1 : n.u ≤ 35184372088832
  d0 : 1 ≤ n.d
  d1 : n.d ≤ 2147483648
/-- The table: its block, its map, how many it has room for, its sources. -/
structure Tb (w : World) (t mb : Nat) (most : Int) (L : List Ro) : Prop where
  row : Row w t 76 [.int .i64 most, .map (some mb)]
  map : Mp w mb L
  nok : ∀ n ∈ L, n.ok
  ll : L.length ≤ 1000000
theorem Tb.lt {w : World} {t mb : Nat} {most : Int} {L : List Ro} (h : Tb w t mb most L) : t < w.heap.size := h.row.lt
theorem Tb.below {w w' : World} {t mb : Nat} {most : Int} {L : List Ro} (h : Tb w t mb most L) (hb : Below w.heap.size w w') : Tb w' t mb most L :=
  ⟨h.row.below hb h.row.lt, h.map.below hb h.map.lt, h.nok, h.ll⟩
theorem Tb.turn {w w' : World} {t mb : Nat} {most : Int} {L L' : List Ro} (h : Tb w t mb most L) (hm : Mp w' mb L') (hg : w.grownBy w' (some mb)) (hn : ∀ n ∈ L', n.ok) (hl : L'.length ≤ 1000000) : Tb w' t mb most L' :=
  ⟨h.row.keep hg (h.map.ne_row h.row), hm, hn, hl⟩
theorem Tb.perm {w : World} {t mb : Nat} {most : Int} {L K : List Ro} (h : Tb w t mb most L) (hp : K.Perm L) : Tb w t mb most K :=
  ⟨h.row, h.map.perm hp, fun n hn => h.nok n (hp.mem_iff.1 hn), by rw [hp.length_eq]; exact h.ll⟩
/-- The table behind an act: its sources are others; nothing else has turned but its map. -/
structure Turn (w w' : World) (t mb : Nat) (most : Int) (L : List Ro) : Prop where
  tb : Tb w' t mb most L
  gr : w.grownBy w' (some mb)
theorem Turn.below {w w' : World} {t mb : Nat} {most : Int} {L : List Ro} (h : Turn w w' t mb most L) {B : Nat} {w0 : World} (hb : Below B w0 w) (hB : B ≤ mb) (hs : B ≤ w.heap.size) : Below B w0 w' := grown_below h.gr hb hB hs
theorem Turn.row {w w' : World} {t mb g : Nat} {most : Int} {L : List Ro} {T : TypeId} {cs : List Value} (h : Turn w w' t mb most L) (hr : Row w g T cs) (hne : g ≠ mb) : Row w' g T cs := hr.keep h.gr hne
theorem Turn.perm {w w' : World} {t mb : Nat} {most : Int} {L K : List Ro} (h : Turn w w' t mb most L) (hp : K.Perm L) : Turn w w' t mb most K := ⟨h.tb.perm hp, h.gr⟩
theorem grown_pre {w w1 w2 : World} {o : Option Nat} (hb : Below w.heap.size w w1) (hg : w1.grownBy w2 o) : w.grownBy w2 o :=
  ⟨hg.os.trans hb.os, hg.tape.trans hb.tape, hg.output.trans hb.output, Nat.le_trans hb.size hg.size, fun i hi hne => (hg.block i (Nat.lt_of_lt_of_le hi hb.size) hne).trans (hb.block i hi)⟩
theorem grown_below2 {w1 wr W : World} {o : Option Nat} (h : w1.grownBy wr o) (hb : Below wr.heap.size wr W) : w1.grownBy W o :=
  ⟨hb.os.trans h.os, hb.tape.trans h.tape, hb.output.trans h.output, Nat.le_trans h.size hb.size, fun i hi hne => (hb.block i (Nat.lt_of_lt_of_le hi h.size)).trans (h.block i hi hne)⟩
theorem Turn.pre {w w1 w2 : World} {t mb : Nat} {most : Int} {L : List Ro} (h : Turn w1 w2 t mb most L) (hb : Below w.heap.size w w1) : Turn w w2 t mb most L := ⟨h.tb, grown_pre hb h.gr⟩
theorem Turn.post {w w1 w2 : World} {t mb : Nat} {most : Int} {L : List Ro} (h : Turn w w1 t mb most L) (hb : Below w1.heap.size w1 w2) : Turn w w2 t mb most L := ⟨h.tb.below hb, grown_below2 h.gr hb⟩
theorem stepRow {w W1 : World} {cs : List Value} {t : TypeId} (h : Below (w.alloc (.cells cs.toArray t)).heap.size (w.alloc (.cells cs.toArray t)) W1) : Below w.heap.size w W1 ∧ Row W1 w.heap.size t cs ∧ w.heap.size < W1.heap.size :=
  ⟨bt (ba _ _) h, (Row.new w t cs).below h (by simp), by have := h.size; simp at this; omega⟩
theorem stepRow2 {w W1 : World} {cs ds : List Value} {t u : TypeId} (h : Below ((w.alloc (.cells cs.toArray t)).alloc (.cells ds.toArray u)).heap.size ((w.alloc (.cells cs.toArray t)).alloc (.cells ds.toArray u)) W1) : Below w.heap.size w W1 ∧ Row W1 w.heap.size t cs ∧ Row W1 (w.heap.size + 1) u ds ∧ w.heap.size + 1 < W1.heap.size := by
  obtain ⟨h0, h1, h2⟩ := low_rows w cs ds t u
  exact ⟨bt h0 h, h1.below h (by simp; omega), h2.below h (by simp), by have := h.size; simp at this; omega⟩
section
variable {ops : Array Oper} {rest : List Oper} {op : Oper} {a : Act} {w w' : World} {Q : Exit → Act → World → Prop} {K : Act → World → Prop} {E : Prop} {S : World → Prop}
theorem sMu {T : TypeId} (m k v : Operand) {mv kv vv : Value} (hw : Region.wanted op (yielded ops a.tmps) = true) (ho : op.op = .mapUpdate T m k v) (hm : a.eval m = mv) (hk : a.eval k = kv) (hv : a.eval v = vv)
    (hr : (Instr.mapUpdate T mv kv vv).run Try.prog w = .ok () w') (h : K (a.put op.dst undef) w') : if Region.wanted op (yielded ops a.tmps) = true then Oper.wp Try.prog op a w K Q else E := by
  rw [if_pos hw]
  unfold Oper.wp
  simp [execOp, ho, hm, hk, hv, hr, Result.andThen]
  exact h
end
theorem run_mkM (w : World) : (Instr.makeMap 74 none).run Try.prog w = .ok (.map (some w.heap.size)) (w.alloc (.map #[] 0)) := by kernel_rfl
theorem new_any (most : Int) (w : World) : Calls Try.prog 11 #[.int .i64 most] w fun e w' => e = .returned (.pointer (some ⟨w.heap.size + 1, 0, none⟩)) ∧ Tb w' (w.heap.size + 1) w.heap.size most [] ∧ Below w.heap.size w w' := by
  have hmk := run_mkM w
  go_enter Try.func11, Try.ntmps11
  go_wp2_with fail
  go_ret
  refine ⟨by simp, ⟨?_, (Mp.new w).below (ba _ _) (by simp), by simp, by simp⟩, bt (ba _ _) (ba _ _)⟩
  have := Row.new (w.alloc (.map #[] 0)) 76 [.int .i64 most, .map (some w.heap.size)]
  simpa using this
set_option maxHeartbeats 2000000 in
theorem get_any {w : World} {t mb : Nat} {most : Int} {L : List Ro} (h : Tb w t mb most L) (k : Ky) (hi : wfK k) : Calls Try.prog 15 #[.pointer (some ⟨t, 0, none⟩), (Value.agg (qcells k.p).toArray), .int .i64 k.i, (Value.agg (acells k.a).toArray)] w (Gives w (getV (getN L k))) := by
  have hlk : ∀ W, Below w.heap.size w W → (Instr.lookup 74 (.map (some mb)) (kV k) true).run Try.prog W = .ok (getV (getN L k)) W := fun W hW => (h.map.below hW h.map.lt).look hi
  have hr := h.row
  have ht := hr.lt
  generalize getN L k = R at *
  have hv : getV R = .tuple #[rV (R.getD zeroR), .bool R.isSome] := rfl
  rw [hv] at hlk ⊢
  clear hv
  generalize R.getD zeroR = x at *
  generalize R.isSome = b at *
  go_enter Try.func15, Try.ntmps15
  go_upto_region 1 with (first
    | (refine alG infoRz rfl rfl ?_; intro g1 W1 hge hgl hB1 hr1))
  obtain ⟨hB, r0, r1, hs⟩ := stepRow2 hB1
  have hg : w.heap.size + 1 < g1 := by simp at hge; omega
  have hs0 : w.heap.size < W1.heap.size := by omega
  clear hB1 hge
  go_upto_region 3 with fail
  have hlk1 : ∀ W, Below W1.heap.size W1 W → (Instr.lookup 74 (.map (some mb)) (kV k) true).run Try.prog W = .ok (.tuple #[rV x, .bool b]) W := fun W hW => hlk W (bt hB hW)
  have hr0 := hr.below hB ht
  have HK : ∀ W, Below W1.heap.size W1 W → W.cell? ⟨t, 1, none⟩ = some (.map (some mb)) := fun W hW => (hr0.below hW hr0.lt).cell 1
  clear hlk h hr
  refine wp_region_noPanic ?_
  refine wp_region_held_drew (S := fun W => Below W1.heap.size W1 W) (by kernel_rfl) ((Below.refl _ _).drew) (fun hHeld => ?_)
  refine take_lit (i := 0) (v := ?_) rfl (by kernel_rfl) (by kernel_rfl) (by kernel_rfl) (fun _ _ _ h => h) (Or.inl ⟨by rfl, ?_⟩) (by assumption) ?_
  rotate_left
  · (intro w hSw; (try dsimp only at hSw); go_simp <;> with_reducible rfl)
  try simp only [Act.put, List.setIfInBounds_toArray, List.set_cons_zero, List.set_cons_succ]
  refine take_lit (i := 1) (v := ?_) rfl (by kernel_rfl) (by kernel_rfl) (by kernel_rfl) (fun _ _ _ h => h) (Or.inl ⟨by rfl, ?_⟩) (by assumption) ?_
  rotate_left
  · (intro w hSw; (try dsimp only at hSw); go_simp <;> with_reducible rfl)
  try simp only [Act.put, List.setIfInBounds_toArray, List.set_cons_zero, List.set_cons_succ]
  refine take_lit (i := 2) (v := ?_) rfl (by kernel_rfl) (by kernel_rfl) (by kernel_rfl) (fun _ _ _ h => h) (Or.inl ⟨by rfl, ?_⟩) (by assumption) ?_
  rotate_left
  · (intro w hSw; (try dsimp only at hSw); go_simp <;> with_reducible rfl)
  try simp only [Act.put, List.setIfInBounds_toArray, List.set_cons_zero, List.set_cons_succ]
  refine take_lit (i := 3) (v := ?_) rfl (by kernel_rfl) (by kernel_rfl) (by kernel_rfl) (fun _ _ _ h => h) (Or.inl ⟨by rfl, ?_⟩) (by assumption) ?_
  rotate_left
  · (intro w hSw; (try dsimp only at hSw); have z := HK _ hSw; go_simp <;> with_reducible rfl)
  try simp only [Act.put, List.setIfInBounds_toArray, List.set_cons_zero, List.set_cons_succ]
  refine take_lit (i := 4) rfl (by kernel_rfl) (by kernel_rfl) (by kernel_rfl) (fun _ _ _ h => h) (yQ k.p (fun w h => (LQ.below r0.range h hs0)) (by rfl) rfl rfl) (by assumption) ?_
  try simp only [Act.put, List.setIfInBounds_toArray, List.set_cons_zero, List.set_cons_succ]
  refine take_lit (i := 5) (v := ?_) rfl (by kernel_rfl) (by kernel_rfl) (by kernel_rfl) (fun _ _ _ h => h) (Or.inl ⟨by rfl, ?_⟩) (by assumption) ?_
  rotate_left
  · (intro w hSw; (try dsimp only at hSw); go_simp <;> with_reducible rfl)
  try simp only [Act.put, List.setIfInBounds_toArray, List.set_cons_zero, List.set_cons_succ]
  refine take_lit (i := 6) rfl (by kernel_rfl) (by kernel_rfl) (by kernel_rfl) (fun _ _ _ h => h) (yA k.a (fun w h => (LA.below r1.range h hs)) (by rfl) rfl rfl) (by assumption) ?_
  try simp only [Act.put, List.setIfInBounds_toArray, List.set_cons_zero, List.set_cons_succ]
  refine take_lit (i := 7) rfl (by kernel_rfl) (by kernel_rfl) (by kernel_rfl) (fun _ _ _ h => h) (yB (v := kV k) [(0, .tmp 20), (1, .tmp 21), (2, .tmp 22)] (by rfl) rfl (fun w => bdK k w)) (by assumption) ?_
  try simp only [Act.put, List.setIfInBounds_toArray, List.set_cons_zero, List.set_cons_succ]
  refine take_lit (i := 8) (v := ?_) rfl (by kernel_rfl) (by kernel_rfl) (by kernel_rfl) (fun _ _ _ h => h) (Or.inl ⟨by rfl, ?_⟩) (by assumption) ?_
  rotate_left
  · (intro w hSw; (try dsimp only at hSw); have z := hlk1 _ hSw; go_simp <;> with_reducible rfl)
  try simp only [Act.put, List.setIfInBounds_toArray, List.set_cons_zero, List.set_cons_succ]
  refine take_lit (i := 9) (v := ?_) rfl (by kernel_rfl) (by kernel_rfl) (by kernel_rfl) (fun _ _ _ h => h) (Or.inl ⟨by rfl, ?_⟩) (by assumption) ?_
  rotate_left
  · (intro w hSw; (try dsimp only at hSw); go_simp <;> with_reducible rfl)
  try simp only [Act.put, List.setIfInBounds_toArray, List.set_cons_zero, List.set_cons_succ]
  refine take_lit (i := 10) (v := ?_) rfl (by kernel_rfl) (by kernel_rfl) (by kernel_rfl) (fun _ _ _ h => h) (Or.inl ⟨by rfl, ?_⟩) (by assumption) ?_
  rotate_left
  · (intro w hSw; (try dsimp only at hSw); go_simp <;> with_reducible rfl)
  try simp only [Act.put, List.setIfInBounds_toArray, List.set_cons_zero, List.set_cons_succ]
  refine take_lit (i := 11) (v := ?_) rfl (by kernel_rfl) (by kernel_rfl) (by kernel_rfl) (fun _ _ _ h => h) (Or.inl ⟨by rfl, ?_⟩) (by assumption) ?_
  rotate_left
  · (intro w hSw; (try dsimp only at hSw); go_simp <;> with_reducible rfl)
  try simp only [Act.put, List.setIfInBounds_toArray, List.set_cons_zero, List.set_cons_succ]
  refine wpAnyH_ready (rs := [12]) (by kernel_rfl) (by simp) ?_
  refine cons_lit rfl (fun K hK => ?_) ?_
  · skip
    refine sAlG infoRz (by rfl) rfl ?_
    intro g2 W2 hge2 hgl2 hB2 hr2
    refine hK.out _ _ ?_ (fun hHeld => ?_)
    · exact bt hHeld hB2
    clear hK K
    try simp only [Act.put, List.setIfInBounds_toArray, List.set_cons_zero, List.set_cons_succ]
    refine wpAnyH_ready (rs := [13]) (by kernel_rfl) (by simp) ?_
    refine cons_lit rfl (fun K hK => ?_) ?_
    · skip
      refine sStS (.tmp 10) (.tmp 25) (by rfl) rfl g2 x _ rfl rfl hr2 ?_
      intro W3 hg3 hr3
      refine hK.out _ _ ?_ (fun hHeld => ?_)
      · exact grown_below hg3 hHeld (show W1.heap.size ≤ g2 from hge2) hHeld.size
      clear hK K
      try simp only [Act.put, List.setIfInBounds_toArray, List.set_cons_zero, List.set_cons_succ]
      refine take_lit (i := 14) (v := ?_) rfl (by kernel_rfl) (by kernel_rfl) (by kernel_rfl) (fun _ _ _ h => h) (Or.inl ⟨by rfl, ?_⟩) (by assumption) ?_
      rotate_left
      · (intro w hSw; (try dsimp only at hSw); go_simp <;> with_reducible rfl)
      try simp only [Act.put, List.setIfInBounds_toArray, List.set_cons_zero, List.set_cons_succ]
      refine wpAnyH_done (by kernel_rfl) ?_ _
      refine NoPanic.normal ?_
      have hr4 := hr1.below hHeld hgl
      have hg4 : g1 < W3.heap.size := hr4.lt
      go_wp2_with (first
        | (refine ldS (.tmp 10) rfl rfl _ _ _ rfl hr3.range ?_)
        | (refine stS (.tmp 8) (.tmp 27) rfl rfl g1 _ _ rfl rfl hr4 ?_; intro W5 hg5 hr5))
      exact bodyPost_ret (retCT rfl _ _ 0 rfl (lvS hr5)) rfl ⟨rfl, grown_below hg5 (bt hB hHeld) (by omega) (by omega)⟩
    exact AllReadyH.nil
  exact AllReadyH.nil
theorem lvK {w : World} {g : Nat} {k : Ky} (h : Row w g 84 (kcs k)) : (loadVar 84 ⟨g, 0, none⟩).run Try.prog w = .ok (kV k) w :=
  run_loadVar_mid w g 0 _ (kcs k) _ h.range Try.underlying84 rfl (by rw [infoKs, kcs_len])
theorem keyOf_any (n : Ro) (w : World) : Calls Try.prog 52 #[rV n] w (Gives w (kV n.k)) := by
  go_enter Try.func52, Try.ntmps52
  go_upto_region 1 with (first
    | (refine alG infoKz rfl rfl ?_; intro g1 W1 hge hgl hB1 hr1))
  obtain ⟨hB, r0, hs⟩ := stepRow hB1
  have hg : w.heap.size < g1 := by simp at hge; omega
  have c34 : W1.cell? ⟨w.heap.size, 34, none⟩ = some (.int .i64 n.i) := (r0.cell 34).trans (oc34 n)
  have hq : LQ W1 w.heap.size 0 n.p := r0.ro.q
  have ha : LA W1 w.heap.size 35 n.a := by have := r0.ro.a; simpa using this
  clear hB1 hge r0
  go_wp2_with (first
    | (have kk := hr1; refine stK (.tmp 2) (.tmp 9) rfl rfl g1 n.k _ rfl rfl hr1 ?_; intro W2 hg2 hr2; clear hr1)
    | ((with_reducible refine bdG (T := 84) (v := kV n.k) [(0, .tmp 4), (1, .tmp 6), (2, .tmp 8)] ?_ ?_ ?_ ?_); (focus rfl); (focus rfl); (focus exact bdK n.k _))
    | (refine ldA (.tmp 7) rfl rfl _ _ n.a rfl ha ?_)
    | (refine ldQ (.tmp 3) rfl rfl _ _ n.p rfl hq ?_))
  exact bodyPost_ret (retC rfl _ _ 0 rfl (lvK hr2)) rfl ⟨rfl, grown_below hg2 hB (by omega) (by omega)⟩
set_option maxHeartbeats 2000000 in
theorem put_any {w : World} {t mb : Nat} {most : Int} {L : List Ro} (h : Tb w t mb most L) (n : Ro) (hi : wfK n.k) (hn : n.ok) (hl : (putN L n).length ≤ 1000000) :
    Calls Try.prog 47 #[.pointer (some ⟨t, 0, none⟩), rV n] w fun e w' => e = .returned (.tuple #[]) ∧ Turn w w' t mb most (putN L n) := by
  have hP : ∀ W, Below w.heap.size w W → ∃ W', (Instr.mapUpdate 74 (.map (some mb)) (kV n.k) (rV n)).run Try.prog W = .ok () W' ∧ Turn w W' t mb most (putN L n) := fun W hW => by
    have h' := h.below hW
    obtain ⟨W', h1, h2, h3⟩ := h'.map.put n hi (by have := h.ll; unfold maxLen; omega)
    refine ⟨W', h1, h'.turn h2 h3 (fun x hx => ?_) hl, grown_pre hW h3⟩
    rcases mem_putN.1 hx with rfl | ⟨hx, _⟩
    · exact hn
    · exact h.nok x hx
  have hr := h.row
  have ht := hr.lt
  have HK : ∀ W, Below w.heap.size w W → W.cell? ⟨t, 1, none⟩ = some (.map (some mb)) := fun W hW => (hr.below hW ht).cell 1
  clear h hr hi hn hl
  go_enter Try.func47, Try.ntmps47
  go_upto_region 1 with fail
  have r0 := Row.new w 41 (ocs n)
  refine name_world (R := fun W => Code.wp _ _ _ _ W) (P := fun W => Below w.heap.size w W ∧ Row W w.heap.size 41 (ocs n)) _ ⟨ba _ _, r0⟩ ?_
  clear r0
  rintro X ⟨hB, r0⟩
  have hs := r0.lt
  have HQ : Hid (∀ W, Below X.heap.size X W → LS W w.heap.size 0 n) := fun W hW => (r0.below hW hs).range
  refine wp_region_noPanic ?_
  refine wp_region_N (S := fun W => Below X.heap.size X W) 7 (by kernel_rfl) ((Below.refl _ _).drew) (fun hHeld => ?_)
  refine takeN_lit (i := 0) (v := ?_) (F := #[false, false, false, false, true, true, true, false]) rfl (by kernel_rfl) (by kernel_rfl) (by kernel_rfl) (by kernel_rfl) (fun _ _ _ h => h) (Or.inl ⟨by rfl, ?_⟩) (by assumption) ?_
  rotate_left
  · (intro w hSw; (try dsimp only at hSw); go_simp <;> with_reducible rfl)
  try simp only [Act.put, List.setIfInBounds_toArray, List.set_cons_zero, List.set_cons_succ]
  refine takeN_lit (i := 1) (v := ?_) (F := #[true, false, false, false, true, true, true, false]) rfl (by kernel_rfl) (by kernel_rfl) (by kernel_rfl) (by kernel_rfl) (fun _ _ _ h => h) (Or.inl ⟨by rfl, ?_⟩) (by assumption) ?_
  rotate_left
  · (intro w hSw; (try dsimp only at hSw); go_simp <;> with_reducible rfl)
  try simp only [Act.put, List.setIfInBounds_toArray, List.set_cons_zero, List.set_cons_succ]
  refine takeN_lit (i := 2) (v := ?_) (F := #[true, true, false, false, true, true, true, false]) rfl (by kernel_rfl) (by kernel_rfl) (by kernel_rfl) (by kernel_rfl) (fun _ _ _ h => h) (Or.inl ⟨by rfl, ?_⟩) (by assumption) ?_
  rotate_left
  · (intro w hSw; (try dsimp only at hSw); go_simp <;> with_reducible rfl)
  try simp only [Act.put, List.setIfInBounds_toArray, List.set_cons_zero, List.set_cons_succ]
  refine takeN_lit (i := 3) (v := ?_) (F := #[true, true, true, false, true, true, true, false]) rfl (by kernel_rfl) (by kernel_rfl) (by kernel_rfl) (by kernel_rfl) (fun _ _ _ h => h) (Or.inl ⟨by rfl, ?_⟩) (by assumption) ?_
  rotate_left
  · (intro w hSw; (try dsimp only at hSw); have z := HK _ (bt hB hSw); go_simp <;> with_reducible rfl)
  try simp only [Act.put, List.setIfInBounds_toArray, List.set_cons_zero, List.set_cons_succ]
  refine takeN_lit (i := 4) (F := #[true, true, true, true, false, false, true, false]) rfl (by kernel_rfl) (by kernel_rfl) (by kernel_rfl) (by kernel_rfl) (fun _ _ _ h => h) (yS n (fun w h => HQ.out _ h) (by rfl) rfl rfl) (by assumption) ?_
  try simp only [Act.put, List.setIfInBounds_toArray, List.set_cons_zero, List.set_cons_succ]
  refine takeN_lit (i := 6) (F := #[true, true, true, true, true, true, false, false]) rfl (by kernel_rfl) (by kernel_rfl) (by kernel_rfl) (by kernel_rfl) (fun _ _ _ h => h) (yS n (fun w h => HQ.out _ h) (by rfl) rfl rfl) (by assumption) ?_
  try simp only [Act.put, List.setIfInBounds_toArray, List.set_cons_zero, List.set_cons_succ]
  refine wpAnyN_ready (rs := [5]) (by kernel_rfl) (by simp) ?_
  refine consN_lit rfl (fun K hK => ?_) ?_
  · go_simp
    refine (keyOf_any n _).mono ?_
    rintro e w1 ⟨rfl, b1⟩
    refine hK.out _ _ (Or.inr ?_) (fun hHeld => ?_)
    · exact bt hHeld b1
    replace hHeld := hHeld.resolve_left (by decide)
    clear hK K
    try simp only [Act.put, List.setIfInBounds_toArray, List.set_cons_zero, List.set_cons_succ]
    refine wpAnyN_ready (rs := [7]) (by kernel_rfl) (by simp) ?_
    refine consN_lit rfl (fun K hK => ?_) ?_
    · skip
      obtain ⟨W', hrun, hT⟩ := hP _ (bt hB hHeld)
      refine sMu (.tmp 7) (.tmp 9) (.tmp 10) (by rfl) rfl rfl rfl rfl hrun ?_
      refine hK.out _ _ (Or.inl rfl) (fun _ => ?_)
      clear hK K
      try simp only [Act.put, List.setIfInBounds_toArray, List.set_cons_zero, List.set_cons_succ]
      refine wpAnyN_done (by kernel_rfl) ?_ _
      refine NoPanic.normal ?_
      go_wp2
      go_end0
      exact ⟨rfl, hT⟩
    exact AllReadyN.nil
  exact AllReadyN.nil
end Go.Proofs.Ythofoocknmkdjaa

namespace Go.Proofs.Ythofoocknmkdjaa
open Go.RowKit Go.Maps
set_option linter.unusedSimpArgs false
set_option linter.unusedVariables false
set_option maxRecDepth 20000
theorem Turn.of {w w' : World} {t mb : Nat} {most : Int} {L : List Ro} (h : Tb w t mb most L) (hb : Below w.heap.size w w') : Turn w w' t mb most L :=
  ⟨h.below hb, hb.os, hb.tape, hb.output, hb.size, fun i hi _ => hb.block i hi⟩
theorem putN_le {L : List Ro} {n : Ro} : (putN L n).length ≤ L.length + 1 := by
  rw [putN_len]
  split <;> omega
theorem putN_in {L : List Ro} {n : Ro} (h : (getN L n.k).isSome = true) : (putN L n).length = L.length := by
  cases hg : getN L n.k with
  | none => rw [hg] at h; cases h
  | some m =>
    obtain ⟨h1, h2⟩ := getN_some hg
    rw [putN_len, if_pos (List.any_eq_true.2 ⟨m, h1, keyB_iff.2 h2⟩)]
theorem gb_set (w : World) (g o : Nat) (v : Value) : w.grownBy (w.setCell ⟨g, o, none⟩ v) (some g) := grownBy_setCell w g o v
/-! ### Fields of a route are written -/
def Ro.sQ (n : Ro) (x : Int) : Ro := { n with q := x }
def Ro.sR (n : Ro) (x : Int) : Ro := { n with r := x }
def Ro.sM (n : Ro) (x : Int) : Ro := { n with m := x }
def Ro.sU (n : Ro) (x : Int) : Ro := { n with u := x }
def Ro.sD (n : Ro) (x : Int) : Ro := { n with d := x }
def Ro.sS (n : Ro) (x : Bool) : Ro := { n with s := x }
def Ro.sId (n : Ro) (x : Id8) : Ro := { n with id := x }
def Ro.sH (n : Ro) (x : Ad) : Ro := { n with h := x }
section
variable {ops : Array Oper} {rest : List Oper} {op : Oper} {a : Act} {w : World} {Q : Exit → Act → World → Prop} {K : Act → World → Prop} {E : Prop} {S : World → Prop}
theorem wp_st64 (x y : Operand) (ho : op.op = .store 3 x y) (b c : Nat) {U : TypeId} (cs : List Value) (n : Int) (hx : a.eval x = .pointer (some ⟨b, c, none⟩)) (hy : a.eval y = .int .i64 n) (hr : Row w b U cs) (hc : c < cs.length)
    (h : ∀ W, w.grownBy W (some b) → Row W b U (cs.set c (.int .i64 n)) → K (a.put op.dst undef) W) : Oper.wp Try.prog op a w K Q := by
  have c1 : w.cell? ⟨b, c, none⟩ = some cs[c] := by rw [hr.cell]; exact List.getElem?_eq_getElem hc
  have c2 := hr.frozen c
  have h1 := h _ (gb_set w b c (.int .i64 n)) (hr.set c (.int .i64 n))
  unfold Oper.wp execOp
  simp only [ho, hx, hy]
  go_simp
  exact h1
theorem wp_st16 (x y : Operand) (ho : op.op = .store 39 x y) (b c : Nat) {U : TypeId} (cs : List Value) (n : Int) (hx : a.eval x = .pointer (some ⟨b, c, none⟩)) (hy : a.eval y = .int .u16 n) (hr : Row w b U cs) (hc : c < cs.length)
    (h : ∀ W, w.grownBy W (some b) → Row W b U (cs.set c (.int .u16 n)) → K (a.put op.dst undef) W) : Oper.wp Try.prog op a w K Q := by
  have c1 : w.cell? ⟨b, c, none⟩ = some cs[c] := by rw [hr.cell]; exact List.getElem?_eq_getElem hc
  have c2 := hr.frozen c
  have h1 := h _ (gb_set w b c (.int .u16 n)) (hr.set c (.int .u16 n))
  unfold Oper.wp execOp
  simp only [ho, hx, hy]
  go_simp
  exact h1
theorem wp_stB (x y : Operand) (ho : op.op = .store 4 x y) (b c : Nat) {U : TypeId} (cs : List Value) (n : Bool) (hx : a.eval x = .pointer (some ⟨b, c, none⟩)) (hy : a.eval y = .bool n) (hr : Row w b U cs) (hc : c < cs.length)
    (h : ∀ W, w.grownBy W (some b) → Row W b U (cs.set c (.bool n)) → K (a.put op.dst undef) W) : Oper.wp Try.prog op a w K Q := by
  have c1 : w.cell? ⟨b, c, none⟩ = some cs[c] := by rw [hr.cell]; exact List.getElem?_eq_getElem hc
  have c2 := hr.frozen c
  have h1 := h _ (gb_set w b c (.bool n)) (hr.set c (.bool n))
  unfold Oper.wp execOp
  simp only [ho, hx, hy]
  go_simp
  exact h1
theorem wp_stIf (x y : Operand) (ho : op.op = .store 38 x y) (b : Nat) (i : Id8) (u : Ro) {U : TypeId} (hx : a.eval x = .pointer (some ⟨b, 51, none⟩)) (hy : a.eval y = idV i) (hr : Row w b U (ocs u))
    (h : ∀ W, w.grownBy W (some b) → Row W b U (ocs (u.sId i)) → K (a.put op.dst undef) W) : Oper.wp Try.prog op a w K Q := by
  refine wp_store_mid _ x y ho b 51 _ hx hy (by simpa [icells_len] using hr.thereMid (o := 51) (n := 8) (by rw [ocs_len]; omega)) (by rw [infoI]; simp [icells_len]) (all_oneCell_toArray (icells_one i)) (h _ (grownBy_setCells b _ _ _) ?_)
  have e : ocs u = (qcells u.p ++ (.int .i64 u.i :: acells u.a)) ++ (icells u.id ++ (omd u ++ (acells u.h ++ otl u))) := by simp [ocs]
  rw [e] at hr
  have := Row.setMid (icells i) (qcells u.p ++ (.int .i64 u.i :: acells u.a)) (icells u.id) (omd u ++ (acells u.h ++ otl u)) w hr (by rw [icells_len, icells_len])
  have el : (qcells u.p ++ (.int .i64 u.i :: acells u.a)).length = 51 := by simp [qcells_len, acells_len]
  rw [el] at this
  simpa [ocs, omd, otl, Ro.sId, Ro.sH] using this
theorem wp_stAf (x y : Operand) (ho : op.op = .store 32 x y) (b : Nat) (i : Ad) (u : Ro) {U : TypeId} (hx : a.eval x = .pointer (some ⟨b, 62, none⟩)) (hy : a.eval y = (Value.agg (acells i).toArray)) (hr : Row w b U (ocs u))
    (h : ∀ W, w.grownBy W (some b) → Row W b U (ocs (u.sH i)) → K (a.put op.dst undef) W) : Oper.wp Try.prog op a w K Q := by
  refine wp_store_mid _ x y ho b 62 _ hx hy (by simpa [acells_len] using hr.thereMid (o := 62) (n := 16) (by rw [ocs_len]; omega)) (by rw [infoA]; simp [acells_len]) (all_oneCell_toArray (acells_one i)) (h _ (grownBy_setCells b _ _ _) ?_)
  have e : ocs u = (qcells u.p ++ (.int .i64 u.i :: (acells u.a ++ (icells u.id ++ omd u)))) ++ (acells u.h ++ otl u) := by simp [ocs]
  rw [e] at hr
  have := Row.setMid (acells i) (qcells u.p ++ (.int .i64 u.i :: (acells u.a ++ (icells u.id ++ omd u)))) (acells u.h) (otl u) w hr (by rw [acells_len, acells_len])
  have el : (qcells u.p ++ (.int .i64 u.i :: (acells u.a ++ (icells u.id ++ omd u)))).length = 62 := by simp [qcells_len, acells_len, icells_len, omd]
  rw [el] at this
  simpa [ocs, omd, otl, Ro.sId, Ro.sH] using this
/-- A number of a route is written. -/
theorem wp_stU (x y : Operand) (ho : op.op = .store 3 x y) (b : Nat) (n : Int) (u : Ro) {U : TypeId} (hx : a.eval x = .pointer (some ⟨b, 78, none⟩)) (hy : a.eval y = .int .i64 n) (hr : Row w b U (ocs u))
    (h : ∀ W, w.grownBy W (some b) → Row W b U (ocs (u.sU n)) → K (a.put op.dst undef) W) : Oper.wp Try.prog op a w K Q :=
  wp_st64 x y ho b 78 _ n hx hy hr (by rw [ocs_len]; omega) fun W h1 h2 => h W h1 (by rwa [os78] at h2)
theorem wp_stD (x y : Operand) (ho : op.op = .store 3 x y) (b : Nat) (n : Int) (u : Ro) {U : TypeId} (hx : a.eval x = .pointer (some ⟨b, 79, none⟩)) (hy : a.eval y = .int .i64 n) (hr : Row w b U (ocs u))
    (h : ∀ W, w.grownBy W (some b) → Row W b U (ocs (u.sD n)) → K (a.put op.dst undef) W) : Oper.wp Try.prog op a w K Q :=
  wp_st64 x y ho b 79 _ n hx hy hr (by rw [ocs_len]; omega) fun W h1 h2 => h W h1 (by rwa [os79] at h2)
theorem wp_stSq (x y : Operand) (ho : op.op = .store 39 x y) (b : Nat) (n : Int) (u : Ro) {U : TypeId} (hx : a.eval x = .pointer (some ⟨b, 59, none⟩)) (hy : a.eval y = .int .u16 n) (hr : Row w b U (ocs u))
    (h : ∀ W, w.grownBy W (some b) → Row W b U (ocs (u.sQ n)) → K (a.put op.dst undef) W) : Oper.wp Try.prog op a w K Q :=
  wp_st16 x y ho b 59 _ n hx hy hr (by rw [ocs_len]; omega) fun W h1 h2 => h W h1 (by rwa [os59] at h2)
theorem wp_stRf (x y : Operand) (ho : op.op = .store 39 x y) (b : Nat) (n : Int) (u : Ro) {U : TypeId} (hx : a.eval x = .pointer (some ⟨b, 60, none⟩)) (hy : a.eval y = .int .u16 n) (hr : Row w b U (ocs u))
    (h : ∀ W, w.grownBy W (some b) → Row W b U (ocs (u.sR n)) → K (a.put op.dst undef) W) : Oper.wp Try.prog op a w K Q :=
  wp_st16 x y ho b 60 _ n hx hy hr (by rw [ocs_len]; omega) fun W h1 h2 => h W h1 (by rwa [os60] at h2)
theorem wp_stMe (x y : Operand) (ho : op.op = .store 39 x y) (b : Nat) (n : Int) (u : Ro) {U : TypeId} (hx : a.eval x = .pointer (some ⟨b, 61, none⟩)) (hy : a.eval y = .int .u16 n) (hr : Row w b U (ocs u))
    (h : ∀ W, w.grownBy W (some b) → Row W b U (ocs (u.sM n)) → K (a.put op.dst undef) W) : Oper.wp Try.prog op a w K Q :=
  wp_st16 x y ho b 61 _ n hx hy hr (by rw [ocs_len]; omega) fun W h1 h2 => h W h1 (by rwa [os61] at h2)
theorem wp_stSe (x y : Operand) (ho : op.op = .store 4 x y) (b : Nat) (n : Bool) (u : Ro) {U : TypeId} (hx : a.eval x = .pointer (some ⟨b, 80, none⟩)) (hy : a.eval y = .bool n) (hr : Row w b U (ocs u))
    (h : ∀ W, w.grownBy W (some b) → Row W b U (ocs (u.sS n)) → K (a.put op.dst undef) W) : Oper.wp Try.prog op a w K Q :=
  wp_stB x y ho b 80 _ n hx hy hr (by rw [ocs_len]; omega) fun W h1 h2 => h W h1 (by rwa [os80] at h2)
theorem inL (hw : Region.wanted op (yielded ops a.tmps) = true) (h : ∀ K : Act → World → Prop, (∀ a' w', wpList Try.prog ops Q rest a' w' → K a' w') → Oper.wp Try.prog op a w K Q) : wpList Try.prog ops Q (op :: rest) a w :=
  wpList_step fun K hK => by
    rw [if_pos hw]
    exact h K hK
theorem inS (hw : Region.wanted op (yielded ops a.tmps) = true) (h : Oper.wp Try.prog op a w K Q) : if Region.wanted op (yielded ops a.tmps) = true then Oper.wp Try.prog op a w K Q else E := by
  rw [if_pos hw]
  exact h
end
/-! ### What is taken back, what is told again -/
def retr (n : Ro) (at_ : Int) : Ro := { n with r := 65535, u := at_ + n.d }
def retold (old : Ro) (now : Int) (n : Ro) : Ro := if n.r = 65535 then retr old now else { old with r := n.r, id := n.id, q := n.q, h := n.h, d := n.d, u := now + n.d }
theorem retr_any (n : Ro) (at_ : Int) (w : World) (ha : 0 ≤ at_) (hb : at_ ≤ 17592186044416) (d0 : 1 ≤ n.d) (d1 : n.d ≤ 2147483648) : Calls Try.prog 50 #[rV n, .int .i64 at_] w (Gives w (rV (retr n at_))) := by
  have hw : wrap64 (at_ + n.d) = at_ + n.d := by unfold wrap64; omega
  clear d0 d1 ha hb
  go_enter Try.func50, Try.ntmps50
  go_upto_region 1 with (first
    | (refine alG infoRz rfl rfl ?_; intro g1 W1 hge hgl hB1 hr1))
  obtain ⟨hB, r0, hs⟩ := stepRow hB1
  have hg : w.heap.size < g1 := by simp at hge; omega
  have c79 : W1.cell? ⟨w.heap.size, 79, none⟩ = some (.int .i64 n.d) := (r0.cell 79).trans (oc79 n)
  clear hB1 hge
  have hne : g1 ≠ w.heap.size := by omega
  generalize hz : at_ + n.d = z at *
  go_wp2_with (first
    | (have kk := q2; refine stS (.tmp 4) (.tmp 11) rfl rfl g1 (retr n at_) _ rfl rfl q2 ?_; intro W5 g5 q5; clear q2)
    | (have kk := r2; refine ldS (.tmp 2) rfl rfl _ _ (retr n at_) rfl (show LS _ w.heap.size 0 (retr n at_) by have := r2.ro; unfold retr; rw [hz]; exact this) ?_)
    | (have kk := r1; (with_reducible refine inL ?_ fun K hK => ?_); (focus rfl); refine wp_stU (.tmp 10) (.tmp 8) rfl w.heap.size z (n.sR 65535) rfl (by rw [← hw]; rfl) r1 ?_; intro W3 g3 r2; refine hK _ _ ?_; have q2 := q1.keep g3 hne; have b3 := grown_below g3 b2 (Nat.le_refl _) b2.size; clear r1)
    | (have kk := r0; (with_reducible refine inL ?_ fun K hK => ?_); (focus rfl); refine wp_stRf (.tmp 9) (.const (.int .u16 65535)) rfl w.heap.size 65535 n rfl rfl r0 ?_; intro W2 g2 r1; refine hK _ _ ?_; have q1 := hr1.keep g2 hne; have b2 := grown_below g2 hB (Nat.le_refl _) hB.size; clear r0))
  exact bodyPost_ret (retC rfl _ _ 0 rfl (lvS q5)) rfl ⟨rfl, grown_below g5 b3 (by omega) b3.size⟩
end Go.Proofs.Ythofoocknmkdjaa
