/-
  The table of sources: New, Get, kept, put.
-/
import Derived.Test.YtdcbnibgckdkbaaTLast
import Derived.Deep.QuietTactic
import Derived.BigQuiet
import Derived.Deep.CutBlock
namespace Go.Proofs.Ytdcbnibgckdkbaa
open Go.RowKit Go.Maps
set_option linter.unusedSimpArgs false
set_option linter.unusedVariables false
set_option maxRecDepth 20000
/-- Numbers as they are in a source. -/
structure Sr.ok (n : Sr) : Prop where
  s0 : 0 ≤ n.s
  s1 : n.s < 65536
  m0 : 0 ≤ n.m
  m1 : n.m < 65536
  t0 : 0 ≤ n.t
  t1 : n.t ≤ 1125899906842624
/-- The table: its block, its map, how many it has room for, its sources. -/
structure Tb (w : World) (t mb : Nat) (most : Int) (L : List Sr) : Prop where
  row : Row w t 66 [.int .i64 most, .map (some mb)]
  map : Mp w mb L
  nok : ∀ n ∈ L, n.ok
  ll : L.length ≤ 1000000
theorem Tb.lt {w : World} {t mb : Nat} {most : Int} {L : List Sr} (h : Tb w t mb most L) : t < w.heap.size := h.row.lt
theorem Tb.below {w w' : World} {t mb : Nat} {most : Int} {L : List Sr} (h : Tb w t mb most L) (hb : Below w.heap.size w w') : Tb w' t mb most L :=
  ⟨h.row.below hb h.row.lt, h.map.below hb h.map.lt, h.nok, h.ll⟩
theorem Tb.turn {w w' : World} {t mb : Nat} {most : Int} {L L' : List Sr} (h : Tb w t mb most L) (hm : Mp w' mb L') (hg : w.grownBy w' (some mb)) (hn : ∀ n ∈ L', n.ok) (hl : L'.length ≤ 1000000) : Tb w' t mb most L' :=
  ⟨h.row.keep hg (h.map.ne_row h.row), hm, hn, hl⟩
theorem Tb.perm {w : World} {t mb : Nat} {most : Int} {L K : List Sr} (h : Tb w t mb most L) (hp : K.Perm L) : Tb w t mb most K :=
  ⟨h.row, h.map.perm hp, fun n hn => h.nok n (hp.mem_iff.1 hn), by rw [hp.length_eq]; exact h.ll⟩
/-- The table behind an act: its sources are others; nothing else has turned but its map. -/
structure Turn (w w' : World) (t mb : Nat) (most : Int) (L : List Sr) : Prop where
  tb : Tb w' t mb most L
  gr : w.grownBy w' (some mb)
theorem Turn.below {w w' : World} {t mb : Nat} {most : Int} {L : List Sr} (h : Turn w w' t mb most L) {B : Nat} {w0 : World} (hb : Below B w0 w) (hB : B ≤ mb) (hs : B ≤ w.heap.size) : Below B w0 w' := grown_below h.gr hb hB hs
theorem Turn.row {w w' : World} {t mb g : Nat} {most : Int} {L : List Sr} {T : TypeId} {cs : List Value} (h : Turn w w' t mb most L) (hr : Row w g T cs) (hne : g ≠ mb) : Row w' g T cs := hr.keep h.gr hne
theorem Turn.perm {w w' : World} {t mb : Nat} {most : Int} {L K : List Sr} (h : Turn w w' t mb most L) (hp : K.Perm L) : Turn w w' t mb most K := ⟨h.tb.perm hp, h.gr⟩
theorem grown_pre {w w1 w2 : World} {o : Option Nat} (hb : Below w.heap.size w w1) (hg : w1.grownBy w2 o) : w.grownBy w2 o :=
  ⟨hg.os.trans hb.os, hg.tape.trans hb.tape, hg.output.trans hb.output, Nat.le_trans hb.size hg.size, fun i hi hne => (hg.block i (Nat.lt_of_lt_of_le hi hb.size) hne).trans (hb.block i hi)⟩
theorem grown_below2 {w1 wr W : World} {o : Option Nat} (h : w1.grownBy wr o) (hb : Below wr.heap.size wr W) : w1.grownBy W o :=
  ⟨hb.os.trans h.os, hb.tape.trans h.tape, hb.output.trans h.output, Nat.le_trans h.size hb.size, fun i hi hne => (hb.block i (Nat.lt_of_lt_of_le hi h.size)).trans (h.block i hi hne)⟩
theorem Turn.pre {w w1 w2 : World} {t mb : Nat} {most : Int} {L : List Sr} (h : Turn w1 w2 t mb most L) (hb : Below w.heap.size w w1) : Turn w w2 t mb most L := ⟨h.tb, grown_pre hb h.gr⟩
theorem Turn.post {w w1 w2 : World} {t mb : Nat} {most : Int} {L : List Sr} (h : Turn w w1 t mb most L) (hb : Below w1.heap.size w1 w2) : Turn w w2 t mb most L := ⟨h.tb.below hb, grown_below2 h.gr hb⟩
theorem stepRow {w W1 : World} {cs : List Value} {t : TypeId} (h : Below (w.alloc (.cells cs.toArray t)).heap.size (w.alloc (.cells cs.toArray t)) W1) : Below w.heap.size w W1 ∧ Row W1 w.heap.size t cs ∧ w.heap.size < W1.heap.size :=
  ⟨bt (ba _ _) h, (Row.new w t cs).below h (by simp), by have := h.size; simp at this; omega⟩
theorem stepRow2 {w W1 : World} {cs ds : List Value} {t u : TypeId} (h : Below ((w.alloc (.cells cs.toArray t)).alloc (.cells ds.toArray u)).heap.size ((w.alloc (.cells cs.toArray t)).alloc (.cells ds.toArray u)) W1) : Below w.heap.size w W1 ∧ Row W1 w.heap.size t cs ∧ Row W1 (w.heap.size + 1) u ds ∧ w.heap.size + 1 < W1.heap.size := by
  obtain ⟨h0, h1, h2⟩ := low_rows w cs ds t u
  exact ⟨bt h0 h, h1.below h (by simp; omega), h2.below h (by simp), by have := h.size; simp at this; omega⟩
section
variable {ops : Array Oper} {rest : List Oper} {op : Oper} {a : Act} {w w' : World} {Q : Exit → Act → World → Prop} {K : Act → World → Prop} {E : Prop} {S : World → Prop}
theorem sMu {T : TypeId} (m k v : Operand) {mv kv vv : Value} (hw : Region.wanted op (yielded ops a.tmps) = true) (ho : op.op = .mapUpdate T m k v) (hm : a.eval m = mv) (hk : a.eval k = kv) (hv : a.eval v = vv)
    (hr : (Instr.mapUpdate T mv kv vv).run Try.prog w = .ok () w') (h : K (a.put op.dst undef) w') : if Region.wanted op (yielded ops a.tmps) = true then Oper.wp Try.prog op a w K Q else E := by
  rw [if_pos hw]
  unfold Oper.wp
  simp [execOp, ho, hm, hk, hv, hr, Result.andThen]
  exact h
end
theorem run_mkM (w : World) : (Instr.makeMap 64 none).run Try.prog w = .ok (.map (some w.heap.size)) (w.alloc (.map #[] 0)) := by kernel_rfl
theorem new_any (most : Int) (w : World) : Calls Try.prog 10 #[.int .i64 most] w fun e w' => e = .returned (.pointer (some ⟨w.heap.size + 1, 0, none⟩)) ∧ Tb w' (w.heap.size + 1) w.heap.size most [] ∧ Below w.heap.size w w' := by
  have hmk := run_mkM w
  go_enter Try.func10, Try.ntmps10
  go_wp2_with fail
  go_ret
  refine ⟨by simp, ⟨?_, (Mp.new w).below (ba _ _) (by simp), by simp, by simp⟩, bt (ba _ _) (ba _ _)⟩
  have := Row.new (w.alloc (.map #[] 0)) 66 [.int .i64 most, .map (some w.heap.size)]
  simpa using this
theorem get_nil (p : Pr) (i : Id8) (w : World) : Calls Try.prog 19 #[.pointer none, (Value.agg (qcells p).toArray), idV i] w (Gives w (getV none)) := by
  go_enter Try.func19, Try.ntmps19
  go_upto_region 1 with (first
    | (refine alG infoSz rfl rfl ?_; intro g1 W1 hge hgl hB1 hr1))
  obtain ⟨hB, r0, r1, hs⟩ := stepRow2 hB1
  have hg : w.heap.size + 1 < g1 := by simp at hge; omega
  clear hB1 hge
  go_wp2_with (first
    | ((with_reducible refine bdG (T := 53) (v := sV zeroS) [] ?_ ?_ ?_ ?_); (focus rfl); (focus rfl); (focus exact bdS0 _))
    | (refine stS (.tmp 6) (.tmp 12) rfl rfl g1 zeroS _ rfl rfl hr1 ?_; intro W2 hg2 hr2))
  exact bodyPost_ret (retCT rfl _ _ 0 rfl (lvS hr2)) rfl ⟨rfl, grown_below hg2 hB (by omega) (by omega)⟩
set_option maxHeartbeats 2000000 in
theorem get_any {w : World} {t mb : Nat} {most : Int} {L : List Sr} (h : Tb w t mb most L) (p : Pr) (i : Id8) (hi : wfQ p) : Calls Try.prog 19 #[.pointer (some ⟨t, 0, none⟩), (Value.agg (qcells p).toArray), idV i] w (Gives w (getV (getN L p i))) := by
  have hlk : ∀ W, Below w.heap.size w W → (Instr.lookup 64 (.map (some mb)) (kV p i) true).run Try.prog W = .ok (getV (getN L p i)) W := fun W hW => (h.map.below hW h.map.lt).look hi i
  have hr := h.row
  have ht := hr.lt
  generalize getN L p i = R at *
  have hv : getV R = .tuple #[sV (R.getD zeroS), .bool R.isSome] := rfl
  rw [hv] at hlk ⊢
  clear hv
  generalize R.getD zeroS = x at *
  generalize R.isSome = b at *
  go_enter Try.func19, Try.ntmps19
  go_upto_region 1 with (first
    | (refine alG infoSz rfl rfl ?_; intro g1 W1 hge hgl hB1 hr1))
  obtain ⟨hB, r0, r1, hs⟩ := stepRow2 hB1
  have hg : w.heap.size + 1 < g1 := by simp at hge; omega
  have hs0 : w.heap.size < W1.heap.size := by omega
  clear hB1 hge
  go_upto_region 3 with fail
  have hlk1 : ∀ W, Below W1.heap.size W1 W → (Instr.lookup 64 (.map (some mb)) (kV p i) true).run Try.prog W = .ok (.tuple #[sV x, .bool b]) W := fun W hW => hlk W (bt hB hW)
  have hr0 := hr.below hB ht
  have HK : ∀ W, Below W1.heap.size W1 W → W.cell? ⟨t, 1, none⟩ = some (.map (some mb)) := fun W hW => (hr0.below hW hr0.lt).cell 1
  clear hlk h hr
  refine wp_region_noPanic ?_
  refine wp_region_held_drew (S := fun W => Below W1.heap.size W1 W) (by kernel_rfl) ((Below.refl _ _).drew) (fun hHeld => ?_)
  refine take_lit (i := 0) (v := ?_) rfl (by kernel_rfl) (by kernel_rfl) (by kernel_rfl) (fun _ _ _ h => h) (Or.inl ⟨by rfl, ?_⟩) (by assumption) ?_
  rotate_left
  · (intro w hSw; (try dsimp only at hSw); go_simp <;> with_reducible rfl)
  try simp only [Act.put, List.setIfInBounds_toArray, List.set_cons_zero, List.set_cons_succ]
  refine take_lit (i := 1) (v := ?_) rfl (by kernel_rfl) (by kernel_rfl) (by kernel_rfl) (fun _ _ _ h => h) (Or.inl ⟨by rfl, ?_⟩) (by assumption) ?_
  rotate_left
  · (intro w hSw; (try dsimp only at hSw); go_simp <;> with_reducible rfl)
  try simp only [Act.put, List.setIfInBounds_toArray, List.set_cons_zero, List.set_cons_succ]
  refine take_lit (i := 2) (v := ?_) rfl (by kernel_rfl) (by kernel_rfl) (by kernel_rfl) (fun _ _ _ h => h) (Or.inl ⟨by rfl, ?_⟩) (by assumption) ?_
  rotate_left
  · (intro w hSw; (try dsimp only at hSw); go_simp <;> with_reducible rfl)
  try simp only [Act.put, List.setIfInBounds_toArray, List.set_cons_zero, List.set_cons_succ]
  refine take_lit (i := 3) (v := ?_) rfl (by kernel_rfl) (by kernel_rfl) (by kernel_rfl) (fun _ _ _ h => h) (Or.inl ⟨by rfl, ?_⟩) (by assumption) ?_
  rotate_left
  · (intro w hSw; (try dsimp only at hSw); have z := HK _ hSw; go_simp <;> with_reducible rfl)
  try simp only [Act.put, List.setIfInBounds_toArray, List.set_cons_zero, List.set_cons_succ]
  refine take_lit (i := 4) rfl (by kernel_rfl) (by kernel_rfl) (by kernel_rfl) (fun _ _ _ h => h) (yQ p (fun w h => (LQ.below r0.range h hs0)) (by rfl) rfl rfl) (by assumption) ?_
  try simp only [Act.put, List.setIfInBounds_toArray, List.set_cons_zero, List.set_cons_succ]
  refine take_lit (i := 5) rfl (by kernel_rfl) (by kernel_rfl) (by kernel_rfl) (fun _ _ _ h => h) (yI i (fun w h => (LI.below r1.range h hs)) (by rfl) rfl rfl) (by assumption) ?_
  try simp only [Act.put, List.setIfInBounds_toArray, List.set_cons_zero, List.set_cons_succ]
  refine take_lit (i := 6) rfl (by kernel_rfl) (by kernel_rfl) (by kernel_rfl) (fun _ _ _ h => h) (yB (v := kV p i) [(0, .tmp 18), (1, .tmp 19)] (by rfl) rfl (fun w => bdK p i w)) (by assumption) ?_
  try simp only [Act.put, List.setIfInBounds_toArray, List.set_cons_zero, List.set_cons_succ]
  refine take_lit (i := 7) (v := ?_) rfl (by kernel_rfl) (by kernel_rfl) (by kernel_rfl) (fun _ _ _ h => h) (Or.inl ⟨by rfl, ?_⟩) (by assumption) ?_
  rotate_left
  · (intro w hSw; (try dsimp only at hSw); have z := hlk1 _ hSw; go_simp <;> with_reducible rfl)
  try simp only [Act.put, List.setIfInBounds_toArray, List.set_cons_zero, List.set_cons_succ]
  refine take_lit (i := 8) (v := ?_) rfl (by kernel_rfl) (by kernel_rfl) (by kernel_rfl) (fun _ _ _ h => h) (Or.inl ⟨by rfl, ?_⟩) (by assumption) ?_
  rotate_left
  · (intro w hSw; (try dsimp only at hSw); go_simp <;> with_reducible rfl)
  try simp only [Act.put, List.setIfInBounds_toArray, List.set_cons_zero, List.set_cons_succ]
  refine take_lit (i := 9) (v := ?_) rfl (by kernel_rfl) (by kernel_rfl) (by kernel_rfl) (fun _ _ _ h => h) (Or.inl ⟨by rfl, ?_⟩) (by assumption) ?_
  rotate_left
  · (intro w hSw; (try dsimp only at hSw); go_simp <;> with_reducible rfl)
  try simp only [Act.put, List.setIfInBounds_toArray, List.set_cons_zero, List.set_cons_succ]
  refine take_lit (i := 10) (v := ?_) rfl (by kernel_rfl) (by kernel_rfl) (by kernel_rfl) (fun _ _ _ h => h) (Or.inl ⟨by rfl, ?_⟩) (by assumption) ?_
  rotate_left
  · (intro w hSw; (try dsimp only at hSw); go_simp <;> with_reducible rfl)
  try simp only [Act.put, List.setIfInBounds_toArray, List.set_cons_zero, List.set_cons_succ]
  refine wpAnyH_ready (rs := [11]) (by kernel_rfl) (by simp) ?_
  refine cons_lit rfl (fun K hK => ?_) ?_
  · skip
    refine sAlG infoSz (by rfl) rfl ?_
    intro g2 W2 hge2 hgl2 hB2 hr2
    refine hK.out _ _ ?_ (fun hHeld => ?_)
    · exact bt hHeld hB2
    clear hK K
    try simp only [Act.put, List.setIfInBounds_toArray, List.set_cons_zero, List.set_cons_succ]
    refine wpAnyH_ready (rs := [12]) (by kernel_rfl) (by simp) ?_
    refine cons_lit rfl (fun K hK => ?_) ?_
    · skip
      refine sStS (.tmp 8) (.tmp 22) (by rfl) rfl g2 x _ rfl rfl hr2 ?_
      intro W3 hg3 hr3
      refine hK.out _ _ ?_ (fun hHeld => ?_)
      · exact grown_below hg3 hHeld (show W1.heap.size ≤ g2 from hge2) hHeld.size
      clear hK K
      try simp only [Act.put, List.setIfInBounds_toArray, List.set_cons_zero, List.set_cons_succ]
      refine take_lit (i := 13) (v := ?_) rfl (by kernel_rfl) (by kernel_rfl) (by kernel_rfl) (fun _ _ _ h => h) (Or.inl ⟨by rfl, ?_⟩) (by assumption) ?_
      rotate_left
      · (intro w hSw; (try dsimp only at hSw); go_simp <;> with_reducible rfl)
      try simp only [Act.put, List.setIfInBounds_toArray, List.set_cons_zero, List.set_cons_succ]
      refine wpAnyH_done (by kernel_rfl) ?_ _
      refine NoPanic.normal ?_
      have hr4 := hr1.below hHeld hgl
      have hg4 : g1 < W3.heap.size := hr4.lt
      go_wp2_with (first
        | (refine ldS (.tmp 8) rfl rfl _ _ _ rfl hr3.range ?_)
        | (refine stS (.tmp 6) (.tmp 24) rfl rfl g1 _ _ rfl rfl hr4 ?_; intro W5 hg5 hr5))
      exact bodyPost_ret (retCT rfl _ _ 0 rfl (lvS hr5)) rfl ⟨rfl, grown_below hg5 (bt hB hHeld) (by omega) (by omega)⟩
    exact AllReadyH.nil
  exact AllReadyH.nil
/-- What is answered of what is kept. -/
def keptV (o : Option Sr) (g : Nat) : Value := match o with | none => .pointer none | some _ => .pointer (some ⟨g, 42, none⟩)
def KeptAt (w w' : World) (o : Option Sr) (e : Ending) : Prop := ∃ g, e = .returned (keptV o g) ∧ w.heap.size ≤ g ∧ Row w' g 53 (scs (o.getD zeroS)) ∧ Below w.heap.size w w'
theorem kept_of (ptr : Value) (o : Option Sr) (p : Pr) (i : Id8) (w : World) (hP : ptr = .pointer none ∨ ∃ t, ptr = .pointer (some ⟨t, 0, none⟩)) (hGet : ∀ W, Below w.heap.size w W → Calls Try.prog 19 #[ptr, (Value.agg (qcells p).toArray), idV i] W (Gives W (getV o))) :
    Calls Try.prog 26 #[ptr, (Value.agg (qcells p).toArray), idV i] w fun e w' => KeptAt w w' o e := by
  obtain ⟨hB, r0, r1⟩ := low_rows w (qcells p) (icells i) 36 38
  have hv : getV o = .tuple #[sV (o.getD zeroS), .bool o.isSome] := rfl
  have hk : Hid (∀ g, keptV o g = if o.isSome = true then .pointer (some ⟨g, 42, none⟩) else .pointer none) := by
    intro g
    cases o <;> rfl
  rw [hv] at hGet
  clear hv
  unfold KeptAt
  generalize o.getD zeroS = x at *
  generalize keptV o = kv at *
  generalize o.isSome = b at *
  have hs0 := r0.lt
  have hs1 := r1.lt
  go_enter Try.func26, Try.ntmps26
  go_upto_region 1 with fail
  refine name_world (R := fun W => Code.wp _ _ _ _ W) (P := fun W => Below w.heap.size w W ∧ Row W w.heap.size 36 (qcells p) ∧ Row W (w.heap.size + 1) 38 (icells i)) _ ⟨hB, r0, r1⟩ ?_
  clear hB r0 r1 hs0 hs1
  rintro X ⟨hB, r0, r1⟩
  replace hGet := hGet X hB
  cases b with
  | false =>
    go_wp2_with (first
      | (have kk := r2; refine stS (.tmp 7) (.tmp 14) rfl rfl g2 x _ rfl rfl r2 ?_; intro W3 g3 r3; have b3 := grown_below g3 b2 (Nat.le_trans b1.size hge2) b2.size; clear r2)
      | (have kk := b1; refine alG infoSz rfl rfl ?_; intro g2 W2 hge2 hgl2 hB2 r2; have b2 := bt b1 hB2)
      | (go_at_call 19; refine hGet.mono ?_; rintro e w1 ⟨rfl, b1⟩)
      | (refine ldI (.tmp 5) rfl rfl _ _ i rfl r1.range ?_)
      | (refine ldQ (.tmp 4) rfl rfl _ _ p rfl r0.range ?_))
    go_ret
    exact ⟨g2, by rw [hk.out]; rfl, Nat.le_trans hB.size (Nat.le_trans b1.size hge2), r3, bt hB b3⟩
  | true =>
    go_wp2_with (first
      | (have kk := r2; refine stS (.tmp 7) (.tmp 14) rfl rfl g2 x _ rfl rfl r2 ?_; intro W3 g3 r3; have b3 := grown_below g3 b2 (Nat.le_trans b1.size hge2) b2.size; clear r2)
      | (have kk := b1; refine alG infoSz rfl rfl ?_; intro g2 W2 hge2 hgl2 hB2 r2; have b2 := bt b1 hB2)
      | (go_at_call 19; refine hGet.mono ?_; rintro e w1 ⟨rfl, b1⟩)
      | (refine ldI (.tmp 5) rfl rfl _ _ i rfl r1.range ?_)
      | (refine ldQ (.tmp 4) rfl rfl _ _ p rfl r0.range ?_))
    go_ret
    exact ⟨g2, by rw [hk.out]; rfl, Nat.le_trans hB.size (Nat.le_trans b1.size hge2), r3, bt hB b3⟩
theorem kept_any {w : World} {t mb : Nat} {most : Int} {L : List Sr} (h : Tb w t mb most L) (p : Pr) (i : Id8) (hi : wfQ p) : Calls Try.prog 26 #[.pointer (some ⟨t, 0, none⟩), (Value.agg (qcells p).toArray), idV i] w fun e w' => KeptAt w w' (getN L p i) e :=
  kept_of _ _ p i w (.inr ⟨t, rfl⟩) fun W hW => get_any (h.below hW) p i hi
theorem kept_nil (p : Pr) (i : Id8) (w : World) : Calls Try.prog 26 #[.pointer none, (Value.agg (qcells p).toArray), idV i] w fun e w' => KeptAt w w' none e :=
  kept_of _ _ p i w (.inl rfl) fun W _ => get_nil p i W
set_option maxHeartbeats 2000000 in
theorem put_any {w : World} {t mb : Nat} {most : Int} {L : List Sr} (h : Tb w t mb most L) (n : Sr) (hi : wfQ n.p) (hn : n.ok) (hl : (putN L n).length ≤ 1000000) :
    Calls Try.prog 27 #[.pointer (some ⟨t, 0, none⟩), sV n] w fun e w' => e = .returned (.tuple #[]) ∧ Turn w w' t mb most (putN L n) := by
  have hP : ∀ W, Below w.heap.size w W → ∃ W', (Instr.mapUpdate 64 (.map (some mb)) (kV n.p n.id) (sV n)).run Try.prog W = .ok () W' ∧ Turn w W' t mb most (putN L n) := fun W hW => by
    have h' := h.below hW
    obtain ⟨W', h1, h2, h3⟩ := h'.map.put n hi (by have := h.ll; unfold maxLen; omega)
    refine ⟨W', h1, h'.turn h2 h3 (fun x hx => ?_) hl, grown_pre hW h3⟩
    rcases mem_putN.1 hx with rfl | ⟨hx, _⟩
    · exact hn
    · exact h.nok x hx
  have hr := h.row
  have ht := hr.lt
  have HK : ∀ W, Below w.heap.size w W → W.cell? ⟨t, 1, none⟩ = some (.map (some mb)) := fun W hW => (hr.below hW ht).cell 1
  clear h hr hi hn hl
  go_enter Try.func27, Try.ntmps27
  go_upto_region 1 with fail
  have r0 := Row.new w 53 (scs n)
  refine name_world (R := fun W => Code.wp _ _ _ _ W) (P := fun W => Below w.heap.size w W ∧ Row W w.heap.size 53 (scs n)) _ ⟨ba _ _, r0⟩ ?_
  clear r0
  rintro X ⟨hB, r0⟩
  have hs := r0.lt
  have HQ : Hid (∀ W, Below X.heap.size X W → LS W w.heap.size 0 n) := fun W hW => (r0.below hW hs).range
  refine wp_region_noPanic ?_
  refine wp_region_N (S := fun W => Below X.heap.size X W) 10 (by kernel_rfl) ((Below.refl _ _).drew) (fun hHeld => ?_)
  refine takeN_lit (i := 0) (v := ?_) (F := #[false, false, false, false, true, true, true, true, true, true, false]) rfl (by kernel_rfl) (by kernel_rfl) (by kernel_rfl) (by kernel_rfl) (fun _ _ _ h => h) (Or.inl ⟨by rfl, ?_⟩) (by assumption) ?_
  rotate_left
  · (intro w hSw; (try dsimp only at hSw); go_simp <;> with_reducible rfl)
  try simp only [Act.put, List.setIfInBounds_toArray, List.set_cons_zero, List.set_cons_succ]
  refine takeN_lit (i := 1) (v := ?_) (F := #[true, false, false, false, true, true, true, true, true, true, false]) rfl (by kernel_rfl) (by kernel_rfl) (by kernel_rfl) (by kernel_rfl) (fun _ _ _ h => h) (Or.inl ⟨by rfl, ?_⟩) (by assumption) ?_
  rotate_left
  · (intro w hSw; (try dsimp only at hSw); go_simp <;> with_reducible rfl)
  try simp only [Act.put, List.setIfInBounds_toArray, List.set_cons_zero, List.set_cons_succ]
  refine takeN_lit (i := 2) (v := ?_) (F := #[true, true, false, false, true, true, true, true, true, true, false]) rfl (by kernel_rfl) (by kernel_rfl) (by kernel_rfl) (by kernel_rfl) (fun _ _ _ h => h) (Or.inl ⟨by rfl, ?_⟩) (by assumption) ?_
  rotate_left
  · (intro w hSw; (try dsimp only at hSw); go_simp <;> with_reducible rfl)
  try simp only [Act.put, List.setIfInBounds_toArray, List.set_cons_zero, List.set_cons_succ]
  refine takeN_lit (i := 3) (v := ?_) (F := #[true, true, true, false, true, true, true, true, true, true, false]) rfl (by kernel_rfl) (by kernel_rfl) (by kernel_rfl) (by kernel_rfl) (fun _ _ _ h => h) (Or.inl ⟨by rfl, ?_⟩) (by assumption) ?_
  rotate_left
  · (intro w hSw; (try dsimp only at hSw); have z := HK _ (bt hB hSw); go_simp <;> with_reducible rfl)
  try simp only [Act.put, List.setIfInBounds_toArray, List.set_cons_zero, List.set_cons_succ]
  refine takeN_lit (i := 4) (v := ?_) (F := #[true, true, true, true, false, false, true, true, false, true, false]) rfl (by kernel_rfl) (by kernel_rfl) (by kernel_rfl) (by kernel_rfl) (fun _ _ _ h => h) (Or.inl ⟨by rfl, ?_⟩) (by assumption) ?_
  rotate_left
  · (intro w hSw; (try dsimp only at hSw); go_simp <;> with_reducible rfl)
  try simp only [Act.put, List.setIfInBounds_toArray, List.set_cons_zero, List.set_cons_succ]
  refine takeN_lit (i := 5) (F := #[true, true, true, true, true, false, true, true, false, true, false]) rfl (by kernel_rfl) (by kernel_rfl) (by kernel_rfl) (by kernel_rfl) (fun _ _ _ h => h) (yQ n.p (fun w h => (HQ.out _ h).q) (by rfl) rfl rfl) (by assumption) ?_
  try simp only [Act.put, List.setIfInBounds_toArray, List.set_cons_zero, List.set_cons_succ]
  refine takeN_lit (i := 6) (v := ?_) (F := #[true, true, true, true, true, true, false, false, false, true, false]) rfl (by kernel_rfl) (by kernel_rfl) (by kernel_rfl) (by kernel_rfl) (fun _ _ _ h => h) (Or.inl ⟨by rfl, ?_⟩) (by assumption) ?_
  rotate_left
  · (intro w hSw; (try dsimp only at hSw); go_simp <;> with_reducible rfl)
  try simp only [Act.put, List.setIfInBounds_toArray, List.set_cons_zero, List.set_cons_succ]
  refine takeN_lit (i := 7) (F := #[true, true, true, true, true, true, true, false, false, true, false]) rfl (by kernel_rfl) (by kernel_rfl) (by kernel_rfl) (by kernel_rfl) (fun _ _ _ h => h) (yI n.id (fun w h => (HQ.out _ h).i) (by rfl) rfl rfl) (by assumption) ?_
  try simp only [Act.put, List.setIfInBounds_toArray, List.set_cons_zero, List.set_cons_succ]
  refine takeN_lit (i := 8) (F := #[true, true, true, true, true, true, true, true, false, true, false]) rfl (by kernel_rfl) (by kernel_rfl) (by kernel_rfl) (by kernel_rfl) (fun _ _ _ h => h) (yB (v := kV n.p n.id) [(0, .tmp 9), (1, .tmp 11)] (by rfl) rfl (fun w => bdK n.p n.id w)) (by assumption) ?_
  try simp only [Act.put, List.setIfInBounds_toArray, List.set_cons_zero, List.set_cons_succ]
  refine takeN_lit (i := 9) (F := #[true, true, true, true, true, true, true, true, true, false, false]) rfl (by kernel_rfl) (by kernel_rfl) (by kernel_rfl) (by kernel_rfl) (fun _ _ _ h => h) (yS n (fun w h => HQ.out _ h) (by rfl) rfl rfl) (by assumption) ?_
  try simp only [Act.put, List.setIfInBounds_toArray, List.set_cons_zero, List.set_cons_succ]
  refine wpAnyN_ready (rs := [10]) (by kernel_rfl) (by simp) ?_
  refine consN_lit rfl (fun K hK => ?_) ?_
  · skip
    obtain ⟨W', hrun, hT⟩ := hP _ (bt hB hHeld)
    refine sMu (.tmp 7) (.tmp 12) (.tmp 13) (by rfl) rfl rfl rfl rfl hrun ?_
    refine hK.out _ _ (Or.inl rfl) (fun _ => ?_)
    clear hK K
    try simp only [Act.put, List.setIfInBounds_toArray, List.set_cons_zero, List.set_cons_succ]
    refine wpAnyN_done (by kernel_rfl) ?_ _
    refine NoPanic.normal ?_
    go_wp2
    go_end0
    exact ⟨rfl, hT⟩
  exact AllReadyN.nil
end Go.Proofs.Ytdcbnibgckdkbaa
