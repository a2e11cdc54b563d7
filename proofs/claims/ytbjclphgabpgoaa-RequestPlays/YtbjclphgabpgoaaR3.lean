/-
  The table of requests: New, put, remove, sent.
-/
import Derived.Test.YtbjclphgabpgoaaTLast
import Derived.Deep.QuietTactic
import Derived.BigQuiet
import Derived.Deep.CutBlock
namespace Go.Proofs.Ytbjclphgabpgoaa
open Go.RowKit Go.Maps
set_option linter.unusedSimpArgs false
set_option linter.unusedVariables false
set_option maxRecDepth 20000
/-- Numbers as they are in a request. -/
structure Sr.ok (n : Sr) : Prop where
  s0 : 0 ≤ n.s
  s1 : n.s < 65536
  m0 : 0 ≤ n.m
  m1 : n.m ≤ 4
  t0 : 0 ≤ n.t
  t1 : n.t ≤ 1125899906842624
/-- The table: its block, its map, how many it has room for, its requests. -/
structure Tb (w : World) (t mb : Nat) (most : Int) (L : List Sr) : Prop where
  row : Row w t 70 [.int .i64 most, .map (some mb)]
  map : Mp w mb L
  nok : ∀ n ∈ L, n.ok
  ll : L.length ≤ 1000000
theorem Tb.lt {w : World} {t mb : Nat} {most : Int} {L : List Sr} (h : Tb w t mb most L) : t < w.heap.size := h.row.lt
theorem Tb.below {w w' : World} {t mb : Nat} {most : Int} {L : List Sr} (h : Tb w t mb most L) (hb : Below w.heap.size w w') : Tb w' t mb most L :=
  ⟨h.row.below hb h.row.lt, h.map.below hb h.map.lt, h.nok, h.ll⟩
theorem Tb.turn {w w' : World} {t mb : Nat} {most : Int} {L L' : List Sr} (h : Tb w t mb most L) (hm : Mp w' mb L') (hg : w.grownBy w' (some mb)) (hn : ∀ n ∈ L', n.ok) (hl : L'.length ≤ 1000000) : Tb w' t mb most L' :=
  ⟨h.row.keep hg (h.map.ne_row h.row), hm, hn, hl⟩
theorem Tb.perm {w : World} {t mb : Nat} {most : Int} {L K : List Sr} (h : Tb w t mb most L) (hp : K.Perm L) : Tb w t mb most K :=
  ⟨h.row, h.map.perm hp, fun n hn => h.nok n (hp.mem_iff.1 hn), by rw [hp.length_eq]; exact h.ll⟩
/-- The table behind an act: its requests are others; nothing else has turned but its map. -/
structure Turn (w w' : World) (t mb : Nat) (most : Int) (L : List Sr) : Prop where
  tb : Tb w' t mb most L
  gr : w.grownBy w' (some mb)
theorem Turn.below {w w' : World} {t mb : Nat} {most : Int} {L : List Sr} (h : Turn w w' t mb most L) {B : Nat} {w0 : World} (hb : Below B w0 w) (hB : B ≤ mb) (hs : B ≤ w.heap.size) : Below B w0 w' := grown_below h.gr hb hB hs
theorem Turn.row {w w' : World} {t mb g : Nat} {most : Int} {L : List Sr} {T : TypeId} {cs : List Value} (h : Turn w w' t mb most L) (hr : Row w g T cs) (hne : g ≠ mb) : Row w' g T cs := hr.keep h.gr hne
theorem Turn.perm {w w' : World} {t mb : Nat} {most : Int} {L K : List Sr} (h : Turn w w' t mb most L) (hp : K.Perm L) : Turn w w' t mb most K := ⟨h.tb.perm hp, h.gr⟩
theorem grown_pre {w w1 w2 : World} {o : Option Nat} (hb : Below w.heap.size w w1) (hg : w1.grownBy w2 o) : w.grownBy w2 o :=
  ⟨hg.os.trans hb.os, hg.tape.trans hb.tape, hg.output.trans hb.output, Nat.le_trans hb.size hg.size, fun i hi hne => (hg.block i (Nat.lt_of_lt_of_le hi hb.size) hne).trans (hb.block i hi)⟩
theorem grown_below2 {w1 wr W : World} {o : Option Nat} (h : w1.grownBy wr o) (hb : Below wr.heap.size wr W) : w1.grownBy W o :=
  ⟨hb.os.trans h.os, hb.tape.trans h.tape, hb.output.trans h.output, Nat.le_trans h.size hb.size, fun i hi hne => (hb.block i (Nat.lt_of_lt_of_le hi h.size)).trans (h.block i hi hne)⟩
theorem Turn.pre {w w1 w2 : World} {t mb : Nat} {most : Int} {L : List Sr} (h : Turn w1 w2 t mb most L) (hb : Below w.heap.size w w1) : Turn w w2 t mb most L := ⟨h.tb, grown_pre hb h.gr⟩
theorem Turn.post {w w1 w2 : World} {t mb : Nat} {most : Int} {L : List Sr} (h : Turn w w1 t mb most L) (hb : Below w1.heap.size w1 w2) : Turn w w2 t mb most L := ⟨h.tb.below hb, grown_below2 h.gr hb⟩
theorem stepRow {w W1 : World} {cs : List Value} {t : TypeId} (h : Below (w.alloc (.cells cs.toArray t)).heap.size (w.alloc (.cells cs.toArray t)) W1) : Below w.heap.size w W1 ∧ Row W1 w.heap.size t cs ∧ w.heap.size < W1.heap.size :=
  ⟨bt (ba _ _) h, (Row.new w t cs).below h (by simp), by have := h.size; simp at this; omega⟩
theorem stepRow2 {w W1 : World} {cs ds : List Value} {t u : TypeId} (h : Below ((w.alloc (.cells cs.toArray t)).alloc (.cells ds.toArray u)).heap.size ((w.alloc (.cells cs.toArray t)).alloc (.cells ds.toArray u)) W1) : Below w.heap.size w W1 ∧ Row W1 w.heap.size t cs ∧ Row W1 (w.heap.size + 1) u ds ∧ w.heap.size + 1 < W1.heap.size := by
  obtain ⟨h0, h1, h2⟩ := low_rows w cs ds t u
  exact ⟨bt h0 h, h1.below h (by simp; omega), h2.below h (by simp), by have := h.size; simp at this; omega⟩
section
variable {ops : Array Oper} {rest : List Oper} {op : Oper} {a : Act} {w w' : World} {Q : Exit → Act → World → Prop} {K : Act → World → Prop} {E : Prop} {S : World → Prop}
theorem sMu {T : TypeId} (m k v : Operand) {mv kv vv : Value} (hw : Region.wanted op (yielded ops a.tmps) = true) (ho : op.op = .mapUpdate T m k v) (hm : a.eval m = mv) (hk : a.eval k = kv) (hv : a.eval v = vv)
    (hr : (Instr.mapUpdate T mv kv vv).run Try.prog w = .ok () w') (h : K (a.put op.dst undef) w') : if Region.wanted op (yielded ops a.tmps) = true then Oper.wp Try.prog op a w K Q else E := by
  rw [if_pos hw]
  unfold Oper.wp
  simp [execOp, ho, hm, hk, hv, hr, Result.andThen]
  exact h
end
theorem run_mkM (w : World) : (Instr.makeMap 68 none).run Try.prog w = .ok (.map (some w.heap.size)) (w.alloc (.map #[] 0)) := by kernel_rfl
theorem new_any (most : Int) (w : World) : Calls Try.prog 10 #[.int .i64 most] w fun e w' => e = .returned (.pointer (some ⟨w.heap.size + 1, 0, none⟩)) ∧ Tb w' (w.heap.size + 1) w.heap.size most [] ∧ Below w.heap.size w w' := by
  have hmk := run_mkM w
  go_enter Try.func10, Try.ntmps10
  go_wp2_with fail
  go_ret
  refine ⟨by simp, ⟨?_, (Mp.new w).below (ba _ _) (by simp), by simp, by simp⟩, bt (ba _ _) (ba _ _)⟩
  have := Row.new (w.alloc (.map #[] 0)) 70 [.int .i64 most, .map (some w.heap.size)]
  simpa using this
set_option maxHeartbeats 2000000 in
theorem put_any {w : World} {t mb : Nat} {most : Int} {L : List Sr} (h : Tb w t mb most L) (n : Sr) (hi : wfQ n.p) (hn : n.ok) (hl : (putN L n).length ≤ 1000000) :
    Calls Try.prog 29 #[.pointer (some ⟨t, 0, none⟩), sV n] w fun e w' => e = .returned (.tuple #[]) ∧ Turn w w' t mb most (putN L n) := by
  have hP : ∀ W, Below w.heap.size w W → ∃ W', (Instr.mapUpdate 68 (.map (some mb)) (kV n.p n.id) (sV n)).run Try.prog W = .ok () W' ∧ Turn w W' t mb most (putN L n) := fun W hW => by
    have h' := h.below hW
    obtain ⟨W', h1, h2, h3⟩ := h'.map.put n hi (by have := h.ll; unfold maxLen; omega)
    refine ⟨W', h1, h'.turn h2 h3 (fun x hx => ?_) hl, grown_pre hW h3⟩
    rcases mem_putN.1 hx with rfl | ⟨hx, _⟩
    · exact hn
    · exact h.nok x hx
  have hr := h.row
  have ht := hr.lt
  have HK : ∀ W, Below w.heap.size w W → W.cell? ⟨t, 1, none⟩ = some (.map (some mb)) := fun W hW => (hr.below hW ht).cell 1
  clear h hr hi hn hl
  go_enter Try.func29, Try.ntmps29
  go_upto_region 1 with fail
  have r0 := Row.new w 67 (scs n)
  refine name_world (R := fun W => Code.wp _ _ _ _ W) (P := fun W => Below w.heap.size w W ∧ Row W w.heap.size 67 (scs n)) _ ⟨ba _ _, r0⟩ ?_
  clear r0
  rintro X ⟨hB, r0⟩
  have hs := r0.lt
  have HQ : Hid (∀ W, Below X.heap.size X W → LS W w.heap.size 0 n) := fun W hW => (r0.below hW hs).range
  refine wp_region_noPanic ?_
  refine wp_region_N (S := fun W => Below X.heap.size X W) 10 (by kernel_rfl) ((Below.refl _ _).drew) (fun hHeld => ?_)
  refine takeN_lit (i := 0) (v := ?_) (F := #[false, false, false, false, true, true, true, true, true, true, false]) rfl (by kernel_rfl) (by kernel_rfl) (by kernel_rfl) (by kernel_rfl) (fun _ _ _ h => h) (Or.inl ⟨by rfl, ?_⟩) (by assumption) ?_
  rotate_left
  · (intro w hSw; (try dsimp only at hSw); go_simp <;> with_reducible rfl)
  try simp only [Act.put, List.setIfInBounds_toArray, List.set_cons_zero, List.set_cons_succ]
  refine takeN_lit (i := 1) (v := ?_) (F := #[true, false, false, false, true, true, true, true, true, true, false]) rfl (by kernel_rfl) (by kernel_rfl) (by kernel_rfl) (by kernel_rfl) (fun _ _ _ h => h) (Or.inl ⟨by rfl, ?_⟩) (by assumption) ?_
  rotate_left
  · (intro w hSw; (try dsimp only at hSw); go_simp <;> with_reducible rfl)
  try simp only [Act.put, List.setIfInBounds_toArray, List.set_cons_zero, List.set_cons_succ]
  refine takeN_lit (i := 2) (v := ?_) (F := #[true, true, false, false, true, true, true, true, true, true, false]) rfl (by kernel_rfl) (by kernel_rfl) (by kernel_rfl) (by kernel_rfl) (fun _ _ _ h => h) (Or.inl ⟨by rfl, ?_⟩) (by assumption) ?_
  rotate_left
  · (intro w hSw; (try dsimp only at hSw); go_simp <;> with_reducible rfl)
  try simp only [Act.put, List.setIfInBounds_toArray, List.set_cons_zero, List.set_cons_succ]
  refine takeN_lit (i := 3) (v := ?_) (F := #[true, true, true, false, true, true, true, true, true, true, false]) rfl (by kernel_rfl) (by kernel_rfl) (by kernel_rfl) (by kernel_rfl) (fun _ _ _ h => h) (Or.inl ⟨by rfl, ?_⟩) (by assumption) ?_
  rotate_left
  · (intro w hSw; (try dsimp only at hSw); have z := HK _ (bt hB hSw); go_simp <;> with_reducible rfl)
  try simp only [Act.put, List.setIfInBounds_toArray, List.set_cons_zero, List.set_cons_succ]
  refine takeN_lit (i := 4) (v := ?_) (F := #[true, true, true, true, false, false, true, true, false, true, false]) rfl (by kernel_rfl) (by kernel_rfl) (by kernel_rfl) (by kernel_rfl) (fun _ _ _ h => h) (Or.inl ⟨by rfl, ?_⟩) (by assumption) ?_
  rotate_left
  · (intro w hSw; (try dsimp only at hSw); go_simp <;> with_reducible rfl)
  try simp only [Act.put, List.setIfInBounds_toArray, List.set_cons_zero, List.set_cons_succ]
  refine takeN_lit (i := 5) (F := #[true, true, true, true, true, false, true, true, false, true, false]) rfl (by kernel_rfl) (by kernel_rfl) (by kernel_rfl) (by kernel_rfl) (fun _ _ _ h => h) (yQ n.p (fun w h => (HQ.out _ h).q) (by rfl) rfl rfl) (by assumption) ?_
  try simp only [Act.put, List.setIfInBounds_toArray, List.set_cons_zero, List.set_cons_succ]
  refine takeN_lit (i := 6) (v := ?_) (F := #[true, true, true, true, true, true, false, false, false, true, false]) rfl (by kernel_rfl) (by kernel_rfl) (by kernel_rfl) (by kernel_rfl) (fun _ _ _ h => h) (Or.inl ⟨by rfl, ?_⟩) (by assumption) ?_
  rotate_left
  · (intro w hSw; (try dsimp only at hSw); go_simp <;> with_reducible rfl)
  try simp only [Act.put, List.setIfInBounds_toArray, List.set_cons_zero, List.set_cons_succ]
  refine takeN_lit (i := 7) (F := #[true, true, true, true, true, true, true, false, false, true, false]) rfl (by kernel_rfl) (by kernel_rfl) (by kernel_rfl) (by kernel_rfl) (fun _ _ _ h => h) (yI n.id (fun w h => (HQ.out _ h).i) (by rfl) rfl rfl) (by assumption) ?_
  try simp only [Act.put, List.setIfInBounds_toArray, List.set_cons_zero, List.set_cons_succ]
  refine takeN_lit (i := 8) (F := #[true, true, true, true, true, true, true, true, false, true, false]) rfl (by kernel_rfl) (by kernel_rfl) (by kernel_rfl) (by kernel_rfl) (fun _ _ _ h => h) (yB (v := kV n.p n.id) [(0, .tmp 9), (1, .tmp 11)] (by rfl) rfl (fun w => bdK n.p n.id w)) (by assumption) ?_
  try simp only [Act.put, List.setIfInBounds_toArray, List.set_cons_zero, List.set_cons_succ]
  refine takeN_lit (i := 9) (F := #[true, true, true, true, true, true, true, true, true, false, false]) rfl (by kernel_rfl) (by kernel_rfl) (by kernel_rfl) (by kernel_rfl) (fun _ _ _ h => h) (yS n (fun w h => HQ.out _ h) (by rfl) rfl rfl) (by assumption) ?_
  try simp only [Act.put, List.setIfInBounds_toArray, List.set_cons_zero, List.set_cons_succ]
  refine wpAnyN_ready (rs := [10]) (by kernel_rfl) (by simp) ?_
  refine consN_lit rfl (fun K hK => ?_) ?_
  · skip
    obtain ⟨W', hrun, hT⟩ := hP _ (bt hB hHeld)
    refine sMu (.tmp 7) (.tmp 12) (.tmp 13) (by rfl) rfl rfl rfl rfl hrun ?_
    refine hK.out _ _ (Or.inl rfl) (fun _ => ?_)
    clear hK K
    try simp only [Act.put, List.setIfInBounds_toArray, List.set_cons_zero, List.set_cons_succ]
    refine wpAnyN_done (by kernel_rfl) ?_ _
    refine NoPanic.normal ?_
    go_wp2
    go_end0
    exact ⟨rfl, hT⟩
  exact AllReadyN.nil
section
variable {ops : Array Oper} {rest : List Oper} {op : Oper} {a : Act} {w w' : World} {Q : Exit → Act → World → Prop} {K : Act → World → Prop} {E : Prop}
theorem sDel {T U : TypeId} (m k : Operand) {mv kv : Value} (hw : Region.wanted op (yielded ops a.tmps) = true) (ho : op.op = .call { callee := .builtin .delete, args := #[m, k], argTypes := #[T, U] }) (hm : a.eval m = mv) (hk : a.eval k = kv)
    (hr : (Builtin.delete_ #[T, U] op.type #[mv, kv]).run Try.prog w = .ok (.tuple #[]) w') (h : K (a.put op.dst (.tuple #[])) w') : if Region.wanted op (yielded ops a.tmps) = true then Oper.wp Try.prog op a w K Q else E := by
  rw [if_pos hw]
  unfold Oper.wp
  simp [execOp, ho, resolve, invoke, builtin, hm, hk, hr, Result.andThen]
  exact h
end
theorem Turn.refl {w : World} {t mb : Nat} {most : Int} {L : List Sr} (h : Tb w t mb most L) : Turn w w t mb most L := ⟨h, rfl, rfl, rfl, Nat.le_refl _, fun _ _ _ => rfl⟩
theorem Turn.of {w w' : World} {t mb : Nat} {most : Int} {L : List Sr} (h : Tb w t mb most L) (hb : Below w.heap.size w w') : Turn w w' t mb most L :=
  ⟨h.below hb, hb.os, hb.tape, hb.output, hb.size, fun i hi _ => hb.block i hi⟩
theorem putN_le {L : List Sr} {n : Sr} : (putN L n).length ≤ L.length + 1 := by
  rw [putN_len]
  split <;> omega
theorem delN_le {L : List Sr} {p : Pr} {i : Id8} : (delN L p i).length ≤ L.length := List.length_filter_le _ _
theorem mem_delN {L : List Sr} {p : Pr} {i : Id8} {x : Sr} (h : x ∈ delN L p i) : x ∈ L := (List.mem_filter.1 h).1
set_option maxHeartbeats 2000000 in
theorem remove_any {w : World} {t mb : Nat} {most : Int} {L : List Sr} (h : Tb w t mb most L) (n : Sr) (hi : wfQ n.p) :
    Calls Try.prog 35 #[.pointer (some ⟨t, 0, none⟩), sV n] w fun e w' => e = .returned (.tuple #[]) ∧ Turn w w' t mb most (delN L n.p n.id) := by
  have hP : ∀ (ty : TypeId) W, Below w.heap.size w W → ∃ W', (Builtin.delete_ #[68, 75] ty #[.map (some mb), kV n.p n.id]).run Try.prog W = .ok (.tuple #[]) W' ∧ Turn w W' t mb most (delN L n.p n.id) := fun ty W hW => by
    have h' := h.below hW
    obtain ⟨W', h1, h2, h3⟩ := h'.map.del n.id hi ty
    exact ⟨W', h1, h'.turn h2 h3 (fun x hx => h.nok x (mem_delN hx)) (by have := delN_le (L := L) (p := n.p) (i := n.id); have := h.ll; omega), grown_pre hW h3⟩
  have hr := h.row
  have ht := hr.lt
  have HK : ∀ W, Below w.heap.size w W → W.cell? ⟨t, 1, none⟩ = some (.map (some mb)) := fun W hW => (hr.below hW ht).cell 1
  clear h hr hi
  go_enter Try.func35, Try.ntmps35
  go_upto_region 1 with fail
  have r0 := Row.new w 67 (scs n)
  refine name_world (R := fun W => Code.wp _ _ _ _ W) (P := fun W => Below w.heap.size w W ∧ Row W w.heap.size 67 (scs n)) _ ⟨ba _ _, r0⟩ ?_
  clear r0
  rintro X ⟨hB, r0⟩
  have hs := r0.lt
  have HQ : Hid (∀ W, Below X.heap.size X W → LS W w.heap.size 0 n) := fun W hW => (r0.below hW hs).range
  refine wp_region_noPanic ?_
  refine wp_region_N (S := fun W => Below X.heap.size X W) 9 (by kernel_rfl) ((Below.refl _ _).drew) (fun hHeld => ?_)
  refine takeN_lit (i := 0) (v := ?_) (F := #[false, false, false, false, true, true, true, true, true, false]) rfl (by kernel_rfl) (by kernel_rfl) (by kernel_rfl) (by kernel_rfl) (fun _ _ _ h => h) (Or.inl ⟨by rfl, ?_⟩) (by assumption) ?_
  rotate_left
  · (intro w hSw; (try dsimp only at hSw); go_simp <;> with_reducible rfl)
  try simp only [Act.put, List.setIfInBounds_toArray, List.set_cons_zero, List.set_cons_succ]
  refine takeN_lit (i := 1) (v := ?_) (F := #[true, false, false, false, true, true, true, true, true, false]) rfl (by kernel_rfl) (by kernel_rfl) (by kernel_rfl) (by kernel_rfl) (fun _ _ _ h => h) (Or.inl ⟨by rfl, ?_⟩) (by assumption) ?_
  rotate_left
  · (intro w hSw; (try dsimp only at hSw); go_simp <;> with_reducible rfl)
  try simp only [Act.put, List.setIfInBounds_toArray, List.set_cons_zero, List.set_cons_succ]
  refine takeN_lit (i := 2) (v := ?_) (F := #[true, true, false, false, true, true, true, true, true, false]) rfl (by kernel_rfl) (by kernel_rfl) (by kernel_rfl) (by kernel_rfl) (fun _ _ _ h => h) (Or.inl ⟨by rfl, ?_⟩) (by assumption) ?_
  rotate_left
  · (intro w hSw; (try dsimp only at hSw); go_simp <;> with_reducible rfl)
  try simp only [Act.put, List.setIfInBounds_toArray, List.set_cons_zero, List.set_cons_succ]
  refine takeN_lit (i := 3) (v := ?_) (F := #[true, true, true, false, true, true, true, true, true, false]) rfl (by kernel_rfl) (by kernel_rfl) (by kernel_rfl) (by kernel_rfl) (fun _ _ _ h => h) (Or.inl ⟨by rfl, ?_⟩) (by assumption) ?_
  rotate_left
  · (intro w hSw; (try dsimp only at hSw); have z := HK _ (bt hB hSw); go_simp <;> with_reducible rfl)
  try simp only [Act.put, List.setIfInBounds_toArray, List.set_cons_zero, List.set_cons_succ]
  refine takeN_lit (i := 4) (v := ?_) (F := #[true, true, true, true, false, false, true, true, false, false]) rfl (by kernel_rfl) (by kernel_rfl) (by kernel_rfl) (by kernel_rfl) (fun _ _ _ h => h) (Or.inl ⟨by rfl, ?_⟩) (by assumption) ?_
  rotate_left
  · (intro w hSw; (try dsimp only at hSw); go_simp <;> with_reducible rfl)
  try simp only [Act.put, List.setIfInBounds_toArray, List.set_cons_zero, List.set_cons_succ]
  refine takeN_lit (i := 5) (F := #[true, true, true, true, true, false, true, true, false, false]) rfl (by kernel_rfl) (by kernel_rfl) (by kernel_rfl) (by kernel_rfl) (fun _ _ _ h => h) (yQ n.p (fun w h => (HQ.out _ h).q) (by rfl) rfl rfl) (by assumption) ?_
  try simp only [Act.put, List.setIfInBounds_toArray, List.set_cons_zero, List.set_cons_succ]
  refine takeN_lit (i := 6) (v := ?_) (F := #[true, true, true, true, true, true, false, false, false, false]) rfl (by kernel_rfl) (by kernel_rfl) (by kernel_rfl) (by kernel_rfl) (fun _ _ _ h => h) (Or.inl ⟨by rfl, ?_⟩) (by assumption) ?_
  rotate_left
  · (intro w hSw; (try dsimp only at hSw); go_simp <;> with_reducible rfl)
  try simp only [Act.put, List.setIfInBounds_toArray, List.set_cons_zero, List.set_cons_succ]
  refine takeN_lit (i := 7) (F := #[true, true, true, true, true, true, true, false, false, false]) rfl (by kernel_rfl) (by kernel_rfl) (by kernel_rfl) (by kernel_rfl) (fun _ _ _ h => h) (yI n.id (fun w h => (HQ.out _ h).i) (by rfl) rfl rfl) (by assumption) ?_
  try simp only [Act.put, List.setIfInBounds_toArray, List.set_cons_zero, List.set_cons_succ]
  refine takeN_lit (i := 8) (F := #[true, true, true, true, true, true, true, true, false, false]) rfl (by kernel_rfl) (by kernel_rfl) (by kernel_rfl) (by kernel_rfl) (fun _ _ _ h => h) (yB (v := kV n.p n.id) [(0, .tmp 9), (1, .tmp 11)] (by rfl) rfl (fun w => bdK n.p n.id w)) (by assumption) ?_
  try simp only [Act.put, List.setIfInBounds_toArray, List.set_cons_zero, List.set_cons_succ]
  refine wpAnyN_ready (rs := [9]) (by kernel_rfl) (by simp) ?_
  refine consN_lit rfl (fun K hK => ?_) ?_
  · skip
    obtain ⟨W', hrun, hT⟩ := hP _ _ (bt hB hHeld)
    refine sDel (.tmp 7) (.tmp 12) (by rfl) rfl rfl rfl hrun ?_
    refine hK.out _ _ (Or.inl rfl) (fun _ => ?_)
    clear hK K
    try simp only [Act.put, List.setIfInBounds_toArray, List.set_cons_zero, List.set_cons_succ]
    refine wpAnyN_done (by kernel_rfl) ?_ _
    refine NoPanic.normal ?_
    go_wp2
    go_end0
    exact ⟨rfl, hT⟩
  exact AllReadyN.nil
/-- A request that is sent one time more. -/
def sentR (n : Sr) (now : Int) : Sr := ⟨n.p, n.id, n.s, n.m + 1, now + 2000 * 2 ^ n.m.toNat⟩
theorem sc43 (n : Sr) : (scs n)[43]? = some (.int .i64 n.m) := by
  simp [scs, dcs, qcells_len, icells_len, List.getElem?_append_right]
theorem scs_m (n : Sr) (m : Int) : (scs n).set 43 (.int .i64 m) = scs { n with m := m } := by
  simp [scs, dcs, List.set_append, qcells_len, icells_len]
theorem Row.srm {w : World} {g : Nat} {T : TypeId} {n : Sr} (h : Row w g T (scs n)) (m : Int) : Row (w.setCell ⟨g, 43, none⟩ (.int .i64 m)) g T (scs { n with m := m }) := by
  have := h.set 43 (.int .i64 m)
  rwa [scs_m] at this
end Go.Proofs.Ytbjclphgabpgoaa
