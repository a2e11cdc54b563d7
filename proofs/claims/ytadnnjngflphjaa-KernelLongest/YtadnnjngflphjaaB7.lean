/-
  What is held goes: remove. How many are to fail; a new kernel.
-/
import Derived.Test.YtadnnjngflphjaaB6
namespace Go.Proofs.Ytadnnjngflphjaa
open Go.RowKit Go.Maps
set_option linter.unusedSimpArgs false
set_option linter.unusedVariables false
set_option maxRecDepth 20000
theorem kn_del {w' : World} {b k mb : Nat} {n : Int} {L : List Ob} {F : List Hd} {o : Ob} {p : Pr} (T : Tk w' b k n mb (upS L o.d (delN mI o.S p.s))) (g : Good L) (ho : o ∈ L) (hd : o.d = p.d) (hs : delN mI o.S p.s ≠ []) (hne : ∀ u ∈ L, u.S ≠ []) (hF : (F.map hp).Nodup) (hpm : F.Perm (flat L)) : Kn w' b k n (delF F p) := by
  obtain ⟨g1, g2⟩ := g.del ho hd
  refine ⟨mb, _, T, fun u hu => ?_, (delF_perm hF hpm p).trans g2.symm⟩
  rcases (mem_upS g.nd ho rfl).1 hu with rfl | ⟨h1, h2⟩
  · exact hs
  · exact hne u h1
theorem kn_drop {w' : World} {b k mb : Nat} {n : Int} {L : List Ob} {F : List Hd} {o : Ob} {p : Pr} (T : Tk w' b k n mb (delN mO (upS L o.d (delN mI o.S p.s)) o.d)) (g : Good L) (ho : o ∈ L) (hd : o.d = p.d) (hs : delN mI o.S p.s = []) (hne : ∀ u ∈ L, u.S ≠ []) (hF : (F.map hp).Nodup) (hpm : F.Perm (flat L)) : Kn w' b k n (delF F p) := by
  obtain ⟨g1, g2⟩ := g.del ho hd
  have hm : ({ o with S := delN mI o.S p.s } : Ob) ∈ upS L o.d (delN mI o.S p.s) := (mem_upS g.nd ho rfl).2 (.inl rfl)
  obtain ⟨g3, g4⟩ := g1.drop hm hs
  refine ⟨mb, _, T, fun u hu => ?_, ?_⟩
  · obtain ⟨h1, h2⟩ := mem_delN.1 hu
    rcases (mem_upS g.nd ho rfl).1 h1 with rfl | ⟨h3, _⟩
    · rw [show keyB mO o.d { o with S := delN mI o.S p.s } = true from pB_self _] at h2
      cases h2
    · exact hne u h3
  · have g4' : flat (delN mO (upS L o.d (delN mI o.S p.s)) o.d) = flat (upS L o.d (delN mI o.S p.s)) := g4
    rw [g4']
    exact (delF_perm hF hpm p).trans g2.symm
theorem getN_up {L : List Ob} {o : Ob} {S : List Hd} (hn : (L.map Ob.d).Nodup) (ho : o ∈ L) : getN mO (upS L o.d S) o.d = some { o with S := S } := by
  have hm : ({ o with S := S } : Ob) ∈ upS L o.d S := (mem_upS hn ho rfl).2 (.inl rfl)
  cases hg : getN mO (upS L o.d S) o.d with
  | none =>
    have := getN_none hg _ hm
    rw [show keyB mO o.d { o with S := S } = true from pB_self _] at this
    cases this
  | some u =>
    obtain ⟨hu, e⟩ := getN_some hg
    rcases (mem_upS hn ho rfl).1 hu with rfl | ⟨_, h2⟩
    · rfl
    · exact absurd e h2
theorem fnd_dest {L : List Ob} (g : Good L) {p : Pr} (h : (fnd (flat L) p).isSome = true) : ∃ o, getN mO L p.d = some o := by
  rw [← at_fnd g] at h
  unfold atR at h
  cases hg : getN mO L p.d with
  | none => rw [hg] at h; cases h
  | some o => exact ⟨o, rfl⟩
theorem eq0 (n : Nat) (w : World) : (binOp .eql 3 (.int .i64 (n : Nat)) (.int .i64 0)).run Try.prog w = .ok (.bool (n == 0)) w := by
  have : ((n : Int) == 0) = (n == 0) := by
    rw [Bool.eq_iff_iff]; simp
  simp [binOp, ← this]
  rfl
set_option maxHeartbeats 16000000 in
theorem remove_any {w : World} {b k : Nat} {n : Int} {F : List Hd} (h : Kn w b k n F) (p : Pr) (hi : wfQ p) (hf : (fnd F p).isSome = true) : Calls Try.prog 32 #[.pointer (some ⟨k, 0, none⟩), (Value.agg (qcells p).toArray)] w fun e w' => e = .returned (.tuple #[]) ∧ Kn w' b k n (delF F p) ∧ KT w w' b k := by
  have hnd := h.nd
  obtain ⟨mb, L, T, hne, hpm⟩ := h
  rw [fnd_perm hnd hpm] at hf
  obtain ⟨o, hg⟩ := fnd_dest T.tw.good hf
  have HP : Hid ((F.map hp).Nodup ∧ F.Perm (flat L) ∧ Good L ∧ (∀ o ∈ L, o.S ≠ [])) := ⟨hnd, hpm, T.tw.good, hne⟩
  have r0 := Row.new w 35 (qcells p)
  have bA := ba w (.cells (qcells p).toArray 35)
  have hlb := T.lb
  have T2 := T.below bA
  have K2 : KT w _ b k := KT.of bA hlb
  obtain ⟨ho, hd, r, er, _, _, _⟩ := T.tw.get hg
  clear hf hnd hpm hne T
  go_enter Try.func32, Try.ntmps32
  go_upto_region 1 with fail
  generalize hW2 : w.alloc (.cells (qcells p).toArray 35) = W2 at *
  clear hW2
  have hr0 := r0.lt
  have hrk := T2.row.lt
  have HK : Hid (∀ V, Below W2.heap.size W2 V → V.cell? ⟨k, 1, none⟩ = some (.map (some mb)) ∧ LQ V w.heap.size 0 p) := fun V hY => ⟨KRow.c1 (n := n) (Row.below T2.row hY hrk), (r0.below hY hr0).range⟩
  have hl1 : ∀ V, Below W2.heap.size W2 V → (Instr.lookup 61 (.map (some mb)) (Value.agg (pcells p.d).toArray) false).run Try.prog V = .ok (.map (some r)) V := fun V hY => by
    have q := (T2.tw.below hY).out.look1 hi.1
    rw [hg] at q
    rw [← er]
    exact q
  refine wp_region_noPanic ?_
  refine wp_region_N (S := fun V => Below W2.heap.size W2 V) 9 (by kernel_rfl) ((Below.refl _ _).drew) (fun hHeld => ?_)
  refine takeN_lit (i := 0) (v := ?_) (F := #[false, false, false, false, true, true, false, true, true, false]) rfl (by kernel_rfl) (by kernel_rfl) (by kernel_rfl) (by kernel_rfl) (fun _ _ _ h => h) (Or.inl ⟨by rfl, ?_⟩) (by assumption) ?_
  rotate_left
  · (intro w hSw; (try dsimp only at hSw); go_simp <;> with_reducible rfl)
  try simp only [Act.put, List.setIfInBounds_toArray, List.set_cons_zero, List.set_cons_succ]
  refine takeN_lit (i := 1) (v := ?_) (F := #[true, false, false, false, true, true, false, true, true, false]) rfl (by kernel_rfl) (by kernel_rfl) (by kernel_rfl) (by kernel_rfl) (fun _ _ _ h => h) (Or.inl ⟨by rfl, ?_⟩) (by assumption) ?_
  rotate_left
  · (intro w hSw; (try dsimp only at hSw); go_simp <;> with_reducible rfl)
  try simp only [Act.put, List.setIfInBounds_toArray, List.set_cons_zero, List.set_cons_succ]
  refine takeN_lit (i := 2) (v := ?_) (F := #[true, true, false, false, true, true, false, true, true, false]) rfl (by kernel_rfl) (by kernel_rfl) (by kernel_rfl) (by kernel_rfl) (fun _ _ _ h => h) (Or.inl ⟨by rfl, ?_⟩) (by assumption) ?_
  rotate_left
  · (intro w hSw; (try dsimp only at hSw); go_simp <;> with_reducible rfl)
  try simp only [Act.put, List.setIfInBounds_toArray, List.set_cons_zero, List.set_cons_succ]
  refine takeN_lit (i := 3) (v := ?_) (F := #[true, true, true, false, true, true, false, true, true, false]) rfl (by kernel_rfl) (by kernel_rfl) (by kernel_rfl) (by kernel_rfl) (fun _ _ _ h => h) (Or.inl ⟨by rfl, ?_⟩) (by assumption) ?_
  rotate_left
  · (intro w hSw; (try dsimp only at hSw); have z := (HK.out _ hSw).1; go_simp <;> with_reducible rfl)
  try simp only [Act.put, List.setIfInBounds_toArray, List.set_cons_zero, List.set_cons_succ]
  refine takeN_lit (i := 4) (v := ?_) (F := #[true, true, true, true, false, false, false, true, true, false]) rfl (by kernel_rfl) (by kernel_rfl) (by kernel_rfl) (by kernel_rfl) (fun _ _ _ h => h) (Or.inl ⟨by rfl, ?_⟩) (by assumption) ?_
  rotate_left
  · (intro w hSw; (try dsimp only at hSw); go_simp <;> with_reducible rfl)
  try simp only [Act.put, List.setIfInBounds_toArray, List.set_cons_zero, List.set_cons_succ]
  refine takeN_lit (i := 5) (F := #[true, true, true, true, true, false, false, true, true, false]) rfl (by kernel_rfl) (by kernel_rfl) (by kernel_rfl) (by kernel_rfl) (fun _ _ _ h => h) (yP p.d (fun w h => (HK.out _ h).2.d) (by rfl) rfl rfl) (by assumption) ?_
  try simp only [Act.put, List.setIfInBounds_toArray, List.set_cons_zero, List.set_cons_succ]
  refine takeN_lit (i := 6) (v := ?_) (F := #[true, true, true, true, true, true, false, true, true, false]) rfl (by kernel_rfl) (by kernel_rfl) (by kernel_rfl) (by kernel_rfl) (fun _ _ _ h => h) (Or.inl ⟨by rfl, ?_⟩) (by assumption) ?_
  rotate_left
  · (intro w hSw; (try dsimp only at hSw); have z := hl1 _ hSw; go_simp <;> with_reducible rfl)
  try simp only [Act.put, List.setIfInBounds_toArray, List.set_cons_zero, List.set_cons_succ]
  refine takeN_lit (i := 7) (v := ?_) (F := #[true, true, true, true, true, true, true, false, false, false]) rfl (by kernel_rfl) (by kernel_rfl) (by kernel_rfl) (by kernel_rfl) (fun _ _ _ h => h) (Or.inl ⟨by rfl, ?_⟩) (by assumption) ?_
  rotate_left
  · (intro w hSw; (try dsimp only at hSw); go_simp <;> with_reducible rfl)
  try simp only [Act.put, List.setIfInBounds_toArray, List.set_cons_zero, List.set_cons_succ]
  refine takeN_lit (i := 8) (F := #[true, true, true, true, true, true, true, true, false, false]) rfl (by kernel_rfl) (by kernel_rfl) (by kernel_rfl) (by kernel_rfl) (fun _ _ _ h => h) (yP p.s (fun w h => (HK.out _ h).2.s) (by rfl) rfl rfl) (by assumption) ?_
  try simp only [Act.put, List.setIfInBounds_toArray, List.set_cons_zero, List.set_cons_succ]
  refine wpAnyN_ready (rs := [9]) (by kernel_rfl) (by simp) ?_
  refine consN_lit rfl (fun K hK => ?_) ?_
  · skip
    obtain ⟨W6, hdl, M6, gm6, hbr⟩ := (T2.tw.below hHeld).del p hg er hi.2 _
    refine sDel (.tmp 10) (.tmp 12) (by rfl) rfl rfl rfl hdl ?_
    obtain ⟨_, _, r', er', m', _, _⟩ := (T2.tw.below hHeld).get hg
    obtain rfl : r = r' := by rw [er] at er'; cases er'; rfl
    have K6 := (K2.trans (KT.of hHeld T2.lb)).trans (KT.grown m' gm6 hbr)
    have T6 := (T2.below hHeld).turned m' gm6 M6
    have r06 := (r0.below hHeld hr0).keep gm6 (m'.ne_row (r0.below hHeld hr0))
    refine hK.out _ _ (Or.inl rfl) (fun _ => ?_)
    clear hK K
    try simp only [Act.put, List.setIfInBounds_toArray, List.set_cons_zero, List.set_cons_succ]
    refine wpAnyN_done (by kernel_rfl) ?_ _
    refine NoPanic.normal ?_
    have hr06 := r06.lt
    have hrk6 := T6.row.lt
    have HK6 : Hid (∀ V, Below W6.heap.size W6 V → V.cell? ⟨k, 1, none⟩ = some (.map (some mb)) ∧ LQ V w.heap.size 0 p) := fun V hY => ⟨KRow.c1 (n := n) (Row.below T6.row hY hrk6), (r06.below hY hr06).range⟩
    have hg6 : getN mO (upS L o.d (delN mI o.S p.s)) p.d = some { o with S := delN mI o.S p.s } := by
      rw [← hd]
      exact getN_up HP.out.2.2.1.nd ho
    have hl6 : ∀ V, Below W6.heap.size W6 V → (Instr.lookup 61 (.map (some mb)) (Value.agg (pcells p.d).toArray) false).run Try.prog V = .ok (.map (some r)) V := fun V hY => by
      have q := (T6.tw.below hY).out.look1 hi.1
      rw [hg6] at q
      rw [← er]
      exact q
    have hlen : ∀ V ty, Below W6.heap.size W6 V → (Builtin.len_ #[74] ty #[.map (some r)]).run Try.prog V = .ok (.int .i64 ((delN mI o.S p.s).length : Nat)) V := fun V ty hY => by
      obtain ⟨_, _, r', er', m', _, _⟩ := (T6.tw.below hY).get hg6
      obtain rfl : r = r' := by have e : o.r = some r' := er'; rw [er] at e; cases e; rfl
      exact m'.len ty
    clear HK hl1 r0 T2 K2 hg
    go_upto_region 2 with fail
    refine wp_region_noPanic ?_
    refine wp_region_held_drew (S := fun V => Below W6.heap.size W6 V) (by kernel_rfl) ((Below.refl _ _).drew) (fun hHeld => ?_)
    refine take_lit (i := 0) (v := ?_) rfl (by kernel_rfl) (by kernel_rfl) (by kernel_rfl) (fun _ _ _ h => h) (Or.inl ⟨by rfl, ?_⟩) (by assumption) ?_
    rotate_left
    · (intro w hSw; (try dsimp only at hSw); go_simp <;> with_reducible rfl)
    try simp only [Act.put, List.setIfInBounds_toArray, List.set_cons_zero, List.set_cons_succ]
    refine take_lit (i := 1) (v := ?_) rfl (by kernel_rfl) (by kernel_rfl) (by kernel_rfl) (fun _ _ _ h => h) (Or.inl ⟨by rfl, ?_⟩) (by assumption) ?_
    rotate_left
    · (intro w hSw; (try dsimp only at hSw); go_simp <;> with_reducible rfl)
    try simp only [Act.put, List.setIfInBounds_toArray, List.set_cons_zero, List.set_cons_succ]
    refine take_lit (i := 2) (v := ?_) rfl (by kernel_rfl) (by kernel_rfl) (by kernel_rfl) (fun _ _ _ h => h) (Or.inl ⟨by rfl, ?_⟩) (by assumption) ?_
    rotate_left
    · (intro w hSw; (try dsimp only at hSw); go_simp <;> with_reducible rfl)
    try simp only [Act.put, List.setIfInBounds_toArray, List.set_cons_zero, List.set_cons_succ]
    refine take_lit (i := 3) (v := ?_) rfl (by kernel_rfl) (by kernel_rfl) (by kernel_rfl) (fun _ _ _ h => h) (Or.inl ⟨by rfl, ?_⟩) (by assumption) ?_
    rotate_left
    · (intro w hSw; (try dsimp only at hSw); have z := (HK6.out _ hSw).1; go_simp <;> with_reducible rfl)
    try simp only [Act.put, List.setIfInBounds_toArray, List.set_cons_zero, List.set_cons_succ]
    refine take_lit (i := 4) (v := ?_) rfl (by kernel_rfl) (by kernel_rfl) (by kernel_rfl) (fun _ _ _ h => h) (Or.inl ⟨by rfl, ?_⟩) (by assumption) ?_
    rotate_left
    · (intro w hSw; (try dsimp only at hSw); go_simp <;> with_reducible rfl)
    try simp only [Act.put, List.setIfInBounds_toArray, List.set_cons_zero, List.set_cons_succ]
    refine take_lit (i := 5) rfl (by kernel_rfl) (by kernel_rfl) (by kernel_rfl) (fun _ _ _ h => h) (yP p.d (fun w h => (HK6.out _ h).2.d) (by rfl) rfl rfl) (by assumption) ?_
    try simp only [Act.put, List.setIfInBounds_toArray, List.set_cons_zero, List.set_cons_succ]
    refine take_lit (i := 6) (v := ?_) rfl (by kernel_rfl) (by kernel_rfl) (by kernel_rfl) (fun _ _ _ h => h) (Or.inl ⟨by rfl, ?_⟩) (by assumption) ?_
    rotate_left
    · (intro w hSw; (try dsimp only at hSw); have z := hl6 _ hSw; go_simp <;> with_reducible rfl)
    try simp only [Act.put, List.setIfInBounds_toArray, List.set_cons_zero, List.set_cons_succ]
    refine take_lit (i := 7) (v := ?_) rfl (by kernel_rfl) (by kernel_rfl) (by kernel_rfl) (fun _ _ _ h => h) (Or.inl ⟨by rfl, ?_⟩) (by assumption) ?_
    rotate_left
    · (intro w hSw; (try dsimp only at hSw); have z := fun ty => hlen _ ty hSw; go_simp <;> with_reducible rfl)
    try simp only [Act.put, List.setIfInBounds_toArray, List.set_cons_zero, List.set_cons_succ]
    refine take_lit (i := 8) (v := ?_) rfl (by kernel_rfl) (by kernel_rfl) (by kernel_rfl) (fun _ _ _ h => h) (Or.inl ⟨by rfl, ?_⟩) (by assumption) ?_
    rotate_left
    · (intro w hSw; (try dsimp only at hSw); have z := eq0 (delN mI o.S p.s).length w; go_simp <;> with_reducible rfl)
    try simp only [Act.put, List.setIfInBounds_toArray, List.set_cons_zero, List.set_cons_succ]
    refine wpAnyH_done (by kernel_rfl) ?_ _
    refine NoPanic.normal ?_
    by_cases hs : delN mI o.S p.s = []
    · rw [hs]
      go_upto_region 3 with fail
      refine wp_region_noPanic ?_
      refine wp_region_N (S := fun V => Below W6.heap.size W6 V) 6 (by kernel_rfl) (hHeld.drew) (fun hHeld => ?_)
      refine takeN_lit (i := 0) (v := ?_) (F := #[false, false, false, false, true, true, false]) rfl (by kernel_rfl) (by kernel_rfl) (by kernel_rfl) (by kernel_rfl) (fun _ _ _ h => h) (Or.inl ⟨by rfl, ?_⟩) (by assumption) ?_
      rotate_left
      · (intro w hSw; (try dsimp only at hSw); go_simp <;> with_reducible rfl)
      try simp only [Act.put, List.setIfInBounds_toArray, List.set_cons_zero, List.set_cons_succ]
      refine takeN_lit (i := 1) (v := ?_) (F := #[true, false, false, false, true, true, false]) rfl (by kernel_rfl) (by kernel_rfl) (by kernel_rfl) (by kernel_rfl) (fun _ _ _ h => h) (Or.inl ⟨by rfl, ?_⟩) (by assumption) ?_
      rotate_left
      · (intro w hSw; (try dsimp only at hSw); go_simp <;> with_reducible rfl)
      try simp only [Act.put, List.setIfInBounds_toArray, List.set_cons_zero, List.set_cons_succ]
      refine takeN_lit (i := 2) (v := ?_) (F := #[true, true, false, false, true, true, false]) rfl (by kernel_rfl) (by kernel_rfl) (by kernel_rfl) (by kernel_rfl) (fun _ _ _ h => h) (Or.inl ⟨by rfl, ?_⟩) (by assumption) ?_
      rotate_left
      · (intro w hSw; (try dsimp only at hSw); go_simp <;> with_reducible rfl)
      try simp only [Act.put, List.setIfInBounds_toArray, List.set_cons_zero, List.set_cons_succ]
      refine takeN_lit (i := 3) (v := ?_) (F := #[true, true, true, false, true, true, false]) rfl (by kernel_rfl) (by kernel_rfl) (by kernel_rfl) (by kernel_rfl) (fun _ _ _ h => h) (Or.inl ⟨by rfl, ?_⟩) (by assumption) ?_
      rotate_left
      · (intro w hSw; (try dsimp only at hSw); have z := (HK6.out _ hSw).1; go_simp <;> with_reducible rfl)
      try simp only [Act.put, List.setIfInBounds_toArray, List.set_cons_zero, List.set_cons_succ]
      refine takeN_lit (i := 4) (v := ?_) (F := #[true, true, true, true, false, false, false]) rfl (by kernel_rfl) (by kernel_rfl) (by kernel_rfl) (by kernel_rfl) (fun _ _ _ h => h) (Or.inl ⟨by rfl, ?_⟩) (by assumption) ?_
      rotate_left
      · (intro w hSw; (try dsimp only at hSw); go_simp <;> with_reducible rfl)
      try simp only [Act.put, List.setIfInBounds_toArray, List.set_cons_zero, List.set_cons_succ]
      refine takeN_lit (i := 5) (F := #[true, true, true, true, true, false, false]) rfl (by kernel_rfl) (by kernel_rfl) (by kernel_rfl) (by kernel_rfl) (fun _ _ _ h => h) (yP p.d (fun w h => (HK6.out _ h).2.d) (by rfl) rfl rfl) (by assumption) ?_
      try simp only [Act.put, List.setIfInBounds_toArray, List.set_cons_zero, List.set_cons_succ]
      refine wpAnyN_ready (rs := [6]) (by kernel_rfl) (by simp) ?_
      refine consN_lit rfl (fun K hK => ?_) ?_
      · skip
        obtain ⟨W8, hdl8, M8, gm8⟩ := (T6.tw.below hHeld).drop p.d hi.1 _
        refine sDel (.tmp 25) (.tmp 27) (by rfl) rfl rfl rfl hdl8 ?_
        have K8 := (K6.trans (KT.of hHeld T6.lb)).trans (KT.grown (T6.tw.below hHeld).out gm8 T6.tw.lb)
        have T8 := (T6.below hHeld).turned (T6.tw.below hHeld).out gm8 M8
        refine hK.out _ _ (Or.inl rfl) (fun _ => ?_)
        clear hK K
        try simp only [Act.put, List.setIfInBounds_toArray, List.set_cons_zero, List.set_cons_succ]
        refine wpAnyN_done (by kernel_rfl) ?_ _
        refine NoPanic.normal ?_
        go_wp2_with fail
        go_end0
        rw [← hd] at T8
        exact ⟨rfl, kn_drop T8 HP.out.2.2.1 ho hd hs HP.out.2.2.2 HP.out.1 HP.out.2.1, K8⟩
      exact AllReadyN.nil
    · have hz : (((delN mI o.S p.s).length : Int) == 0) = false := by simpa using hs
      rw [hz]
      go_wp2_with fail
      go_end0
      exact ⟨rfl, kn_del (T6.below hHeld) HP.out.2.2.1 ho hd hs HP.out.2.2.2 HP.out.1 HP.out.2.1, K6.trans (KT.of hHeld T6.lb)⟩
  exact AllReadyN.nil
end Go.Proofs.Ytadnnjngflphjaa
