/-
  An entry is held: put.
-/
import Derived.Test.YtadnnjngflphjaaB5
namespace Go.Proofs.Ytadnnjngflphjaa
open Go.RowKit Go.Maps
set_option linter.unusedSimpArgs false
set_option linter.unusedVariables false
set_option maxRecDepth 20000
/-- Rows that stay. -/
def Kp (w w' : World) (f : Nat) : Prop := ∀ (g : Nat) (T : TypeId) (cs : List Value), Row w g T cs → g ≠ f → Row w' g T cs
theorem Kp.of {w w' : World} {f : Nat} (h : Below w.heap.size w w') : Kp w w' f := fun g T cs hr _ => hr.below h hr.lt
theorem Kp.trans {w w1 w' : World} {f : Nat} (h : Kp w w1 f) (k : Kp w1 w' f) : Kp w w' f := fun g T cs hr hne => k g T cs (h g T cs hr hne) hne
theorem Kp.map {w w' : World} {f r : Nat} {α : Type} {k : Mk α} {L : List α} (hm : Mp k w r L) (h : w.grownBy w' (some r)) : Kp w w' f := fun g T cs hr _ => hr.keep h (hm.ne_row hr)
theorem Kp.self {w w' : World} {f : Nat} (h : w.grownBy w' (some f)) : Kp w w' f := fun g T cs hr hne => hr.keep h hne
/-- What an act on a kernel whose blocks begin at b turns. -/
structure KT (w w' : World) (b k : Nat) : Prop where
  low : Below b w w'
  keep : Kp w w' k
theorem KT.of {w w' : World} {b k : Nat} (h : Below w.heap.size w w') (hb : b ≤ w.heap.size) : KT w w' b k := ⟨h.mono hb, Kp.of h⟩
theorem KT.trans {w w1 w' : World} {b k : Nat} (h : KT w w1 b k) (j : KT w1 w' b k) : KT w w' b k := ⟨h.low.trans j.low, h.keep.trans j.keep⟩
theorem Below.refl' (b : Nat) (w : World) : Below b w w := ⟨rfl, rfl, rfl, Nat.le_refl _, fun _ _ => rfl⟩
theorem KT.grown {w w' : World} {b k r : Nat} {α : Type} {m : Mk α} {L : List α} (hm : Mp m w r L) (h : w.grownBy w' (some r)) (hb : b ≤ r) : KT w w' b k :=
  ⟨grown_below h (Below.refl' b w) hb (Nat.le_trans hb (Nat.le_of_lt hm.lt)), Kp.map hm h⟩
theorem Tk.lb {w : World} {b k mb : Nat} {n : Int} {L : List Ob} (h : Tk w b k n mb L) : b ≤ w.heap.size := Nat.le_trans h.lk (Nat.le_of_lt h.row.lt)
/-- One map turns: the rest of the kernel stays. -/
theorem Tk.turned {w w' : World} {b k mb r : Nat} {n : Int} {L L' : List Ob} {α : Type} {m : Mk α} {S : List α} (h : Tk w b k n mb L) (hm : Mp m w r S) (hg : w.grownBy w' (some r)) (ht : Tw w' b mb L') : Tk w' b k n mb L' :=
  ⟨Row.keep h.row hg (hm.ne_row h.row), ht, h.lk⟩
theorem kn_put {w' : World} {b k mb : Nat} {n : Int} {L : List Ob} {F : List Hd} {o : Ob} {x : Hd} (T : Tk w' b k n mb (upS L o.d (putN mI o.S x))) (g : Good L) (ho : o ∈ L) (hd : o.d = x.e.p.d) (hne : ∀ u ∈ L, u.S ≠ [] ∨ u = o) (hF : (F.map hp).Nodup) (hpm : F.Perm (flat L)) : Kn w' b k n (putF F x) := by
  obtain ⟨g1, g2⟩ := g.put ho (n := x) hd
  refine ⟨mb, _, T, fun u hu => ?_, (putF_perm hF hpm x).trans g2.symm⟩
  rcases (mem_upS g.nd ho rfl).1 hu with rfl | ⟨h1, h2⟩
  · intro e
    have : x ∈ putN mI o.S x := mem_putN.2 (.inl rfl)
    have e' : putN mI o.S x = [] := e
    rw [e'] at this
    cases this
  · rcases hne u h1 with h | rfl
    · exact h
    · exact absurd rfl h2
theorem getN_last {L : List Ob} {o : Ob} (h : getN mO L o.d = none) : getN mO (L ++ [o]) o.d = some o := by
  unfold getN at *
  rw [List.find?_append, h]
  simp only [Option.none_or, List.find?_singleton]
  rw [if_pos (show keyB mO o.d o = true from pB_self _)]
theorem map_nil (r : Nat) (w : World) : (binOp .eql 74 (.map (some r)) (.map none)).run Try.prog w = .ok (.bool false) w := by kernel_rfl
theorem map_nil0 (w : World) : (binOp .eql 74 (.map none) (.map none)).run Try.prog w = .ok (.bool true) w := by kernel_rfl
theorem run_mkI (w : World) : (Instr.makeMap 74 none).run Try.prog w = .ok (.map (some w.heap.size)) (w.alloc (.map #[] 0)) := by kernel_rfl
theorem small_len {n : Nat} (h : n < 1000000) : n < maxLen := by unfold maxLen; omega
set_option maxHeartbeats 16000000 in
theorem put_any {w : World} {b k : Nat} {n : Int} {F : List Hd} (h : Kn w b k n F) (x : Hd) (hi : wfQ x.e.p) (hF : F.length < 1000000) : Calls Try.prog 31 #[.pointer (some ⟨k, 0, none⟩), hV x] w fun e w' => e = .returned (.tuple #[]) ∧ Kn w' b k n (putF F x) ∧ KT w w' b k := by
  have hnd := h.nd
  obtain ⟨mb, L, T, hne, hpm⟩ := h
  have hlen : (flat L).length < 1000000 := by rw [← hpm.length_eq]; exact hF
  have hLl : L.length < maxLen := small_len (Nat.lt_of_le_of_lt (len_flat hne) hlen)
  have HP : Hid ((F.map hp).Nodup ∧ F.Perm (flat L) ∧ Good L ∧ (∀ o ∈ L, o.S ≠ [])) := ⟨hnd, hpm, T.tw.good, hne⟩
  have r0 := Row.new w 67 (hcs x)
  have bA := ba w (.cells (hcs x).toArray 67)
  have hlb := T.lb
  clear hF hnd hpm hne
  go_enter Try.func31, Try.ntmps31
  go_upto_region 2 with (first
    | (have kk := q4; (with_reducible refine stQ0 (.tmp 4) (.tmp 7) ?_ ?_ g4 x.e.p zeroQ ?_ ?_ ?_ ?_); (focus rfl); (focus rfl); (focus rfl); (focus rfl); (focus exact q4); intro W2 gr4 r4; clear kk q4)
    | ((with_reducible refine alG infoQz ?_ ?_ ?_); (focus rfl); (focus rfl); intro g4 W1 h4 l4 b4 q4)
    | ((with_reducible refine ldQ (.tmp 6) ?_ ?_ w.heap.size 0 x.e.p ?_ ?_ ?_); (focus rfl); (focus rfl); (focus rfl); (focus exact (r0.hd.e.q))))
  have k2 : Below w.heap.size w W2 := bt bA (grown_below gr4 b4 h4 b4.size)
  have r3 : Row W2 w.heap.size 67 (hcs x) := (r0.below b4 r0.lt).keep gr4 (fun e => by simp at h4; omega)
  have T2 := T.below k2
  have K2 : KT w W2 b k := KT.of k2 hlb
  clear r0 bA b4 h4 l4 gr4 T k2 hlb
  have hr3 := r3.lt
  have hr4 := r4.lt
  have hrk := T2.row.lt
  have HK : Hid (∀ V, Below W2.heap.size W2 V → V.cell? ⟨k, 1, none⟩ = some (.map (some mb)) ∧ LQ V g4 0 x.e.p ∧ LH V w.heap.size 0 x) := fun V hY => ⟨KRow.c1 (n := n) (Row.below T2.row hY hrk), (r4.below hY hr4).range, (r3.below hY hr3).hd⟩
  cases hg : getN mO L x.e.p.d with
  | some o =>
    obtain ⟨ho, hd, r, er, _, _, _⟩ := T2.tw.get hg
    have hl1 : ∀ V, Below W2.heap.size W2 V → (Instr.lookup 61 (.map (some mb)) (Value.agg (pcells x.e.p.d).toArray) false).run Try.prog V = .ok (.map (some r)) V := fun V hY => by
      have q := (T2.tw.below hY).out.look1 hi.1
      rw [hg] at q
      rw [← er]
      exact q
    have hSl : o.S.length < maxLen := small_len (Nat.lt_of_le_of_lt (len_own ho) hlen)
    refine wp_region_noPanic ?_
    refine wp_region_held_drew (S := fun V => Below W2.heap.size W2 V) (by kernel_rfl) ((Below.refl _ _).drew) (fun hHeld => ?_)
    refine take_lit (i := 0) (v := ?_) rfl (by kernel_rfl) (by kernel_rfl) (by kernel_rfl) (fun _ _ _ h => h) (Or.inl ⟨by rfl, ?_⟩) (by assumption) ?_
    rotate_left
    · (intro w hSw; (try dsimp only at hSw); go_simp <;> with_reducible rfl)
    try simp only [Act.put, List.setIfInBounds_toArray, List.set_cons_zero, List.set_cons_succ]
    refine take_lit (i := 1) (v := ?_) rfl (by kernel_rfl) (by kernel_rfl) (by kernel_rfl) (fun _ _ _ h => h) (Or.inl ⟨by rfl, ?_⟩) (by assumption) ?_
    rotate_left
    · (intro w hSw; (try dsimp only at hSw); go_simp <;> with_reducible rfl)
    try simp only [Act.put, List.setIfInBounds_toArray, List.set_cons_zero, List.set_cons_succ]
    refine take_lit (i := 2) (v := ?_) rfl (by kernel_rfl) (by kernel_rfl) (by kernel_rfl) (fun _ _ _ h => h) (Or.inl ⟨by rfl, ?_⟩) (by assumption) ?_
    rotate_left
    · (intro w hSw; (try dsimp only at hSw); go_simp <;> with_reducible rfl)
    try simp only [Act.put, List.setIfInBounds_toArray, List.set_cons_zero, List.set_cons_succ]
    refine take_lit (i := 3) (v := ?_) rfl (by kernel_rfl) (by kernel_rfl) (by kernel_rfl) (fun _ _ _ h => h) (Or.inl ⟨by rfl, ?_⟩) (by assumption) ?_
    rotate_left
    · (intro w hSw; (try dsimp only at hSw); have z := (HK.out _ hSw).1; go_simp <;> with_reducible rfl)
    try simp only [Act.put, List.setIfInBounds_toArray, List.set_cons_zero, List.set_cons_succ]
    refine take_lit (i := 4) (v := ?_) rfl (by kernel_rfl) (by kernel_rfl) (by kernel_rfl) (fun _ _ _ h => h) (Or.inl ⟨by rfl, ?_⟩) (by assumption) ?_
    rotate_left
    · (intro w hSw; (try dsimp only at hSw); go_simp <;> with_reducible rfl)
    try simp only [Act.put, List.setIfInBounds_toArray, List.set_cons_zero, List.set_cons_succ]
    refine take_lit (i := 5) rfl (by kernel_rfl) (by kernel_rfl) (by kernel_rfl) (fun _ _ _ h => h) (yP x.e.p.d (fun w h => (HK.out _ h).2.1.d) (by rfl) rfl rfl) (by assumption) ?_
    try simp only [Act.put, List.setIfInBounds_toArray, List.set_cons_zero, List.set_cons_succ]
    refine take_lit (i := 6) (v := ?_) rfl (by kernel_rfl) (by kernel_rfl) (by kernel_rfl) (fun _ _ _ h => h) (Or.inl ⟨by rfl, ?_⟩) (by assumption) ?_
    rotate_left
    · (intro w hSw; (try dsimp only at hSw); have z := hl1 _ hSw; go_simp <;> with_reducible rfl)
    try simp only [Act.put, List.setIfInBounds_toArray, List.set_cons_zero, List.set_cons_succ]
    refine take_lit (i := 7) (v := ?_) rfl (by kernel_rfl) (by kernel_rfl) (by kernel_rfl) (fun _ _ _ h => h) (Or.inl ⟨by rfl, ?_⟩) (by assumption) ?_
    rotate_left
    · (intro w hSw; (try dsimp only at hSw); have z := map_nil r w; go_simp <;> with_reducible rfl)
    try simp only [Act.put, List.setIfInBounds_toArray, List.set_cons_zero, List.set_cons_succ]
    refine wpAnyH_done (by kernel_rfl) ?_ _
    refine NoPanic.normal ?_
    go_upto_region 4 with fail
    refine wp_region_noPanic ?_
    refine wp_region_N (S := fun V => Below W2.heap.size W2 V) 10 (by kernel_rfl) (hHeld.drew) (fun hHeld => ?_)
    refine takeN_lit (i := 0) (v := ?_) (F := #[false, false, false, false, true, true, false, true, true, true, false]) rfl (by kernel_rfl) (by kernel_rfl) (by kernel_rfl) (by kernel_rfl) (fun _ _ _ h => h) (Or.inl ⟨by rfl, ?_⟩) (by assumption) ?_
    rotate_left
    · (intro w hSw; (try dsimp only at hSw); go_simp <;> with_reducible rfl)
    try simp only [Act.put, List.setIfInBounds_toArray, List.set_cons_zero, List.set_cons_succ]
    refine takeN_lit (i := 1) (v := ?_) (F := #[true, false, false, false, true, true, false, true, true, true, false]) rfl (by kernel_rfl) (by kernel_rfl) (by kernel_rfl) (by kernel_rfl) (fun _ _ _ h => h) (Or.inl ⟨by rfl, ?_⟩) (by assumption) ?_
    rotate_left
    · (intro w hSw; (try dsimp only at hSw); go_simp <;> with_reducible rfl)
    try simp only [Act.put, List.setIfInBounds_toArray, List.set_cons_zero, List.set_cons_succ]
    refine takeN_lit (i := 2) (v := ?_) (F := #[true, true, false, false, true, true, false, true, true, true, false]) rfl (by kernel_rfl) (by kernel_rfl) (by kernel_rfl) (by kernel_rfl) (fun _ _ _ h => h) (Or.inl ⟨by rfl, ?_⟩) (by assumption) ?_
    rotate_left
    · (intro w hSw; (try dsimp only at hSw); go_simp <;> with_reducible rfl)
    try simp only [Act.put, List.setIfInBounds_toArray, List.set_cons_zero, List.set_cons_succ]
    refine takeN_lit (i := 3) (v := ?_) (F := #[true, true, true, false, true, true, false, true, true, true, false]) rfl (by kernel_rfl) (by kernel_rfl) (by kernel_rfl) (by kernel_rfl) (fun _ _ _ h => h) (Or.inl ⟨by rfl, ?_⟩) (by assumption) ?_
    rotate_left
    · (intro w hSw; (try dsimp only at hSw); have z := (HK.out _ hSw).1; go_simp <;> with_reducible rfl)
    try simp only [Act.put, List.setIfInBounds_toArray, List.set_cons_zero, List.set_cons_succ]
    refine takeN_lit (i := 4) (v := ?_) (F := #[true, true, true, true, false, false, false, true, true, true, false]) rfl (by kernel_rfl) (by kernel_rfl) (by kernel_rfl) (by kernel_rfl) (fun _ _ _ h => h) (Or.inl ⟨by rfl, ?_⟩) (by assumption) ?_
    rotate_left
    · (intro w hSw; (try dsimp only at hSw); go_simp <;> with_reducible rfl)
    try simp only [Act.put, List.setIfInBounds_toArray, List.set_cons_zero, List.set_cons_succ]
    refine takeN_lit (i := 5) (F := #[true, true, true, true, true, false, false, true, true, true, false]) rfl (by kernel_rfl) (by kernel_rfl) (by kernel_rfl) (by kernel_rfl) (fun _ _ _ h => h) (yP x.e.p.d (fun w h => (HK.out _ h).2.1.d) (by rfl) rfl rfl) (by assumption) ?_
    try simp only [Act.put, List.setIfInBounds_toArray, List.set_cons_zero, List.set_cons_succ]
    refine takeN_lit (i := 6) (v := ?_) (F := #[true, true, true, true, true, true, false, true, true, true, false]) rfl (by kernel_rfl) (by kernel_rfl) (by kernel_rfl) (by kernel_rfl) (fun _ _ _ h => h) (Or.inl ⟨by rfl, ?_⟩) (by assumption) ?_
    rotate_left
    · (intro w hSw; (try dsimp only at hSw); have z := hl1 _ hSw; go_simp <;> with_reducible rfl)
    try simp only [Act.put, List.setIfInBounds_toArray, List.set_cons_zero, List.set_cons_succ]
    refine takeN_lit (i := 7) (v := ?_) (F := #[true, true, true, true, true, true, true, false, false, true, false]) rfl (by kernel_rfl) (by kernel_rfl) (by kernel_rfl) (by kernel_rfl) (fun _ _ _ h => h) (Or.inl ⟨by rfl, ?_⟩) (by assumption) ?_
    rotate_left
    · (intro w hSw; (try dsimp only at hSw); go_simp <;> with_reducible rfl)
    try simp only [Act.put, List.setIfInBounds_toArray, List.set_cons_zero, List.set_cons_succ]
    refine takeN_lit (i := 8) (F := #[true, true, true, true, true, true, true, true, false, true, false]) rfl (by kernel_rfl) (by kernel_rfl) (by kernel_rfl) (by kernel_rfl) (fun _ _ _ h => h) (yP x.e.p.s (fun w h => (HK.out _ h).2.1.s) (by rfl) rfl rfl) (by assumption) ?_
    try simp only [Act.put, List.setIfInBounds_toArray, List.set_cons_zero, List.set_cons_succ]
    refine takeN_lit (i := 9) (F := #[true, true, true, true, true, true, true, true, true, false, false]) rfl (by kernel_rfl) (by kernel_rfl) (by kernel_rfl) (by kernel_rfl) (fun _ _ _ h => h) (yH x (fun w h => (HK.out _ h).2.2) (by rfl) rfl rfl) (by assumption) ?_
    try simp only [Act.put, List.setIfInBounds_toArray, List.set_cons_zero, List.set_cons_succ]
    refine wpAnyN_ready (rs := [10]) (by kernel_rfl) (by simp) ?_
    refine consN_lit rfl (fun K hK => ?_) ?_
    · skip
      obtain ⟨W7, hmu, M7, gm7, hbr⟩ := (T2.tw.below hHeld).put x hg er hi.2 hSl
      refine sMu (.tmp 29) (.tmp 31) (.tmp 32) (by rfl) rfl rfl rfl rfl hmu ?_
      obtain ⟨_, _, r', er', m', _, _⟩ := (T2.tw.below hHeld).get hg
      obtain rfl : r' = r := by rw [er] at er'; cases er'; rfl
      have K7 := (K2.trans (KT.of hHeld T2.lb)).trans (KT.grown m' gm7 hbr)
      have T7 := (T2.below hHeld).turned m' gm7 M7
      refine hK.out _ _ (Or.inl rfl) (fun _ => ?_)
      clear hK K
      try simp only [Act.put, List.setIfInBounds_toArray, List.set_cons_zero, List.set_cons_succ]
      refine wpAnyN_done (by kernel_rfl) ?_ _
      refine NoPanic.normal ?_
      go_wp2_with fail
      go_end0
      exact ⟨rfl, kn_put T7 HP.out.2.2.1 ho hd (fun u hu => .inl (HP.out.2.2.2 u hu)) HP.out.1 HP.out.2.1, K7⟩
    exact AllReadyN.nil
  | none =>
    have hl1 : ∀ V, Below W2.heap.size W2 V → (Instr.lookup 61 (.map (some mb)) (Value.agg (pcells x.e.p.d).toArray) false).run Try.prog V = .ok (.map none) V := fun V hY => by
      have q := (T2.tw.below hY).out.look1 hi.1
      rw [hg] at q
      exact q
    refine wp_region_noPanic ?_
    refine wp_region_held_drew (S := fun V => Below W2.heap.size W2 V) (by kernel_rfl) ((Below.refl _ _).drew) (fun hHeld => ?_)
    refine take_lit (i := 0) (v := ?_) rfl (by kernel_rfl) (by kernel_rfl) (by kernel_rfl) (fun _ _ _ h => h) (Or.inl ⟨by rfl, ?_⟩) (by assumption) ?_
    rotate_left
    · (intro w hSw; (try dsimp only at hSw); go_simp <;> with_reducible rfl)
    try simp only [Act.put, List.setIfInBounds_toArray, List.set_cons_zero, List.set_cons_succ]
    refine take_lit (i := 1) (v := ?_) rfl (by kernel_rfl) (by kernel_rfl) (by kernel_rfl) (fun _ _ _ h => h) (Or.inl ⟨by rfl, ?_⟩) (by assumption) ?_
    rotate_left
    · (intro w hSw; (try dsimp only at hSw); go_simp <;> with_reducible rfl)
    try simp only [Act.put, List.setIfInBounds_toArray, List.set_cons_zero, List.set_cons_succ]
    refine take_lit (i := 2) (v := ?_) rfl (by kernel_rfl) (by kernel_rfl) (by kernel_rfl) (fun _ _ _ h => h) (Or.inl ⟨by rfl, ?_⟩) (by assumption) ?_
    rotate_left
    · (intro w hSw; (try dsimp only at hSw); go_simp <;> with_reducible rfl)
    try simp only [Act.put, List.setIfInBounds_toArray, List.set_cons_zero, List.set_cons_succ]
    refine take_lit (i := 3) (v := ?_) rfl (by kernel_rfl) (by kernel_rfl) (by kernel_rfl) (fun _ _ _ h => h) (Or.inl ⟨by rfl, ?_⟩) (by assumption) ?_
    rotate_left
    · (intro w hSw; (try dsimp only at hSw); have z := (HK.out _ hSw).1; go_simp <;> with_reducible rfl)
    try simp only [Act.put, List.setIfInBounds_toArray, List.set_cons_zero, List.set_cons_succ]
    refine take_lit (i := 4) (v := ?_) rfl (by kernel_rfl) (by kernel_rfl) (by kernel_rfl) (fun _ _ _ h => h) (Or.inl ⟨by rfl, ?_⟩) (by assumption) ?_
    rotate_left
    · (intro w hSw; (try dsimp only at hSw); go_simp <;> with_reducible rfl)
    try simp only [Act.put, List.setIfInBounds_toArray, List.set_cons_zero, List.set_cons_succ]
    refine take_lit (i := 5) rfl (by kernel_rfl) (by kernel_rfl) (by kernel_rfl) (fun _ _ _ h => h) (yP x.e.p.d (fun w h => (HK.out _ h).2.1.d) (by rfl) rfl rfl) (by assumption) ?_
    try simp only [Act.put, List.setIfInBounds_toArray, List.set_cons_zero, List.set_cons_succ]
    refine take_lit (i := 6) (v := ?_) rfl (by kernel_rfl) (by kernel_rfl) (by kernel_rfl) (fun _ _ _ h => h) (Or.inl ⟨by rfl, ?_⟩) (by assumption) ?_
    rotate_left
    · (intro w hSw; (try dsimp only at hSw); have z := hl1 _ hSw; go_simp <;> with_reducible rfl)
    try simp only [Act.put, List.setIfInBounds_toArray, List.set_cons_zero, List.set_cons_succ]
    refine take_lit (i := 7) (v := ?_) rfl (by kernel_rfl) (by kernel_rfl) (by kernel_rfl) (fun _ _ _ h => h) (Or.inl ⟨by rfl, ?_⟩) (by assumption) ?_
    rotate_left
    · (intro w hSw; (try dsimp only at hSw); have z := map_nil0 w; go_simp <;> with_reducible rfl)
    try simp only [Act.put, List.setIfInBounds_toArray, List.set_cons_zero, List.set_cons_succ]
    refine wpAnyH_done (by kernel_rfl) ?_ _
    refine NoPanic.normal ?_
    go_upto_region 3 with fail
    refine wp_region_noPanic ?_
    refine wp_region_N (S := fun V => Below W2.heap.size W2 V) 7 (by kernel_rfl) (hHeld.drew) (fun hHeld => ?_)
    refine takeN_lit (i := 0) (v := ?_) (F := #[false, false, false, false, true, true, true, false]) rfl (by kernel_rfl) (by kernel_rfl) (by kernel_rfl) (by kernel_rfl) (fun _ _ _ h => h) (Or.inl ⟨by rfl, ?_⟩) (by assumption) ?_
    rotate_left
    · (intro w hSw; (try dsimp only at hSw); go_simp <;> with_reducible rfl)
    try simp only [Act.put, List.setIfInBounds_toArray, List.set_cons_zero, List.set_cons_succ]
    refine takeN_lit (i := 1) (v := ?_) (F := #[true, false, false, false, true, true, true, false]) rfl (by kernel_rfl) (by kernel_rfl) (by kernel_rfl) (by kernel_rfl) (fun _ _ _ h => h) (Or.inl ⟨by rfl, ?_⟩) (by assumption) ?_
    rotate_left
    · (intro w hSw; (try dsimp only at hSw); go_simp <;> with_reducible rfl)
    try simp only [Act.put, List.setIfInBounds_toArray, List.set_cons_zero, List.set_cons_succ]
    refine takeN_lit (i := 2) (v := ?_) (F := #[true, true, false, false, true, true, true, false]) rfl (by kernel_rfl) (by kernel_rfl) (by kernel_rfl) (by kernel_rfl) (fun _ _ _ h => h) (Or.inl ⟨by rfl, ?_⟩) (by assumption) ?_
    rotate_left
    · (intro w hSw; (try dsimp only at hSw); go_simp <;> with_reducible rfl)
    try simp only [Act.put, List.setIfInBounds_toArray, List.set_cons_zero, List.set_cons_succ]
    refine takeN_lit (i := 3) (v := ?_) (F := #[true, true, true, false, true, true, true, false]) rfl (by kernel_rfl) (by kernel_rfl) (by kernel_rfl) (by kernel_rfl) (fun _ _ _ h => h) (Or.inl ⟨by rfl, ?_⟩) (by assumption) ?_
    rotate_left
    · (intro w hSw; (try dsimp only at hSw); have z := (HK.out _ hSw).1; go_simp <;> with_reducible rfl)
    try simp only [Act.put, List.setIfInBounds_toArray, List.set_cons_zero, List.set_cons_succ]
    refine takeN_lit (i := 4) (v := ?_) (F := #[true, true, true, true, false, false, true, false]) rfl (by kernel_rfl) (by kernel_rfl) (by kernel_rfl) (by kernel_rfl) (fun _ _ _ h => h) (Or.inl ⟨by rfl, ?_⟩) (by assumption) ?_
    rotate_left
    · (intro w hSw; (try dsimp only at hSw); go_simp <;> with_reducible rfl)
    try simp only [Act.put, List.setIfInBounds_toArray, List.set_cons_zero, List.set_cons_succ]
    refine takeN_lit (i := 5) (F := #[true, true, true, true, true, false, true, false]) rfl (by kernel_rfl) (by kernel_rfl) (by kernel_rfl) (by kernel_rfl) (fun _ _ _ h => h) (yP x.e.p.d (fun w h => (HK.out _ h).2.1.d) (by rfl) rfl rfl) (by assumption) ?_
    try simp only [Act.put, List.setIfInBounds_toArray, List.set_cons_zero, List.set_cons_succ]
    refine wpAnyN_ready (rs := [6]) (by kernel_rfl) (by simp) ?_
    refine consN_lit rfl (fun K hK => ?_) ?_
    · skip
      refine sMk (by rfl) rfl run_mkI ?_
      intro r W5 er b5 m5
      refine hK.out _ _ (Or.inr ?_) (fun hHeld => ?_)
      · exact bt hHeld b5
      replace hHeld := hHeld.resolve_left (by decide)
      clear hK K
      try simp only [Act.put, List.setIfInBounds_toArray, List.set_cons_zero, List.set_cons_succ]
      refine wpAnyN_ready (rs := [7]) (by kernel_rfl) (by simp) ?_
      refine consN_lit rfl (fun K hK => ?_) ?_
      · skip
        have hrl : W2.heap.size ≤ r := er
        obtain ⟨W6, hmu, M6, gm6⟩ := (T2.tw.below hHeld).new x.e.p.d hg m5 (fun o ho e => by obtain ⟨q, k1, k2, _⟩ := T2.tw.inn o ho; rw [k1] at e; cases e; have := k2.lt; omega) (fun e => by have := T2.tw.lt; omega) (Nat.le_trans T2.lb hrl) hi.1 hLl
        refine sMu (.tmp 19) (.tmp 21) (.tmp 22) (by rfl) rfl rfl rfl rfl hmu ?_
        have K6 := (K2.trans (KT.of hHeld T2.lb)).trans (KT.grown (T2.tw.below hHeld).out gm6 T2.tw.lb)
        have T6 := (T2.below hHeld).turned (T2.tw.below hHeld).out gm6 M6
        have r36 := (r3.below hHeld hr3).keep gm6 ((T2.tw.below hHeld).out.ne_row (r3.below hHeld hr3))
        have r46 := (r4.below hHeld hr4).keep gm6 ((T2.tw.below hHeld).out.ne_row (r4.below hHeld hr4))
        refine hK.out _ _ (Or.inl rfl) (fun _ => ?_)
        clear hK K
        try simp only [Act.put, List.setIfInBounds_toArray, List.set_cons_zero, List.set_cons_succ]
        refine wpAnyN_done (by kernel_rfl) ?_ _
        refine NoPanic.normal ?_
        have hr36 := r36.lt
        have hr46 := r46.lt
        have hrk6 := T6.row.lt
        have hg6 : getN mO (L ++ [⟨x.e.p.d, some r, []⟩]) x.e.p.d = some ⟨x.e.p.d, some r, []⟩ := getN_last (o := ⟨x.e.p.d, some r, []⟩) hg
        have HK6 : Hid (∀ V, Below W6.heap.size W6 V → V.cell? ⟨k, 1, none⟩ = some (.map (some mb)) ∧ LQ V g4 0 x.e.p ∧ LH V w.heap.size 0 x) := fun V hY => ⟨KRow.c1 (n := n) (Row.below T6.row hY hrk6), (r46.below hY hr46).range, (r36.below hY hr36).hd⟩
        have hl6 : ∀ V, Below W6.heap.size W6 V → (Instr.lookup 61 (.map (some mb)) (Value.agg (pcells x.e.p.d).toArray) false).run Try.prog V = .ok (.map (some r)) V := fun V hY => by
          have q := (T6.tw.below hY).out.look1 hi.1
          rw [hg6] at q
          exact q
        have HP6 : Hid (Good (L ++ [⟨x.e.p.d, some r, []⟩]) ∧ flat (L ++ [⟨x.e.p.d, some r, []⟩]) = flat L ∧ ∀ u ∈ L ++ [(⟨x.e.p.d, some r, []⟩ : Ob)], u.S ≠ [] ∨ u = ⟨x.e.p.d, some r, []⟩) := by
          obtain ⟨a1, a2⟩ := HP.out.2.2.1.new hg r
          refine ⟨a1, a2, fun u hu => ?_⟩
          rcases List.mem_append.1 hu with h4 | h4
          · exact .inl (HP.out.2.2.2 u h4)
          · exact .inr (by simpa using h4)
        clear HK hl1 r3 r4 T2 K2 hg
        go_upto_region 4 with fail
        refine wp_region_noPanic ?_
        refine wp_region_N (S := fun V => Below W6.heap.size W6 V) 10 (by kernel_rfl) ((Below.refl _ _).drew) (fun hHeld => ?_)
        refine takeN_lit (i := 0) (v := ?_) (F := #[false, false, false, false, true, true, false, true, true, true, false]) rfl (by kernel_rfl) (by kernel_rfl) (by kernel_rfl) (by kernel_rfl) (fun _ _ _ h => h) (Or.inl ⟨by rfl, ?_⟩) (by assumption) ?_
        rotate_left
        · (intro w hSw; (try dsimp only at hSw); go_simp <;> with_reducible rfl)
        try simp only [Act.put, List.setIfInBounds_toArray, List.set_cons_zero, List.set_cons_succ]
        refine takeN_lit (i := 1) (v := ?_) (F := #[true, false, false, false, true, true, false, true, true, true, false]) rfl (by kernel_rfl) (by kernel_rfl) (by kernel_rfl) (by kernel_rfl) (fun _ _ _ h => h) (Or.inl ⟨by rfl, ?_⟩) (by assumption) ?_
        rotate_left
        · (intro w hSw; (try dsimp only at hSw); go_simp <;> with_reducible rfl)
        try simp only [Act.put, List.setIfInBounds_toArray, List.set_cons_zero, List.set_cons_succ]
        refine takeN_lit (i := 2) (v := ?_) (F := #[true, true, false, false, true, true, false, true, true, true, false]) rfl (by kernel_rfl) (by kernel_rfl) (by kernel_rfl) (by kernel_rfl) (fun _ _ _ h => h) (Or.inl ⟨by rfl, ?_⟩) (by assumption) ?_
        rotate_left
        · (intro w hSw; (try dsimp only at hSw); go_simp <;> with_reducible rfl)
        try simp only [Act.put, List.setIfInBounds_toArray, List.set_cons_zero, List.set_cons_succ]
        refine takeN_lit (i := 3) (v := ?_) (F := #[true, true, true, false, true, true, false, true, true, true, false]) rfl (by kernel_rfl) (by kernel_rfl) (by kernel_rfl) (by kernel_rfl) (fun _ _ _ h => h) (Or.inl ⟨by rfl, ?_⟩) (by assumption) ?_
        rotate_left
        · (intro w hSw; (try dsimp only at hSw); have z := (HK6.out _ hSw).1; go_simp <;> with_reducible rfl)
        try simp only [Act.put, List.setIfInBounds_toArray, List.set_cons_zero, List.set_cons_succ]
        refine takeN_lit (i := 4) (v := ?_) (F := #[true, true, true, true, false, false, false, true, true, true, false]) rfl (by kernel_rfl) (by kernel_rfl) (by kernel_rfl) (by kernel_rfl) (fun _ _ _ h => h) (Or.inl ⟨by rfl, ?_⟩) (by assumption) ?_
        rotate_left
        · (intro w hSw; (try dsimp only at hSw); go_simp <;> with_reducible rfl)
        try simp only [Act.put, List.setIfInBounds_toArray, List.set_cons_zero, List.set_cons_succ]
        refine takeN_lit (i := 5) (F := #[true, true, true, true, true, false, false, true, true, true, false]) rfl (by kernel_rfl) (by kernel_rfl) (by kernel_rfl) (by kernel_rfl) (fun _ _ _ h => h) (yP x.e.p.d (fun w h => (HK6.out _ h).2.1.d) (by rfl) rfl rfl) (by assumption) ?_
        try simp only [Act.put, List.setIfInBounds_toArray, List.set_cons_zero, List.set_cons_succ]
        refine takeN_lit (i := 6) (v := ?_) (F := #[true, true, true, true, true, true, false, true, true, true, false]) rfl (by kernel_rfl) (by kernel_rfl) (by kernel_rfl) (by kernel_rfl) (fun _ _ _ h => h) (Or.inl ⟨by rfl, ?_⟩) (by assumption) ?_
        rotate_left
        · (intro w hSw; (try dsimp only at hSw); have z := hl6 _ hSw; go_simp <;> with_reducible rfl)
        try simp only [Act.put, List.setIfInBounds_toArray, List.set_cons_zero, List.set_cons_succ]
        refine takeN_lit (i := 7) (v := ?_) (F := #[true, true, true, true, true, true, true, false, false, true, false]) rfl (by kernel_rfl) (by kernel_rfl) (by kernel_rfl) (by kernel_rfl) (fun _ _ _ h => h) (Or.inl ⟨by rfl, ?_⟩) (by assumption) ?_
        rotate_left
        · (intro w hSw; (try dsimp only at hSw); go_simp <;> with_reducible rfl)
        try simp only [Act.put, List.setIfInBounds_toArray, List.set_cons_zero, List.set_cons_succ]
        refine takeN_lit (i := 8) (F := #[true, true, true, true, true, true, true, true, false, true, false]) rfl (by kernel_rfl) (by kernel_rfl) (by kernel_rfl) (by kernel_rfl) (fun _ _ _ h => h) (yP x.e.p.s (fun w h => (HK6.out _ h).2.1.s) (by rfl) rfl rfl) (by assumption) ?_
        try simp only [Act.put, List.setIfInBounds_toArray, List.set_cons_zero, List.set_cons_succ]
        refine takeN_lit (i := 9) (F := #[true, true, true, true, true, true, true, true, true, false, false]) rfl (by kernel_rfl) (by kernel_rfl) (by kernel_rfl) (by kernel_rfl) (fun _ _ _ h => h) (yH x (fun w h => (HK6.out _ h).2.2) (by rfl) rfl rfl) (by assumption) ?_
        try simp only [Act.put, List.setIfInBounds_toArray, List.set_cons_zero, List.set_cons_succ]
        refine wpAnyN_ready (rs := [10]) (by kernel_rfl) (by simp) ?_
        refine consN_lit rfl (fun K hK => ?_) ?_
        · skip
          obtain ⟨W7, hmu7, M7, gm7, hbr⟩ := (T6.tw.below hHeld).put x hg6 rfl hi.2 (small_len (show (0 : Nat) < 1000000 by omega))
          refine sMu (.tmp 29) (.tmp 31) (.tmp 32) (by rfl) rfl rfl rfl rfl hmu7 ?_
          obtain ⟨_, _, r', er', m', _, _⟩ := (T6.tw.below hHeld).get hg6
          obtain rfl : r' = r := by cases er'; rfl
          have K7 := (K6.trans (KT.of hHeld T6.lb)).trans (KT.grown m' gm7 hbr)
          have T7 := (T6.below hHeld).turned m' gm7 M7
          refine hK.out _ _ (Or.inl rfl) (fun _ => ?_)
          clear hK K
          try simp only [Act.put, List.setIfInBounds_toArray, List.set_cons_zero, List.set_cons_succ]
          refine wpAnyN_done (by kernel_rfl) ?_ _
          refine NoPanic.normal ?_
          go_wp2_with fail
          go_end0
          exact ⟨rfl, kn_put T7 HP6.out.1 (by simp) rfl HP6.out.2.2 HP.out.1 (by rw [HP6.out.2.1]; exact HP.out.2.1), K7⟩
        exact AllReadyN.nil
      exact AllReadyN.nil
    exact AllReadyN.nil
end Go.Proofs.Ytadnnjngflphjaa
