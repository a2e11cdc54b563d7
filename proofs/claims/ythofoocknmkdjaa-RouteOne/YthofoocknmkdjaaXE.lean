/-
  The pairs of routes that stand in order, each once.
-/
import Derived.Test.YthofoocknmkdjaaXD
namespace Go.Proofs.Ythofoocknmkdjaa
open Go.RowKit Go.Maps Go.Shelf
set_option linter.unusedSimpArgs false
set_option linter.unusedVariables false
set_option maxRecDepth 20000
def kP : Kd Pr := ⟨qcells, 36, 56, 34, 48, qcells zeroQ, qcells_len, qcells_one, Try.underlying56, by kernel_rfl, qcells_len _, by decide, by decide⟩
theorem bsP1 (p : Pr) (w : World) : (Instr.buildSlice 56 1 #[(0, (Value.agg (qcells p).toArray))]).run Try.prog w = .ok (.slice (some ⟨w.heap.size, 0, none⟩) 1 1) (w.alloc (.cells (qcells p).toArray 36)) := by
  induction p using Pr.lits with | h =>
  show _ = _
  kernel_rfl
theorem run_neqQ (p q : Pr) (w : World) : (binOp .neq 36 (Value.agg (qcells p).toArray) (Value.agg (qcells q).toArray)).run Try.prog w = .ok (.bool (!qB p q)) w := by
  have h := eqQ 9996 p q w
  rw [run_neq_struct w, h]; rfl
theorem qB_refl (p : Pr) : qB p p = true := qB_iff.2 rfl
/-- One more route: its pair, unless the one ahead had it. -/
def stepP (x : List Pr × Option Pr) (n : Ro) : List Pr × Option Pr := (match x.2 with | none => x.1 ++ [n.p] | some q => if qB q n.p = true then x.1 else x.1 ++ [n.p], some n.p)
def pairsS (K : List Ro) : List Pr × Option Pr := K.foldl stepP ([], none)
def pairsR (K : List Ro) : List Pr := (pairsS K).1
theorem pairsS_take {K : List Ro} {j : Nat} (hj : j < K.length) : pairsS (K.take (j + 1)) = stepP (pairsS (K.take j)) K[j] := by
  unfold pairsS
  rw [List.take_succ_eq_append_getElem hj, List.foldl_append]
  rfl
theorem pairsS_last {K : List Ro} {j : Nat} (hj : j < K.length) : (pairsS (K.take (j + 1))).2 = some K[j].p := by
  rw [pairsS_take hj]
  rfl
theorem pairsS_len (K : List Ro) : ∀ j, j ≤ K.length → (pairsS (K.take j)).1.length ≤ j
  | 0, _ => by simp [pairsS]
  | j + 1, h => by
    have ih := pairsS_len K j (by omega)
    rw [pairsS_take (by omega)]
    unfold stepP
    dsimp only
    split
    · simp; omega
    · split
      · omega
      · simp; omega
/-- What is answered: pairs in memory of the call's own. -/
def ToldP (w : World) (P : List Pr) (e : Ending) (w' : World) : Prop := ∃ a c, e = .returned (.slice a P.length c) ∧ kP.Own w' w.heap.size (.slice a P.length c) P ∧ Below w.heap.size w w'
set_option maxHeartbeats 8000000 in
theorem pairs_any {w : World} {B : Nat} {a : Option Addr} {c : Nat} (K : List Ro) (hO : kN.Own w B (.slice a K.length c) K) (hK : K.length ≤ 1000000) : Calls Try.prog 45 #[.slice a K.length c] w (ToldP w (pairsR K)) := by
  have HO : Hid (∀ W, Below w.heap.size w W → kN.Own W B (.slice a K.length c) K) := fun W hW => own_below hO hW
  clear hO
  go_enter Try.func45, Try.ntmps45
  go_wp2_with fail
  go_loopw [3, 8] (fun v u wr => ∃ (j : Nat) (ga : Option Addr) (gc : Nat), j ≤ K.length ∧ u = .int .i64 j ∧ v = .slice ga (pairsS (K.take j)).1.length gc ∧ Below w.heap.size w wr ∧ kP.Own wr w.heap.size (.slice ga (pairsS (K.take j)).1.length gc) (pairsS (K.take j)).1) (fun _ u _ => K.length - (intOf u).toNat)
  case atStart => exact ⟨0, none, 0, Nat.zero_le _, rfl, rfl, Below.refl _ _, World.ownsRow_nil _ _ _ _⟩
  case round =>
    obtain ⟨j, ga, gc, hj, rfl, rfl, hB, hOp⟩ := hrel
    by_cases hlt : j < K.length
    · obtain ⟨g, rfl, hg1, hg2, hel⟩ := own_elem (HO.out wr hB) (fun e => by rw [e] at hlt; simp at hlt)
      have hq := hel j hlt
      have hji : (j : Int) < (K.length : Int) := by omega
      have hw64 : wrap64 ((j : Int) + 1) = (j : Int) + 1 := by unfold wrap64; omega
      have HM : Hid (K.length - ((j : Int) + 1).toNat < K.length - ((j : Int)).toNat) := meas hlt
      have HJ : Hid (j + 1 ≤ K.length) := hlt
      have HL : Hid ((pairsS (K.take j)).1.length ≤ 10000000) := Nat.le_trans (pairsS_len K j hj) (by omega)
      have hst := pairsS_take hlt
      have hpv : 0 < j → ∃ p, (pairsS (K.take j)).2 = some p ∧ LQ wr g ((j - 1) * 81) p := fun h0 => by
        have h1 : j - 1 < K.length := by omega
        refine ⟨K[j - 1].p, ?_, (hel (j - 1) h1).q⟩
        have := pairsS_last h1
        rwa [show j - 1 + 1 = j by omega] at this
      have hz0 : j = 0 → (pairsS (K.take j)).2 = none := fun h0 => by rw [h0]; rfl
      obtain ⟨n, hn⟩ : ∃ n, n = K[j]'hlt := ⟨_, rfl⟩
      replace hq : LS wr g (j * 81) n := by rw [hn]; exact hq
      replace hst : pairsS (K.take (j + 1)) = stepP (pairsS (K.take j)) n := by rw [hn]; exact hst
      have HOp : Hid (∀ W, Below wr.heap.size wr W → Below w.heap.size w W ∧ kP.Own W w.heap.size (.slice ga (pairsS (K.take j)).1.length gc) (pairsS (K.take j)).1) := fun W hW => ⟨bt hB hW, own_below hOp hW⟩
      have hsz := hB.size
      clear hel hg1 hn hB hOp HO hlt
      generalize pairsS (K.take j) = x at *
      have HST : Hid (pairsS (K.take (j + 1)) = stepP x n) := hst
      clear hst
      obtain ⟨o, l⟩ := x
      dsimp only at *
      go_upto_region 5 with (first
        | (have kk := r2; refine stS (.tmp 5) (.tmp 12) rfl rfl g2 n _ rfl rfl r2 ?_; intro W3 g3 r3; have b3 := grown_below g3 hB2 hge2 hB2.size; clear r2)
        | (refine alG infoRz rfl rfl ?_; intro g2 W2 hge2 hgl2 hB2 r2)
        | (refine ldS (.tmp 11) rfl rfl _ _ n rfl hq ?_))
      have k2 := r3.lt
      have hl3 : g < W3.heap.size := Nat.lt_of_lt_of_le hg2 b3.size
      by_cases h0 : j = 0
      · obtain rfl := hz0 h0
        have h0' : ((j : Int) == 0) = true := by simp [h0]
        clear hpv hz0 hj
        refine wp_region_noPanic ?_
        refine wp_region_held_drew (S := fun W => Below W3.heap.size W3 W) (by kernel_rfl) ((Below.refl _ _).drew) (fun hHeld => ?_)
        refine take_lit (i := 0) (v := ?_) rfl (by kernel_rfl) (by kernel_rfl) (by kernel_rfl) (fun _ _ _ h => h) (Or.inl ⟨by rfl, ?_⟩) (by assumption) ?_
        rotate_left
        · (intro w hSw; (try dsimp only at hSw); go_simp <;> with_reducible rfl)
        try simp only [Act.put, List.setIfInBounds_toArray, List.set_cons_zero, List.set_cons_succ]
        refine take_lit (i := 1) (v := ?_) rfl (by kernel_rfl) (by kernel_rfl) (by kernel_rfl) (fun _ _ _ h => h) (Or.inl ⟨by rfl, ?_⟩) (by assumption) ?_
        rotate_left
        · (intro w hSw; (try dsimp only at hSw); have z := h0'; go_simp <;> with_reducible rfl)
        try simp only [Act.put, List.setIfInBounds_toArray, List.set_cons_zero, List.set_cons_succ]
        refine take_lit (i := 2) (v := ?_) rfl (by kernel_rfl) (by kernel_rfl) (by kernel_rfl) (fun _ _ _ h => h) (Or.inl ⟨by rfl, ?_⟩) (by assumption) ?_
        rotate_left
        · (intro w hSw; (try dsimp only at hSw); go_simp <;> with_reducible rfl)
        try simp only [Act.put, List.setIfInBounds_toArray, List.set_cons_zero, List.set_cons_succ]
        refine take_lit (i := 3) rfl (by kernel_rfl) (by kernel_rfl) (by kernel_rfl) (fun _ _ _ h => h) (Or.inr ⟨by rfl, rfl⟩) (by assumption) ?_
        try simp only [Act.put, List.setIfInBounds_toArray, List.set_cons_zero, List.set_cons_succ]
        refine take_lit (i := 4) rfl (by kernel_rfl) (by kernel_rfl) (by kernel_rfl) (fun _ _ _ h => h) (Or.inr ⟨by rfl, rfl⟩) (by assumption) ?_
        try simp only [Act.put, List.setIfInBounds_toArray, List.set_cons_zero, List.set_cons_succ]
        refine take_lit (i := 5) rfl (by kernel_rfl) (by kernel_rfl) (by kernel_rfl) (fun _ _ _ h => h) (Or.inr ⟨by rfl, rfl⟩) (by assumption) ?_
        try simp only [Act.put, List.setIfInBounds_toArray, List.set_cons_zero, List.set_cons_succ]
        refine take_lit (i := 6) rfl (by kernel_rfl) (by kernel_rfl) (by kernel_rfl) (fun _ _ _ h => h) (Or.inr ⟨by rfl, rfl⟩) (by assumption) ?_
        try simp only [Act.put, List.setIfInBounds_toArray, List.set_cons_zero, List.set_cons_succ]
        refine take_lit (i := 7) rfl (by kernel_rfl) (by kernel_rfl) (by kernel_rfl) (fun _ _ _ h => h) (Or.inr ⟨by rfl, rfl⟩) (by assumption) ?_
        try simp only [Act.put, List.setIfInBounds_toArray, List.set_cons_zero, List.set_cons_succ]
        refine take_lit (i := 8) rfl (by kernel_rfl) (by kernel_rfl) (by kernel_rfl) (fun _ _ _ h => h) (Or.inr ⟨by rfl, rfl⟩) (by assumption) ?_
        try simp only [Act.put, List.setIfInBounds_toArray, List.set_cons_zero, List.set_cons_succ]
        refine take_lit (i := 9) rfl (by kernel_rfl) (by kernel_rfl) (by kernel_rfl) (fun _ _ _ h => h) (Or.inr ⟨by rfl, rfl⟩) (by assumption) ?_
        try simp only [Act.put, List.setIfInBounds_toArray, List.set_cons_zero, List.set_cons_succ]
        refine take_lit (i := 10) rfl (by kernel_rfl) (by kernel_rfl) (by kernel_rfl) (fun _ _ _ h => h) (Or.inr ⟨by rfl, rfl⟩) (by assumption) ?_
        try simp only [Act.put, List.setIfInBounds_toArray, List.set_cons_zero, List.set_cons_succ]
        refine take_lit (i := 11) rfl (by kernel_rfl) (by kernel_rfl) (by kernel_rfl) (fun _ _ _ h => h) (Or.inr ⟨by rfl, rfl⟩) (by assumption) ?_
        try simp only [Act.put, List.setIfInBounds_toArray, List.set_cons_zero, List.set_cons_succ]
        refine take_lit (i := 12) (v := ?_) rfl (by kernel_rfl) (by kernel_rfl) (by kernel_rfl) (fun _ _ _ h => h) (Or.inl ⟨by rfl, ?_⟩) (by assumption) ?_
        rotate_left
        · (intro w hSw; (try dsimp only at hSw); go_simp <;> with_reducible rfl)
        try simp only [Act.put, List.setIfInBounds_toArray, List.set_cons_zero, List.set_cons_succ]
        refine wpAnyH_done (by kernel_rfl) ?_ _
        refine NoPanic.normal ?_
        refine name_world (R := fun W => Exit.then _ _ _ _ W) (P := fun W => Below W3.heap.size W3 W) _ hHeld ?_
        clear hHeld
        intro W4 b4
        have b5 := bt b3 b4
        have r4 := r3.below b4 k2
        clear r3 b3 b4
        have hE : Hid (stepP (o, none) n = (o ++ [n.p], some n.p)) := rfl
        go_wp2_with (first
          | (have kk := r6; at_builtin; refine kP.append (.tmp 26) (.tmp 29) rfl rfl w.heap.size _ o rfl hO6 _ 1 n.p rfl r6 HL.out hz6 ?_; intro v7 W7 o7 g7; obtain ⟨a7, c7, rfl, _⟩ := Kd.own_at o7)
          | (have kk := r4; (with_reducible refine bsG (T := 56) (U := 36) (n := 1) [(0, .tmp 28)] (qcells n.p) ?_ ?_ ?_ ?_); (focus rfl); (focus rfl); (focus exact (fun w => bsP1 n.p w)); intro W6 r6 b6; obtain ⟨hB6, hO6⟩ := HOp.out _ (bt b5 b6); have hz6 : w.heap.size ≤ W6.heap.size := hB6.size; clear r4)
          | (have kk := r4; refine ldQ (.tmp 27) rfl rfl _ _ n.p rfl r4.ro.q ?_))
        have hB7 := below_keepO hB6 g7 (fun g hg => own_ne_lt hO6 (by omega)) hB6.size
        go_roundw
        case rel => exact ⟨j + 1, a7, c7, HJ.out, by first | rfl | go_num, by rw [HST.out, hE.out]; exact congrArg (fun z => Value.slice a7 z c7) (show o.length + 1 = (o ++ [n.p]).length by rw [List.length_append]; rfl), hB7, by rw [HST.out, hE.out]; have o8 := o7; (try rw [List.length_append] at o8); show kP.Own _ _ (.slice a7 (o ++ [n.p]).length c7) _; rw [List.length_append]; exact o8⟩
        case measure => subst h0; exact HM.out
      · obtain ⟨p, rfl, hqp⟩ := hpv (by omega)
        have h0' : ((j : Int) == 0) = false := by simp [h0]
        have hw1 : IntKind.i64.wrap ((j : Int) - 1) = ((j - 1 : Nat) : Int) := by simp [IntKind.wrap, IntKind.signed, IntKind.bits]; omega
        have hjm : ((j - 1 : Nat) : Int) < (K.length : Int) := by omega
        have HNE := run_neqQ p n.p
        have hq3 : LQ W3 g ((j - 1) * 81) p := rangeAt_below hqp b3 hg2
        clear hpv hz0 hj hqp
        have hcs : qB p n.p = true ∨ qB p n.p = false := by cases qB p n.p <;> simp
        generalize hqb : qB p n.p = qb at *
        refine wp_region_noPanic ?_
        refine wp_region_held_drew (S := fun W => Below W3.heap.size W3 W) (by kernel_rfl) ((Below.refl _ _).drew) (fun hHeld => ?_)
        refine take_lit (i := 0) (v := ?_) rfl (by kernel_rfl) (by kernel_rfl) (by kernel_rfl) (fun _ _ _ h => h) (Or.inl ⟨by rfl, ?_⟩) (by assumption) ?_
        rotate_left
        · (intro w hSw; (try dsimp only at hSw); go_simp <;> with_reducible rfl)
        try simp only [Act.put, List.setIfInBounds_toArray, List.set_cons_zero, List.set_cons_succ]
        refine take_lit (i := 1) (v := ?_) rfl (by kernel_rfl) (by kernel_rfl) (by kernel_rfl) (fun _ _ _ h => h) (Or.inl ⟨by rfl, ?_⟩) (by assumption) ?_
        rotate_left
        · (intro w hSw; (try dsimp only at hSw); have z := h0'; go_simp <;> with_reducible rfl)
        try simp only [Act.put, List.setIfInBounds_toArray, List.set_cons_zero, List.set_cons_succ]
        refine take_lit (i := 2) (v := ?_) rfl (by kernel_rfl) (by kernel_rfl) (by kernel_rfl) (fun _ _ _ h => h) (Or.inl ⟨by rfl, ?_⟩) (by assumption) ?_
        rotate_left
        · (intro w hSw; (try dsimp only at hSw); go_simp <;> with_reducible rfl)
        try simp only [Act.put, List.setIfInBounds_toArray, List.set_cons_zero, List.set_cons_succ]
        refine take_lit (i := 3) (v := ?_) rfl (by kernel_rfl) (by kernel_rfl) (by kernel_rfl) (fun _ _ _ h => h) (Or.inl ⟨by rfl, ?_⟩) (by assumption) ?_
        rotate_left
        · (intro w hSw; (try dsimp only at hSw); go_simp <;> with_reducible rfl)
        try simp only [Act.put, List.setIfInBounds_toArray, List.set_cons_zero, List.set_cons_succ]
        refine take_lit (i := 4) (v := ?_) rfl (by kernel_rfl) (by kernel_rfl) (by kernel_rfl) (fun _ _ _ h => h) (Or.inl ⟨by rfl, ?_⟩) (by assumption) ?_
        rotate_left
        · (intro w hSw; (try dsimp only at hSw); go_simp <;> with_reducible rfl)
        try simp only [Act.put, List.setIfInBounds_toArray, List.set_cons_zero, List.set_cons_succ]
        refine take_lit (i := 5) (v := ?_) rfl (by kernel_rfl) (by kernel_rfl) (by kernel_rfl) (fun _ _ _ h => h) (Or.inl ⟨by rfl, ?_⟩) (by assumption) ?_
        rotate_left
        · (intro w hSw; (try dsimp only at hSw); have z := hw1; go_simp <;> with_reducible rfl)
        try simp only [Act.put, List.setIfInBounds_toArray, List.set_cons_zero, List.set_cons_succ]
        refine take_lit (i := 6) (v := ?_) rfl (by kernel_rfl) (by kernel_rfl) (by kernel_rfl) (fun _ _ _ h => h) (Or.inl ⟨by rfl, ?_⟩) (by assumption) ?_
        rotate_left
        · (intro w hSw; (try dsimp only at hSw); have z := hjm; go_simp <;> with_reducible rfl)
        try simp only [Act.put, List.setIfInBounds_toArray, List.set_cons_zero, List.set_cons_succ]
        refine take_lit (i := 7) (v := ?_) rfl (by kernel_rfl) (by kernel_rfl) (by kernel_rfl) (fun _ _ _ h => h) (Or.inl ⟨by rfl, ?_⟩) (by assumption) ?_
        rotate_left
        · (intro w hSw; (try dsimp only at hSw); go_simp <;> with_reducible rfl)
        try simp only [Act.put, List.setIfInBounds_toArray, List.set_cons_zero, List.set_cons_succ]
        refine take_lit (i := 8) rfl (by kernel_rfl) (by kernel_rfl) (by kernel_rfl) (fun _ _ _ h => h) (yQ p (fun w h => LQ.below hq3 h hl3) (by rfl) rfl (by rfl)) (by assumption) ?_
        try simp only [Act.put, List.setIfInBounds_toArray, List.set_cons_zero, List.set_cons_succ]
        refine take_lit (i := 9) (v := ?_) rfl (by kernel_rfl) (by kernel_rfl) (by kernel_rfl) (fun _ _ _ h => h) (Or.inl ⟨by rfl, ?_⟩) (by assumption) ?_
        rotate_left
        · (intro w hSw; (try dsimp only at hSw); go_simp <;> with_reducible rfl)
        try simp only [Act.put, List.setIfInBounds_toArray, List.set_cons_zero, List.set_cons_succ]
        refine take_lit (i := 10) rfl (by kernel_rfl) (by kernel_rfl) (by kernel_rfl) (fun _ _ _ h => h) (yQ n.p (fun w h => (r3.below h k2).ro.q) (by rfl) rfl rfl) (by assumption) ?_
        try simp only [Act.put, List.setIfInBounds_toArray, List.set_cons_zero, List.set_cons_succ]
        refine take_lit (i := 11) (v := ?_) rfl (by kernel_rfl) (by kernel_rfl) (by kernel_rfl) (fun _ _ _ h => h) (Or.inl ⟨by rfl, ?_⟩) (by assumption) ?_
        rotate_left
        · (intro w hSw; (try dsimp only at hSw); go_simp <;> with_reducible rfl)
        try simp only [Act.put, List.setIfInBounds_toArray, List.set_cons_zero, List.set_cons_succ]
        refine take_lit (i := 12) (v := ?_) rfl (by kernel_rfl) (by kernel_rfl) (by kernel_rfl) (fun _ _ _ h => h) (Or.inl ⟨by rfl, ?_⟩) (by assumption) ?_
        rotate_left
        · (intro w hSw; (try dsimp only at hSw); go_simp <;> with_reducible rfl)
        try simp only [Act.put, List.setIfInBounds_toArray, List.set_cons_zero, List.set_cons_succ]
        refine wpAnyH_done (by kernel_rfl) ?_ _
        refine NoPanic.normal ?_
        refine name_world (R := fun W => Exit.then _ _ _ _ W) (P := fun W => Below W3.heap.size W3 W) _ hHeld ?_
        clear hHeld
        intro W4 b4
        have b5 := bt b3 b4
        have r4 := r3.below b4 k2
        clear r3 b3 b4 hq3
        cases qb with
        | true =>
          obtain ⟨hB6, hO6⟩ := HOp.out _ b5
          have hE : Hid (stepP (o, some p) n = (o, some n.p)) := by show _ = _; unfold stepP; dsimp only; rw [if_pos hqb]
          go_wp2_with fail
          go_roundw
          case rel => exact ⟨j + 1, ga, gc, HJ.out, by first | rfl | go_num, by rw [HST.out, hE.out], hB6, by rw [HST.out, hE.out]; exact hO6⟩
          case measure => (try rw [hw64]); simp only [intOf]; exact HM.out
        | false =>
          have hE : Hid (stepP (o, some p) n = (o ++ [n.p], some n.p)) := by show _ = _; unfold stepP; dsimp only; rw [if_neg (by rw [hqb]; decide)]
          go_wp2_with (first
            | (have kk := r6; at_builtin; refine kP.append (.tmp 26) (.tmp 29) rfl rfl w.heap.size _ o rfl hO6 _ 1 n.p rfl r6 HL.out hz6 ?_; intro v7 W7 o7 g7; obtain ⟨a7, c7, rfl, _⟩ := Kd.own_at o7)
            | (have kk := r4; (with_reducible refine bsG (T := 56) (U := 36) (n := 1) [(0, .tmp 28)] (qcells n.p) ?_ ?_ ?_ ?_); (focus rfl); (focus rfl); (focus exact (fun w => bsP1 n.p w)); intro W6 r6 b6; obtain ⟨hB6, hO6⟩ := HOp.out _ (bt b5 b6); have hz6 : w.heap.size ≤ W6.heap.size := hB6.size; clear r4)
            | (have kk := r4; refine ldQ (.tmp 27) rfl rfl _ _ n.p rfl r4.ro.q ?_))
          have hB7 := below_keepO hB6 g7 (fun g hg => own_ne_lt hO6 (by omega)) hB6.size
          go_roundw
          case rel => exact ⟨j + 1, a7, c7, HJ.out, by first | rfl | go_num, by rw [HST.out, hE.out]; exact congrArg (fun z => Value.slice a7 z c7) (show o.length + 1 = (o ++ [n.p]).length by rw [List.length_append]; rfl), hB7, by rw [HST.out, hE.out]; have o8 := o7; (try rw [List.length_append] at o8); show kP.Own _ _ (.slice a7 (o ++ [n.p]).length c7) _; rw [List.length_append]; exact o8⟩
          case measure => (try rw [hw64]); simp only [intOf]; exact HM.out
    · have hje : j = K.length := by omega
      subst hje
      rw [List.take_length] at hOp ⊢
      clear hlt hj HO
      go_wp2_with fail
      go_ret
      exact ⟨_, _, rfl, hOp, hB⟩
end Go.Proofs.Ythofoocknmkdjaa
