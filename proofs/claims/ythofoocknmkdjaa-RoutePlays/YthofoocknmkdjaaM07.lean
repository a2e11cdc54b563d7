/-
  The pairs of routes that stand in order, each once.
-/
import Derived.Test.YthofoocknmkdjaaM06
namespace Go.Proofs.Ythofoocknmkdjaa
open Go.RowKit Go.Maps Go.Shelf
set_option linter.unusedSimpArgs false
set_option linter.unusedVariables false
set_option maxRecDepth 20000
def kP : Kd Pr := ⟨qcells, 36, 56, 34, 48, qcells zeroQ, qcells_len, qcells_one, Try.underlying56, by kernel_rfl, qcells_len _, by decide, by decide⟩
theorem bsP1 (p : Pr) (w : World) : (Instr.buildSlice 56 1 #[(0, (Value.agg (qcells p).toArray))]).run Try.prog w = .ok (.slice (some ⟨w.heap.size, 0, none⟩) 1 1) (w.alloc (.cells (qcells p).toArray 36)) := by
  induction p using Pr.lits with | h =>
  show _ = _
  kernel_rfl
theorem run_neqQ (p q : Pr) (w : World) : (binOp .neq 36 (Value.agg (qcells p).toArray) (Value.agg (qcells q).toArray)).run Try.prog w = .ok (.bool (!qB p q)) w := by
  have h := eqQ 9996 p q w
  rw [run_neq_struct w, h]; rfl
theorem qB_refl (p : Pr) : qB p p = true := qB_iff.2 rfl
/-- One more route: its pair, unless the one ahead had it. -/
def stepP (x : List Pr × Option Pr) (n : Ro) : List Pr × Option Pr := (match x.2 with | none => x.1 ++ [n.p] | some q => if qB q n.p = true then x.1 else x.1 ++ [n.p], some n.p)
def pairsS (K : List Ro) : List Pr × Option Pr := K.foldl stepP ([], none)
def pairsR (K : List Ro) : List Pr := (pairsS K).1
theorem pairsS_take {K : List Ro} {j : Nat} (hj : j < K.length) : pairsS (K.take (j + 1)) = stepP (pairsS (K.take j)) K[j] := by
  unfold pairsS
  rw [List.take_succ_eq_append_getElem hj, List.foldl_append]
  rfl
theorem pairsS_last {K : List Ro} {j : Nat} (hj : j < K.length) : (pairsS (K.take (j + 1))).2 = some K[j].p := by
  rw [pairsS_take hj]
  rfl
theorem pairsS_len (K : List Ro) : ∀ j, j ≤ K.length → (pairsS (K.take j)).1.length ≤ j
  | 0, _ => by simp [pairsS]
  | j + 1, h => by
    have ih := pairsS_len K j (by omega)
    rw [pairsS_take (by omega)]
    unfold stepP
    dsimp only
    split
    · simp; omega
    · split
      · omega
      · simp; omega
/-- What is answered: pairs in memory of the call's own. -/
def ToldP (w : World) (P : List Pr) (e : Ending) (w' : World) : Prop := ∃ a c, e = .returned (.slice a P.length c) ∧ kP.Own w' w.heap.size (.slice a P.length c) P ∧ Below w.heap.size w w'
set_option maxHeartbeats 8000000 in
theorem pairs_any {w : World} {B : Nat} {a : Option Addr} {c : Nat} (K : List Ro) (hO : kN.Own w B (.slice a K.length c) K) (hK : K.length ≤ 1000000) : Calls Try.prog 45 #[.slice a K.length c] w (ToldP w (pairsR K)) := by
  have HO : Hid (∀ W, Below w.heap.size w W → kN.Own W B (.slice a K.length c) K) := fun W hW => own_below hO hW
  clear hO
  go_enter Try.func45, Try.ntmps45
  go_wp2_with fail
  go_loopw [3, 8] (fun v u wr => ∃ (j : Nat) (ga : Option Addr) (gc : Nat), j ≤ K.length ∧ u = .int .i64 j ∧ v = .slice ga (pairsS (K.take j)).1.length gc ∧ Below w.heap.size w wr ∧ kP.Own wr w.heap.size (.slice ga (pairsS (K.take j)).1.length gc) (pairsS (K.take j)).1) (fun _ u _ => K.length - (intOf u).toNat)
  case atStart => exact ⟨0, none, 0, Nat.zero_le _, rfl, rfl, Below.refl _ _, World.ownsRow_nil _ _ _ _⟩
  case round =>
    obtain ⟨j, ga, gc, hj, rfl, rfl, hB, hOp⟩ := hrel
    by_cases hlt : j < K.length
    · obtain ⟨g, rfl, hg1, hg2, hel⟩ := own_elem (HO.out wr hB) (fun e => by rw [e] at hlt; simp at hlt)
      have hq := hel j hlt
      have hji : (j : Int) < (K.length : Int) := by omega
      have hw64 : wrap64 ((j : Int) + 1) = (j : Int) + 1 := by unfold wrap64; omega
      have HM : Hid (K.length - ((j : Int) + 1).toNat < K.length - ((j : Int)).toNat) := meas hlt
      have HJ : Hid (j + 1 ≤ K.length) := hlt
      have HL : Hid ((pairsS (K.take j)).1.length ≤ 10000000) := Nat.le_trans (pairsS_len K j hj) (by omega)
      have hst := pairsS_take hlt
      have hpv : 0 < j → ∃ p, (pairsS (K.take j)).2 = some p ∧ LQ wr g ((j - 1) * 81) p := fun h0 => by
        have h1 : j - 1 < K.length := by omega
        refine ⟨K[j - 1].p, ?_, (hel (j - 1) h1).q⟩
        have := pairsS_last h1
        rwa [show j - 1 + 1 = j by omega] at this
      have hz0 : j = 0 → (pairsS (K.take j)).2 = none := fun h0 => by rw [h0]; rfl
      obtain ⟨n, hn⟩ : ∃ n, n = K[j]'hlt := ⟨_, rfl⟩
      replace hq : LS wr g (j * 81) n := by rw [hn]; exact hq
      replace hst : pairsS (K.take (j + 1)) = stepP (pairsS (K.take j)) n := by rw [hn]; exact hst
      have HOp : Hid (∀ W, Below wr.heap.size wr W → Below w.heap.size w W ∧ kP.Own W w.heap.size (.slice ga (pairsS (K.take j)).1.length gc) (pairsS (K.take j)).1) := fun W hW => ⟨bt hB hW, own_below hOp hW⟩
      have hsz := hB.size
      clear hel hg1 hn hB hOp HO hlt
      generalize pairsS (K.take j) = x at *
      have HST : Hid (pairsS (K.take (j + 1)) = stepP x n) := hst
      clear hst
      obtain ⟨o, l⟩ := x
      dsimp only at *
      go_upto_region 5 with (first
        | (have kk := r2; refine stS (.tmp 5) (.tmp 12) rfl rfl g2 n _ rfl rfl r2 ?_; intro W3 g3 r3; have b3 := grown_below g3 hB2 hge2 hB2.size; clear r2)
        | (refine alG infoRz rfl rfl ?_; intro g2 W2 hge2 hgl2 hB2 r2)
        | (refine ldS (.tmp 11) rfl rfl _ _ n rfl hq ?_))
      have k2 := r3.lt
      have hl3 : g < W3.heap.size := Nat.lt_of_lt_of_le hg2 b3.size
      by_cases h0 : j = 0
      · obtain rfl := hz0 h0
        have h0' : ((j : Int) == 0) = true := by simp [h0]
        clear hpv hz0 hj
        refine wp_region_noPanic ?_
        refine wp_region_held_drew (S := fun W => Below W3.heap.size W3 W) (by kernel_rfl) ((Below.refl _ _).drew) (fun hHeld => ?_)
        refine take_lit (i := 0) (v := ?_) rfl (by kernel_rfl) (by kernel_rfl) (by kernel_rfl) (fun _ _ _ h => h) (Or.inl ⟨by rfl, ?_⟩) (by assumption) ?_
        rotate_left
        · (intro w hSw; (try dsimp only at hSw); go_simp <;> with_reducible rfl)
        try simp only [Act.put, List.setIfInBounds_toArray, List.set_cons_zero, List.set_cons_succ]
        refine take_lit (i := 1) (v := ?_) rfl (by kernel_rfl) (by kernel_rfl) (by kernel_rfl) (fun _ _ _ h => h) (Or.inl ⟨by rfl, ?_⟩) (by assumption) ?_
        rotate_left
        · (intro w hSw; (try dsimp only at hSw); have z := h0'; go_simp <;> with_reducible rfl)
        try simp only [Act.put, List.setIfInBounds_toArray, List.set_cons_zero, List.set_cons_succ]
        refine take_lit (i := 2) (v := ?_) rfl (by kernel_rfl) (by kernel_rfl) (by kernel_rfl) (fun _ _ _ h => h) (Or.inl ⟨by rfl, ?_⟩) (by assumption) ?_
        rotate_left
        · (intro w hSw; (try dsimp only at hSw); go_simp <;> with_reducible rfl)
        try simp only [Act.put, List.setIfInBounds_toArray, List.set_cons_zero, List.set_cons_succ]
        refine take_lit (i := 3) rfl (by kernel_rfl) (by kernel_rfl) (by kernel_rfl) (fun _ _ _ h => h) (Or.inr ⟨by rfl, rfl⟩) (by assumption) ?_
        try simp only [Act.put, List.setIfInBounds_toArray, List.set_cons_zero, List.set_cons_succ]
        refine take_lit (i := 4) rfl (by kernel_rfl) (by kernel_rfl) (by kernel_rfl) (fun _ _ _ h => h) (Or.inr ⟨by rfl, rfl⟩) (by assumption) ?_
        try simp only [Act.put, List.setIfInBounds_toArray, List.set_cons_zero, List.set_cons_succ]
        refine take_lit (i := 5) rfl (by kernel_rfl) (by kernel_rfl) (by kernel_rfl) (fun _ _ _ h => h) (Or.inr ⟨by rfl, rfl⟩) (by assumption) ?_
        try simp only [Act.put, List.setIfInBounds_toArray, List.set_cons_zero, List.set_cons_succ]
        refine take_lit (i := 6) rfl (by kernel_rfl) (by kernel_rfl) (by kernel_rfl) (fun _ _ _ h => h) (Or.inr ⟨by rfl, rfl⟩) (by assumption) ?_
        try simp only [Act.put, List.setIfInBounds_toArray, List.set_cons_zero, List.set_cons_succ]
        refine take_lit (i := 7) rfl (by kernel_rfl) (by kernel_rfl) (by kernel_rfl) (fun _ _ _ h => h) (Or.inr ⟨by rfl, rfl⟩) (by assumption) ?_
        try simp only [Act.put, List.setIfInBounds_toArray, List.set_cons_zero, List.set_cons_succ]
        refine take_lit (i := 8) rfl (by kernel_rfl) (by kernel_rfl) (by kernel_rfl) (fun _ _ _ h => h) (Or.inr ⟨by rfl, rfl⟩) (by assumption) ?_
        try simp only [Act.put, List.setIfInBounds_toArray, List.set_cons_zero, List.set_cons_succ]
        refine take_lit (i := 9) rfl (by kernel_rfl) (by kernel_rfl) (by kernel_rfl) (fun _ _ _ h => h) (Or.inr ⟨by rfl, rfl⟩) (by assumption) ?_
        try simp only [Act.put, List.setIfInBounds_toArray, List.set_cons_zero, List.set_cons_succ]
        refine take_lit (i := 10) rfl (by kernel_rfl) (by kernel_rfl) (by kernel_rfl) (fun _ _ _ h => h) (Or.inr ⟨by rfl, rfl⟩) (by assumption) ?_
        try simp only [Act.put, List.setIfInBounds_toArray, List.set_cons_zero, List.set_cons_succ]
        refine take_lit (i := 11) rfl (by kernel_rfl) (by kernel_rfl) (by kernel_rfl) (fun _ _ _ h => h) (Or.inr ⟨by rfl, rfl⟩) (by assumption) ?_
        try simp only [Act.put, List.setIfInBounds_toArray, List.set_cons_zero, List.set_cons_succ]
        refine take_lit (i := 12) (v := ?_) rfl (by kernel_rfl) (by kernel_rfl) (by kernel_rfl) (fun _ _ _ h => h) (Or.inl ⟨by rfl, ?_⟩) (by assumption) ?_
        rotate_left
        · (intro w hSw; (try dsimp only at hSw); go_simp <;> with_reducible rfl)
        try simp only [Act.put, List.setIfInBounds_toArray, List.set_cons_zero, List.set_cons_succ]
        refine wpAnyH_done (by kernel_rfl) ?_ _
        refine NoPanic.normal ?_
        refine name_world (R := fun W => Exit.then _ _ _ _ W) (P := fun W => Below W3.heap.size W3 W) _ hHeld ?_
        clear hHeld
        intro W4 b4
        have b5 := bt b3 b4
        have r4 := r3.below b4 k2
        clear r3 b3 b4
        have hE : Hid (stepP (o, none) n = (o ++ [n.p], some n.p)) := rfl
        go_wp2_with (first
          | (have kk := r6; at_builtin; refine kP.append (.tmp 26) (.tmp 29) rfl rfl w.heap.size _ o rfl hO6 _ 1 n.p rfl r6 HL.out hz6 ?_; intro v7 W7 o7 g7; obtain ⟨a7, c7, rfl, _⟩ := Kd.own_at o7)
          | (have kk := r4; (with_reducible refine bsG (T := 56) (U := 36) (n := 1) [(0, .tmp 28)] (qcells n.p) ?_ ?_ ?_ ?_); (focus rfl); (focus rfl); (focus exact (fun w => bsP1 n.p w)); intro W6 r6 b6; obtain ⟨hB6, hO6⟩ := HOp.out _ (bt b5 b6); have hz6 : w.heap.size ≤ W6.heap.size := hB6.size; clear r4)
          | (have kk := r4; refine ldQ (.tmp 27) rfl rfl _ _ n.p rfl r4.ro.q ?_))
        have hB7 := below_keepO hB6 g7 (fun g hg => own_ne_lt hO6 (by omega)) hB6.size
        go_roundw
        case rel => exact ⟨j + 1, a7, c7, HJ.out, by first | rfl | go_num, by rw [HST.out, hE.out]; exact congrArg (fun z => Value.slice a7 z c7) (show o.length + 1 = (o ++ [n.p]).length by rw [List.length_append]; rfl), hB7, by rw [HST.out, hE.out]; have o8 := o7; (try rw [List.length_append] at o8); show kP.Own _ _ (.slice a7 (o ++ [n.p]).length c7) _; rw [List.length_append]; exact o8⟩
        case measure => subst h0; exact HM.out
      · obtain ⟨p, rfl, hqp⟩ := hpv (by omega)
        have h0' : ((j : Int) == 0) = false := by simp [h0]
        have hw1 : IntKind.i64.wrap ((j : Int) - 1) = ((j - 1 : Nat) : Int) := by simp [IntKind.wrap, IntKind.signed, IntKind.bits]; omega
        have hjm : ((j - 1 : Nat) : Int) < (K.length : Int) := by omega
        have HNE := run_neqQ p n.p
        have hq3 : LQ W3 g ((j - 1) * 81) p := rangeAt_below hqp b3 hg2
        clear hpv hz0 hj hqp
        have hcs : qB p n.p = true ∨ qB p n.p = false := by cases qB p n.p <;> simp
        generalize hqb : qB p n.p = qb at *
        refine wp_region_noPanic ?_
        refine wp_region_held_drew (S := fun W => Below W3.heap.size W3 W) (by kernel_rfl) ((Below.refl _ _).drew) (fun hHeld => ?_)
        refine take_lit (i := 0) (v := ?_) rfl (by kernel_rfl) (by kernel_rfl) (by kernel_rfl) (fun _ _ _ h => h) (Or.inl ⟨by rfl, ?_⟩) (by assumption) ?_
        rotate_left
        · (intro w hSw; (try dsimp only at hSw); go_simp <;> with_reducible rfl)
        try simp only [Act.put, List.setIfInBounds_toArray, List.set_cons_zero, List.set_cons_succ]
        refine take_lit (i := 1) (v := ?_) rfl (by kernel_rfl) (by kernel_rfl) (by kernel_rfl) (fun _ _ _ h => h) (Or.inl ⟨by rfl, ?_⟩) (by assumption) ?_
        rotate_left
        · (intro w hSw; (try dsimp only at hSw); have z := h0'; go_simp <;> with_reducible rfl)
        try simp only [Act.put, List.setIfInBounds_toArray, List.set_cons_zero, List.set_cons_succ]
        refine take_lit (i := 2) (v := ?_) rfl (by kernel_rfl) (by kernel_rfl) (by kernel_rfl) (fun _ _ _ h => h) (Or.inl ⟨by rfl, ?_⟩) (by assumption) ?_
        rotate_left
        · (intro w hSw; (try dsimp only at hSw); go_simp <;> with_reducible rfl)
        try simp only [Act.put, List.setIfInBounds_toArray, List.set_cons_zero, List.set_cons_succ]
        refine take_lit (i := 3) (v := ?_) rfl (by kernel_rfl) (by kernel_rfl) (by kernel_rfl) (fun _ _ _ h => h) (Or.inl ⟨by rfl, ?_⟩) (by assumption) ?_
        rotate_left
        · (intro w hSw; (try dsimp only at hSw); go_simp <;> with_reducible rfl)
        try simp only [Act.put, List.setIfInBounds_toArray, List.set_cons_zero, List.set_cons_succ]
        refine take_lit (i := 4) (v := ?_) rfl (by kernel_rfl) (by kernel_rfl) (by kernel_rfl) (fun _ _ _ h => h) (Or.inl ⟨by rfl, ?_⟩) (by assumption) ?_
        rotate_left
        · (intro w hSw; (try dsimp only at hSw); go_simp <;> with_reducible rfl)
        try simp only [Act.put, List.setIfInBounds_toArray, List.set_cons_zero, List.set_cons_succ]
        refine take_lit (i := 5) (v := ?_) rfl (by kernel_rfl) (by kernel_rfl) (by kernel_rfl) (fun _ _ _ h => h) (Or.inl ⟨by rfl, ?_⟩) (by assumption) ?_
        rotate_left
        · (intro w hSw; (try dsimp only at hSw); have z := hw1; go_simp <;> with_reducible rfl)
        try simp only [Act.put, List.setIfInBounds_toArray, List.set_cons_zero, List.set_cons_succ]
        refine take_lit (i := 6) (v := ?_) rfl (by kernel_rfl) (by kernel_rfl) (by kernel_rfl) (fun _ _ _ h => h) (Or.inl ⟨by rfl, ?_⟩) (by assumption) ?_
        rotate_left
        · (intro w hSw; (try dsimp only at hSw); have z := hjm; go_simp <;> with_reducible rfl)
        try simp only [Act.put, List.setIfInBounds_toArray, List.set_cons_zero, List.set_cons_succ]
        refine take_lit (i := 7) (v := ?_) rfl (by kernel_rfl) (by kernel_rfl) (by kernel_rfl) (fun _ _ _ h => h) (Or.inl ⟨by rfl, ?_⟩) (by assumption) ?_
        rotate_left
        · (intro w hSw; (try dsimp only at hSw); go_simp <;> with_reducible rfl)
        try simp only [Act.put, List.setIfInBounds_toArray, List.set_cons_zero, List.set_cons_succ]
        refine take_lit (i := 8) rfl (by kernel_rfl) (by kernel_rfl) (by kernel_rfl) (fun _ _ _ h => h) (yQ p (fun w h => LQ.below hq3 h hl3) (by rfl) rfl (by rfl)) (by assumption) ?_
        try simp only [Act.put, List.setIfInBounds_toArray, List.set_cons_zero, List.set_cons_succ]
        refine take_lit (i := 9) (v := ?_) rfl (by kernel_rfl) (by kernel_rfl) (by kernel_rfl) (fun _ _ _ h => h) (Or.inl ⟨by rfl, ?_⟩) (by assumption) ?_
        rotate_left
        · (intro w hSw; (try dsimp only at hSw); go_simp <;> with_reducible rfl)
        try simp only [Act.put, List.setIfInBounds_toArray, List.set_cons_zero, List.set_cons_succ]
        refine take_lit (i := 10) rfl (by kernel_rfl) (by kernel_rfl) (by kernel_rfl) (fun _ _ _ h => h) (yQ n.p (fun w h => (r3.below h k2).ro.q) (by rfl) rfl rfl) (by assumption) ?_
        try simp only [Act.put, List.setIfInBounds_toArray, List.set_cons_zero, List.set_cons_succ]
        refine take_lit (i := 11) (v := ?_) rfl (by kernel_rfl) (by kernel_rfl) (by kernel_rfl) (fun _ _ _ h => h) (Or.inl ⟨by rfl, ?_⟩) (by assumption) ?_
        rotate_left
        · (intro w hSw; (try dsimp only at hSw); go_simp <;> with_reducible rfl)
        try simp only [Act.put, List.setIfInBounds_toArray, List.set_cons_zero, List.set_cons_succ]
        refine take_lit (i := 12) (v := ?_) rfl (by kernel_rfl) (by kernel_rfl) (by kernel_rfl) (fun _ _ _ h => h) (Or.inl ⟨by rfl, ?_⟩) (by assumption) ?_
        rotate_left
        · (intro w hSw; (try dsimp only at hSw); go_simp <;> with_reducible rfl)
        try simp only [Act.put, List.setIfInBounds_toArray, List.set_cons_zero, List.set_cons_succ]
        refine wpAnyH_done (by kernel_rfl) ?_ _
        refine NoPanic.normal ?_
        refine name_world (R := fun W => Exit.then _ _ _ _ W) (P := fun W => Below W3.heap.size W3 W) _ hHeld ?_
        clear hHeld
        intro W4 b4
        have b5 := bt b3 b4
        have r4 := r3.below b4 k2
        clear r3 b3 b4 hq3
        cases qb with
        | true =>
          obtain ⟨hB6, hO6⟩ := HOp.out _ b5
          have hE : Hid (stepP (o, some p) n = (o, some n.p)) := by show _ = _; unfold stepP; dsimp only; rw [if_pos hqb]
          go_wp2_with fail
          go_roundw
          case rel => exact ⟨j + 1, ga, gc, HJ.out, by first | rfl | go_num, by rw [HST.out, hE.out], hB6, by rw [HST.out, hE.out]; exact hO6⟩
          case measure => (try rw [hw64]); simp only [intOf]; exact HM.out
        | false =>
          have hE : Hid (stepP (o, some p) n = (o ++ [n.p], some n.p)) := by show _ = _; unfold stepP; dsimp only; rw [if_neg (by rw [hqb]; decide)]
          go_wp2_with (first
            | (have kk := r6; at_builtin; refine kP.append (.tmp 26) (.tmp 29) rfl rfl w.heap.size _ o rfl hO6 _ 1 n.p rfl r6 HL.out hz6 ?_; intro v7 W7 o7 g7; obtain ⟨a7, c7, rfl, _⟩ := Kd.own_at o7)
            | (have kk := r4; (with_reducible refine bsG (T := 56) (U := 36) (n := 1) [(0, .tmp 28)] (qcells n.p) ?_ ?_ ?_ ?_); (focus rfl); (focus rfl); (focus exact (fun w => bsP1 n.p w)); intro W6 r6 b6; obtain ⟨hB6, hO6⟩ := HOp.out _ (bt b5 b6); have hz6 : w.heap.size ≤ W6.heap.size := hB6.size; clear r4)
            | (have kk := r4; refine ldQ (.tmp 27) rfl rfl _ _ n.p rfl r4.ro.q ?_))
          have hB7 := below_keepO hB6 g7 (fun g hg => own_ne_lt hO6 (by omega)) hB6.size
          go_roundw
          case rel => exact ⟨j + 1, a7, c7, HJ.out, by first | rfl | go_num, by rw [HST.out, hE.out]; exact congrArg (fun z => Value.slice a7 z c7) (show o.length + 1 = (o ++ [n.p]).length by rw [List.length_append]; rfl), hB7, by rw [HST.out, hE.out]; have o8 := o7; (try rw [List.length_append] at o8); show kP.Own _ _ (.slice a7 (o ++ [n.p]).length c7) _; rw [List.length_append]; exact o8⟩
          case measure => (try rw [hw64]); simp only [intOf]; exact HM.out
    · have hje : j = K.length := by omega
      subst hje
      rw [List.take_length] at hOp ⊢
      clear hlt hj HO
      go_wp2_with fail
      go_ret
      exact ⟨_, _, rfl, hOp, hB⟩
end Go.Proofs.Ythofoocknmkdjaa

namespace Go.Proofs.Ythofoocknmkdjaa
open Go.RowKit Go.Maps Go.Shelf
set_option linter.unusedSimpArgs false
set_option linter.unusedVariables false
set_option maxRecDepth 20000
theorem allPairs_any {w : World} {t mb : Nat} {most : Int} {L : List Ro} (h : Tb w t mb most L) : Calls Try.prog 24 #[.pointer (some ⟨t, 0, none⟩)] w fun e w' => ∃ K, K.Perm L ∧ Asc K ∧ ToldP w (pairsR K) e w' := by
  have hL := list_any h
  have hll := h.ll
  clear h
  go_enter Try.func24, Try.ntmps24
  go_wp2_with (first
    | (have kk := b1; go_at_call 45; refine (pairs_any K hO (by rw [hp.length_eq]; exact hll)).mono ?_; rintro e w2 ⟨a2, c2, rfl, hO2, b2⟩)
    | (go_at_call 14; refine hL.mono ?_; clear hL; rintro e w1 ⟨va, vc, K, rfl, hp, ha, hO, b1⟩))
  go_ret
  exact ⟨K, hp, ha, a2, c2, rfl, Kd.own_up hO2 b1.size, bt b1 b2⟩
theorem run_fnS (k : Nat) (caps : Array Value) (w : World) : (binOp .eql 68 (.func (.func k) #[] caps) .nilFunc).run Try.prog w = .ok (.bool false) w := by kernel_rfl
/-- What is told of a route. -/
def costF (cost : Ro → Int) (n : Ro) : Ro := n.sM (cost n)
def costB (cost : Ro → Int) (n : Ro) : Bool := !decide (cost n = n.m)
def chgR (cost : Ro → Int) (K : List Ro) : List Ro := (K.filter (costB cost)).map (costF cost)
theorem upd_filter {f : Ro → Ro} {so : Ro → Bool} {L K : List Ro} {j : Nat} (hj : j < K.length) : updR f L ((K.take (j + 1)).filter so) = if so K[j] = true then putN (updR f L ((K.take j).filter so)) (f K[j]) else updR f L ((K.take j).filter so) := by
  rw [List.take_succ_eq_append_getElem hj, List.filter_append]
  unfold updR
  rw [List.foldl_append]
  by_cases h : so K[j] = true
  · rw [if_pos h]; simp [List.filter_cons, h]
  · rw [if_neg h]; simp [List.filter_cons, h]
theorem chg_take {cost : Ro → Int} {K : List Ro} {j : Nat} (hj : j < K.length) : chgR cost (K.take (j + 1)) = if costB cost K[j] = true then chgR cost (K.take j) ++ [costF cost K[j]] else chgR cost (K.take j) := by
  unfold chgR
  rw [List.take_succ_eq_append_getElem hj, List.filter_append, List.map_append]
  by_cases h : costB cost K[j] = true
  · rw [if_pos h]; simp [List.filter_cons, h]
  · rw [if_neg h]; simp [List.filter_cons, h]
theorem chg_len (cost : Ro → Int) (K : List Ro) : (chgR cost K).length ≤ K.length := by
  unfold chgR
  rw [List.length_map]
  exact List.length_filter_le _ _
theorem own_two {w w' : World} {B g n c : Nat} {o : Option Nat} {K : List Ro} (h : kN.Own w B (.slice (some ⟨g, 0, none⟩) n c) K) (hg : w.grownBy w' o) (hne : o ≠ some g) : kN.Own w' B (.slice (some ⟨g, 0, none⟩) n c) K := by
  rcases h.2 with ⟨e, _⟩ | ⟨g', cap, cur, e, hB, hh, hr⟩
  · cases e
  · have e1 : g' = g := by cases e; rfl
    subst e1
    exact ⟨h.1, .inr ⟨g', cap, cur, e, hB, (hg.block g' (Array.getElem?_eq_some_iff.1 hh).1 (fun e => hne e.symm)).trans hh, hr⟩⟩
theorem Turn.grow {w w1 w2 : World} {t mb : Nat} {most : Int} {L : List Ro} {o : Option Nat} (h : Turn w w1 t mb most L) (hg : w1.grownBy w2 o) (ho : ∀ b, o = some b → w.heap.size ≤ b) (ht : t < w.heap.size) (hm : mb < w.heap.size) : Turn w w2 t mb most L :=
  ⟨⟨h.tb.row.keepO hg (fun e => by have := ho t e; omega), h.tb.map.same (hg.block mb h.tb.map.lt (fun e => by have := ho mb e.symm; omega)), h.tb.nok, h.tb.ll⟩, hg.os.trans h.gr.os, hg.tape.trans h.gr.tape, hg.output.trans h.gr.output, Nat.le_trans h.gr.size hg.size, fun i hi hne => (hg.block i (Nat.lt_of_lt_of_le hi h.gr.size) (fun e => by have := ho i e.symm; omega)).trans (h.gr.block i hi hne)⟩
/-- What the loop of Reckon holds. -/
structure ReI (w w1 : World) (t mb : Nat) (most : Int) (cost : Ro → Int) (L K : List Ro) (B : Nat) (v u : Value) (j : Nat) (wr : World) : Prop where
  le : j ≤ K.length
  tn : Turn w wr t mb most (updR (costF cost) L ((K.take j).filter (costB cost)))
  ow : kN.Own wr B v K
  ch : kN.Own wr w1.heap.size u (chgR cost (K.take j))
  sz : w1.heap.size ≤ wr.heap.size
theorem ReI.below {w w1 : World} {t mb : Nat} {most : Int} {cost : Ro → Int} {L K : List Ro} {B : Nat} {v u : Value} {j : Nat} {wr W : World} (h : ReI w w1 t mb most cost L K B v u j wr) (hb : Below wr.heap.size wr W) : ReI w w1 t mb most cost L K B v u j W :=
  ⟨h.le, h.tn.post hb, own_below h.ow hb, own_below h.ch hb, Nat.le_trans h.sz hb.size⟩
theorem costF_k (cost : Ro → Int) (n : Ro) : (costF cost n).k = n.k := rfl
theorem costF_ok {cost : Ro → Int} {n : Ro} (h : n.ok) (h0 : 0 ≤ cost n) (h1 : cost n < 65536) : (costF cost n).ok := ⟨h.q0, h.q1, h.r0, h.r1, h0, h1, h.u0, h.u1, h.d0, h.d1⟩
set_option maxHeartbeats 8000000 in
theorem reckon_any {w : World} {t mb : Nat} {most : Int} {L : List Ro} (h : Tb w t mb most L) (cost : Ro → Int) (k : Nat) (HE : ∀ args w, (callFunc k args).run Try.prog w = .ok (.enter k args) w) (hc : ∀ n W, n.ok → Calls Try.prog k #[rV n] W (Gives W (.int .u16 (cost n)))) (h0 : ∀ n, 0 ≤ cost n) (h1 : ∀ n : Ro, n.ok → cost n < 65536) :
    Calls Try.prog 29 #[.pointer (some ⟨t, 0, none⟩), .func (.func k) #[] #[]] w fun e w' => ∃ a c K, e = .returned (.slice a (pairsR (chgR cost K)).length c) ∧ K.Perm L ∧ Asc K ∧ kP.Own w' w.heap.size (.slice a (pairsR (chgR cost K)).length c) (pairsR (chgR cost K)) ∧ Turn w w' t mb most (mapR (costF cost) (costB cost) L) := by
  have hn := run_fnS k #[]
  have hL := list_any h
  have hok := h.nok
  have hwf := h.map.wf
  have hnd := h.map.nd
  have hll := h.ll
  have HT : Hid (Tb w t mb most L) := h
  clear h
  go_enter Try.func29, Try.ntmps29
  go_wp2_with (go_at_call 14; refine hL.mono ?_; clear hL; rintro e w1 ⟨va, vc, K, rfl, hp, hasc, hO, b1⟩)
  have hKL : ∀ n ∈ K, n ∈ L := fun n hn => hp.mem_iff.1 hn
  have hKn : K.length ≤ 1000000 := by rw [hp.length_eq]; exact hll
  have HF : Hid (updR (costF cost) L (K.filter (costB cost)) = mapR (costF cost) (costB cost) L) := updR_eq (f := costF cost) (fun _ => rfl) hnd (hp.filter _)
  have HPa : Hid (K.Perm L ∧ Asc K) := ⟨hp, hasc⟩
  have HU : ReI w w1 t mb most cost L K w.heap.size (.slice va K.length vc) (.slice none 0 0) 0 w1 := ⟨Nat.zero_le _, Turn.of HT.out b1, hO, World.ownsRow_nil _ _ _ _, Nat.le_refl _⟩
  have HPut : Hid (∀ (j : Nat) (wr : World) (u : Value) (hj : j < K.length), ReI w w1 t mb most cost L K w.heap.size (.slice va K.length vc) u j wr → costB cost K[j] = true → ∀ W, Below wr.heap.size wr W → Calls Try.prog 47 #[.pointer (some ⟨t, 0, none⟩), rV (costF cost K[j])] W fun e w' => e = .returned (.tuple #[]) ∧ Turn w w' t mb most (updR (costF cost) L ((K.take (j + 1)).filter (costB cost))) ∧ kN.Own w' w.heap.size (.slice va K.length vc) K ∧ kN.Own w' w1.heap.size u (chgR cost (K.take j)) ∧ W.heap.size ≤ w'.heap.size ∧ W.grownBy w' (some mb)) := fun j wr u hj hu hb W hW => by
    have hmem := List.getElem_mem hj
    have hu' := hu.below hW
    have e1 := upd_filter (f := costF cost) (so := costB cost) (L := L) hj
    rw [if_pos hb] at e1
    have hlen : (putN (updR (costF cost) L ((K.take j).filter (costB cost))) (costF cost K[j])).length ≤ 1000000 := by
      rw [← e1, updR_len (f := costF cost) (fun _ => rfl) (fun n hn => mem_any (hKL n (List.mem_of_mem_take (List.mem_filter.1 hn).1)))]
      exact hll
    refine (put_any hu'.tn.tb (costF cost K[j]) (by rw [costF_k]; exact hwf _ (hKL _ hmem)) (costF_ok (hok _ (hKL _ hmem)) (h0 _) (h1 _ (hok _ (hKL _ hmem)))) hlen).mono ?_
    rintro e w' ⟨rfl, hT2⟩
    refine ⟨rfl, ?_, hT2.own hu'.tn.tb hu'.ow, hT2.own hu'.tn.tb hu'.ch, hT2.gr.size, hT2.gr⟩
    rw [e1]
    exact hu'.tn.trans hT2
  have HCo : Hid (∀ (j : Nat) (hj : j < K.length) (W : World), Calls Try.prog k #[rV K[j]] W (Gives W (.int .u16 (cost K[j])))) := fun j hj W => hc _ W (hok _ (hKL _ (List.getElem_mem hj)))
  have hmb : mb < w1.heap.size := Nat.lt_of_lt_of_le HT.out.map.lt b1.size
  have HTM : Hid (t < w.heap.size ∧ mb < w.heap.size) := ⟨HT.out.lt, HT.out.map.lt⟩
  have HgK : Hid (K ≠ [] → ∃ g, va = some ⟨g, 0, none⟩ ∧ g < w1.heap.size) := fun hne => by
    obtain ⟨g, e, _, h2, _⟩ := own_elem hO hne
    exact ⟨g, e, h2⟩
  have hsz1 : w.heap.size ≤ w1.heap.size := b1.size
  clear hok hwf hnd hll hp hasc hKL hO HT h0 h1 hc
  go_loopw [5, 14] (fun v u wr => ∃ (j : Nat) (ga : Option Addr) (gl gc : Nat), u = .int .i64 j ∧ v = .slice ga gl gc ∧ ReI w w1 t mb most cost L K w.heap.size (.slice va K.length vc) (.slice ga gl gc) j wr) (fun _ u _ => K.length - (intOf u).toNat)
  case atStart => exact ⟨0, none, 0, 0, rfl, rfl, HU⟩
  case round =>
    clear HU
    obtain ⟨j, ga, gl, gc, rfl, rfl, hu⟩ := hrel
    have hj := hu.le
    by_cases hlt : j < K.length
    · have hKne : K ≠ [] := fun e => by rw [e] at hlt; simp at hlt
      obtain ⟨g, rfl, hg1, hg2, hel⟩ := own_elem hu.ow hKne
      have HgL : Hid (g < w1.heap.size) := by
        obtain ⟨g', e, h2⟩ := HgK.out hKne
        cases e
        exact h2
      have hq := hel j hlt
      have hji : (j : Int) < (K.length : Int) := by omega
      have hw64 : wrap64 ((j : Int) + 1) = (j : Int) + 1 := by unfold wrap64; omega
      have HM : Hid (K.length - ((j : Int) + 1).toNat < K.length - ((j : Int)).toNat) := meas hlt
      have HJ : Hid (j + 1 ≤ K.length) := hlt
      have hP := fun hb => HPut.out j wr _ hlt hu hb
      have hC := HCo.out j hlt
      have hUp := upd_filter (f := costF cost) (so := costB cost) (L := L) hlt
      have hCh := chg_take (cost := cost) hlt
      obtain ⟨n, hn⟩ : ∃ n, n = K[j]'hlt := ⟨_, rfl⟩
      rw [← hn] at hq hP hC hUp hCh
      have HSt : Hid (∀ W, Below wr.heap.size wr W → ReI w w1 t mb most cost L K w.heap.size (.slice (some ⟨g, 0, none⟩) K.length vc) (.slice ga gl gc) j W) := fun W hW => hu.below hW
      have hgl : gl ≤ 1000000 := by
        have e := own_get hu.ch
        have := chg_len cost (K.take j)
        rw [List.length_take] at this
        omega
      have hsz := hu.sz
      clear HPut HCo hel hu hg1 hj hn hlt hKn hKne
      cases hcb : costB cost n with
      | false =>
        rw [hcb] at hUp hCh
        have hne : (cost n != n.m) = false := by unfold costB at hcb; simpa using hcb
        have HUp : Hid (updR (costF cost) L ((K.take (j + 1)).filter (costB cost)) = updR (costF cost) L ((K.take j).filter (costB cost)) ∧ chgR cost (K.take (j + 1)) = chgR cost (K.take j)) := ⟨hUp, hCh⟩
        clear hP hUp hCh hcb
        generalize cost n = m at *
        go_wp2_with (first
          | (have kk := b3; refine hC _ |>.mono ?_; rintro e w5 ⟨rfl, b5⟩; have c61 := ((r3.below b5 r3.lt).cell 61).trans (oc61 n); replace b5 := bt b3 b5)
          | (have kk := b3; refine ldS (.tmp 7) rfl rfl _ _ n rfl r3.ro ?_)
          | (have kk := r2; refine stS (.tmp 7) (.tmp 17) rfl rfl g2 n _ rfl rfl r2 ?_; intro W3 g3 r3; have b3 := grown_below g3 hB2 hge2 hB2.size; clear r2)
          | (refine alG infoRz rfl rfl ?_; intro g2 W2 hge2 hgl2 hB2 r2)
          | (refine ldS (.tmp 16) rfl rfl _ _ n rfl hq ?_))
        have hu2 := HSt.out _ b5
        go_roundw
        case rel => exact ⟨j + 1, ga, gl, gc, by first | rfl | go_num, rfl, ⟨HJ.out, by rw [HUp.out.1]; exact hu2.tn, hu2.ow, by rw [HUp.out.2]; exact hu2.ch, hu2.sz⟩⟩
        case measure => (try rw [hw64]); simp only [intOf]; exact HM.out
      | true =>
        replace hP := hP hcb
        rw [hcb] at hUp hCh
        have hne : (cost n != n.m) = true := by unfold costB at hcb; simpa using hcb
        have HCh : Hid (chgR cost (K.take (j + 1)) = chgR cost (K.take j) ++ [costF cost n]) := hCh
        have HX : Hid (costF cost n = n.sM (cost n)) := rfl
        clear hUp hCh hcb
        generalize hx : costF cost n = x at *
        generalize cost n = m at *
        go_wp2_with (first
          | (have kk := r9; at_builtin; refine kN.append (.tmp 30) (.tmp 32) rfl rfl w1.heap.size _ (chgR cost (K.take j)) rfl o9 _ 1 x rfl r9 hl9 hz9 ?_; intro v10 W10 o10 g10; obtain ⟨a10, c10, rfl, _⟩ := Kd.own_at o10)
          | (have kk := q8; (with_reducible refine bsG (T := 28) (U := 41) (n := 1) [(0, .tmp 31)] (ocs x) ?_ ?_ ?_ ?_); (focus rfl); (focus rfl); (focus exact (fun w => bsN1 x w)); intro W9 r9 b9; have o9 := own_below oc8 b9; have ow9 := own_below ow8 b9; have hz9 : w1.heap.size ≤ W9.heap.size := (Nat.le_trans (Nat.le_trans hsz (Nat.le_trans b7.size hs8)) b9.size); have hl9 : (chgR cost (K.take j)).length ≤ 10000000 := (by have e := own_get o9; omega); have t9 := t8.post b9; clear q8)
          | (have kk := q8; refine ldS (.tmp 7) rfl rfl _ _ x rfl q8.ro ?_)
          | (have kk := r7; go_at_call 47; refine (hP _ b7).mono ?_; rintro e w8 ⟨rfl, t8, ow8, oc8, hs8, gr8⟩; have q8 := r7.keep gr8 hgm; clear r7)
          | (have kk := r7; refine ldS (.tmp 7) rfl rfl _ _ x rfl r7.ro ?_)
          | (have kk := r5; (with_reducible refine inL ?_ fun KK hKK => ?_); (focus rfl); refine wp_stMe (.tmp 26) (.tmp 25) rfl g2 m n rfl rfl r5 ?_; intro W7 g7 r7; refine hKK _ _ ?_; rw [← HX.out] at r7; have b7 := grown_below g7 b5 hge2 b5.size; clear r5)
          | (have kk := b3; refine hC _ |>.mono ?_; rintro e w5 ⟨rfl, b5⟩; have r5 := r3.below b5 r3.lt; have c61 := (r5.cell 61).trans (oc61 n); replace b5 := bt b3 b5; clear hC)
          | (have kk := hC; refine ldS (.tmp 7) rfl rfl _ _ n rfl r3.ro ?_)
          | (have kk := r2; refine stS (.tmp 7) (.tmp 17) rfl rfl g2 n _ rfl rfl r2 ?_; intro W3 g3 r3; have b3 := grown_below g3 hB2 hge2 hB2.size; clear r2)
          | (refine alG infoRz rfl rfl ?_; intro g2 W2 hge2 hgl2 hB2 r2; have hgm : g2 ≠ mb := (by omega))
          | (refine ldS (.tmp 16) rfl rfl _ _ n rfl hq ?_))
        have ow10 : kN.Own W10 w.heap.size (.slice (some ⟨g, 0, none⟩) K.length vc) K := own_two ow9 g10 (own_ne_lt o9 HgL.out)
        have t10 : Turn w W10 t mb most (updR (costF cost) L ((K.take (j + 1)).filter (costB cost))) := t9.grow g10 (fun b e => Nat.le_of_not_lt fun hb => own_ne_lt o9 (Nat.lt_of_lt_of_le hb hsz1) e) HTM.out.1 HTM.out.2
        go_roundw
        case rel => exact ⟨j + 1, a10, _, c10, by first | rfl | go_num, rfl, ⟨HJ.out, t10, ow10, by rw [HCh.out]; have o11 := o10; (try rw [List.length_append] at o11); exact o11, Nat.le_trans hz9 g10.size⟩⟩
        case measure => (try rw [hw64]); simp only [intOf]; exact HM.out
    · have hje : j = K.length := by omega
      subst hje
      have hT := hu.tn
      have hch := hu.ch
      rw [List.take_length] at hT hch
      rw [HF.out] at hT
      obtain rfl := own_get hch
      have hpr := pairs_any (chgR cost K) hch (Nat.le_trans (chg_len _ _) hKn)
      have hsz := hu.sz
      have hb1 := b1.size
      clear HPut HCo hu hlt hj
      go_wp2_with (go_at_call 45; refine hpr.mono ?_; rintro e w2 ⟨a2, c2, rfl, hO2, b2⟩)
      go_ret
      exact ⟨a2, c2, K, rfl, HPa.out.1, HPa.out.2, Kd.own_up hO2 (by omega), hT.post b2⟩
end Go.Proofs.Ythofoocknmkdjaa
