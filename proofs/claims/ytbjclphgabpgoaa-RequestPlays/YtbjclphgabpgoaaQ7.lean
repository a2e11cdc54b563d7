/-
  The document's Met and Forget.
-/
import Derived.Test.YtbjclphgabpgoaaQ6
import Derived.Test.YtbjclphgabpgoaaRG
namespace Go.Proofs.Ytbjclphgabpgoaa
open Go.RowKit Go.Maps Go.Shelf
set_option linter.unusedSimpArgs false
set_option linter.unusedVariables false
set_option maxRecDepth 20000
theorem filter_step {K : List Sr} {q : Sr → Bool} {j : Nat} (hj : j < K.length) : (K.take (j + 1)).filter q = if q K[j] = true then (K.take j).filter q ++ [K[j]] else (K.take j).filter q := by
  rw [List.take_succ_eq_append_getElem hj, List.filter_append]
  by_cases h : q K[j] = true
  · rw [if_pos h]; simp [h]
  · rw [if_neg h]; simp [h]
theorem run_neqQ' (p q : Pr) (w : World) : (binOp .neq 38 (Value.agg (qcells p).toArray) (Value.agg (qcells q).toArray)).run Try.prog w = .ok (.bool (!qB p q)) w := by
  have h := eqQ 9996 p q w
  rw [run_neq_struct w, h]; rfl
/-- What the document's Met answers. -/
def RmP (K : List Sr) (p : Pr) (i : Id8) (a b : Int) (z : Bool) (K' : List Sr) : Prop :=
  (getN K p i = none ∧ z = false ∧ K' = K) ∨ (∃ (k : Nat) (m : Sr), K[k]? = some m ∧ getN K p i = some m ∧ Sn.Met a b m.s = false ∧ z = false ∧ K' = K) ∨ (∃ (k : Nat) (m : Sr), K[k]? = some m ∧ getN K p i = some m ∧ Sn.Met a b m.s = true ∧ z = true ∧ K' = K.take k ++ K.drop (k + 1))
set_option maxHeartbeats 16000000 in
theorem rmet_any {w : World} {B r : Nat} {most : Int} {K : List Sr} (h : Rb w B r most K) (p : Pr) (i : Id8) (a b : Int) (hBw : B ≤ w.heap.size) (a0 : 0 ≤ a) (a1 : a < 65536) :
    Calls Try.prog 17 #[.pointer (some ⟨r, 0, none⟩), (Value.agg (qcells p).toArray), idV i, dV a b] w fun e w' => ∃ z K', e = .returned (.bool z) ∧ RmP K p i a b z K' ∧ Rb w' B r most K' ∧ RTurn w w' B r := by
  have hFi := fun W (hW : Below w.heap.size w W) => rfind_any (h.below hW) p i
  have hrl := h.lt
  have HH : Hid (Rb w B r most K) := h
  have hll := h.ll
  obtain ⟨ad, c, hrow0, L2, hSl⟩ := h.parts
  have HRow : Hid (∀ W, Below w.heap.size w W → Row W r 31 [.int .i64 most, .slice ad K.length c]) := fun W hW => hrow0.below hW hrl
  obtain ⟨hB, r0, r1, r2⟩ := low_rows3 w (qcells p) (icells i) [.int .u16 a, .int .u16 b] 38 40 42
  have HAb : Hid (0 ≤ a ∧ a < 65536) := ⟨a0, a1⟩
  clear h hrow0 a0 a1
  go_enter Try.func17, Try.ntmps17
  go_upto_region 1 with fail
  refine name_world (R := fun W => Code.wp _ _ _ _ W) (P := fun W => Below w.heap.size w W ∧ Row W w.heap.size 38 (qcells p) ∧ Row W (w.heap.size + 1) 40 (icells i) ∧ Row W (w.heap.size + 2) 42 [.int .u16 a, .int .u16 b]) _ ⟨hB, r0, r1, r2⟩ ?_
  clear hB r0 r1 r2
  rintro X ⟨hB, r0, r1, r2⟩
  have hd2 := r2.lt
  have HD : Hid (∀ W, Below X.heap.size X W → Sn.LD W (w.heap.size + 2) 0 a b) := fun W hW => (r2.below hW hd2).range
  replace hFi := hFi X hB
  go_upto_region 2 with (first
    | (go_at_call 31; refine hFi.mono ?_; rintro e w1 ⟨rfl, b1⟩)
    | ((with_reducible refine ldI (.tmp 6) ?_ ?_ (w.heap.size + 1) 0 i ?_ ?_ ?_); (focus rfl); (focus rfl); (focus (repeat (first | with_reducible refine ev_ne ?_ rfl | with_reducible refine ev_no ?_ | (with_reducible refine ev_eq (n := 48) ?_ rfl; repeat (first | with_reducible refine sz_put ?_ | with_reducible refine sz_no ?_ | rfl)) | rfl))); (focus exact r1.range))
    | ((with_reducible refine ldQ (.tmp 5) ?_ ?_ w.heap.size 0 p ?_ ?_ ?_); (focus rfl); (focus rfl); (focus (repeat (first | with_reducible refine ev_ne ?_ rfl | with_reducible refine ev_no ?_ | (with_reducible refine ev_eq (n := 48) ?_ rfl; repeat (first | with_reducible refine sz_put ?_ | with_reducible refine sz_no ?_ | rfl)) | rfl))); (focus exact r0.range)))
  have bw1 := bt hB b1
  clear r0 r1 r2 hFi
  rcases fnd_some (K := K) (p := p) (i := i) with ⟨e1, e2⟩ | ⟨k, m, e1, e2, e3⟩
  · rw [e1]
    have HG : Hid (getN K p i = none) := e2
    clear e1 e2 hSl L2
    refine wp_region_noPanic ?_
    refine wp_region_held_drew (S := fun W => Below w1.heap.size w1 W) (by kernel_rfl) ((Below.refl _ _).drew) (fun hHeld => ?_)
    refine take_lit (i := 0) (v := ?_) rfl (by kernel_rfl) (by kernel_rfl) (by kernel_rfl) (fun _ _ _ h => h) (Or.inl ⟨by rfl, ?_⟩) (by assumption) ?_
    rotate_left
    · (intro w hSw; (try dsimp only at hSw); go_simp <;> with_reducible rfl)
    try simp only [Act.put, List.setIfInBounds_toArray, List.set_cons_zero, List.set_cons_succ]
    refine take_lit (i := 1) (v := ?_) rfl (by kernel_rfl) (by kernel_rfl) (by kernel_rfl) (fun _ _ _ h => h) (Or.inl ⟨by rfl, ?_⟩) (by assumption) ?_
    rotate_left
    · (intro w hSw; (try dsimp only at hSw); go_simp <;> with_reducible rfl)
    try simp only [Act.put, List.setIfInBounds_toArray, List.set_cons_zero, List.set_cons_succ]
    refine take_lit (i := 2) (v := ?_) rfl (by kernel_rfl) (by kernel_rfl) (by kernel_rfl) (fun _ _ _ h => h) (Or.inl ⟨by rfl, ?_⟩) (by assumption) ?_
    rotate_left
    · (intro w hSw; (try dsimp only at hSw); go_simp <;> with_reducible rfl)
    try simp only [Act.put, List.setIfInBounds_toArray, List.set_cons_zero, List.set_cons_succ]
    refine take_lit (i := 3) rfl (by kernel_rfl) (by kernel_rfl) (by kernel_rfl) (fun _ _ _ h => h) (Or.inr ⟨by rfl, rfl⟩) (by assumption) ?_
    try simp only [Act.put, List.setIfInBounds_toArray, List.set_cons_zero, List.set_cons_succ]
    refine take_lit (i := 4) rfl (by kernel_rfl) (by kernel_rfl) (by kernel_rfl) (fun _ _ _ h => h) (Or.inr ⟨by rfl, rfl⟩) (by assumption) ?_
    try simp only [Act.put, List.setIfInBounds_toArray, List.set_cons_zero, List.set_cons_succ]
    refine take_lit (i := 5) rfl (by kernel_rfl) (by kernel_rfl) (by kernel_rfl) (fun _ _ _ h => h) (Or.inr ⟨by rfl, rfl⟩) (by assumption) ?_
    try simp only [Act.put, List.setIfInBounds_toArray, List.set_cons_zero, List.set_cons_succ]
    refine take_lit (i := 6) rfl (by kernel_rfl) (by kernel_rfl) (by kernel_rfl) (fun _ _ _ h => h) (Or.inr ⟨by rfl, rfl⟩) (by assumption) ?_
    try simp only [Act.put, List.setIfInBounds_toArray, List.set_cons_zero, List.set_cons_succ]
    refine take_lit (i := 7) rfl (by kernel_rfl) (by kernel_rfl) (by kernel_rfl) (fun _ _ _ h => h) (Or.inr ⟨by rfl, rfl⟩) (by assumption) ?_
    try simp only [Act.put, List.setIfInBounds_toArray, List.set_cons_zero, List.set_cons_succ]
    refine take_lit (i := 8) rfl (by kernel_rfl) (by kernel_rfl) (by kernel_rfl) (fun _ _ _ h => h) (Or.inr ⟨by rfl, rfl⟩) (by assumption) ?_
    try simp only [Act.put, List.setIfInBounds_toArray, List.set_cons_zero, List.set_cons_succ]
    refine take_lit (i := 9) rfl (by kernel_rfl) (by kernel_rfl) (by kernel_rfl) (fun _ _ _ h => h) (Or.inr ⟨by rfl, rfl⟩) (by assumption) ?_
    try simp only [Act.put, List.setIfInBounds_toArray, List.set_cons_zero, List.set_cons_succ]
    refine take_lit (i := 10) rfl (by kernel_rfl) (by kernel_rfl) (by kernel_rfl) (fun _ _ _ h => h) (Or.inr ⟨by rfl, rfl⟩) (by assumption) ?_
    try simp only [Act.put, List.setIfInBounds_toArray, List.set_cons_zero, List.set_cons_succ]
    refine take_lit (i := 11) rfl (by kernel_rfl) (by kernel_rfl) (by kernel_rfl) (fun _ _ _ h => h) (Or.inr ⟨by rfl, rfl⟩) (by assumption) ?_
    try simp only [Act.put, List.setIfInBounds_toArray, List.set_cons_zero, List.set_cons_succ]
    refine take_lit (i := 12) rfl (by kernel_rfl) (by kernel_rfl) (by kernel_rfl) (fun _ _ _ h => h) (Or.inr ⟨by rfl, rfl⟩) (by assumption) ?_
    try simp only [Act.put, List.setIfInBounds_toArray, List.set_cons_zero, List.set_cons_succ]
    refine take_lit (i := 13) rfl (by kernel_rfl) (by kernel_rfl) (by kernel_rfl) (fun _ _ _ h => h) (Or.inr ⟨by rfl, rfl⟩) (by assumption) ?_
    try simp only [Act.put, List.setIfInBounds_toArray, List.set_cons_zero, List.set_cons_succ]
    refine take_lit (i := 14) (v := ?_) rfl (by kernel_rfl) (by kernel_rfl) (by kernel_rfl) (fun _ _ _ h => h) (Or.inl ⟨by rfl, ?_⟩) (by assumption) ?_
    rotate_left
    · (intro w hSw; (try dsimp only at hSw); go_simp <;> with_reducible rfl)
    try simp only [Act.put, List.setIfInBounds_toArray, List.set_cons_zero, List.set_cons_succ]
    refine wpAnyH_done (by kernel_rfl) ?_ _
    refine NoPanic.normal ?_
    have b2 := bt bw1 hHeld
    clear hHeld
    go_wp2_with fail
    go_ret
    first | exact ⟨false, K, rfl, .inl ⟨HG.out, rfl, rfl⟩, HH.out.below b2, RTurn.of b2⟩ | exact .inl ⟨K, rfl, .inl ⟨HG.out, rfl, rfl⟩, HH.out.below b2, RTurn.of b2⟩ | exact ⟨K, .inl ⟨HG.out, rfl, rfl⟩, HH.out.below b2, RTurn.of b2⟩
  · rw [e1]
    have HG : Hid (K[k]? = some m ∧ getN K p i = some m) := ⟨e2, e3⟩
    have hkl : k < K.length := (List.getElem?_eq_some_iff.1 e2).1
    have hki : (k : Int) < (K.length : Int) := by omega
    have hk0 : (0 : Int) ≤ (k : Int) := by omega
    have ok := HH.out.ok m (List.mem_of_getElem? e2)
    obtain ⟨g, rfl, hLS⟩ := L2 (by intro e; rw [e] at hkl; simp at hkl)
    have HX : Hid (∀ W, Below w1.heap.size w1 W → W.cell? ⟨r, 1, none⟩ = some (.slice (some ⟨g, 0, none⟩) K.length c) ∧ LS W g (k * 45) m ∧ Sn.LD W (w.heap.size + 2) 0 a b) := fun W hW => ⟨(HRow.out W (bt bw1 hW)).cell 1, hLS _ (bt bw1 hW) k m e2, HD.out _ (bt b1 hW)⟩
    have hMe := fun W => Sn.rmeets_any a b m.s W ok.s0 ok.s1 HAb.out.1 HAb.out.2
    obtain ⟨s1, z1, s2, z2, S1, _, A1, _⟩ := hSl k (Nat.le_of_lt hkl)
    obtain ⟨s3, z3, s4, z4, _, S4, _, A4⟩ := hSl (k + 1) hkl
    have hw64 : wrap64 ((k : Int) + 1) = ((k + 1 : Nat) : Int) := by unfold wrap64; omega
    obtain ⟨zk, hzk⟩ : ∃ z : Int, ((k + 1 : Nat) : Int) = z := ⟨_, rfl⟩
    rw [hzk] at hw64
    have hwi : IntKind.i64.wrap ((k : Int) + 1) = zk := by have q := hw64; unfold wrap64 at q; exact (IntKind.wrap_i64 _).trans q
    replace S1 := S1 (k : Int) rfl
    replace S4 := S4 zk hzk.symm
    clear e1 e2 e3 hkl ok hSl L2 hLS hzk
    cases hlb : Sn.Met a b m.s with
    | false =>
      rw [hlb] at hMe
      have HL1 : Hid (Sn.Met a b m.s = false) := hlb
      clear hlb S1 S4 A1 A4
      refine wp_region_noPanic ?_
      refine wp_region_held_drew (S := fun W => Below w1.heap.size w1 W) (by kernel_rfl) ((Below.refl _ _).drew) (fun hHeld => ?_)
      refine take_lit (i := 0) (v := ?_) rfl (by kernel_rfl) (by kernel_rfl) (by kernel_rfl) (fun _ _ _ h => h) (Or.inl ⟨by rfl, ?_⟩) (by assumption) ?_
      rotate_left
      · (intro w hSw; (try dsimp only at hSw); go_simp <;> with_reducible rfl)
      try simp only [Act.put, List.setIfInBounds_toArray, List.set_cons_zero, List.set_cons_succ]
      refine take_lit (i := 1) (v := ?_) rfl (by kernel_rfl) (by kernel_rfl) (by kernel_rfl) (fun _ _ _ h => h) (Or.inl ⟨by rfl, ?_⟩) (by assumption) ?_
      rotate_left
      · (intro w hSw; (try dsimp only at hSw); go_simp <;> with_reducible rfl)
      try simp only [Act.put, List.setIfInBounds_toArray, List.set_cons_zero, List.set_cons_succ]
      refine take_lit (i := 2) (v := ?_) rfl (by kernel_rfl) (by kernel_rfl) (by kernel_rfl) (fun _ _ _ h => h) (Or.inl ⟨by rfl, ?_⟩) (by assumption) ?_
      rotate_left
      · (intro w hSw; (try dsimp only at hSw); go_simp <;> with_reducible rfl)
      try simp only [Act.put, List.setIfInBounds_toArray, List.set_cons_zero, List.set_cons_succ]
      refine take_lit (i := 3) rfl (by kernel_rfl) (by kernel_rfl) (by kernel_rfl) (fun _ _ _ h => h) (Sn.yD a b (fun w h => (HX.out _ h).2.2) (by rfl) rfl rfl) (by assumption) ?_
      try simp only [Act.put, List.setIfInBounds_toArray, List.set_cons_zero, List.set_cons_succ]
      refine take_lit (i := 4) (v := ?_) rfl (by kernel_rfl) (by kernel_rfl) (by kernel_rfl) (fun _ _ _ h => h) (Or.inl ⟨by rfl, ?_⟩) (by assumption) ?_
      rotate_left
      · (intro w hSw; (try dsimp only at hSw); go_simp <;> with_reducible rfl)
      try simp only [Act.put, List.setIfInBounds_toArray, List.set_cons_zero, List.set_cons_succ]
      refine take_lit (i := 5) (v := ?_) rfl (by kernel_rfl) (by kernel_rfl) (by kernel_rfl) (fun _ _ _ h => h) (Or.inl ⟨by rfl, ?_⟩) (by assumption) ?_
      rotate_left
      · (intro w hSw; (try dsimp only at hSw); go_simp <;> with_reducible rfl)
      try simp only [Act.put, List.setIfInBounds_toArray, List.set_cons_zero, List.set_cons_succ]
      refine take_lit (i := 6) (v := ?_) rfl (by kernel_rfl) (by kernel_rfl) (by kernel_rfl) (fun _ _ _ h => h) (Or.inl ⟨by rfl, ?_⟩) (by assumption) ?_
      rotate_left
      · (intro w hSw; (try dsimp only at hSw); go_simp <;> with_reducible rfl)
      try simp only [Act.put, List.setIfInBounds_toArray, List.set_cons_zero, List.set_cons_succ]
      refine take_lit (i := 7) (v := ?_) rfl (by kernel_rfl) (by kernel_rfl) (by kernel_rfl) (fun _ _ _ h => h) (Or.inl ⟨by rfl, ?_⟩) (by assumption) ?_
      rotate_left
      · (intro w hSw; (try dsimp only at hSw); have z := (HX.out _ hSw).1; go_simp <;> with_reducible rfl)
      try simp only [Act.put, List.setIfInBounds_toArray, List.set_cons_zero, List.set_cons_succ]
      refine take_lit (i := 8) (v := ?_) rfl (by kernel_rfl) (by kernel_rfl) (by kernel_rfl) (fun _ _ _ h => h) (Or.inl ⟨by rfl, ?_⟩) (by assumption) ?_
      rotate_left
      · (intro w hSw; (try dsimp only at hSw); go_simp <;> with_reducible rfl)
      try simp only [Act.put, List.setIfInBounds_toArray, List.set_cons_zero, List.set_cons_succ]
      refine take_lit (i := 9) (v := ?_) rfl (by kernel_rfl) (by kernel_rfl) (by kernel_rfl) (fun _ _ _ h => h) (Or.inl ⟨by rfl, ?_⟩) (by assumption) ?_
      rotate_left
      · (intro w hSw; (try dsimp only at hSw); go_simp <;> with_reducible rfl)
      try simp only [Act.put, List.setIfInBounds_toArray, List.set_cons_zero, List.set_cons_succ]
      refine take_lit (i := 10) (v := ?_) rfl (by kernel_rfl) (by kernel_rfl) (by kernel_rfl) (fun _ _ _ h => h) (Or.inl ⟨by rfl, ?_⟩) (by assumption) ?_
      rotate_left
      · (intro w hSw; (try dsimp only at hSw); go_simp <;> with_reducible rfl)
      try simp only [Act.put, List.setIfInBounds_toArray, List.set_cons_zero, List.set_cons_succ]
      refine take_lit (i := 11) (v := ?_) rfl (by kernel_rfl) (by kernel_rfl) (by kernel_rfl) (fun _ _ _ h => h) (Or.inl ⟨by rfl, ?_⟩) (by assumption) ?_
      rotate_left
      · (intro w hSw; (try dsimp only at hSw); have z := (HX.out _ hSw).2.1.s_; go_simp <;> with_reducible rfl)
      try simp only [Act.put, List.setIfInBounds_toArray, List.set_cons_zero, List.set_cons_succ]
      refine wpAnyH_ready (rs := [12]) (by kernel_rfl) (by simp) ?_
      refine cons_lit rfl (fun K hK => ?_) ?_
      · go_simp
        refine (hMe _).mono ?_
        rintro e w5 ⟨rfl, b5⟩
        refine hK.out _ _ ?_ (fun hHeld => ?_)
        · exact bt hHeld b5
        clear hK K
        try simp only [Act.put, List.setIfInBounds_toArray, List.set_cons_zero, List.set_cons_succ]
        refine take_lit (i := 13) (v := ?_) rfl (by kernel_rfl) (by kernel_rfl) (by kernel_rfl) (fun _ _ _ h => h) (Or.inl ⟨by rfl, ?_⟩) (by assumption) ?_
        rotate_left
        · (intro w hSw; (try dsimp only at hSw); go_simp <;> with_reducible rfl)
        try simp only [Act.put, List.setIfInBounds_toArray, List.set_cons_zero, List.set_cons_succ]
        refine take_lit (i := 14) (v := ?_) rfl (by kernel_rfl) (by kernel_rfl) (by kernel_rfl) (fun _ _ _ h => h) (Or.inl ⟨by rfl, ?_⟩) (by assumption) ?_
        rotate_left
        · (intro w hSw; (try dsimp only at hSw); go_simp <;> with_reducible rfl)
        try simp only [Act.put, List.setIfInBounds_toArray, List.set_cons_zero, List.set_cons_succ]
        refine wpAnyH_done (by kernel_rfl) ?_ _
        refine NoPanic.normal ?_
        have b2 := bt bw1 hHeld
        clear hHeld
        go_wp2_with fail
        go_ret
        first | exact ⟨false, K, rfl, .inr (.inl ⟨k, m, HG.out.1, HG.out.2, HL1.out, rfl, rfl⟩), HH.out.below b2, RTurn.of b2⟩ | exact .inl ⟨K, rfl, .inr (.inl ⟨k, m, HG.out.1, HG.out.2, HL1.out, rfl, rfl⟩), HH.out.below b2, RTurn.of b2⟩ | exact ⟨K, .inr (.inl ⟨k, m, HG.out.1, HG.out.2, HL1.out, rfl, rfl⟩), HH.out.below b2, RTurn.of b2⟩
      exact AllReadyH.nil
    | true =>
      rw [hlb] at hMe
      have HL1 : Hid (Sn.Met a b m.s = true) := hlb
      clear hlb
      refine wp_region_noPanic ?_
      refine wp_region_held_drew (S := fun W => Below w1.heap.size w1 W) (by kernel_rfl) ((Below.refl _ _).drew) (fun hHeld => ?_)
      refine take_lit (i := 0) (v := ?_) rfl (by kernel_rfl) (by kernel_rfl) (by kernel_rfl) (fun _ _ _ h => h) (Or.inl ⟨by rfl, ?_⟩) (by assumption) ?_
      rotate_left
      · (intro w hSw; (try dsimp only at hSw); go_simp <;> with_reducible rfl)
      try simp only [Act.put, List.setIfInBounds_toArray, List.set_cons_zero, List.set_cons_succ]
      refine take_lit (i := 1) (v := ?_) rfl (by kernel_rfl) (by kernel_rfl) (by kernel_rfl) (fun _ _ _ h => h) (Or.inl ⟨by rfl, ?_⟩) (by assumption) ?_
      rotate_left
      · (intro w hSw; (try dsimp only at hSw); go_simp <;> with_reducible rfl)
      try simp only [Act.put, List.setIfInBounds_toArray, List.set_cons_zero, List.set_cons_succ]
      refine take_lit (i := 2) (v := ?_) rfl (by kernel_rfl) (by kernel_rfl) (by kernel_rfl) (fun _ _ _ h => h) (Or.inl ⟨by rfl, ?_⟩) (by assumption) ?_
      rotate_left
      · (intro w hSw; (try dsimp only at hSw); go_simp <;> with_reducible rfl)
      try simp only [Act.put, List.setIfInBounds_toArray, List.set_cons_zero, List.set_cons_succ]
      refine take_lit (i := 3) rfl (by kernel_rfl) (by kernel_rfl) (by kernel_rfl) (fun _ _ _ h => h) (Sn.yD a b (fun w h => (HX.out _ h).2.2) (by rfl) rfl rfl) (by assumption) ?_
      try simp only [Act.put, List.setIfInBounds_toArray, List.set_cons_zero, List.set_cons_succ]
      refine take_lit (i := 4) (v := ?_) rfl (by kernel_rfl) (by kernel_rfl) (by kernel_rfl) (fun _ _ _ h => h) (Or.inl ⟨by rfl, ?_⟩) (by assumption) ?_
      rotate_left
      · (intro w hSw; (try dsimp only at hSw); go_simp <;> with_reducible rfl)
      try simp only [Act.put, List.setIfInBounds_toArray, List.set_cons_zero, List.set_cons_succ]
      refine take_lit (i := 5) (v := ?_) rfl (by kernel_rfl) (by kernel_rfl) (by kernel_rfl) (fun _ _ _ h => h) (Or.inl ⟨by rfl, ?_⟩) (by assumption) ?_
      rotate_left
      · (intro w hSw; (try dsimp only at hSw); go_simp <;> with_reducible rfl)
      try simp only [Act.put, List.setIfInBounds_toArray, List.set_cons_zero, List.set_cons_succ]
      refine take_lit (i := 6) (v := ?_) rfl (by kernel_rfl) (by kernel_rfl) (by kernel_rfl) (fun _ _ _ h => h) (Or.inl ⟨by rfl, ?_⟩) (by assumption) ?_
      rotate_left
      · (intro w hSw; (try dsimp only at hSw); go_simp <;> with_reducible rfl)
      try simp only [Act.put, List.setIfInBounds_toArray, List.set_cons_zero, List.set_cons_succ]
      refine take_lit (i := 7) (v := ?_) rfl (by kernel_rfl) (by kernel_rfl) (by kernel_rfl) (fun _ _ _ h => h) (Or.inl ⟨by rfl, ?_⟩) (by assumption) ?_
      rotate_left
      · (intro w hSw; (try dsimp only at hSw); have z := (HX.out _ hSw).1; go_simp <;> with_reducible rfl)
      try simp only [Act.put, List.setIfInBounds_toArray, List.set_cons_zero, List.set_cons_succ]
      refine take_lit (i := 8) (v := ?_) rfl (by kernel_rfl) (by kernel_rfl) (by kernel_rfl) (fun _ _ _ h => h) (Or.inl ⟨by rfl, ?_⟩) (by assumption) ?_
      rotate_left
      · (intro w hSw; (try dsimp only at hSw); go_simp <;> with_reducible rfl)
      try simp only [Act.put, List.setIfInBounds_toArray, List.set_cons_zero, List.set_cons_succ]
      refine take_lit (i := 9) (v := ?_) rfl (by kernel_rfl) (by kernel_rfl) (by kernel_rfl) (fun _ _ _ h => h) (Or.inl ⟨by rfl, ?_⟩) (by assumption) ?_
      rotate_left
      · (intro w hSw; (try dsimp only at hSw); go_simp <;> with_reducible rfl)
      try simp only [Act.put, List.setIfInBounds_toArray, List.set_cons_zero, List.set_cons_succ]
      refine take_lit (i := 10) (v := ?_) rfl (by kernel_rfl) (by kernel_rfl) (by kernel_rfl) (fun _ _ _ h => h) (Or.inl ⟨by rfl, ?_⟩) (by assumption) ?_
      rotate_left
      · (intro w hSw; (try dsimp only at hSw); go_simp <;> with_reducible rfl)
      try simp only [Act.put, List.setIfInBounds_toArray, List.set_cons_zero, List.set_cons_succ]
      refine take_lit (i := 11) (v := ?_) rfl (by kernel_rfl) (by kernel_rfl) (by kernel_rfl) (fun _ _ _ h => h) (Or.inl ⟨by rfl, ?_⟩) (by assumption) ?_
      rotate_left
      · (intro w hSw; (try dsimp only at hSw); have z := (HX.out _ hSw).2.1.s_; go_simp <;> with_reducible rfl)
      try simp only [Act.put, List.setIfInBounds_toArray, List.set_cons_zero, List.set_cons_succ]
      refine wpAnyH_ready (rs := [12]) (by kernel_rfl) (by simp) ?_
      refine cons_lit rfl (fun K hK => ?_) ?_
      · go_simp
        refine (hMe _).mono ?_
        rintro e w5 ⟨rfl, b5⟩
        refine hK.out _ _ ?_ (fun hHeld => ?_)
        · exact bt hHeld b5
        clear hK K
        try simp only [Act.put, List.setIfInBounds_toArray, List.set_cons_zero, List.set_cons_succ]
        refine take_lit (i := 13) (v := ?_) rfl (by kernel_rfl) (by kernel_rfl) (by kernel_rfl) (fun _ _ _ h => h) (Or.inl ⟨by rfl, ?_⟩) (by assumption) ?_
        rotate_left
        · (intro w hSw; (try dsimp only at hSw); go_simp <;> with_reducible rfl)
        try simp only [Act.put, List.setIfInBounds_toArray, List.set_cons_zero, List.set_cons_succ]
        refine take_lit (i := 14) (v := ?_) rfl (by kernel_rfl) (by kernel_rfl) (by kernel_rfl) (fun _ _ _ h => h) (Or.inl ⟨by rfl, ?_⟩) (by assumption) ?_
        rotate_left
        · (intro w hSw; (try dsimp only at hSw); go_simp <;> with_reducible rfl)
        try simp only [Act.put, List.setIfInBounds_toArray, List.set_cons_zero, List.set_cons_succ]
        refine wpAnyH_done (by kernel_rfl) ?_ _
        refine NoPanic.normal ?_
        refine name_world (R := fun W => Exit.then _ _ _ _ W) (P := fun W => Below w1.heap.size w1 W) _ hHeld ?_
        clear hHeld hMe
        intro V hV
        have hVb : Below w.heap.size w V := bt bw1 hV
        have hrow := HRow.out _ hVb
        have hrV : r < V.heap.size := hrow.lt
        replace A1 := A1 V hVb
        replace A4 := A4 V hVb
        clear HX
        go_upto_region 4 with fail
        refine wp_region_noPanic ?_
        refine wp_region_N (S := fun W => Below V.heap.size V W) 19 (by kernel_rfl) ((Below.refl _ _).drew) (fun hHeld => ?_)
        refine takeN_lit (i := 0) (v := ?_) (F := #[false, true, true, true, true, true, true, true, true, true, true, true, true, true, true, true, true, false, false, false]) rfl (by kernel_rfl) (by kernel_rfl) (by kernel_rfl) (by kernel_rfl) (fun _ _ _ h => h) (Or.inl ⟨by rfl, ?_⟩) (by assumption) ?_
        rotate_left
        · (intro w hSw; (try dsimp only at hSw); go_simp <;> with_reducible rfl)
        try simp only [Act.put, List.setIfInBounds_toArray, List.set_cons_zero, List.set_cons_succ]
        refine takeN_lit (i := 2) (v := ?_) (F := #[true, true, false, false, false, false, true, false, false, true, true, true, true, true, true, true, false, false, false, false]) rfl (by kernel_rfl) (by kernel_rfl) (by kernel_rfl) (by kernel_rfl) (fun _ _ _ h => h) (Or.inl ⟨by rfl, ?_⟩) (by assumption) ?_
        rotate_left
        · (intro w hSw; (try dsimp only at hSw); go_simp <;> with_reducible rfl)
        try simp only [Act.put, List.setIfInBounds_toArray, List.set_cons_zero, List.set_cons_succ]
        refine takeN_lit (i := 3) (v := ?_) (F := #[true, true, true, false, false, false, true, false, false, true, true, true, true, true, true, true, false, false, false, false]) rfl (by kernel_rfl) (by kernel_rfl) (by kernel_rfl) (by kernel_rfl) (fun _ _ _ h => h) (Or.inl ⟨by rfl, ?_⟩) (by assumption) ?_
        rotate_left
        · (intro w hSw; (try dsimp only at hSw); go_simp <;> with_reducible rfl)
        try simp only [Act.put, List.setIfInBounds_toArray, List.set_cons_zero, List.set_cons_succ]
        refine takeN_lit (i := 4) (v := ?_) (F := #[true, true, true, true, false, false, true, false, false, true, true, true, true, true, true, true, false, false, false, false]) rfl (by kernel_rfl) (by kernel_rfl) (by kernel_rfl) (by kernel_rfl) (fun _ _ _ h => h) (Or.inl ⟨by rfl, ?_⟩) (by assumption) ?_
        rotate_left
        · (intro w hSw; (try dsimp only at hSw); go_simp <;> with_reducible rfl)
        try simp only [Act.put, List.setIfInBounds_toArray, List.set_cons_zero, List.set_cons_succ]
        refine takeN_lit (i := 5) (v := ?_) (F := #[true, true, true, true, true, false, true, false, false, true, true, true, true, true, true, true, false, false, false, false]) rfl (by kernel_rfl) (by kernel_rfl) (by kernel_rfl) (by kernel_rfl) (fun _ _ _ h => h) (Or.inl ⟨by rfl, ?_⟩) (by assumption) ?_
        rotate_left
        · (intro w hSw; (try dsimp only at hSw); have z := (hrow.below hSw hrV).cell 1; go_simp <;> with_reducible rfl)
        try simp only [Act.put, List.setIfInBounds_toArray, List.set_cons_zero, List.set_cons_succ]
        refine takeN_lit (i := 6) (v := ?_) (F := #[true, true, true, true, true, true, false, false, false, true, true, true, true, true, true, true, false, false, false, false]) rfl (by kernel_rfl) (by kernel_rfl) (by kernel_rfl) (by kernel_rfl) (fun _ _ _ h => h) (Or.inl ⟨by rfl, ?_⟩) (by assumption) ?_
        rotate_left
        · (intro w hSw; (try dsimp only at hSw); go_simp <;> with_reducible rfl)
        try simp only [Act.put, List.setIfInBounds_toArray, List.set_cons_zero, List.set_cons_succ]
        refine takeN_lit (i := 7) (v := ?_) (F := #[true, true, true, true, true, true, true, false, false, true, true, true, true, true, true, true, false, false, false, false]) rfl (by kernel_rfl) (by kernel_rfl) (by kernel_rfl) (by kernel_rfl) (fun _ _ _ h => h) (Or.inl ⟨by rfl, ?_⟩) (by assumption) ?_
        rotate_left
        · (intro w hSw; (try dsimp only at hSw); have z := S1 w; go_simp <;> with_reducible rfl)
        try simp only [Act.put, List.setIfInBounds_toArray, List.set_cons_zero, List.set_cons_succ]
        refine takeN_lit (i := 9) (v := ?_) (F := #[true, true, true, true, true, true, true, true, true, false, false, false, false, true, true, false, false, false, false, false]) rfl (by kernel_rfl) (by kernel_rfl) (by kernel_rfl) (by kernel_rfl) (fun _ _ _ h => h) (Or.inl ⟨by rfl, ?_⟩) (by assumption) ?_
        rotate_left
        · (intro w hSw; (try dsimp only at hSw); go_simp <;> with_reducible rfl)
        try simp only [Act.put, List.setIfInBounds_toArray, List.set_cons_zero, List.set_cons_succ]
        refine takeN_lit (i := 10) (v := ?_) (F := #[true, true, true, true, true, true, true, true, true, true, false, false, false, true, true, false, false, false, false, false]) rfl (by kernel_rfl) (by kernel_rfl) (by kernel_rfl) (by kernel_rfl) (fun _ _ _ h => h) (Or.inl ⟨by rfl, ?_⟩) (by assumption) ?_
        rotate_left
        · (intro w hSw; (try dsimp only at hSw); go_simp <;> with_reducible rfl)
        try simp only [Act.put, List.setIfInBounds_toArray, List.set_cons_zero, List.set_cons_succ]
        refine takeN_lit (i := 11) (v := ?_) (F := #[true, true, true, true, true, true, true, true, true, true, true, false, false, true, true, false, false, false, false, false]) rfl (by kernel_rfl) (by kernel_rfl) (by kernel_rfl) (by kernel_rfl) (fun _ _ _ h => h) (Or.inl ⟨by rfl, ?_⟩) (by assumption) ?_
        rotate_left
        · (intro w hSw; (try dsimp only at hSw); go_simp <;> with_reducible rfl)
        try simp only [Act.put, List.setIfInBounds_toArray, List.set_cons_zero, List.set_cons_succ]
        refine takeN_lit (i := 12) (v := ?_) (F := #[true, true, true, true, true, true, true, true, true, true, true, true, false, true, true, false, false, false, false, false]) rfl (by kernel_rfl) (by kernel_rfl) (by kernel_rfl) (by kernel_rfl) (fun _ _ _ h => h) (Or.inl ⟨by rfl, ?_⟩) (by assumption) ?_
        rotate_left
        · (intro w hSw; (try dsimp only at hSw); have z := (hrow.below hSw hrV).cell 1; go_simp <;> with_reducible rfl)
        try simp only [Act.put, List.setIfInBounds_toArray, List.set_cons_zero, List.set_cons_succ]
        refine takeN_lit (i := 13) (v := ?_) (F := #[true, true, true, true, true, true, true, true, true, true, true, true, true, false, false, false, false, false, false, false]) rfl (by kernel_rfl) (by kernel_rfl) (by kernel_rfl) (by kernel_rfl) (fun _ _ _ h => h) (Or.inl ⟨by rfl, ?_⟩) (by assumption) ?_
        rotate_left
        · (intro w hSw; (try dsimp only at hSw); go_simp <;> with_reducible rfl)
        try simp only [Act.put, List.setIfInBounds_toArray, List.set_cons_zero, List.set_cons_succ]
        refine takeN_lit (i := 14) (v := ?_) (F := #[true, true, true, true, true, true, true, true, true, true, true, true, true, true, false, false, false, false, false, false]) rfl (by kernel_rfl) (by kernel_rfl) (by kernel_rfl) (by kernel_rfl) (fun _ _ _ h => h) (Or.inl ⟨by rfl, ?_⟩) (by assumption) ?_
        rotate_left
        · (intro w hSw; (try dsimp only at hSw); go_simp <;> with_reducible rfl)
        try simp only [Act.put, List.setIfInBounds_toArray, List.set_cons_zero, List.set_cons_succ]
        refine takeN_lit (i := 15) (v := ?_) (F := #[true, true, true, true, true, true, true, true, true, true, true, true, true, true, true, false, false, false, false, false]) rfl (by kernel_rfl) (by kernel_rfl) (by kernel_rfl) (by kernel_rfl) (fun _ _ _ h => h) (Or.inl ⟨by rfl, ?_⟩) (by assumption) ?_
        rotate_left
        · (intro w hSw; (try dsimp only at hSw); have z := S4 w; go_simp <;> with_reducible rfl)
        try simp only [Act.put, List.setIfInBounds_toArray, List.set_cons_zero, List.set_cons_succ]
        refine wpAnyN_ready (rs := [1]) (by kernel_rfl) (by simp) ?_
        refine consN_lit rfl (fun K hK => ?_) ?_
        · skip
          refine sBsG (T := 29) (U := 67) [] [] (by rfl) rfl (fun w => bsN0 w) ?_
          intro W1 q1 b9
          have hB1 := hHeld.size
          refine hK.out _ _ (Or.inr ?_) (fun hHeld => ?_)
          · exact bt hHeld b9
          replace hHeld := hHeld.resolve_left (by decide)
          clear hK K
          try simp only [Act.put, List.setIfInBounds_toArray, List.set_cons_zero, List.set_cons_succ]
          refine wpAnyN_ready (rs := [8]) (by kernel_rfl) (by simp) ?_
          refine consN_lit rfl (fun K hK => ?_) ?_
          · skip
            obtain ⟨v8, W8, run8, o8, g8, e8⟩ := A1 _ hHeld 29 _ [] (own_zero q1 hB1) (by simp)
            obtain ⟨a8, c8, rfl, _⟩ := Kd.own_at o8
            refine sApp (.tmp 30) (.tmp 36) (by rfl) rfl rfl rfl run8 ?_
            refine hK.out _ _ (Or.inr ?_) (fun hHeld => ?_)
            · exact below_keepO hHeld g8 (fun g hg => own_ne_lt (own_zero q1 hB1) hg) hHeld.size
            replace hHeld := hHeld.resolve_left (by decide)
            clear hK K
            try simp only [Act.put, List.setIfInBounds_toArray, List.set_cons_zero, List.set_cons_succ]
            refine wpAnyN_ready (rs := [16]) (by kernel_rfl) (by simp) ?_
            refine consN_lit rfl (fun K hK => ?_) ?_
            · skip
              obtain ⟨v22, W22, run22, o22, g22, e22⟩ := A4 _ hHeld 29 _ _ o8 (by simp <;> omega)
              obtain ⟨a22, c22, rfl, _⟩ := Kd.own_at o22
              refine sApp (.tmp 37) (.tmp 44) (by rfl) rfl rfl rfl run22 ?_
              refine hK.out _ _ (Or.inr ?_) (fun hHeld => ?_)
              · exact below_keepO hHeld g22 (fun g hg => own_ne_lt o8 hg) hHeld.size
              replace hHeld := hHeld.resolve_left (by decide)
              clear hK K
              try simp only [Act.put, List.setIfInBounds_toArray, List.set_cons_zero, List.set_cons_succ]
              refine takeN_lit (i := 17) (v := ?_) (F := #[true, true, true, true, true, true, true, true, true, true, true, true, true, true, true, true, true, false, false, false]) rfl (by kernel_rfl) (by kernel_rfl) (by kernel_rfl) (by kernel_rfl) (fun _ _ _ h => h) (Or.inl ⟨by rfl, ?_⟩) (by assumption) ?_
              rotate_left
              · (intro w hSw; (try dsimp only at hSw); go_simp <;> with_reducible rfl)
              try simp only [Act.put, List.setIfInBounds_toArray, List.set_cons_zero, List.set_cons_succ]
              refine takeN_lit (i := 18) (v := ?_) (F := #[true, true, true, true, true, true, true, true, true, true, true, true, true, true, true, true, true, true, false, false]) rfl (by kernel_rfl) (by kernel_rfl) (by kernel_rfl) (by kernel_rfl) (fun _ _ _ h => h) (Or.inl ⟨by rfl, ?_⟩) (by assumption) ?_
              rotate_left
              · (intro w hSw; (try dsimp only at hSw); go_simp <;> with_reducible rfl)
              try simp only [Act.put, List.setIfInBounds_toArray, List.set_cons_zero, List.set_cons_succ]
              refine wpAnyN_ready (rs := [19]) (by kernel_rfl) (by simp) ?_
              refine consN_lit rfl (fun K hK => ?_) ?_
              · skip
                refine sStSl (.tmp 47) (.tmp 45) (by rfl) rfl r 1 _ _ _ _ rfl rfl (hrow.below hHeld hrV) (by simp) ?_
                intro W25 g25 r25
                refine hK.out _ _ (Or.inl rfl) (fun _ => ?_)
                clear hK K
                try simp only [Act.put, List.setIfInBounds_toArray, List.set_cons_zero, List.set_cons_succ]
                refine wpAnyN_done (by kernel_rfl) ?_ _
                refine NoPanic.normal ?_
                have HEnd : Hid (Rb W25 B r most (K.take k ++ K.drop (k + 1)) ∧ RTurn w W25 B r) := by
                  have e : ([] ++ K.take k ++ K.drop (k + 1) : List Sr) = K.take k ++ K.drop (k + 1) := by simp
                  rw [e] at o22 r25
                  refine ⟨⟨⟨_, _, r25, Kd.own_up (World.ownsRow.kept o22 g25 (.inr (own_ne_lt o22 hrV))) (Nat.le_trans hBw hVb.size)⟩, fun x hx => ?_, ?_⟩, RTurn.pre (bt hVb hHeld) (RTurn.self g25)⟩
                  · rcases List.mem_append.1 hx with h1 | h1
                    · exact HH.out.ok x (List.mem_of_mem_take h1)
                    · exact HH.out.ok x (List.mem_of_mem_drop h1)
                  · simp only [List.length_append, List.length_take, List.length_drop]
                    omega
                clear hHeld o22 r25 g25 o8 q1 hrow A1 A4 S1 S4
                go_wp2_with fail
                go_ret
                first | exact ⟨true, _, rfl, .inr (.inr ⟨k, m, HG.out.1, HG.out.2, HL1.out, rfl, rfl⟩), HEnd.out.1, HEnd.out.2⟩ | exact .inr ⟨rfl, _, .inr (.inr ⟨k, m, HG.out.1, HG.out.2, HL1.out, rfl, rfl⟩), HEnd.out.1, HEnd.out.2⟩ | exact .inl ⟨rfl, _, .inr (.inr ⟨k, m, HG.out.1, HG.out.2, HL1.out, rfl, rfl⟩), HEnd.out.1, HEnd.out.2⟩ | exact ⟨_, .inr (.inr ⟨k, m, HG.out.1, HG.out.2, HL1.out, rfl, rfl⟩), HEnd.out.1, HEnd.out.2⟩
              exact AllReadyN.nil
            exact AllReadyN.nil
          exact AllReadyN.nil
        exact AllReadyN.nil
      exact AllReadyH.nil
set_option maxHeartbeats 16000000 in
theorem rforget_any {w : World} {B r : Nat} {most : Int} {K : List Sr} (h : Rb w B r most K) (p : Pr) (hBw : B ≤ w.heap.size) : Calls Try.prog 19 #[.pointer (some ⟨r, 0, none⟩), (Value.agg (qcells p).toArray)] w fun e w' => e = .returned (.int .i64 ((K.length : Int) - ((K.filter fun n => !qB n.p p).length : Nat))) ∧ Rb w' B r most (K.filter fun n => !qB n.p p) ∧ RTurn w w' B r := by
  have hll := h.ll
  have hok := h.ok
  have hrl := h.lt
  obtain ⟨ad, c, L1, L0, L2⟩ := h.lies
  obtain ⟨ad', c', hrow, _⟩ := h.ex
  have HR : Hid (Row w r 31 [.int .i64 most, .slice ad' K.length c']) := hrow
  have hB : Below w.heap.size w (w.alloc (.cells (qcells p).toArray 38)) := ba _ _
  have r0 := Row.new w 38 (qcells p)
  clear h L0 hrow
  go_enter Try.func19, Try.ntmps19
  go_upto_region 1 with fail
  refine name_world (R := fun W => Code.wp _ _ _ _ W) (P := fun W => Below w.heap.size w W ∧ Row W w.heap.size 38 (qcells p)) _ ⟨hB, r0⟩ ?_
  clear hB r0
  rintro X ⟨hB, r0⟩
  have hp0 := r0.lt
  go_wp2_with fail
  go_loopw [5, 6] (fun v z wr => ∃ (j : Nat) (a1 : Option Addr) (n1 c1 : Nat), j ≤ K.length ∧ z = .int .i64 j ∧ v = .slice a1 n1 c1 ∧ kN.Own wr X.heap.size (.slice a1 n1 c1) ((K.take j).filter fun n => !qB n.p p) ∧ Below X.heap.size X wr) (fun _ v _ => K.length - (intOf v).toNat)
  case atStart => exact ⟨0, none, 0, 0, Nat.zero_le _, rfl, rfl, World.ownsRow_nil _ _ _ _, Below.refl _ _⟩
  case round =>
    obtain ⟨j, a1, n1, c1, hj, rfl, rfl, hO, bX⟩ := hrel
    have bw := bt hB bX
    have cL := L1 _ bw
    by_cases hlt : j < K.length
    · obtain ⟨g, rfl, hc⟩ := L2 (by intro e; rw [e] at hlt; simp at hlt)
      have hji : (j : Int) < (K.length : Int) := by omega
      have hw64 : wrap64 ((j : Int) + 1) = (j : Int) + 1 := by unfold wrap64; omega
      have HJ : Hid (j + 1 ≤ K.length) := hlt
      have HM : Hid (K.length - ((j : Int) + 1).toNat < K.length - ((j : Int)).toNat) := meas hlt
      have HS : Hid (∀ W, Below wr.heap.size wr W → W.cell? ⟨r, 1, none⟩ = some (.slice (some ⟨g, 0, none⟩) K.length c) ∧ LS W g (j * 45) K[j] ∧ LQ W w.heap.size 0 p) := fun W hW => ⟨L1 _ (bt bw hW), hc _ (bt bw hW) j _ (List.getElem?_eq_getElem hlt), (r0.below (bt bX hW) hp0).range⟩
      have F1 := filter_step (q := fun n : Sr => !qB n.p p) hlt
      have HL : Hid (((K.take j).filter fun n => !qB n.p p).length ≤ 10000000) := by
        have := List.length_filter_le (fun n : Sr => !qB n.p p) (K.take j)
        rw [List.length_take] at this
        show _ ≤ _
        omega
      have hEQ := fun W => run_neqQ' K[j].p p W
      have gEQ := fun op x y W => guardQ op x y K[j].p p W
      clear hc L1 L2 hok hj
      generalize K[j] = n at *
      generalize qB n.p p = b1 at *
      have hXr : X.heap.size ≤ wr.heap.size := bX.size
      go_upto_region 5 with fail
      refine wp_region_noPanic ?_
      refine wp_region_held_drew (S := fun W => Below wr.heap.size wr W) (by kernel_rfl) ((Below.refl _ _).drew) (fun hHeld => ?_)
      refine take_lit (i := 0) (v := ?_) rfl (by kernel_rfl) (by kernel_rfl) (by kernel_rfl) (fun _ _ _ h => h) (Or.inl ⟨by rfl, ?_⟩) (by assumption) ?_
      rotate_left
      · (intro w hSw; (try dsimp only at hSw); go_simp <;> with_reducible rfl)
      try simp only [Act.put, List.setIfInBounds_toArray, List.set_cons_zero, List.set_cons_succ]
      refine take_lit (i := 1) (v := ?_) rfl (by kernel_rfl) (by kernel_rfl) (by kernel_rfl) (fun _ _ _ h => h) (Or.inl ⟨by rfl, ?_⟩) (by assumption) ?_
      rotate_left
      · (intro w hSw; (try dsimp only at hSw); go_simp <;> with_reducible rfl)
      try simp only [Act.put, List.setIfInBounds_toArray, List.set_cons_zero, List.set_cons_succ]
      refine take_lit (i := 2) (v := ?_) rfl (by kernel_rfl) (by kernel_rfl) (by kernel_rfl) (fun _ _ _ h => h) (Or.inl ⟨by rfl, ?_⟩) (by assumption) ?_
      rotate_left
      · (intro w hSw; (try dsimp only at hSw); go_simp <;> with_reducible rfl)
      try simp only [Act.put, List.setIfInBounds_toArray, List.set_cons_zero, List.set_cons_succ]
      refine take_lit (i := 3) (v := ?_) rfl (by kernel_rfl) (by kernel_rfl) (by kernel_rfl) (fun _ _ _ h => h) (Or.inl ⟨by rfl, ?_⟩) (by assumption) ?_
      rotate_left
      · (intro w hSw; (try dsimp only at hSw); have z := (HS.out _ hSw).1; go_simp <;> with_reducible rfl)
      try simp only [Act.put, List.setIfInBounds_toArray, List.set_cons_zero, List.set_cons_succ]
      refine take_lit (i := 4) (v := ?_) rfl (by kernel_rfl) (by kernel_rfl) (by kernel_rfl) (fun _ _ _ h => h) (Or.inl ⟨by rfl, ?_⟩) (by assumption) ?_
      rotate_left
      · (intro w hSw; (try dsimp only at hSw); go_simp <;> with_reducible rfl)
      try simp only [Act.put, List.setIfInBounds_toArray, List.set_cons_zero, List.set_cons_succ]
      refine take_lit (i := 5) (v := ?_) rfl (by kernel_rfl) (by kernel_rfl) (by kernel_rfl) (fun _ _ _ h => h) (Or.inl ⟨by rfl, ?_⟩) (by assumption) ?_
      rotate_left
      · (intro w hSw; (try dsimp only at hSw); go_simp <;> with_reducible rfl)
      try simp only [Act.put, List.setIfInBounds_toArray, List.set_cons_zero, List.set_cons_succ]
      refine take_lit (i := 6) (v := ?_) rfl (by kernel_rfl) (by kernel_rfl) (by kernel_rfl) (fun _ _ _ h => h) (Or.inl ⟨by rfl, ?_⟩) (by assumption) ?_
      rotate_left
      · (intro w hSw; (try dsimp only at hSw); go_simp <;> with_reducible rfl)
      try simp only [Act.put, List.setIfInBounds_toArray, List.set_cons_zero, List.set_cons_succ]
      refine take_lit (i := 7) rfl (by kernel_rfl) (by kernel_rfl) (by kernel_rfl) (fun _ _ _ h => h) (yQ n.p (fun w h => (HS.out _ h).2.1.q) (by rfl) rfl rfl) (by assumption) ?_
      try simp only [Act.put, List.setIfInBounds_toArray, List.set_cons_zero, List.set_cons_succ]
      refine take_lit (i := 8) rfl (by kernel_rfl) (by kernel_rfl) (by kernel_rfl) (fun _ _ _ h => h) (yQ p (fun w h => (HS.out _ h).2.2) (by rfl) rfl rfl) (by assumption) ?_
      try simp only [Act.put, List.setIfInBounds_toArray, List.set_cons_zero, List.set_cons_succ]
      refine take_lit (i := 9) (v := ?_) rfl (by kernel_rfl) (by kernel_rfl) (by kernel_rfl) (fun _ _ _ h => h) (Or.inl ⟨by rfl, ?_⟩) (by assumption) ?_
      rotate_left
      · (intro w hSw; (try dsimp only at hSw); have z := hEQ w; have z2 := fun op x y => gEQ op x y w; go_simp <;> with_reducible rfl)
      try simp only [Act.put, List.setIfInBounds_toArray, List.set_cons_zero, List.set_cons_succ]
      refine wpAnyH_done (by kernel_rfl) ?_ _
      refine NoPanic.normal ?_
      refine name_world (R := fun W => Exit.then _ _ _ _ W) (P := fun W => Below wr.heap.size wr W) _ hHeld ?_
      clear hHeld hEQ gEQ
      intro V hV
      have bV := bt bX hV
      have oV := own_below hO hV
      obtain ⟨cV, lV, _⟩ := HS.out _ hV
      have hXV : X.heap.size ≤ V.heap.size := bV.size
      cases b1 with
      | true =>
        rw [if_neg (by simp)] at F1
        have HF : Hid ((K.take (j + 1)).filter (fun n => !qB n.p p) = (K.take j).filter (fun n => !qB n.p p)) := F1
        clear F1 hO cL HS lV cV
        go_wp2_with fail
        go_roundw
        case rel => exact ⟨j + 1, a1, n1, c1, HJ.out, by first | (rw [hw64]; rfl) | rfl | go_num, rfl, by rw [HF.out]; exact oV, bV⟩
        case measure => first | (rw [hw64]; simp only [intOf]; exact HM.out) | (simp only [intOf]; exact HM.out)
      | false =>
        rw [if_pos (by simp)] at F1
        have HF : Hid ((K.take (j + 1)).filter (fun n => !qB n.p p) = (K.take j).filter (fun n => !qB n.p p) ++ [n]) := F1
        clear F1 hO cL HS
        go_wp2_with (first
          | (have kk := r6; at_builtin; refine app_at (.tmp 27) (.tmp 35) rfl rfl X.heap.size (.slice a1 n1 c1) _ (by (repeat (first | with_reducible refine ev_ne ?_ rfl | with_reducible refine ev_no ?_ | (with_reducible refine ev_eq (n := 50) ?_ rfl; repeat (first | with_reducible refine sz_put ?_ | with_reducible refine sz_no ?_ | rfl)) | rfl))) o6 _ 1 n (by (repeat (first | with_reducible refine ev_ne ?_ rfl | with_reducible refine ev_no ?_ | (with_reducible refine ev_eq (n := 50) ?_ rfl; repeat (first | with_reducible refine sz_put ?_ | with_reducible refine sz_no ?_ | rfl)) | rfl))) r6 HL.out hX6 ?_; intro v7 W7 o7 g7 e7; obtain ⟨a7, c7, rfl, _⟩ := Kd.own_at o7; have b7 := below_keepO b6x g7 (fun g hg => own_ne_lt o6 hg) hX6)
          | ((with_reducible refine bsG (T := 29) (U := 67) (n := 1) [(0, .tmp 34)] (scs n) ?_ ?_ ?_ ?_); (focus rfl); (focus rfl); (focus exact (fun w => bsN1 n w)); intro W6 r6 b6; have o6 := own_below oV b6; have b6x := bt bV b6; have hX6 : X.heap.size ≤ W6.heap.size := b6x.size)
          | (refine ldS (.tmp 33) rfl rfl _ _ n rfl lV ?_))
        go_roundw
        case rel => exact ⟨j + 1, a7, _, c7, HJ.out, by first | (rw [hw64]; rfl) | rfl | go_num, rfl, by rw [HF.out]; rw [List.length_append] at o7; exact o7, b7⟩
        case measure => first | (rw [hw64]; simp only [intOf]; exact HM.out) | (simp only [intOf]; exact HM.out)
    · have hjl : j = K.length := by omega
      subst hjl
      rw [List.take_length] at hO
      have hrow := HR.out.below bw hrl
      have c0 := hrow.cell 1
      have f0 := hrow.frozen 1
      have hn := own_get hO
      subst hn
      have hfl := List.length_filter_le (fun n : Sr => !qB n.p p) K
      have HFin : Hid (Rb (wr.setCell ⟨r, 1, none⟩ (.slice a1 (K.filter fun n => !qB n.p p).length c1)) B r most (K.filter fun n => !qB n.p p) ∧ RTurn w (wr.setCell ⟨r, 1, none⟩ (.slice a1 (K.filter fun n => !qB n.p p).length c1)) B r) := by
        have hg := grownBy_setCell wr r 1 (.slice a1 (K.filter fun n => !qB n.p p).length c1)
        refine ⟨⟨⟨a1, c1, hrow.set 1 _, Kd.own_up (World.ownsRow.kept hO hg (.inr (own_ne_lt hO (Nat.lt_of_lt_of_le hrl hB.size)))) (Nat.le_trans hBw hB.size)⟩, fun n hn => hok n (List.mem_filter.1 hn).1, by omega⟩, RTurn.pre bw (RTurn.self hg)⟩
      have hwn : wrap64 ((K.length : Int) - ((K.filter fun n => !qB n.p p).length : Nat)) = (K.length : Int) - ((K.filter fun n => !qB n.p p).length : Nat) := by unfold wrap64; omega
      clear hO hrow HR L1 L2 hok hfl
      go_wp2_with fail
      go_ret
      exact ⟨by first | exact congrArg (fun z => Ending.returned (Value.int .i64 z)) hwn | rfl, HFin.out⟩
end Go.Proofs.Ytbjclphgabpgoaa
