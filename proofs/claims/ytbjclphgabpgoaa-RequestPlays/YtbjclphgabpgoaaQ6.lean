/-
  The document's Ask.
-/
import Derived.Test.YtbjclphgabpgoaaQ5
namespace Go.Proofs.Ytbjclphgabpgoaa
open Go.RowKit Go.Maps Go.Shelf
set_option linter.unusedSimpArgs false
set_option linter.unusedVariables false
set_option maxRecDepth 20000
theorem app_one {W : World} (ty : TypeId) {B g : Nat} {v : Value} {l : List Sr} {n : Sr} (ho : kN.Own W B v l) (hr : Row W g 67 (scs n)) (hl : l.length ≤ 9000000) (hB : B ≤ W.heap.size) : ∃ v' w', (Builtin.append_ #[29, 29] ty #[v, .slice (some ⟨g, 0, none⟩) 1 1]).run Try.prog W = .ok v' w' ∧ kN.Own w' B v' (l ++ [n]) ∧ W.grownBy w' v.ownBlock ∧ (v'.ownBlock = v.ownBlock ∨ v'.ownBlock = some W.heap.size) :=
  run_app ty B v l [n] ho _ 1 1 rfl (by simp) (fun _ => ⟨g, 0, rfl, fun j x hj => by
    match j, hj with
    | 0, rfl => exact hr.sr⟩) (fun a e => by cases e; rfl) (by simp; omega) hB
/-- The parts of the table's slice, and what appending them leaves. -/
def SlP (w : World) (K : List Sr) (ad : Option Addr) (c k : Nat) : Prop := ∃ s1 z1 s2 z2, (∀ z : Int, z = (k : Int) → ∀ W, (Instr.slice 29 (.slice ad K.length c) none (some (.int .i64 z)) none).run Try.prog W = .ok (.slice s1 k z1) W) ∧ (∀ z : Int, z = (k : Int) → ∀ W, (Instr.slice 29 (.slice ad K.length c) (some (.int .i64 z)) none none).run Try.prog W = .ok (.slice s2 (K.length - k) z2) W) ∧
  (∀ V, Below w.heap.size w V → ∀ W, Below V.heap.size V W → ∀ (ty : TypeId) (v : Value) (l : List Sr), kN.Own W V.heap.size v l → l.length ≤ 2000000 → ∃ v' w', (Builtin.append_ #[29, 29] ty #[v, .slice s1 k z1]).run Try.prog W = .ok v' w' ∧ kN.Own w' V.heap.size v' (l ++ K.take k) ∧ W.grownBy w' v.ownBlock ∧ (v'.ownBlock = v.ownBlock ∨ v'.ownBlock = some W.heap.size)) ∧
  (∀ V, Below w.heap.size w V → ∀ W, Below V.heap.size V W → ∀ (ty : TypeId) (v : Value) (l : List Sr), kN.Own W V.heap.size v l → l.length ≤ 2000000 → ∃ v' w', (Builtin.append_ #[29, 29] ty #[v, .slice s2 (K.length - k) z2]).run Try.prog W = .ok v' w' ∧ kN.Own w' V.heap.size v' (l ++ K.drop k) ∧ W.grownBy w' v.ownBlock ∧ (v'.ownBlock = v.ownBlock ∨ v'.ownBlock = some W.heap.size))
theorem Rb.parts {w : World} {B r : Nat} {most : Int} {K : List Sr} (h : Rb w B r most K) : ∃ ad c, Row w r 31 [.int .i64 most, .slice ad K.length c] ∧ (K ≠ [] → ∃ g, ad = some ⟨g, 0, none⟩ ∧ ∀ W, Below w.heap.size w W → ∀ (j : Nat) (n : Sr), K[j]? = some n → LS W g (j * 45) n) ∧ ∀ k, k ≤ K.length → SlP w K ad c k := by
  have hll := h.ll
  obtain ⟨ad, c, h1, h2⟩ := h.ex
  have hat : K ≠ [] → ∃ g, ad = some ⟨g, 0, none⟩ ∧ ∀ W, Below w.heap.size w W → ∀ (j : Nat) (n : Sr), K[j]? = some n → LS W g (j * 45) n := fun hne => by
    obtain ⟨ad', c', e, hat⟩ := Kd.own_at h2
    cases e
    obtain ⟨g, rfl, _, hg, _, hc⟩ := hat hne
    exact ⟨g, rfl, fun W hW j n hj => rangeAt_below (hc j n hj) hW hg⟩
  refine ⟨ad, c, h1, hat, fun k hk => ?_⟩
  rcases h2.2 with ⟨e, h0⟩ | ⟨g, cap, cur, e, hB, hh, hc1, hc2, hc3, hc4⟩
  · have hK : K = [] := List.eq_nil_of_length_eq_zero h0
    subst hK
    obtain ⟨rfl, rfl⟩ : ad = none ∧ c = 0 := by cases e; exact ⟨rfl, rfl⟩
    obtain rfl : k = 0 := by simpa using hk
    refine ⟨none, 0, none, 0, fun z hz => by subst hz; exact run_slH0, fun z hz => by subst hz; exact run_slL0, fun V hV W hW ty v l ho hl => ?_, fun V hV W hW ty v l ho hl => ?_⟩
    · exact run_app ty V.heap.size v l [] ho none 0 0 rfl (fun _ => rfl) (fun h => absurd rfl h) (fun a e => by cases e) (by simp; omega) hW.size
    · exact run_app ty V.heap.size v l [] ho none 0 0 rfl (fun _ => rfl) (fun h => absurd rfl h) (fun a e => by cases e) (by simp; omega) hW.size
  · obtain ⟨rfl, rfl⟩ : ad = some ⟨g, 0, none⟩ ∧ c = cap := by cases e; exact ⟨rfl, rfl⟩
    have hcm : c ≤ 9223372036854775807 := hc2
    have hLS : ∀ W, Below w.heap.size w W → ∀ (j : Nat) (n : Sr), K[j]? = some n → LS W g (j * 45) n := fun W hW j n hj => by
      have hne : K ≠ [] := by intro e; rw [e] at hj; simp at hj
      obtain ⟨g', e', hc⟩ := hat hne
      cases e'
      exact hc W hW j n hj
    refine ⟨some ⟨g, 0, none⟩, c, (if c = k then some ⟨g, 0, none⟩ else some ⟨g, k * 45, none⟩), c - k, fun z hz => by subst hz; exact run_slH g K.length c k hk hc1 hcm, fun z hz => by subst hz; exact run_slL g K.length c k hk hc1 hcm, fun V hV W hW ty v l ho hl => ?_, fun V hV W hW ty v l ho hl => ?_⟩
    · refine run_app ty V.heap.size v l (K.take k) ho _ k c (by rw [List.length_take, Nat.min_eq_left hk]) (by simp) (fun _ => ⟨g, 0, rfl, fun j n hj => ?_⟩) (fun a e => by cases e; rfl) (by rw [List.length_take, Nat.min_eq_left hk]; omega) hW.size
      rw [Nat.zero_add]
      exact hLS W (bt hV hW) j n (take_get hj)
    · refine run_app ty V.heap.size v l (K.drop k) ho _ (K.length - k) (c - k) (by rw [List.length_drop]) (by split <;> simp) (fun hne => ?_) (fun a e => by split at e <;> cases e <;> rfl) (by rw [List.length_drop]; omega) hW.size
      have hck : ¬ c = k := fun e => by
        apply hne
        exact List.drop_eq_nil_of_le (by omega)
      rw [if_neg hck]
      refine ⟨g, k * 45, rfl, fun j n hj => ?_⟩
      rw [List.getElem?_drop] at hj
      have := hLS W (bt hV hW) (k + j) n hj
      rwa [Nat.add_mul] at this
set_option maxHeartbeats 64000000 in
theorem rask_any {w : World} {B r : Nat} {most : Int} {K : List Sr} (h : Rb w B r most K) (now : Int) (p : Pr) (i : Id8) (s : Int) (n : Sr) (hn : n = ⟨p, i, s, 1, now + 2000⟩) (hBw : B ≤ w.heap.size) (t0 : 0 ≤ now) (t1 : now ≤ 562949953421312) (s0 : 0 ≤ s) (s1 : s < 65536) (hl : K.length < 1000000) :
    Calls Try.prog 14 #[.pointer (some ⟨r, 0, none⟩), .int .i64 now, (Value.agg (qcells p).toArray), idV i, .int .u16 s] w fun e w' => ∃ b z K', e = .returned (.tuple #[.bool b, .int .i64 z]) ∧ AskP most K p i s n b z K' ∧ Rb w' B r most K' ∧ RTurn w w' B r := by
  have hFi := fun W (hW : Below w.heap.size w W) => rfind_any (h.below hW) p i
  have hrl := h.lt
  have HH : Hid (Rb w B r most K) := h
  obtain ⟨hB0, r0, r1⟩ := low_rows w (qcells p) (icells i) 38 40
  have hll := h.ll
  obtain ⟨ad, c, hrow0, L2, hSl⟩ := h.parts
  have HRow : Hid (∀ W, Below w.heap.size w W → Row W r 31 [.int .i64 most, .slice ad K.length c]) := fun W hW => hrow0.below hW hrl
  have hwn : wrap64 (now + 2000) = now + 2000 := by unfold wrap64; omega
  have HNok : Hid n.ok := by rw [hn]; exact ⟨s0, s1, by show (0 : Int) ≤ 1; omega, by show (1 : Int) ≤ 4; omega, by show 0 ≤ now + 2000; omega, by show now + 2000 ≤ _; omega⟩
  have HSb : Hid (0 ≤ s ∧ s < 65536) := ⟨s0, s1⟩
  have HNp : Hid (n.p = p ∧ n.id = i) := by rw [hn]; exact ⟨rfl, rfl⟩
  have HNb : Hid (∀ w, (Instr.build 67 #[(0, (Value.agg (qcells p).toArray)), (1, idV i), (2, .int .u16 s), (3, .int .i64 1), (4, .int .i64 (wrap64 (now + 2000)))]).run Try.prog w = .ok (sV n) w) := fun w => by rw [hn, hwn]; exact bdSr5 p i s 1 (now + 2000) w
  clear h hrow0 t0 t1 s0 s1 hn
  go_enter Try.func14, Try.ntmps14
  go_upto_region 1 with fail
  refine name_world (R := fun W => Code.wp _ _ _ _ W) (P := fun W => Below w.heap.size w W ∧ Row W w.heap.size 38 (qcells p) ∧ Row W (w.heap.size + 1) 40 (icells i)) _ ⟨hB0, r0, r1⟩ ?_
  clear hB0 r0 r1
  rintro Y ⟨hBY, r0, r1⟩
  go_upto_region 2 with (first
    | (have kk := rx; (with_reducible refine stS (.tmp 12) (.tmp 20) ?_ ?_ gx n zeroS ?_ ?_ ?_ ?_); (focus rfl); (focus rfl); (focus (repeat (first | with_reducible refine ev_ne ?_ rfl | with_reducible refine ev_no ?_ | (with_reducible refine ev_eq (n := 126) ?_ rfl; repeat (first | with_reducible refine sz_put ?_ | with_reducible refine sz_no ?_ | rfl)) | rfl))); (focus (repeat (first | with_reducible refine ev_ne ?_ rfl | with_reducible refine ev_no ?_ | (with_reducible refine ev_eq (n := 126) ?_ rfl; repeat (first | with_reducible refine sz_put ?_ | with_reducible refine sz_no ?_ | rfl)) | rfl))); (focus exact rx); intro X gX rX; have bX0 := grown_below gX hBx hgex hBx.size; clear rx)
    | ((with_reducible refine alG infoSz ?_ ?_ ?_); (focus rfl); (focus rfl); intro gx Wx hgex hglx hBx rx)
    | ((with_reducible refine bdG (T := 67) (v := sV n) [(0, .tmp 15), (1, .tmp 16), (2, .tmp 17), (3, .const (.int .i64 1)), (4, .tmp 19)] ?_ ?_ ?_ ?_); (focus rfl); (focus rfl); (focus exact HNb.out _))
    | ((with_reducible refine ldI (.tmp 8) ?_ ?_ (w.heap.size + 1) 0 i ?_ ?_ ?_); (focus rfl); (focus rfl); (focus (repeat (first | with_reducible refine ev_ne ?_ rfl | with_reducible refine ev_no ?_ | (with_reducible refine ev_eq (n := 126) ?_ rfl; repeat (first | with_reducible refine sz_put ?_ | with_reducible refine sz_no ?_ | rfl)) | rfl))); (focus exact r1.range))
    | ((with_reducible refine ldQ (.tmp 7) ?_ ?_ w.heap.size 0 p ?_ ?_ ?_); (focus rfl); (focus rfl); (focus (repeat (first | with_reducible refine ev_ne ?_ rfl | with_reducible refine ev_no ?_ | (with_reducible refine ev_eq (n := 126) ?_ rfl; repeat (first | with_reducible refine sz_put ?_ | with_reducible refine sz_no ?_ | rfl)) | rfl))); (focus exact r0.range)))
  have hB : Below w.heap.size w X := bt hBY bX0
  have HQ0 : Hid (∀ W, Below X.heap.size X W → LQ W w.heap.size 0 p ∧ LI W (w.heap.size + 1) 0 i) := fun W hW => ⟨(r0.below (bt bX0 hW) r0.lt).range, (r1.below (bt bX0 hW) r1.lt).range⟩
  have HX0 : Hid (∀ W, Below X.heap.size X W → Row W gx 67 (scs n)) := fun W hW => rX.below hW rX.lt
  replace hFi := hFi X hB
  clear r0 r1 rX bX0 hBY hBx gX hwn
  rcases fnd_some (K := K) (p := p) (i := i) with ⟨e1, e2⟩ | ⟨k, m, e1, e2, e3⟩
  · rw [e1] at hFi
    have HG : Hid (getN K p i = none) := e2
    clear e1 e2
    go_upto_region 8 with (first
      | (go_at_call 31; refine hFi.mono ?_; rintro e w1 ⟨rfl, b1⟩)
      | ((with_reducible refine ldI (.tmp 8) ?_ ?_ (w.heap.size + 1) 0 i ?_ ?_ ?_); (focus rfl); (focus rfl); (focus (repeat (first | with_reducible refine ev_ne ?_ rfl | with_reducible refine ev_no ?_ | (with_reducible refine ev_eq (n := 126) ?_ rfl; repeat (first | with_reducible refine sz_put ?_ | with_reducible refine sz_no ?_ | rfl)) | rfl))); (focus exact (HQ0.out _ (Below.refl _ _)).2))
      | ((with_reducible refine ldQ (.tmp 7) ?_ ?_ w.heap.size 0 p ?_ ?_ ?_); (focus rfl); (focus rfl); (focus (repeat (first | with_reducible refine ev_ne ?_ rfl | with_reducible refine ev_no ?_ | (with_reducible refine ev_eq (n := 126) ?_ rfl; repeat (first | with_reducible refine sz_put ?_ | with_reducible refine sz_no ?_ | rfl)) | rfl))); (focus exact (HQ0.out _ (Below.refl _ _)).1)))
    have hRw := HRow.out _ (bt hB b1)
    have hrw1 := hRw.lt
    refine wp_region_noPanic ?_
    refine wp_region_held_drew (S := fun W => Below w1.heap.size w1 W) (by kernel_rfl) ((Below.refl _ _).drew) (fun hHeld => ?_)
    refine take_lit (i := 0) (v := ?_) rfl (by kernel_rfl) (by kernel_rfl) (by kernel_rfl) (fun _ _ _ h => h) (Or.inl ⟨by rfl, ?_⟩) (by assumption) ?_
    rotate_left
    · (intro w hSw; (try dsimp only at hSw); go_simp <;> with_reducible rfl)
    try simp only [Act.put, List.setIfInBounds_toArray, List.set_cons_zero, List.set_cons_succ]
    refine take_lit (i := 1) (v := ?_) rfl (by kernel_rfl) (by kernel_rfl) (by kernel_rfl) (fun _ _ _ h => h) (Or.inl ⟨by rfl, ?_⟩) (by assumption) ?_
    rotate_left
    · (intro w hSw; (try dsimp only at hSw); go_simp <;> with_reducible rfl)
    try simp only [Act.put, List.setIfInBounds_toArray, List.set_cons_zero, List.set_cons_succ]
    refine take_lit (i := 2) (v := ?_) rfl (by kernel_rfl) (by kernel_rfl) (by kernel_rfl) (fun _ _ _ h => h) (Or.inl ⟨by rfl, ?_⟩) (by assumption) ?_
    rotate_left
    · (intro w hSw; (try dsimp only at hSw); go_simp <;> with_reducible rfl)
    try simp only [Act.put, List.setIfInBounds_toArray, List.set_cons_zero, List.set_cons_succ]
    refine take_lit (i := 3) (v := ?_) rfl (by kernel_rfl) (by kernel_rfl) (by kernel_rfl) (fun _ _ _ h => h) (Or.inl ⟨by rfl, ?_⟩) (by assumption) ?_
    rotate_left
    · (intro w hSw; (try dsimp only at hSw); have z := (hRw.below hSw hrw1).cell 1; go_simp <;> with_reducible rfl)
    try simp only [Act.put, List.setIfInBounds_toArray, List.set_cons_zero, List.set_cons_succ]
    refine take_lit (i := 4) (v := ?_) rfl (by kernel_rfl) (by kernel_rfl) (by kernel_rfl) (fun _ _ _ h => h) (Or.inl ⟨by rfl, ?_⟩) (by assumption) ?_
    rotate_left
    · (intro w hSw; (try dsimp only at hSw); go_simp <;> with_reducible rfl)
    try simp only [Act.put, List.setIfInBounds_toArray, List.set_cons_zero, List.set_cons_succ]
    refine take_lit (i := 5) (v := ?_) rfl (by kernel_rfl) (by kernel_rfl) (by kernel_rfl) (fun _ _ _ h => h) (Or.inl ⟨by rfl, ?_⟩) (by assumption) ?_
    rotate_left
    · (intro w hSw; (try dsimp only at hSw); go_simp <;> with_reducible rfl)
    try simp only [Act.put, List.setIfInBounds_toArray, List.set_cons_zero, List.set_cons_succ]
    refine take_lit (i := 6) (v := ?_) rfl (by kernel_rfl) (by kernel_rfl) (by kernel_rfl) (fun _ _ _ h => h) (Or.inl ⟨by rfl, ?_⟩) (by assumption) ?_
    rotate_left
    · (intro w hSw; (try dsimp only at hSw); go_simp <;> with_reducible rfl)
    try simp only [Act.put, List.setIfInBounds_toArray, List.set_cons_zero, List.set_cons_succ]
    refine take_lit (i := 7) (v := ?_) rfl (by kernel_rfl) (by kernel_rfl) (by kernel_rfl) (fun _ _ _ h => h) (Or.inl ⟨by rfl, ?_⟩) (by assumption) ?_
    rotate_left
    · (intro w hSw; (try dsimp only at hSw); go_simp <;> with_reducible rfl)
    try simp only [Act.put, List.setIfInBounds_toArray, List.set_cons_zero, List.set_cons_succ]
    refine take_lit (i := 8) (v := ?_) rfl (by kernel_rfl) (by kernel_rfl) (by kernel_rfl) (fun _ _ _ h => h) (Or.inl ⟨by rfl, ?_⟩) (by assumption) ?_
    rotate_left
    · (intro w hSw; (try dsimp only at hSw); have z := (hRw.below hSw hrw1).cell 0; go_simp <;> with_reducible rfl)
    try simp only [Act.put, List.setIfInBounds_toArray, List.set_cons_zero, List.set_cons_succ]
    refine take_lit (i := 9) (v := ?_) rfl (by kernel_rfl) (by kernel_rfl) (by kernel_rfl) (fun _ _ _ h => h) (Or.inl ⟨by rfl, ?_⟩) (by assumption) ?_
    rotate_left
    · (intro w hSw; (try dsimp only at hSw); go_simp <;> with_reducible rfl)
    try simp only [Act.put, List.setIfInBounds_toArray, List.set_cons_zero, List.set_cons_succ]
    refine wpAnyH_done (by kernel_rfl) ?_ _
    refine NoPanic.normal ?_
    refine name_world (R := fun W => Exit.then _ _ _ _ W) (P := fun W => Below w1.heap.size w1 W) _ hHeld ?_
    clear hHeld
    intro V0 hV0
    have bV0 := bt b1 hV0
    clear hFi hRw hrw1
    by_cases hmo : most ≤ (K.length : Int)
    · have HMo : Hid (most ≤ (K.length : Int)) := hmo
      clear hSl L2
      go_wp2_with fail
      go_ret2
      first | exact ⟨false, 6, K, rfl, .inr (.inr (.inl ⟨HG.out, HMo.out, rfl, rfl, rfl⟩)), HH.out.below (bt hB bV0), RTurn.of (bt hB bV0)⟩ | exact .inr ⟨6, rfl, K, .inr (.inr (.inl ⟨HG.out, HMo.out, rfl, rfl, rfl⟩)), HH.out.below (bt hB bV0), RTurn.of (bt hB bV0)⟩ | exact .inl ⟨6, rfl, K, .inr (.inr (.inl ⟨HG.out, HMo.out, rfl, rfl, rfl⟩)), HH.out.below (bt hB bV0), RTurn.of (bt hB bV0)⟩ | exact ⟨6, rfl, K, .inr (.inr (.inl ⟨HG.out, HMo.out, rfl, rfl, rfl⟩)), HH.out.below (bt hB bV0), RTurn.of (bt hB bV0)⟩
    · have HLen : Hid ((K.length : Int) < most) := by show _ < _; omega
      have hmo' : (K.length : Int) < most := HLen.out
      clear hmo
      have HFin : Hid (∀ (V W' : World) (k : Nat), InsP K n k → Below w.heap.size w V → ∀ (a : Option Addr) (cc : Nat) {W : World}, kN.Own W V.heap.size (.slice a (K.take k ++ n :: K.drop k).length cc) (K.take k ++ n :: K.drop k) → Below V.heap.size V W → W.grownBy W' (some r) → Row W' r 31 ([.int .i64 most, .slice ad K.length c].set 1 (.slice a (K.take k ++ n :: K.drop k).length cc)) → Rb W' B r most (K.take k ++ n :: K.drop k)) := fun V W' k hi hV a cc W ho hW hg hr => by
        refine ⟨⟨a, cc, hr, Kd.own_up (World.ownsRow.kept ho hg (.inr (own_ne_lt ho (Nat.lt_of_lt_of_le hrl hV.size)))) (Nat.le_trans hBw hV.size)⟩, fun x hx => ?_, ?_⟩
        · rcases List.mem_append.1 hx with h1 | h1
          · exact HH.out.ok x (List.mem_of_mem_take h1)
          · rcases List.mem_cons.1 h1 with rfl | h1
            · exact HNok.out
            · exact HH.out.ok x (List.mem_of_mem_drop h1)
        · have := hi.le
          simp only [List.length_append, List.length_take, List.length_cons, List.length_drop]
          omega
      have HQ : Hid (∀ W, Below X.heap.size X W → LQ W w.heap.size 0 p) := fun W hW => (HQ0.out W hW).1
      have HI : Hid (∀ W, Below X.heap.size X W → LI W (w.heap.size + 1) 0 i) := fun W hW => (HQ0.out W hW).2
      have HCmp : Hid (∀ x : Sr, cmpN x n = orI (cmpQ x.p p) (Lib.compareBytes x.id.l i.l)) := fun x => by rw [← HNp.out.1, ← HNp.out.2]; rfl
      clear HQ0
      have cV0 : V0.cell? ⟨r, 1, none⟩ = some (.slice ad K.length c) := (HRow.out _ (bt hB bV0)).cell 1
      go_wp2_with fail
      go_loopw [14] (fun u wr => ∃ k : Nat, k ≤ K.length ∧ u = .int .i64 k ∧ (∀ x ∈ K.drop k, 0 < cmpN x n) ∧ Below X.heap.size X wr) (fun u _ => (intOf u).toNat)
      case atStart => exact ⟨K.length, Nat.le_refl _, rfl, by simp, bV0⟩
      case round =>
        clear cV0 bV0 hV0
        obtain ⟨k, hk, rfl, hhi, bX⟩ := hrel
        have hVw : Below w.heap.size w wr := bt hB bX
        have hVX : X.heap.size ≤ wr.heap.size := bX.size
        have HQ2 : Hid (∀ W, Below wr.heap.size wr W → LQ W w.heap.size 0 p ∧ LI W (w.heap.size + 1) 0 i) := fun W hW => ⟨HQ.out _ (bt bX hW), HI.out _ (bt bX hW)⟩
        have hRw := HRow.out _ hVw
        have hrw1 := hRw.lt
        cases k with
        | zero =>
          have hIns : InsP K n 0 := ⟨Nat.zero_le _, hhi, fun x h => by omega⟩
          rw [show ((0 : Nat) : Int) = 0 from rfl]
          go_upto_region 11 with fail
          refine wp_region_noPanic ?_
          refine wp_region_held_drew (S := fun W => Below wr.heap.size wr W) (by kernel_rfl) ((Below.refl _ _).drew) (fun hHeld => ?_)
          refine take_lit (i := 0) (v := ?_) rfl (by kernel_rfl) (by kernel_rfl) (by kernel_rfl) (fun _ _ _ h => h) (Or.inl ⟨by rfl, ?_⟩) (by assumption) ?_
          rotate_left
          · (intro w hSw; (try dsimp only at hSw); go_simp <;> with_reducible rfl)
          try simp only [Act.put, List.setIfInBounds_toArray, List.set_cons_zero, List.set_cons_succ]
          refine take_lit (i := 1) (v := ?_) rfl (by kernel_rfl) (by kernel_rfl) (by kernel_rfl) (fun _ _ _ h => h) (Or.inl ⟨by rfl, ?_⟩) (by assumption) ?_
          rotate_left
          · (intro w hSw; (try dsimp only at hSw); go_simp <;> with_reducible rfl)
          try simp only [Act.put, List.setIfInBounds_toArray, List.set_cons_zero, List.set_cons_succ]
          refine take_lit (i := 2) (v := ?_) rfl (by kernel_rfl) (by kernel_rfl) (by kernel_rfl) (fun _ _ _ h => h) (Or.inl ⟨by rfl, ?_⟩) (by assumption) ?_
          rotate_left
          · (intro w hSw; (try dsimp only at hSw); go_simp <;> with_reducible rfl)
          try simp only [Act.put, List.setIfInBounds_toArray, List.set_cons_zero, List.set_cons_succ]
          refine take_lit (i := 3) rfl (by kernel_rfl) (by kernel_rfl) (by kernel_rfl) (fun _ _ _ h => h) (Or.inr ⟨by rfl, rfl⟩) (by assumption) ?_
          try simp only [Act.put, List.setIfInBounds_toArray, List.set_cons_zero, List.set_cons_succ]
          refine take_lit (i := 4) rfl (by kernel_rfl) (by kernel_rfl) (by kernel_rfl) (fun _ _ _ h => h) (Or.inr ⟨by rfl, rfl⟩) (by assumption) ?_
          try simp only [Act.put, List.setIfInBounds_toArray, List.set_cons_zero, List.set_cons_succ]
          refine take_lit (i := 5) rfl (by kernel_rfl) (by kernel_rfl) (by kernel_rfl) (fun _ _ _ h => h) (Or.inr ⟨by rfl, rfl⟩) (by assumption) ?_
          try simp only [Act.put, List.setIfInBounds_toArray, List.set_cons_zero, List.set_cons_succ]
          refine take_lit (i := 6) rfl (by kernel_rfl) (by kernel_rfl) (by kernel_rfl) (fun _ _ _ h => h) (Or.inr ⟨by rfl, rfl⟩) (by assumption) ?_
          try simp only [Act.put, List.setIfInBounds_toArray, List.set_cons_zero, List.set_cons_succ]
          refine take_lit (i := 7) rfl (by kernel_rfl) (by kernel_rfl) (by kernel_rfl) (fun _ _ _ h => h) (Or.inr ⟨by rfl, rfl⟩) (by assumption) ?_
          try simp only [Act.put, List.setIfInBounds_toArray, List.set_cons_zero, List.set_cons_succ]
          refine take_lit (i := 8) rfl (by kernel_rfl) (by kernel_rfl) (by kernel_rfl) (fun _ _ _ h => h) (Or.inr ⟨by rfl, rfl⟩) (by assumption) ?_
          try simp only [Act.put, List.setIfInBounds_toArray, List.set_cons_zero, List.set_cons_succ]
          refine take_lit (i := 9) rfl (by kernel_rfl) (by kernel_rfl) (by kernel_rfl) (fun _ _ _ h => h) (Or.inr ⟨by rfl, rfl⟩) (by assumption) ?_
          try simp only [Act.put, List.setIfInBounds_toArray, List.set_cons_zero, List.set_cons_succ]
          refine take_lit (i := 10) rfl (by kernel_rfl) (by kernel_rfl) (by kernel_rfl) (fun _ _ _ h => h) (Or.inr ⟨by rfl, rfl⟩) (by assumption) ?_
          try simp only [Act.put, List.setIfInBounds_toArray, List.set_cons_zero, List.set_cons_succ]
          refine take_lit (i := 11) rfl (by kernel_rfl) (by kernel_rfl) (by kernel_rfl) (fun _ _ _ h => h) (Or.inr ⟨by rfl, rfl⟩) (by assumption) ?_
          try simp only [Act.put, List.setIfInBounds_toArray, List.set_cons_zero, List.set_cons_succ]
          refine take_lit (i := 12) rfl (by kernel_rfl) (by kernel_rfl) (by kernel_rfl) (fun _ _ _ h => h) (Or.inr ⟨by rfl, rfl⟩) (by assumption) ?_
          try simp only [Act.put, List.setIfInBounds_toArray, List.set_cons_zero, List.set_cons_succ]
          refine take_lit (i := 13) rfl (by kernel_rfl) (by kernel_rfl) (by kernel_rfl) (fun _ _ _ h => h) (Or.inr ⟨by rfl, rfl⟩) (by assumption) ?_
          try simp only [Act.put, List.setIfInBounds_toArray, List.set_cons_zero, List.set_cons_succ]
          refine take_lit (i := 14) rfl (by kernel_rfl) (by kernel_rfl) (by kernel_rfl) (fun _ _ _ h => h) (Or.inr ⟨by rfl, rfl⟩) (by assumption) ?_
          try simp only [Act.put, List.setIfInBounds_toArray, List.set_cons_zero, List.set_cons_succ]
          refine take_lit (i := 15) rfl (by kernel_rfl) (by kernel_rfl) (by kernel_rfl) (fun _ _ _ h => h) (Or.inr ⟨by rfl, rfl⟩) (by assumption) ?_
          try simp only [Act.put, List.setIfInBounds_toArray, List.set_cons_zero, List.set_cons_succ]
          refine take_lit (i := 16) rfl (by kernel_rfl) (by kernel_rfl) (by kernel_rfl) (fun _ _ _ h => h) (Or.inr ⟨by rfl, rfl⟩) (by assumption) ?_
          try simp only [Act.put, List.setIfInBounds_toArray, List.set_cons_zero, List.set_cons_succ]
          refine take_lit (i := 17) rfl (by kernel_rfl) (by kernel_rfl) (by kernel_rfl) (fun _ _ _ h => h) (Or.inr ⟨by rfl, rfl⟩) (by assumption) ?_
          try simp only [Act.put, List.setIfInBounds_toArray, List.set_cons_zero, List.set_cons_succ]
          refine take_lit (i := 18) rfl (by kernel_rfl) (by kernel_rfl) (by kernel_rfl) (fun _ _ _ h => h) (Or.inr ⟨by rfl, rfl⟩) (by assumption) ?_
          try simp only [Act.put, List.setIfInBounds_toArray, List.set_cons_zero, List.set_cons_succ]
          refine take_lit (i := 19) rfl (by kernel_rfl) (by kernel_rfl) (by kernel_rfl) (fun _ _ _ h => h) (Or.inr ⟨by rfl, rfl⟩) (by assumption) ?_
          try simp only [Act.put, List.setIfInBounds_toArray, List.set_cons_zero, List.set_cons_succ]
          refine take_lit (i := 20) rfl (by kernel_rfl) (by kernel_rfl) (by kernel_rfl) (fun _ _ _ h => h) (Or.inr ⟨by rfl, rfl⟩) (by assumption) ?_
          try simp only [Act.put, List.setIfInBounds_toArray, List.set_cons_zero, List.set_cons_succ]
          refine take_lit (i := 21) rfl (by kernel_rfl) (by kernel_rfl) (by kernel_rfl) (fun _ _ _ h => h) (Or.inr ⟨by rfl, rfl⟩) (by assumption) ?_
          try simp only [Act.put, List.setIfInBounds_toArray, List.set_cons_zero, List.set_cons_succ]
          refine take_lit (i := 22) rfl (by kernel_rfl) (by kernel_rfl) (by kernel_rfl) (fun _ _ _ h => h) (Or.inr ⟨by rfl, rfl⟩) (by assumption) ?_
          try simp only [Act.put, List.setIfInBounds_toArray, List.set_cons_zero, List.set_cons_succ]
          refine take_lit (i := 23) rfl (by kernel_rfl) (by kernel_rfl) (by kernel_rfl) (fun _ _ _ h => h) (Or.inr ⟨by rfl, rfl⟩) (by assumption) ?_
          try simp only [Act.put, List.setIfInBounds_toArray, List.set_cons_zero, List.set_cons_succ]
          refine take_lit (i := 24) rfl (by kernel_rfl) (by kernel_rfl) (by kernel_rfl) (fun _ _ _ h => h) (Or.inr ⟨by rfl, rfl⟩) (by assumption) ?_
          try simp only [Act.put, List.setIfInBounds_toArray, List.set_cons_zero, List.set_cons_succ]
          refine take_lit (i := 25) rfl (by kernel_rfl) (by kernel_rfl) (by kernel_rfl) (fun _ _ _ h => h) (Or.inr ⟨by rfl, rfl⟩) (by assumption) ?_
          try simp only [Act.put, List.setIfInBounds_toArray, List.set_cons_zero, List.set_cons_succ]
          refine take_lit (i := 26) rfl (by kernel_rfl) (by kernel_rfl) (by kernel_rfl) (fun _ _ _ h => h) (Or.inr ⟨by rfl, rfl⟩) (by assumption) ?_
          try simp only [Act.put, List.setIfInBounds_toArray, List.set_cons_zero, List.set_cons_succ]
          refine take_lit (i := 27) rfl (by kernel_rfl) (by kernel_rfl) (by kernel_rfl) (fun _ _ _ h => h) (Or.inr ⟨by rfl, rfl⟩) (by assumption) ?_
          try simp only [Act.put, List.setIfInBounds_toArray, List.set_cons_zero, List.set_cons_succ]
          refine take_lit (i := 28) rfl (by kernel_rfl) (by kernel_rfl) (by kernel_rfl) (fun _ _ _ h => h) (Or.inr ⟨by rfl, rfl⟩) (by assumption) ?_
          try simp only [Act.put, List.setIfInBounds_toArray, List.set_cons_zero, List.set_cons_succ]
          refine take_lit (i := 29) rfl (by kernel_rfl) (by kernel_rfl) (by kernel_rfl) (fun _ _ _ h => h) (Or.inr ⟨by rfl, rfl⟩) (by assumption) ?_
          try simp only [Act.put, List.setIfInBounds_toArray, List.set_cons_zero, List.set_cons_succ]
          refine take_lit (i := 30) rfl (by kernel_rfl) (by kernel_rfl) (by kernel_rfl) (fun _ _ _ h => h) (Or.inr ⟨by rfl, rfl⟩) (by assumption) ?_
          try simp only [Act.put, List.setIfInBounds_toArray, List.set_cons_zero, List.set_cons_succ]
          refine take_lit (i := 31) rfl (by kernel_rfl) (by kernel_rfl) (by kernel_rfl) (fun _ _ _ h => h) (Or.inr ⟨by rfl, rfl⟩) (by assumption) ?_
          try simp only [Act.put, List.setIfInBounds_toArray, List.set_cons_zero, List.set_cons_succ]
          refine take_lit (i := 32) rfl (by kernel_rfl) (by kernel_rfl) (by kernel_rfl) (fun _ _ _ h => h) (Or.inr ⟨by rfl, rfl⟩) (by assumption) ?_
          try simp only [Act.put, List.setIfInBounds_toArray, List.set_cons_zero, List.set_cons_succ]
          refine take_lit (i := 33) rfl (by kernel_rfl) (by kernel_rfl) (by kernel_rfl) (fun _ _ _ h => h) (Or.inr ⟨by rfl, rfl⟩) (by assumption) ?_
          try simp only [Act.put, List.setIfInBounds_toArray, List.set_cons_zero, List.set_cons_succ]
          refine take_lit (i := 34) rfl (by kernel_rfl) (by kernel_rfl) (by kernel_rfl) (fun _ _ _ h => h) (Or.inr ⟨by rfl, rfl⟩) (by assumption) ?_
          try simp only [Act.put, List.setIfInBounds_toArray, List.set_cons_zero, List.set_cons_succ]
          refine take_lit (i := 35) rfl (by kernel_rfl) (by kernel_rfl) (by kernel_rfl) (fun _ _ _ h => h) (Or.inr ⟨by rfl, rfl⟩) (by assumption) ?_
          try simp only [Act.put, List.setIfInBounds_toArray, List.set_cons_zero, List.set_cons_succ]
          refine take_lit (i := 36) rfl (by kernel_rfl) (by kernel_rfl) (by kernel_rfl) (fun _ _ _ h => h) (Or.inr ⟨by rfl, rfl⟩) (by assumption) ?_
          try simp only [Act.put, List.setIfInBounds_toArray, List.set_cons_zero, List.set_cons_succ]
          refine take_lit (i := 37) rfl (by kernel_rfl) (by kernel_rfl) (by kernel_rfl) (fun _ _ _ h => h) (Or.inr ⟨by rfl, rfl⟩) (by assumption) ?_
          try simp only [Act.put, List.setIfInBounds_toArray, List.set_cons_zero, List.set_cons_succ]
          refine take_lit (i := 38) rfl (by kernel_rfl) (by kernel_rfl) (by kernel_rfl) (fun _ _ _ h => h) (Or.inr ⟨by rfl, rfl⟩) (by assumption) ?_
          try simp only [Act.put, List.setIfInBounds_toArray, List.set_cons_zero, List.set_cons_succ]
          refine take_lit (i := 39) rfl (by kernel_rfl) (by kernel_rfl) (by kernel_rfl) (fun _ _ _ h => h) (Or.inr ⟨by rfl, rfl⟩) (by assumption) ?_
          try simp only [Act.put, List.setIfInBounds_toArray, List.set_cons_zero, List.set_cons_succ]
          refine take_lit (i := 40) rfl (by kernel_rfl) (by kernel_rfl) (by kernel_rfl) (fun _ _ _ h => h) (Or.inr ⟨by rfl, rfl⟩) (by assumption) ?_
          try simp only [Act.put, List.setIfInBounds_toArray, List.set_cons_zero, List.set_cons_succ]
          refine take_lit (i := 41) rfl (by kernel_rfl) (by kernel_rfl) (by kernel_rfl) (fun _ _ _ h => h) (Or.inr ⟨by rfl, rfl⟩) (by assumption) ?_
          try simp only [Act.put, List.setIfInBounds_toArray, List.set_cons_zero, List.set_cons_succ]
          refine take_lit (i := 42) (v := ?_) rfl (by kernel_rfl) (by kernel_rfl) (by kernel_rfl) (fun _ _ _ h => h) (Or.inl ⟨by rfl, ?_⟩) (by assumption) ?_
          rotate_left
          · (intro w hSw; (try dsimp only at hSw); go_simp <;> with_reducible rfl)
          try simp only [Act.put, List.setIfInBounds_toArray, List.set_cons_zero, List.set_cons_succ]
          refine wpAnyH_done (by kernel_rfl) ?_ _
          refine NoPanic.normal ?_
          refine name_world (R := fun W => Exit.then _ _ _ _ W) (P := fun W => Below wr.heap.size wr W) _ hHeld ?_
          clear hHeld
          intro V hV
          have bV := bt bX hV
          clear hRw hrw1 hhi L2 HQ2
          go_upto_region 13 with fail
          have hVb : Below w.heap.size w V := (bt hB bV)
          obtain ⟨s1, z1, s2, z2, S1, S2, A1, A2⟩ := hSl 0 hIns.le
          have hX := HX0.out _ bV
          have hXl := hX.lt
          have hrow := HRow.out _ hVb
          have hrV : r < V.heap.size := hrow.lt
          replace S1 := S1 0 rfl
          replace S2 := S2 0 rfl
          replace A1 := A1 V hVb
          replace A2 := A2 V hVb
          have HIn : Hid (InsP K n 0) := hIns
          clear hIns hSl
          refine wp_region_noPanic ?_
          refine wp_region_N (S := fun W => Below V.heap.size V W) 21 (by kernel_rfl) ((Below.refl _ _).drew) (fun hHeld => ?_)
          refine takeN_lit (i := 0) (v := ?_) (F := #[false, true, true, true, true, true, true, true, true, true, true, true, true, true, true, true, true, true, true, false, false, false]) rfl (by kernel_rfl) (by kernel_rfl) (by kernel_rfl) (by kernel_rfl) (fun _ _ _ h => h) (Or.inl ⟨by rfl, ?_⟩) (by assumption) ?_
          rotate_left
          · (intro w hSw; (try dsimp only at hSw); go_simp <;> with_reducible rfl)
          try simp only [Act.put, List.setIfInBounds_toArray, List.set_cons_zero, List.set_cons_succ]
          refine takeN_lit (i := 2) (v := ?_) (F := #[true, true, false, false, false, false, true, false, false, true, true, false, true, true, true, true, true, true, false, false, false, false]) rfl (by kernel_rfl) (by kernel_rfl) (by kernel_rfl) (by kernel_rfl) (fun _ _ _ h => h) (Or.inl ⟨by rfl, ?_⟩) (by assumption) ?_
          rotate_left
          · (intro w hSw; (try dsimp only at hSw); go_simp <;> with_reducible rfl)
          try simp only [Act.put, List.setIfInBounds_toArray, List.set_cons_zero, List.set_cons_succ]
          refine takeN_lit (i := 3) (v := ?_) (F := #[true, true, true, false, false, false, true, false, false, true, true, false, true, true, true, true, true, true, false, false, false, false]) rfl (by kernel_rfl) (by kernel_rfl) (by kernel_rfl) (by kernel_rfl) (fun _ _ _ h => h) (Or.inl ⟨by rfl, ?_⟩) (by assumption) ?_
          rotate_left
          · (intro w hSw; (try dsimp only at hSw); go_simp <;> with_reducible rfl)
          try simp only [Act.put, List.setIfInBounds_toArray, List.set_cons_zero, List.set_cons_succ]
          refine takeN_lit (i := 4) (v := ?_) (F := #[true, true, true, true, false, false, true, false, false, true, true, false, true, true, true, true, true, true, false, false, false, false]) rfl (by kernel_rfl) (by kernel_rfl) (by kernel_rfl) (by kernel_rfl) (fun _ _ _ h => h) (Or.inl ⟨by rfl, ?_⟩) (by assumption) ?_
          rotate_left
          · (intro w hSw; (try dsimp only at hSw); go_simp <;> with_reducible rfl)
          try simp only [Act.put, List.setIfInBounds_toArray, List.set_cons_zero, List.set_cons_succ]
          refine takeN_lit (i := 5) (v := ?_) (F := #[true, true, true, true, true, false, true, false, false, true, true, false, true, true, true, true, true, true, false, false, false, false]) rfl (by kernel_rfl) (by kernel_rfl) (by kernel_rfl) (by kernel_rfl) (fun _ _ _ h => h) (Or.inl ⟨by rfl, ?_⟩) (by assumption) ?_
          rotate_left
          · (intro w hSw; (try dsimp only at hSw); have z := (hrow.below hSw hrV).cell 1; go_simp <;> with_reducible rfl)
          try simp only [Act.put, List.setIfInBounds_toArray, List.set_cons_zero, List.set_cons_succ]
          refine takeN_lit (i := 6) (v := ?_) (F := #[true, true, true, true, true, true, false, false, false, true, true, false, true, true, true, true, true, true, false, false, false, false]) rfl (by kernel_rfl) (by kernel_rfl) (by kernel_rfl) (by kernel_rfl) (fun _ _ _ h => h) (Or.inl ⟨by rfl, ?_⟩) (by assumption) ?_
          rotate_left
          · (intro w hSw; (try dsimp only at hSw); go_simp <;> with_reducible rfl)
          try simp only [Act.put, List.setIfInBounds_toArray, List.set_cons_zero, List.set_cons_succ]
          refine takeN_lit (i := 7) (v := ?_) (F := #[true, true, true, true, true, true, true, false, false, true, true, false, true, true, true, true, true, true, false, false, false, false]) rfl (by kernel_rfl) (by kernel_rfl) (by kernel_rfl) (by kernel_rfl) (fun _ _ _ h => h) (Or.inl ⟨by rfl, ?_⟩) (by assumption) ?_
          rotate_left
          · (intro w hSw; (try dsimp only at hSw); have z := S1 w; go_simp <;> with_reducible rfl)
          try simp only [Act.put, List.setIfInBounds_toArray, List.set_cons_zero, List.set_cons_succ]
          refine takeN_lit (i := 9) (F := #[true, true, true, true, true, true, true, true, true, false, false, false, true, true, true, true, true, true, false, false, false, false]) rfl (by kernel_rfl) (by kernel_rfl) (by kernel_rfl) (by kernel_rfl) (fun _ _ _ h => h) (yS n (fun w h => (hX.below h hXl).sr) (by rfl) rfl rfl) (by assumption) ?_
          try simp only [Act.put, List.setIfInBounds_toArray, List.set_cons_zero, List.set_cons_succ]
          refine takeN_lit (i := 12) (v := ?_) (F := #[true, true, true, true, true, true, true, true, true, true, true, true, false, false, false, false, true, false, false, false, false, false]) rfl (by kernel_rfl) (by kernel_rfl) (by kernel_rfl) (by kernel_rfl) (fun _ _ _ h => h) (Or.inl ⟨by rfl, ?_⟩) (by assumption) ?_
          rotate_left
          · (intro w hSw; (try dsimp only at hSw); go_simp <;> with_reducible rfl)
          try simp only [Act.put, List.setIfInBounds_toArray, List.set_cons_zero, List.set_cons_succ]
          refine takeN_lit (i := 13) (v := ?_) (F := #[true, true, true, true, true, true, true, true, true, true, true, true, true, false, false, false, true, false, false, false, false, false]) rfl (by kernel_rfl) (by kernel_rfl) (by kernel_rfl) (by kernel_rfl) (fun _ _ _ h => h) (Or.inl ⟨by rfl, ?_⟩) (by assumption) ?_
          rotate_left
          · (intro w hSw; (try dsimp only at hSw); go_simp <;> with_reducible rfl)
          try simp only [Act.put, List.setIfInBounds_toArray, List.set_cons_zero, List.set_cons_succ]
          refine takeN_lit (i := 14) (v := ?_) (F := #[true, true, true, true, true, true, true, true, true, true, true, true, true, true, false, false, true, false, false, false, false, false]) rfl (by kernel_rfl) (by kernel_rfl) (by kernel_rfl) (by kernel_rfl) (fun _ _ _ h => h) (Or.inl ⟨by rfl, ?_⟩) (by assumption) ?_
          rotate_left
          · (intro w hSw; (try dsimp only at hSw); go_simp <;> with_reducible rfl)
          try simp only [Act.put, List.setIfInBounds_toArray, List.set_cons_zero, List.set_cons_succ]
          refine takeN_lit (i := 15) (v := ?_) (F := #[true, true, true, true, true, true, true, true, true, true, true, true, true, true, true, false, true, false, false, false, false, false]) rfl (by kernel_rfl) (by kernel_rfl) (by kernel_rfl) (by kernel_rfl) (fun _ _ _ h => h) (Or.inl ⟨by rfl, ?_⟩) (by assumption) ?_
          rotate_left
          · (intro w hSw; (try dsimp only at hSw); have z := (hrow.below hSw hrV).cell 1; go_simp <;> with_reducible rfl)
          try simp only [Act.put, List.setIfInBounds_toArray, List.set_cons_zero, List.set_cons_succ]
          refine takeN_lit (i := 16) (v := ?_) (F := #[true, true, true, true, true, true, true, true, true, true, true, true, true, true, true, true, false, false, false, false, false, false]) rfl (by kernel_rfl) (by kernel_rfl) (by kernel_rfl) (by kernel_rfl) (fun _ _ _ h => h) (Or.inl ⟨by rfl, ?_⟩) (by assumption) ?_
          rotate_left
          · (intro w hSw; (try dsimp only at hSw); go_simp <;> with_reducible rfl)
          try simp only [Act.put, List.setIfInBounds_toArray, List.set_cons_zero, List.set_cons_succ]
          refine takeN_lit (i := 17) (v := ?_) (F := #[true, true, true, true, true, true, true, true, true, true, true, true, true, true, true, true, true, false, false, false, false, false]) rfl (by kernel_rfl) (by kernel_rfl) (by kernel_rfl) (by kernel_rfl) (fun _ _ _ h => h) (Or.inl ⟨by rfl, ?_⟩) (by assumption) ?_
          rotate_left
          · (intro w hSw; (try dsimp only at hSw); have z := S2 w; go_simp <;> with_reducible rfl)
          try simp only [Act.put, List.setIfInBounds_toArray, List.set_cons_zero, List.set_cons_succ]
          refine wpAnyN_ready (rs := [1, 10]) (by kernel_rfl) (by simp) ?_
          refine consN_lit rfl (fun K hK => ?_) ?_
          · skip
            refine sBsG (T := 29) (U := 67) [] [] (by rfl) rfl (fun w => bsN0 w) ?_
            intro W1 r1 b1
            have hB1 := hHeld.size
            try (replace r14 := r14.below b1 r14.lt)
            refine hK.out _ _ (Or.inr ?_) (fun hHeld => ?_)
            · exact bt hHeld b1
            replace hHeld := hHeld.resolve_left (by decide)
            clear hK K
            try simp only [Act.put, List.setIfInBounds_toArray, List.set_cons_zero, List.set_cons_succ]
            refine wpAnyN_ready (rs := [8, 10]) (by kernel_rfl) (by simp) ?_
            refine consN_lit rfl (fun K hK => ?_) ?_
            · skip
              obtain ⟨v8, W8, run8, o8, g8, e8⟩ := A1 _ hHeld 29 _ [] (own_zero r1 hB1) (by simp)
              obtain ⟨a8, c8, rfl, _⟩ := Kd.own_at o8
              refine sApp (.tmp 106) (.tmp 112) (by rfl) rfl rfl rfl run8 ?_
              try (replace r14 := r14.keepO g8 (fun e => row_apart r1 r14 (by simpa [Value.ownBlock] using e)))
              refine hK.out _ _ (Or.inr ?_) (fun hHeld => ?_)
              · exact below_keepO hHeld g8 (fun g hg => own_ne_lt (own_zero r1 hB1) hg) hHeld.size
              replace hHeld := hHeld.resolve_left (by decide)
              clear hK K
              try simp only [Act.put, List.setIfInBounds_toArray, List.set_cons_zero, List.set_cons_succ]
              refine wpAnyN_ready (rs := [10]) (by kernel_rfl) (by simp) ?_
              refine consN_lit rfl (fun K hK => ?_) ?_
              · skip
                refine sBsG (T := 29) (U := 67) [(0, .tmp 114)] (scs n) (by rfl) rfl (fun w => bsN1 _ w) ?_
                intro W14 r14 b14
                try (replace r1 := r1.below b14 r1.lt)
                try (replace o8 := own_below o8 b14)
                refine hK.out _ _ (Or.inr ?_) (fun hHeld => ?_)
                · exact bt hHeld b14
                replace hHeld := hHeld.resolve_left (by decide)
                clear hK K
                try simp only [Act.put, List.setIfInBounds_toArray, List.set_cons_zero, List.set_cons_succ]
                refine wpAnyN_ready (rs := [11]) (by kernel_rfl) (by simp) ?_
                refine consN_lit rfl (fun K hK => ?_) ?_
                · skip
                  obtain ⟨v15, W15, run15, o15, g15, e15⟩ := app_one 29 o8 r14 (by simp <;> omega) hHeld.size
                  obtain ⟨a15, c15, rfl, _⟩ := Kd.own_at o15
                  refine sApp (.tmp 113) (.tmp 115) (by rfl) rfl rfl rfl run15 ?_
                  refine hK.out _ _ (Or.inr ?_) (fun hHeld => ?_)
                  · exact below_keepO hHeld g15 (fun g hg => own_ne_lt o8 hg) hHeld.size
                  replace hHeld := hHeld.resolve_left (by decide)
                  clear hK K
                  try simp only [Act.put, List.setIfInBounds_toArray, List.set_cons_zero, List.set_cons_succ]
                  refine wpAnyN_ready (rs := [18]) (by kernel_rfl) (by simp) ?_
                  refine consN_lit rfl (fun K hK => ?_) ?_
                  · skip
                    obtain ⟨v22, W22, run22, o22, g22, e22⟩ := A2 _ hHeld 29 _ _ o15 (by simp <;> omega)
                    obtain ⟨a22, c22, rfl, _⟩ := Kd.own_at o22
                    refine sApp (.tmp 116) (.tmp 122) (by rfl) rfl rfl rfl run22 ?_
                    refine hK.out _ _ (Or.inr ?_) (fun hHeld => ?_)
                    · exact below_keepO hHeld g22 (fun g hg => own_ne_lt o15 hg) hHeld.size
                    replace hHeld := hHeld.resolve_left (by decide)
                    clear hK K
                    try simp only [Act.put, List.setIfInBounds_toArray, List.set_cons_zero, List.set_cons_succ]
                    refine takeN_lit (i := 19) (v := ?_) (F := #[true, true, true, true, true, true, true, true, true, true, true, true, true, true, true, true, true, true, true, false, false, false]) rfl (by kernel_rfl) (by kernel_rfl) (by kernel_rfl) (by kernel_rfl) (fun _ _ _ h => h) (Or.inl ⟨by rfl, ?_⟩) (by assumption) ?_
                    rotate_left
                    · (intro w hSw; (try dsimp only at hSw); go_simp <;> with_reducible rfl)
                    try simp only [Act.put, List.setIfInBounds_toArray, List.set_cons_zero, List.set_cons_succ]
                    refine takeN_lit (i := 20) (v := ?_) (F := #[true, true, true, true, true, true, true, true, true, true, true, true, true, true, true, true, true, true, true, true, false, false]) rfl (by kernel_rfl) (by kernel_rfl) (by kernel_rfl) (by kernel_rfl) (fun _ _ _ h => h) (Or.inl ⟨by rfl, ?_⟩) (by assumption) ?_
                    rotate_left
                    · (intro w hSw; (try dsimp only at hSw); go_simp <;> with_reducible rfl)
                    try simp only [Act.put, List.setIfInBounds_toArray, List.set_cons_zero, List.set_cons_succ]
                    refine wpAnyN_ready (rs := [21]) (by kernel_rfl) (by simp) ?_
                    refine consN_lit rfl (fun K hK => ?_) ?_
                    · skip
                      refine sStSl (.tmp 125) (.tmp 123) (by rfl) rfl r 1 _ _ _ _ rfl rfl (hrow.below hHeld hrV) (by simp) ?_
                      intro W25 g25 r25
                      refine hK.out _ _ (Or.inl rfl) (fun _ => ?_)
                      clear hK K
                      try simp only [Act.put, List.setIfInBounds_toArray, List.set_cons_zero, List.set_cons_succ]
                      refine wpAnyN_done (by kernel_rfl) ?_ _
                      refine NoPanic.normal ?_
                      have HEnd : Hid (Rb W25 B r most (K.take (0) ++ n :: K.drop (0)) ∧ RTurn w W25 B r) := by
                        have e : ([] ++ K.take (0) ++ [n] ++ K.drop (0) : List Sr) = K.take (0) ++ n :: K.drop (0) := by simp
                        rw [e] at o22 r25
                        exact ⟨HFin.out V W25 (0) HIn.out hVb _ _ o22 hHeld g25 r25, RTurn.pre (bt hVb hHeld) (RTurn.self g25)⟩
                      clear hHeld o22 r25 g25 o15 o8 r1 r14 hrow hX A1 A2 S1 S2
                      go_wp2_with fail
                      go_ret2
                      first | exact ⟨true, 0, _, rfl, .inr (.inr (.inr ⟨HG.out, HLen.out, rfl, rfl, 0, HIn.out, rfl⟩)), HEnd.out.1, HEnd.out.2⟩ | exact .inr ⟨0, rfl, _, .inr (.inr (.inr ⟨HG.out, HLen.out, rfl, rfl, 0, HIn.out, rfl⟩)), HEnd.out.1, HEnd.out.2⟩ | exact .inl ⟨0, rfl, _, .inr (.inr (.inr ⟨HG.out, HLen.out, rfl, rfl, 0, HIn.out, rfl⟩)), HEnd.out.1, HEnd.out.2⟩ | exact ⟨0, rfl, _, .inr (.inr (.inr ⟨HG.out, HLen.out, rfl, rfl, 0, HIn.out, rfl⟩)), HEnd.out.1, HEnd.out.2⟩
                    exact AllReadyN.nil
                  exact AllReadyN.nil
                exact AllReadyN.nil
              exact AllReadyN.nil
            refine consN_lit rfl (fun K hK => ?_) ?_
            · skip
              refine sBsG (T := 29) (U := 67) [(0, .tmp 114)] (scs n) (by rfl) rfl (fun w => bsN1 _ w) ?_
              intro W14 r14 b14
              try (replace r1 := r1.below b14 r1.lt)
              try (replace o8 := own_below o8 b14)
              refine hK.out _ _ (Or.inr ?_) (fun hHeld => ?_)
              · exact bt hHeld b14
              replace hHeld := hHeld.resolve_left (by decide)
              clear hK K
              try simp only [Act.put, List.setIfInBounds_toArray, List.set_cons_zero, List.set_cons_succ]
              refine wpAnyN_ready (rs := [8]) (by kernel_rfl) (by simp) ?_
              refine consN_lit rfl (fun K hK => ?_) ?_
              · skip
                obtain ⟨v8, W8, run8, o8, g8, e8⟩ := A1 _ hHeld 29 _ [] (own_zero r1 hB1) (by simp)
                obtain ⟨a8, c8, rfl, _⟩ := Kd.own_at o8
                refine sApp (.tmp 106) (.tmp 112) (by rfl) rfl rfl rfl run8 ?_
                try (replace r14 := r14.keepO g8 (fun e => row_apart r1 r14 (by simpa [Value.ownBlock] using e)))
                refine hK.out _ _ (Or.inr ?_) (fun hHeld => ?_)
                · exact below_keepO hHeld g8 (fun g hg => own_ne_lt (own_zero r1 hB1) hg) hHeld.size
                replace hHeld := hHeld.resolve_left (by decide)
                clear hK K
                try simp only [Act.put, List.setIfInBounds_toArray, List.set_cons_zero, List.set_cons_succ]
                refine wpAnyN_ready (rs := [11]) (by kernel_rfl) (by simp) ?_
                refine consN_lit rfl (fun K hK => ?_) ?_
                · skip
                  obtain ⟨v15, W15, run15, o15, g15, e15⟩ := app_one 29 o8 r14 (by simp <;> omega) hHeld.size
                  obtain ⟨a15, c15, rfl, _⟩ := Kd.own_at o15
                  refine sApp (.tmp 113) (.tmp 115) (by rfl) rfl rfl rfl run15 ?_
                  refine hK.out _ _ (Or.inr ?_) (fun hHeld => ?_)
                  · exact below_keepO hHeld g15 (fun g hg => own_ne_lt o8 hg) hHeld.size
                  replace hHeld := hHeld.resolve_left (by decide)
                  clear hK K
                  try simp only [Act.put, List.setIfInBounds_toArray, List.set_cons_zero, List.set_cons_succ]
                  refine wpAnyN_ready (rs := [18]) (by kernel_rfl) (by simp) ?_
                  refine consN_lit rfl (fun K hK => ?_) ?_
                  · skip
                    obtain ⟨v22, W22, run22, o22, g22, e22⟩ := A2 _ hHeld 29 _ _ o15 (by simp <;> omega)
                    obtain ⟨a22, c22, rfl, _⟩ := Kd.own_at o22
                    refine sApp (.tmp 116) (.tmp 122) (by rfl) rfl rfl rfl run22 ?_
                    refine hK.out _ _ (Or.inr ?_) (fun hHeld => ?_)
                    · exact below_keepO hHeld g22 (fun g hg => own_ne_lt o15 hg) hHeld.size
                    replace hHeld := hHeld.resolve_left (by decide)
                    clear hK K
                    try simp only [Act.put, List.setIfInBounds_toArray, List.set_cons_zero, List.set_cons_succ]
                    refine takeN_lit (i := 19) (v := ?_) (F := #[true, true, true, true, true, true, true, true, true, true, true, true, true, true, true, true, true, true, true, false, false, false]) rfl (by kernel_rfl) (by kernel_rfl) (by kernel_rfl) (by kernel_rfl) (fun _ _ _ h => h) (Or.inl ⟨by rfl, ?_⟩) (by assumption) ?_
                    rotate_left
                    · (intro w hSw; (try dsimp only at hSw); go_simp <;> with_reducible rfl)
                    try simp only [Act.put, List.setIfInBounds_toArray, List.set_cons_zero, List.set_cons_succ]
                    refine takeN_lit (i := 20) (v := ?_) (F := #[true, true, true, true, true, true, true, true, true, true, true, true, true, true, true, true, true, true, true, true, false, false]) rfl (by kernel_rfl) (by kernel_rfl) (by kernel_rfl) (by kernel_rfl) (fun _ _ _ h => h) (Or.inl ⟨by rfl, ?_⟩) (by assumption) ?_
                    rotate_left
                    · (intro w hSw; (try dsimp only at hSw); go_simp <;> with_reducible rfl)
                    try simp only [Act.put, List.setIfInBounds_toArray, List.set_cons_zero, List.set_cons_succ]
                    refine wpAnyN_ready (rs := [21]) (by kernel_rfl) (by simp) ?_
                    refine consN_lit rfl (fun K hK => ?_) ?_
                    · skip
                      refine sStSl (.tmp 125) (.tmp 123) (by rfl) rfl r 1 _ _ _ _ rfl rfl (hrow.below hHeld hrV) (by simp) ?_
                      intro W25 g25 r25
                      refine hK.out _ _ (Or.inl rfl) (fun _ => ?_)
                      clear hK K
                      try simp only [Act.put, List.setIfInBounds_toArray, List.set_cons_zero, List.set_cons_succ]
                      refine wpAnyN_done (by kernel_rfl) ?_ _
                      refine NoPanic.normal ?_
                      have HEnd : Hid (Rb W25 B r most (K.take (0) ++ n :: K.drop (0)) ∧ RTurn w W25 B r) := by
                        have e : ([] ++ K.take (0) ++ [n] ++ K.drop (0) : List Sr) = K.take (0) ++ n :: K.drop (0) := by simp
                        rw [e] at o22 r25
                        exact ⟨HFin.out V W25 (0) HIn.out hVb _ _ o22 hHeld g25 r25, RTurn.pre (bt hVb hHeld) (RTurn.self g25)⟩
                      clear hHeld o22 r25 g25 o15 o8 r1 r14 hrow hX A1 A2 S1 S2
                      go_wp2_with fail
                      go_ret2
                      first | exact ⟨true, 0, _, rfl, .inr (.inr (.inr ⟨HG.out, HLen.out, rfl, rfl, 0, HIn.out, rfl⟩)), HEnd.out.1, HEnd.out.2⟩ | exact .inr ⟨0, rfl, _, .inr (.inr (.inr ⟨HG.out, HLen.out, rfl, rfl, 0, HIn.out, rfl⟩)), HEnd.out.1, HEnd.out.2⟩ | exact .inl ⟨0, rfl, _, .inr (.inr (.inr ⟨HG.out, HLen.out, rfl, rfl, 0, HIn.out, rfl⟩)), HEnd.out.1, HEnd.out.2⟩ | exact ⟨0, rfl, _, .inr (.inr (.inr ⟨HG.out, HLen.out, rfl, rfl, 0, HIn.out, rfl⟩)), HEnd.out.1, HEnd.out.2⟩
                    exact AllReadyN.nil
                  exact AllReadyN.nil
                exact AllReadyN.nil
              exact AllReadyN.nil
            exact AllReadyN.nil
          refine consN_lit rfl (fun K hK => ?_) ?_
          · skip
            refine sBsG (T := 29) (U := 67) [(0, .tmp 114)] (scs n) (by rfl) rfl (fun w => bsN1 _ w) ?_
            intro W14 r14 b14
            try (replace r1 := r1.below b14 r1.lt)
            try (replace o8 := own_below o8 b14)
            refine hK.out _ _ (Or.inr ?_) (fun hHeld => ?_)
            · exact bt hHeld b14
            replace hHeld := hHeld.resolve_left (by decide)
            clear hK K
            try simp only [Act.put, List.setIfInBounds_toArray, List.set_cons_zero, List.set_cons_succ]
            refine wpAnyN_ready (rs := [1]) (by kernel_rfl) (by simp) ?_
            refine consN_lit rfl (fun K hK => ?_) ?_
            · skip
              refine sBsG (T := 29) (U := 67) [] [] (by rfl) rfl (fun w => bsN0 w) ?_
              intro W1 r1 b1
              have hB1 := hHeld.size
              try (replace r14 := r14.below b1 r14.lt)
              refine hK.out _ _ (Or.inr ?_) (fun hHeld => ?_)
              · exact bt hHeld b1
              replace hHeld := hHeld.resolve_left (by decide)
              clear hK K
              try simp only [Act.put, List.setIfInBounds_toArray, List.set_cons_zero, List.set_cons_succ]
              refine wpAnyN_ready (rs := [8]) (by kernel_rfl) (by simp) ?_
              refine consN_lit rfl (fun K hK => ?_) ?_
              · skip
                obtain ⟨v8, W8, run8, o8, g8, e8⟩ := A1 _ hHeld 29 _ [] (own_zero r1 hB1) (by simp)
                obtain ⟨a8, c8, rfl, _⟩ := Kd.own_at o8
                refine sApp (.tmp 106) (.tmp 112) (by rfl) rfl rfl rfl run8 ?_
                try (replace r14 := r14.keepO g8 (fun e => row_apart r1 r14 (by simpa [Value.ownBlock] using e)))
                refine hK.out _ _ (Or.inr ?_) (fun hHeld => ?_)
                · exact below_keepO hHeld g8 (fun g hg => own_ne_lt (own_zero r1 hB1) hg) hHeld.size
                replace hHeld := hHeld.resolve_left (by decide)
                clear hK K
                try simp only [Act.put, List.setIfInBounds_toArray, List.set_cons_zero, List.set_cons_succ]
                refine wpAnyN_ready (rs := [11]) (by kernel_rfl) (by simp) ?_
                refine consN_lit rfl (fun K hK => ?_) ?_
                · skip
                  obtain ⟨v15, W15, run15, o15, g15, e15⟩ := app_one 29 o8 r14 (by simp <;> omega) hHeld.size
                  obtain ⟨a15, c15, rfl, _⟩ := Kd.own_at o15
                  refine sApp (.tmp 113) (.tmp 115) (by rfl) rfl rfl rfl run15 ?_
                  refine hK.out _ _ (Or.inr ?_) (fun hHeld => ?_)
                  · exact below_keepO hHeld g15 (fun g hg => own_ne_lt o8 hg) hHeld.size
                  replace hHeld := hHeld.resolve_left (by decide)
                  clear hK K
                  try simp only [Act.put, List.setIfInBounds_toArray, List.set_cons_zero, List.set_cons_succ]
                  refine wpAnyN_ready (rs := [18]) (by kernel_rfl) (by simp) ?_
                  refine consN_lit rfl (fun K hK => ?_) ?_
                  · skip
                    obtain ⟨v22, W22, run22, o22, g22, e22⟩ := A2 _ hHeld 29 _ _ o15 (by simp <;> omega)
                    obtain ⟨a22, c22, rfl, _⟩ := Kd.own_at o22
                    refine sApp (.tmp 116) (.tmp 122) (by rfl) rfl rfl rfl run22 ?_
                    refine hK.out _ _ (Or.inr ?_) (fun hHeld => ?_)
                    · exact below_keepO hHeld g22 (fun g hg => own_ne_lt o15 hg) hHeld.size
                    replace hHeld := hHeld.resolve_left (by decide)
                    clear hK K
                    try simp only [Act.put, List.setIfInBounds_toArray, List.set_cons_zero, List.set_cons_succ]
                    refine takeN_lit (i := 19) (v := ?_) (F := #[true, true, true, true, true, true, true, true, true, true, true, true, true, true, true, true, true, true, true, false, false, false]) rfl (by kernel_rfl) (by kernel_rfl) (by kernel_rfl) (by kernel_rfl) (fun _ _ _ h => h) (Or.inl ⟨by rfl, ?_⟩) (by assumption) ?_
                    rotate_left
                    · (intro w hSw; (try dsimp only at hSw); go_simp <;> with_reducible rfl)
                    try simp only [Act.put, List.setIfInBounds_toArray, List.set_cons_zero, List.set_cons_succ]
                    refine takeN_lit (i := 20) (v := ?_) (F := #[true, true, true, true, true, true, true, true, true, true, true, true, true, true, true, true, true, true, true, true, false, false]) rfl (by kernel_rfl) (by kernel_rfl) (by kernel_rfl) (by kernel_rfl) (fun _ _ _ h => h) (Or.inl ⟨by rfl, ?_⟩) (by assumption) ?_
                    rotate_left
                    · (intro w hSw; (try dsimp only at hSw); go_simp <;> with_reducible rfl)
                    try simp only [Act.put, List.setIfInBounds_toArray, List.set_cons_zero, List.set_cons_succ]
                    refine wpAnyN_ready (rs := [21]) (by kernel_rfl) (by simp) ?_
                    refine consN_lit rfl (fun K hK => ?_) ?_
                    · skip
                      refine sStSl (.tmp 125) (.tmp 123) (by rfl) rfl r 1 _ _ _ _ rfl rfl (hrow.below hHeld hrV) (by simp) ?_
                      intro W25 g25 r25
                      refine hK.out _ _ (Or.inl rfl) (fun _ => ?_)
                      clear hK K
                      try simp only [Act.put, List.setIfInBounds_toArray, List.set_cons_zero, List.set_cons_succ]
                      refine wpAnyN_done (by kernel_rfl) ?_ _
                      refine NoPanic.normal ?_
                      have HEnd : Hid (Rb W25 B r most (K.take (0) ++ n :: K.drop (0)) ∧ RTurn w W25 B r) := by
                        have e : ([] ++ K.take (0) ++ [n] ++ K.drop (0) : List Sr) = K.take (0) ++ n :: K.drop (0) := by simp
                        rw [e] at o22 r25
                        exact ⟨HFin.out V W25 (0) HIn.out hVb _ _ o22 hHeld g25 r25, RTurn.pre (bt hVb hHeld) (RTurn.self g25)⟩
                      clear hHeld o22 r25 g25 o15 o8 r1 r14 hrow hX A1 A2 S1 S2
                      go_wp2_with fail
                      go_ret2
                      first | exact ⟨true, 0, _, rfl, .inr (.inr (.inr ⟨HG.out, HLen.out, rfl, rfl, 0, HIn.out, rfl⟩)), HEnd.out.1, HEnd.out.2⟩ | exact .inr ⟨0, rfl, _, .inr (.inr (.inr ⟨HG.out, HLen.out, rfl, rfl, 0, HIn.out, rfl⟩)), HEnd.out.1, HEnd.out.2⟩ | exact .inl ⟨0, rfl, _, .inr (.inr (.inr ⟨HG.out, HLen.out, rfl, rfl, 0, HIn.out, rfl⟩)), HEnd.out.1, HEnd.out.2⟩ | exact ⟨0, rfl, _, .inr (.inr (.inr ⟨HG.out, HLen.out, rfl, rfl, 0, HIn.out, rfl⟩)), HEnd.out.1, HEnd.out.2⟩
                    exact AllReadyN.nil
                  exact AllReadyN.nil
                exact AllReadyN.nil
              exact AllReadyN.nil
            exact AllReadyN.nil
          exact AllReadyN.nil
        | succ j =>
          have hjl : j < K.length := hk
          obtain ⟨g, rfl, hLS⟩ := L2 (by intro e; rw [e] at hjl; simp at hjl)
          have HX : Hid (∀ W, Below wr.heap.size wr W → W.cell? ⟨r, 1, none⟩ = some (.slice (some ⟨g, 0, none⟩) K.length c) ∧ LS W g (j * 45) K[j] ∧ LQ W w.heap.size 0 p ∧ LI W (w.heap.size + 1) 0 i) := fun W hW => ⟨(hRw.below hW hrw1).cell 1, hLS _ (bt hVw hW) j _ (List.getElem?_eq_getElem hjl), HQ2.out W hW⟩
          have hC1 := fun W => rcompareQ_any K[j].p p W
          have hC2 := fun W => rids_any K[j].id i W
          have hEQ := fun W => run_eqlQ' K[j].p p W
          have gEQ := fun op x y W => guardQ op x y K[j].p p W
          have hCx := HCmp.out K[j]
          have HGo : Hid (0 < cmpN K[j] n → ∀ x ∈ K.drop j, 0 < cmpN x n) := fun hc x hx => by
            rw [List.drop_eq_getElem_cons hjl] at hx
            rcases List.mem_cons.1 hx with rfl | hx
            · exact hc
            · exact hhi x hx
          have HSt : Hid (¬ 0 < cmpN K[j] n → InsP K n (j + 1)) := fun hc => ⟨hk, hhi, fun x _ hx => by
            rw [Nat.add_sub_cancel, List.getElem?_eq_getElem hjl] at hx
            cases hx
            exact hc⟩
          have hqz := cmpQ_zero K[j].p p
          have hqb : (qB K[j].p p = true) ↔ K[j].p = p := qB_iff
          clear hLS L2 hhi
          generalize K[j] = x at *
          generalize cmpN x n = cn at *
          generalize Lib.compareBytes x.id.l i.l = ci at *
          generalize cmpQ x.p p = cq at *
          have hw64 : wrap64 (((j + 1 : Nat) : Int) - 1) = (j : Int) := by unfold wrap64; omega
          have hz0 : (0 : Int) < ((j + 1 : Nat) : Int) := by omega
          have hji : (j : Int) < (K.length : Int) := by omega
          have HM2 : Hid (((j : Int)).toNat < (((j + 1 : Nat) : Int)).toNat) := by show _ < _; omega
          have HJ : Hid (j ≤ K.length) := by show _ ≤ _; omega
          obtain ⟨z, hz⟩ : ∃ z : Int, ((j + 1 : Nat) : Int) = z := ⟨_, rfl⟩
          have HZk : Hid (z = ((j + 1 : Nat) : Int)) := hz.symm
          rw [hz] at hw64 hz0 HM2 ⊢
          have hwi : IntKind.i64.wrap (z - 1) = (j : Int) := by have q := hw64; unfold wrap64 at q; exact (IntKind.wrap_i64 _).trans q
          clear hz
          go_upto_region 11 with fail
          by_cases hq0 : 0 < cq
          · have hcn := HGo.out (by rw [hCx]; unfold orI; rw [if_neg (by omega)]; exact hq0)
            clear HGo HSt hqz hqb hCx hSl
            refine wp_region_noPanic ?_
            refine wp_region_held_drew (S := fun W => Below wr.heap.size wr W) (by kernel_rfl) ((Below.refl _ _).drew) (fun hHeld => ?_)
            refine take_lit (i := 0) (v := ?_) rfl (by kernel_rfl) (by kernel_rfl) (by kernel_rfl) (fun _ _ _ h => h) (Or.inl ⟨by rfl, ?_⟩) (by assumption) ?_
            rotate_left
            · (intro w hSw; (try dsimp only at hSw); go_simp <;> with_reducible rfl)
            try simp only [Act.put, List.setIfInBounds_toArray, List.set_cons_zero, List.set_cons_succ]
            refine take_lit (i := 1) (v := ?_) rfl (by kernel_rfl) (by kernel_rfl) (by kernel_rfl) (fun _ _ _ h => h) (Or.inl ⟨by rfl, ?_⟩) (by assumption) ?_
            rotate_left
            · (intro w hSw; (try dsimp only at hSw); go_simp <;> with_reducible rfl)
            try simp only [Act.put, List.setIfInBounds_toArray, List.set_cons_zero, List.set_cons_succ]
            refine take_lit (i := 2) (v := ?_) rfl (by kernel_rfl) (by kernel_rfl) (by kernel_rfl) (fun _ _ _ h => h) (Or.inl ⟨by rfl, ?_⟩) (by assumption) ?_
            rotate_left
            · (intro w hSw; (try dsimp only at hSw); go_simp <;> with_reducible rfl)
            try simp only [Act.put, List.setIfInBounds_toArray, List.set_cons_zero, List.set_cons_succ]
            refine take_lit (i := 3) (v := ?_) rfl (by kernel_rfl) (by kernel_rfl) (by kernel_rfl) (fun _ _ _ h => h) (Or.inl ⟨by rfl, ?_⟩) (by assumption) ?_
            rotate_left
            · (intro w hSw; (try dsimp only at hSw); go_simp <;> with_reducible rfl)
            try simp only [Act.put, List.setIfInBounds_toArray, List.set_cons_zero, List.set_cons_succ]
            refine take_lit (i := 4) (v := ?_) rfl (by kernel_rfl) (by kernel_rfl) (by kernel_rfl) (fun _ _ _ h => h) (Or.inl ⟨by rfl, ?_⟩) (by assumption) ?_
            rotate_left
            · (intro w hSw; (try dsimp only at hSw); go_simp <;> with_reducible rfl)
            try simp only [Act.put, List.setIfInBounds_toArray, List.set_cons_zero, List.set_cons_succ]
            refine take_lit (i := 5) (v := ?_) rfl (by kernel_rfl) (by kernel_rfl) (by kernel_rfl) (fun _ _ _ h => h) (Or.inl ⟨by rfl, ?_⟩) (by assumption) ?_
            rotate_left
            · (intro w hSw; (try dsimp only at hSw); go_simp <;> with_reducible rfl)
            try simp only [Act.put, List.setIfInBounds_toArray, List.set_cons_zero, List.set_cons_succ]
            refine take_lit (i := 6) (v := ?_) rfl (by kernel_rfl) (by kernel_rfl) (by kernel_rfl) (fun _ _ _ h => h) (Or.inl ⟨by rfl, ?_⟩) (by assumption) ?_
            rotate_left
            · (intro w hSw; (try dsimp only at hSw); have z := (HX.out _ hSw).1; go_simp <;> with_reducible rfl)
            try simp only [Act.put, List.setIfInBounds_toArray, List.set_cons_zero, List.set_cons_succ]
            refine take_lit (i := 7) (v := ?_) rfl (by kernel_rfl) (by kernel_rfl) (by kernel_rfl) (fun _ _ _ h => h) (Or.inl ⟨by rfl, ?_⟩) (by assumption) ?_
            rotate_left
            · (intro w hSw; (try dsimp only at hSw); go_simp <;> with_reducible rfl)
            try simp only [Act.put, List.setIfInBounds_toArray, List.set_cons_zero, List.set_cons_succ]
            refine take_lit (i := 8) (v := ?_) rfl (by kernel_rfl) (by kernel_rfl) (by kernel_rfl) (fun _ _ _ h => h) (Or.inl ⟨by rfl, ?_⟩) (by assumption) ?_
            rotate_left
            · (intro w hSw; (try dsimp only at hSw); go_simp <;> with_reducible rfl)
            try simp only [Act.put, List.setIfInBounds_toArray, List.set_cons_zero, List.set_cons_succ]
            refine take_lit (i := 9) (v := ?_) rfl (by kernel_rfl) (by kernel_rfl) (by kernel_rfl) (fun _ _ _ h => h) (Or.inl ⟨by rfl, ?_⟩) (by assumption) ?_
            rotate_left
            · (intro w hSw; (try dsimp only at hSw); go_simp <;> with_reducible rfl)
            try simp only [Act.put, List.setIfInBounds_toArray, List.set_cons_zero, List.set_cons_succ]
            refine take_lit (i := 10) (v := ?_) rfl (by kernel_rfl) (by kernel_rfl) (by kernel_rfl) (fun _ _ _ h => h) (Or.inl ⟨by rfl, ?_⟩) (by assumption) ?_
            rotate_left
            · (intro w hSw; (try dsimp only at hSw); go_simp <;> with_reducible rfl)
            try simp only [Act.put, List.setIfInBounds_toArray, List.set_cons_zero, List.set_cons_succ]
            refine take_lit (i := 11) rfl (by kernel_rfl) (by kernel_rfl) (by kernel_rfl) (fun _ _ _ h => h) (yQ x.p (fun w h => (HX.out _ h).2.1.q) (by rfl) rfl rfl) (by assumption) ?_
            try simp only [Act.put, List.setIfInBounds_toArray, List.set_cons_zero, List.set_cons_succ]
            refine take_lit (i := 12) rfl (by kernel_rfl) (by kernel_rfl) (by kernel_rfl) (fun _ _ _ h => h) (yQ p (fun w h => (HX.out _ h).2.2.1) (by rfl) rfl rfl) (by assumption) ?_
            try simp only [Act.put, List.setIfInBounds_toArray, List.set_cons_zero, List.set_cons_succ]
            refine wpAnyH_ready (rs := [13]) (by kernel_rfl) (by simp) ?_
            refine cons_lit rfl (fun K hK => ?_) ?_
            · go_simp
              refine (hC1 _).mono ?_
              rintro e w5 ⟨rfl, b5⟩
              refine hK.out _ _ ?_ (fun hHeld => ?_)
              · exact bt hHeld b5
              clear hK K
              try simp only [Act.put, List.setIfInBounds_toArray, List.set_cons_zero, List.set_cons_succ]
              refine take_lit (i := 14) (v := ?_) rfl (by kernel_rfl) (by kernel_rfl) (by kernel_rfl) (fun _ _ _ h => h) (Or.inl ⟨by rfl, ?_⟩) (by assumption) ?_
              rotate_left
              · (intro w hSw; (try dsimp only at hSw); go_simp <;> with_reducible rfl)
              try simp only [Act.put, List.setIfInBounds_toArray, List.set_cons_zero, List.set_cons_succ]
              refine take_lit (i := 15) (v := ?_) rfl (by kernel_rfl) (by kernel_rfl) (by kernel_rfl) (fun _ _ _ h => h) (Or.inl ⟨by rfl, ?_⟩) (by assumption) ?_
              rotate_left
              · (intro w hSw; (try dsimp only at hSw); go_simp <;> with_reducible rfl)
              try simp only [Act.put, List.setIfInBounds_toArray, List.set_cons_zero, List.set_cons_succ]
              refine take_lit (i := 16) rfl (by kernel_rfl) (by kernel_rfl) (by kernel_rfl) (fun _ _ _ h => h) (Or.inr ⟨by rfl, rfl⟩) (by assumption) ?_
              try simp only [Act.put, List.setIfInBounds_toArray, List.set_cons_zero, List.set_cons_succ]
              refine take_lit (i := 17) rfl (by kernel_rfl) (by kernel_rfl) (by kernel_rfl) (fun _ _ _ h => h) (Or.inr ⟨by rfl, rfl⟩) (by assumption) ?_
              try simp only [Act.put, List.setIfInBounds_toArray, List.set_cons_zero, List.set_cons_succ]
              refine take_lit (i := 18) rfl (by kernel_rfl) (by kernel_rfl) (by kernel_rfl) (fun _ _ _ h => h) (Or.inr ⟨by rfl, rfl⟩) (by assumption) ?_
              try simp only [Act.put, List.setIfInBounds_toArray, List.set_cons_zero, List.set_cons_succ]
              refine take_lit (i := 19) rfl (by kernel_rfl) (by kernel_rfl) (by kernel_rfl) (fun _ _ _ h => h) (Or.inr ⟨by rfl, rfl⟩) (by assumption) ?_
              try simp only [Act.put, List.setIfInBounds_toArray, List.set_cons_zero, List.set_cons_succ]
              refine take_lit (i := 20) rfl (by kernel_rfl) (by kernel_rfl) (by kernel_rfl) (fun _ _ _ h => h) (Or.inr ⟨by rfl, rfl⟩) (by assumption) ?_
              try simp only [Act.put, List.setIfInBounds_toArray, List.set_cons_zero, List.set_cons_succ]
              refine take_lit (i := 21) rfl (by kernel_rfl) (by kernel_rfl) (by kernel_rfl) (fun _ _ _ h => h) (Or.inr ⟨by rfl, rfl⟩) (by assumption) ?_
              try simp only [Act.put, List.setIfInBounds_toArray, List.set_cons_zero, List.set_cons_succ]
              refine take_lit (i := 22) rfl (by kernel_rfl) (by kernel_rfl) (by kernel_rfl) (fun _ _ _ h => h) (Or.inr ⟨by rfl, rfl⟩) (by assumption) ?_
              try simp only [Act.put, List.setIfInBounds_toArray, List.set_cons_zero, List.set_cons_succ]
              refine take_lit (i := 23) rfl (by kernel_rfl) (by kernel_rfl) (by kernel_rfl) (fun _ _ _ h => h) (Or.inr ⟨by rfl, rfl⟩) (by assumption) ?_
              try simp only [Act.put, List.setIfInBounds_toArray, List.set_cons_zero, List.set_cons_succ]
              refine take_lit (i := 24) rfl (by kernel_rfl) (by kernel_rfl) (by kernel_rfl) (fun _ _ _ h => h) (Or.inr ⟨by rfl, rfl⟩) (by assumption) ?_
              try simp only [Act.put, List.setIfInBounds_toArray, List.set_cons_zero, List.set_cons_succ]
              refine take_lit (i := 25) rfl (by kernel_rfl) (by kernel_rfl) (by kernel_rfl) (fun _ _ _ h => h) (Or.inr ⟨by rfl, rfl⟩) (by assumption) ?_
              try simp only [Act.put, List.setIfInBounds_toArray, List.set_cons_zero, List.set_cons_succ]
              refine take_lit (i := 26) rfl (by kernel_rfl) (by kernel_rfl) (by kernel_rfl) (fun _ _ _ h => h) (Or.inr ⟨by rfl, rfl⟩) (by assumption) ?_
              try simp only [Act.put, List.setIfInBounds_toArray, List.set_cons_zero, List.set_cons_succ]
              refine take_lit (i := 27) rfl (by kernel_rfl) (by kernel_rfl) (by kernel_rfl) (fun _ _ _ h => h) (Or.inr ⟨by rfl, rfl⟩) (by assumption) ?_
              try simp only [Act.put, List.setIfInBounds_toArray, List.set_cons_zero, List.set_cons_succ]
              refine take_lit (i := 28) rfl (by kernel_rfl) (by kernel_rfl) (by kernel_rfl) (fun _ _ _ h => h) (Or.inr ⟨by rfl, rfl⟩) (by assumption) ?_
              try simp only [Act.put, List.setIfInBounds_toArray, List.set_cons_zero, List.set_cons_succ]
              refine take_lit (i := 29) rfl (by kernel_rfl) (by kernel_rfl) (by kernel_rfl) (fun _ _ _ h => h) (Or.inr ⟨by rfl, rfl⟩) (by assumption) ?_
              try simp only [Act.put, List.setIfInBounds_toArray, List.set_cons_zero, List.set_cons_succ]
              refine take_lit (i := 30) rfl (by kernel_rfl) (by kernel_rfl) (by kernel_rfl) (fun _ _ _ h => h) (Or.inr ⟨by rfl, rfl⟩) (by assumption) ?_
              try simp only [Act.put, List.setIfInBounds_toArray, List.set_cons_zero, List.set_cons_succ]
              refine take_lit (i := 31) rfl (by kernel_rfl) (by kernel_rfl) (by kernel_rfl) (fun _ _ _ h => h) (Or.inr ⟨by rfl, rfl⟩) (by assumption) ?_
              try simp only [Act.put, List.setIfInBounds_toArray, List.set_cons_zero, List.set_cons_succ]
              refine take_lit (i := 32) rfl (by kernel_rfl) (by kernel_rfl) (by kernel_rfl) (fun _ _ _ h => h) (Or.inr ⟨by rfl, rfl⟩) (by assumption) ?_
              try simp only [Act.put, List.setIfInBounds_toArray, List.set_cons_zero, List.set_cons_succ]
              refine take_lit (i := 33) rfl (by kernel_rfl) (by kernel_rfl) (by kernel_rfl) (fun _ _ _ h => h) (Or.inr ⟨by rfl, rfl⟩) (by assumption) ?_
              try simp only [Act.put, List.setIfInBounds_toArray, List.set_cons_zero, List.set_cons_succ]
              refine take_lit (i := 34) rfl (by kernel_rfl) (by kernel_rfl) (by kernel_rfl) (fun _ _ _ h => h) (Or.inr ⟨by rfl, rfl⟩) (by assumption) ?_
              try simp only [Act.put, List.setIfInBounds_toArray, List.set_cons_zero, List.set_cons_succ]
              refine take_lit (i := 35) rfl (by kernel_rfl) (by kernel_rfl) (by kernel_rfl) (fun _ _ _ h => h) (Or.inr ⟨by rfl, rfl⟩) (by assumption) ?_
              try simp only [Act.put, List.setIfInBounds_toArray, List.set_cons_zero, List.set_cons_succ]
              refine take_lit (i := 36) rfl (by kernel_rfl) (by kernel_rfl) (by kernel_rfl) (fun _ _ _ h => h) (Or.inr ⟨by rfl, rfl⟩) (by assumption) ?_
              try simp only [Act.put, List.setIfInBounds_toArray, List.set_cons_zero, List.set_cons_succ]
              refine take_lit (i := 37) rfl (by kernel_rfl) (by kernel_rfl) (by kernel_rfl) (fun _ _ _ h => h) (Or.inr ⟨by rfl, rfl⟩) (by assumption) ?_
              try simp only [Act.put, List.setIfInBounds_toArray, List.set_cons_zero, List.set_cons_succ]
              refine take_lit (i := 38) rfl (by kernel_rfl) (by kernel_rfl) (by kernel_rfl) (fun _ _ _ h => h) (Or.inr ⟨by rfl, rfl⟩) (by assumption) ?_
              try simp only [Act.put, List.setIfInBounds_toArray, List.set_cons_zero, List.set_cons_succ]
              refine take_lit (i := 39) rfl (by kernel_rfl) (by kernel_rfl) (by kernel_rfl) (fun _ _ _ h => h) (Or.inr ⟨by rfl, rfl⟩) (by assumption) ?_
              try simp only [Act.put, List.setIfInBounds_toArray, List.set_cons_zero, List.set_cons_succ]
              refine take_lit (i := 40) rfl (by kernel_rfl) (by kernel_rfl) (by kernel_rfl) (fun _ _ _ h => h) (Or.inr ⟨by rfl, rfl⟩) (by assumption) ?_
              try simp only [Act.put, List.setIfInBounds_toArray, List.set_cons_zero, List.set_cons_succ]
              refine take_lit (i := 41) (v := ?_) rfl (by kernel_rfl) (by kernel_rfl) (by kernel_rfl) (fun _ _ _ h => h) (Or.inl ⟨by rfl, ?_⟩) (by assumption) ?_
              rotate_left
              · (intro w hSw; (try dsimp only at hSw); go_simp <;> with_reducible rfl)
              try simp only [Act.put, List.setIfInBounds_toArray, List.set_cons_zero, List.set_cons_succ]
              refine take_lit (i := 42) (v := ?_) rfl (by kernel_rfl) (by kernel_rfl) (by kernel_rfl) (fun _ _ _ h => h) (Or.inl ⟨by rfl, ?_⟩) (by assumption) ?_
              rotate_left
              · (intro w hSw; (try dsimp only at hSw); go_simp <;> with_reducible rfl)
              try simp only [Act.put, List.setIfInBounds_toArray, List.set_cons_zero, List.set_cons_succ]
              refine wpAnyH_done (by kernel_rfl) ?_ _
              refine NoPanic.normal ?_
              have b6 := bt bX hHeld
              clear hHeld hC1 hC2 hEQ gEQ HX hRw hVw
              go_wp2_with fail
              go_roundw
              case rel => exact ⟨j, HJ.out, by first | exact congrArg (Value.int .i64) hw64 | rfl, hcn, b6⟩
              case measure => first | (rw [hw64]; simp only [intOf]; exact HM2.out) | (simp only [intOf]; exact HM2.out)
            exact AllReadyH.nil
          · by_cases hq1 : cq = 0
            · have hqt : qB x.p p = true := hqb.2 (hqz.1 hq1)
              rw [hqt] at hEQ
              have hcc : cn = ci := by rw [hCx]; unfold orI; rw [if_pos hq1]
              have hq2 : ¬ 0 < cq := hq0
              by_cases hci : 0 < ci
              · have hcn := HGo.out (by rw [hcc]; exact hci)
                clear HGo HSt hqz hqb hCx hSl hcc hqt hq1 hq0
                refine wp_region_noPanic ?_
                refine wp_region_held_drew (S := fun W => Below wr.heap.size wr W) (by kernel_rfl) ((Below.refl _ _).drew) (fun hHeld => ?_)
                refine take_lit (i := 0) (v := ?_) rfl (by kernel_rfl) (by kernel_rfl) (by kernel_rfl) (fun _ _ _ h => h) (Or.inl ⟨by rfl, ?_⟩) (by assumption) ?_
                rotate_left
                · (intro w hSw; (try dsimp only at hSw); go_simp <;> with_reducible rfl)
                try simp only [Act.put, List.setIfInBounds_toArray, List.set_cons_zero, List.set_cons_succ]
                refine take_lit (i := 1) (v := ?_) rfl (by kernel_rfl) (by kernel_rfl) (by kernel_rfl) (fun _ _ _ h => h) (Or.inl ⟨by rfl, ?_⟩) (by assumption) ?_
                rotate_left
                · (intro w hSw; (try dsimp only at hSw); go_simp <;> with_reducible rfl)
                try simp only [Act.put, List.setIfInBounds_toArray, List.set_cons_zero, List.set_cons_succ]
                refine take_lit (i := 2) (v := ?_) rfl (by kernel_rfl) (by kernel_rfl) (by kernel_rfl) (fun _ _ _ h => h) (Or.inl ⟨by rfl, ?_⟩) (by assumption) ?_
                rotate_left
                · (intro w hSw; (try dsimp only at hSw); go_simp <;> with_reducible rfl)
                try simp only [Act.put, List.setIfInBounds_toArray, List.set_cons_zero, List.set_cons_succ]
                refine take_lit (i := 3) (v := ?_) rfl (by kernel_rfl) (by kernel_rfl) (by kernel_rfl) (fun _ _ _ h => h) (Or.inl ⟨by rfl, ?_⟩) (by assumption) ?_
                rotate_left
                · (intro w hSw; (try dsimp only at hSw); go_simp <;> with_reducible rfl)
                try simp only [Act.put, List.setIfInBounds_toArray, List.set_cons_zero, List.set_cons_succ]
                refine take_lit (i := 4) (v := ?_) rfl (by kernel_rfl) (by kernel_rfl) (by kernel_rfl) (fun _ _ _ h => h) (Or.inl ⟨by rfl, ?_⟩) (by assumption) ?_
                rotate_left
                · (intro w hSw; (try dsimp only at hSw); go_simp <;> with_reducible rfl)
                try simp only [Act.put, List.setIfInBounds_toArray, List.set_cons_zero, List.set_cons_succ]
                refine take_lit (i := 5) (v := ?_) rfl (by kernel_rfl) (by kernel_rfl) (by kernel_rfl) (fun _ _ _ h => h) (Or.inl ⟨by rfl, ?_⟩) (by assumption) ?_
                rotate_left
                · (intro w hSw; (try dsimp only at hSw); go_simp <;> with_reducible rfl)
                try simp only [Act.put, List.setIfInBounds_toArray, List.set_cons_zero, List.set_cons_succ]
                refine take_lit (i := 6) (v := ?_) rfl (by kernel_rfl) (by kernel_rfl) (by kernel_rfl) (fun _ _ _ h => h) (Or.inl ⟨by rfl, ?_⟩) (by assumption) ?_
                rotate_left
                · (intro w hSw; (try dsimp only at hSw); have z := (HX.out _ hSw).1; go_simp <;> with_reducible rfl)
                try simp only [Act.put, List.setIfInBounds_toArray, List.set_cons_zero, List.set_cons_succ]
                refine take_lit (i := 7) (v := ?_) rfl (by kernel_rfl) (by kernel_rfl) (by kernel_rfl) (fun _ _ _ h => h) (Or.inl ⟨by rfl, ?_⟩) (by assumption) ?_
                rotate_left
                · (intro w hSw; (try dsimp only at hSw); go_simp <;> with_reducible rfl)
                try simp only [Act.put, List.setIfInBounds_toArray, List.set_cons_zero, List.set_cons_succ]
                refine take_lit (i := 8) (v := ?_) rfl (by kernel_rfl) (by kernel_rfl) (by kernel_rfl) (fun _ _ _ h => h) (Or.inl ⟨by rfl, ?_⟩) (by assumption) ?_
                rotate_left
                · (intro w hSw; (try dsimp only at hSw); go_simp <;> with_reducible rfl)
                try simp only [Act.put, List.setIfInBounds_toArray, List.set_cons_zero, List.set_cons_succ]
                refine take_lit (i := 9) (v := ?_) rfl (by kernel_rfl) (by kernel_rfl) (by kernel_rfl) (fun _ _ _ h => h) (Or.inl ⟨by rfl, ?_⟩) (by assumption) ?_
                rotate_left
                · (intro w hSw; (try dsimp only at hSw); go_simp <;> with_reducible rfl)
                try simp only [Act.put, List.setIfInBounds_toArray, List.set_cons_zero, List.set_cons_succ]
                refine take_lit (i := 10) (v := ?_) rfl (by kernel_rfl) (by kernel_rfl) (by kernel_rfl) (fun _ _ _ h => h) (Or.inl ⟨by rfl, ?_⟩) (by assumption) ?_
                rotate_left
                · (intro w hSw; (try dsimp only at hSw); go_simp <;> with_reducible rfl)
                try simp only [Act.put, List.setIfInBounds_toArray, List.set_cons_zero, List.set_cons_succ]
                refine take_lit (i := 11) rfl (by kernel_rfl) (by kernel_rfl) (by kernel_rfl) (fun _ _ _ h => h) (yQ x.p (fun w h => (HX.out _ h).2.1.q) (by rfl) rfl rfl) (by assumption) ?_
                try simp only [Act.put, List.setIfInBounds_toArray, List.set_cons_zero, List.set_cons_succ]
                refine take_lit (i := 12) rfl (by kernel_rfl) (by kernel_rfl) (by kernel_rfl) (fun _ _ _ h => h) (yQ p (fun w h => (HX.out _ h).2.2.1) (by rfl) rfl rfl) (by assumption) ?_
                try simp only [Act.put, List.setIfInBounds_toArray, List.set_cons_zero, List.set_cons_succ]
                refine wpAnyH_ready (rs := [13]) (by kernel_rfl) (by simp) ?_
                refine cons_lit rfl (fun K hK => ?_) ?_
                · go_simp
                  refine (hC1 _).mono ?_
                  rintro e w5 ⟨rfl, b5⟩
                  refine hK.out _ _ ?_ (fun hHeld => ?_)
                  · exact bt hHeld b5
                  clear hK K
                  try simp only [Act.put, List.setIfInBounds_toArray, List.set_cons_zero, List.set_cons_succ]
                  refine take_lit (i := 14) (v := ?_) rfl (by kernel_rfl) (by kernel_rfl) (by kernel_rfl) (fun _ _ _ h => h) (Or.inl ⟨by rfl, ?_⟩) (by assumption) ?_
                  rotate_left
                  · (intro w hSw; (try dsimp only at hSw); go_simp <;> with_reducible rfl)
                  try simp only [Act.put, List.setIfInBounds_toArray, List.set_cons_zero, List.set_cons_succ]
                  refine take_lit (i := 15) (v := ?_) rfl (by kernel_rfl) (by kernel_rfl) (by kernel_rfl) (fun _ _ _ h => h) (Or.inl ⟨by rfl, ?_⟩) (by assumption) ?_
                  rotate_left
                  · (intro w hSw; (try dsimp only at hSw); go_simp <;> with_reducible rfl)
                  try simp only [Act.put, List.setIfInBounds_toArray, List.set_cons_zero, List.set_cons_succ]
                  refine take_lit (i := 16) (v := ?_) rfl (by kernel_rfl) (by kernel_rfl) (by kernel_rfl) (fun _ _ _ h => h) (Or.inl ⟨by rfl, ?_⟩) (by assumption) ?_
                  rotate_left
                  · (intro w hSw; (try dsimp only at hSw); go_simp <;> with_reducible rfl)
                  try simp only [Act.put, List.setIfInBounds_toArray, List.set_cons_zero, List.set_cons_succ]
                  refine take_lit (i := 17) (v := ?_) rfl (by kernel_rfl) (by kernel_rfl) (by kernel_rfl) (fun _ _ _ h => h) (Or.inl ⟨by rfl, ?_⟩) (by assumption) ?_
                  rotate_left
                  · (intro w hSw; (try dsimp only at hSw); go_simp <;> with_reducible rfl)
                  try simp only [Act.put, List.setIfInBounds_toArray, List.set_cons_zero, List.set_cons_succ]
                  refine take_lit (i := 18) (v := ?_) rfl (by kernel_rfl) (by kernel_rfl) (by kernel_rfl) (fun _ _ _ h => h) (Or.inl ⟨by rfl, ?_⟩) (by assumption) ?_
                  rotate_left
                  · (intro w hSw; (try dsimp only at hSw); go_simp <;> with_reducible rfl)
                  try simp only [Act.put, List.setIfInBounds_toArray, List.set_cons_zero, List.set_cons_succ]
                  refine take_lit (i := 19) (v := ?_) rfl (by kernel_rfl) (by kernel_rfl) (by kernel_rfl) (fun _ _ _ h => h) (Or.inl ⟨by rfl, ?_⟩) (by assumption) ?_
                  rotate_left
                  · (intro w hSw; (try dsimp only at hSw); have z := (HX.out _ hSw).1; go_simp <;> with_reducible rfl)
                  try simp only [Act.put, List.setIfInBounds_toArray, List.set_cons_zero, List.set_cons_succ]
                  refine take_lit (i := 20) (v := ?_) rfl (by kernel_rfl) (by kernel_rfl) (by kernel_rfl) (fun _ _ _ h => h) (Or.inl ⟨by rfl, ?_⟩) (by assumption) ?_
                  rotate_left
                  · (intro w hSw; (try dsimp only at hSw); go_simp <;> with_reducible rfl)
                  try simp only [Act.put, List.setIfInBounds_toArray, List.set_cons_zero, List.set_cons_succ]
                  refine take_lit (i := 21) (v := ?_) rfl (by kernel_rfl) (by kernel_rfl) (by kernel_rfl) (fun _ _ _ h => h) (Or.inl ⟨by rfl, ?_⟩) (by assumption) ?_
                  rotate_left
                  · (intro w hSw; (try dsimp only at hSw); go_simp <;> with_reducible rfl)
                  try simp only [Act.put, List.setIfInBounds_toArray, List.set_cons_zero, List.set_cons_succ]
                  refine take_lit (i := 22) (v := ?_) rfl (by kernel_rfl) (by kernel_rfl) (by kernel_rfl) (fun _ _ _ h => h) (Or.inl ⟨by rfl, ?_⟩) (by assumption) ?_
                  rotate_left
                  · (intro w hSw; (try dsimp only at hSw); go_simp <;> with_reducible rfl)
                  try simp only [Act.put, List.setIfInBounds_toArray, List.set_cons_zero, List.set_cons_succ]
                  refine take_lit (i := 23) (v := ?_) rfl (by kernel_rfl) (by kernel_rfl) (by kernel_rfl) (fun _ _ _ h => h) (Or.inl ⟨by rfl, ?_⟩) (by assumption) ?_
                  rotate_left
                  · (intro w hSw; (try dsimp only at hSw); go_simp <;> with_reducible rfl)
                  try simp only [Act.put, List.setIfInBounds_toArray, List.set_cons_zero, List.set_cons_succ]
                  refine take_lit (i := 24) rfl (by kernel_rfl) (by kernel_rfl) (by kernel_rfl) (fun _ _ _ h => h) (yQ x.p (fun w h => (HX.out _ h).2.1.q) (by rfl) rfl rfl) (by assumption) ?_
                  try simp only [Act.put, List.setIfInBounds_toArray, List.set_cons_zero, List.set_cons_succ]
                  refine take_lit (i := 25) rfl (by kernel_rfl) (by kernel_rfl) (by kernel_rfl) (fun _ _ _ h => h) (yQ p (fun w h => (HX.out _ h).2.2.1) (by rfl) rfl rfl) (by assumption) ?_
                  try simp only [Act.put, List.setIfInBounds_toArray, List.set_cons_zero, List.set_cons_succ]
                  refine take_lit (i := 26) (v := ?_) rfl (by kernel_rfl) (by kernel_rfl) (by kernel_rfl) (fun _ _ _ h => h) (Or.inl ⟨by rfl, ?_⟩) (by assumption) ?_
                  rotate_left
                  · (intro w hSw; (try dsimp only at hSw); have z := hEQ w; have z2 := fun op x y => gEQ op x y w; go_simp <;> with_reducible rfl)
                  try simp only [Act.put, List.setIfInBounds_toArray, List.set_cons_zero, List.set_cons_succ]
                  refine take_lit (i := 27) (v := ?_) rfl (by kernel_rfl) (by kernel_rfl) (by kernel_rfl) (fun _ _ _ h => h) (Or.inl ⟨by rfl, ?_⟩) (by assumption) ?_
                  rotate_left
                  · (intro w hSw; (try dsimp only at hSw); go_simp <;> with_reducible rfl)
                  try simp only [Act.put, List.setIfInBounds_toArray, List.set_cons_zero, List.set_cons_succ]
                  refine take_lit (i := 28) (v := ?_) rfl (by kernel_rfl) (by kernel_rfl) (by kernel_rfl) (fun _ _ _ h => h) (Or.inl ⟨by rfl, ?_⟩) (by assumption) ?_
                  rotate_left
                  · (intro w hSw; (try dsimp only at hSw); go_simp <;> with_reducible rfl)
                  try simp only [Act.put, List.setIfInBounds_toArray, List.set_cons_zero, List.set_cons_succ]
                  refine take_lit (i := 29) (v := ?_) rfl (by kernel_rfl) (by kernel_rfl) (by kernel_rfl) (fun _ _ _ h => h) (Or.inl ⟨by rfl, ?_⟩) (by assumption) ?_
                  rotate_left
                  · (intro w hSw; (try dsimp only at hSw); go_simp <;> with_reducible rfl)
                  try simp only [Act.put, List.setIfInBounds_toArray, List.set_cons_zero, List.set_cons_succ]
                  refine take_lit (i := 30) (v := ?_) rfl (by kernel_rfl) (by kernel_rfl) (by kernel_rfl) (fun _ _ _ h => h) (Or.inl ⟨by rfl, ?_⟩) (by assumption) ?_
                  rotate_left
                  · (intro w hSw; (try dsimp only at hSw); go_simp <;> with_reducible rfl)
                  try simp only [Act.put, List.setIfInBounds_toArray, List.set_cons_zero, List.set_cons_succ]
                  refine take_lit (i := 31) (v := ?_) rfl (by kernel_rfl) (by kernel_rfl) (by kernel_rfl) (fun _ _ _ h => h) (Or.inl ⟨by rfl, ?_⟩) (by assumption) ?_
                  rotate_left
                  · (intro w hSw; (try dsimp only at hSw); have z := (HX.out _ hSw).1; go_simp <;> with_reducible rfl)
                  try simp only [Act.put, List.setIfInBounds_toArray, List.set_cons_zero, List.set_cons_succ]
                  refine take_lit (i := 32) (v := ?_) rfl (by kernel_rfl) (by kernel_rfl) (by kernel_rfl) (fun _ _ _ h => h) (Or.inl ⟨by rfl, ?_⟩) (by assumption) ?_
                  rotate_left
                  · (intro w hSw; (try dsimp only at hSw); go_simp <;> with_reducible rfl)
                  try simp only [Act.put, List.setIfInBounds_toArray, List.set_cons_zero, List.set_cons_succ]
                  refine take_lit (i := 33) (v := ?_) rfl (by kernel_rfl) (by kernel_rfl) (by kernel_rfl) (fun _ _ _ h => h) (Or.inl ⟨by rfl, ?_⟩) (by assumption) ?_
                  rotate_left
                  · (intro w hSw; (try dsimp only at hSw); go_simp <;> with_reducible rfl)
                  try simp only [Act.put, List.setIfInBounds_toArray, List.set_cons_zero, List.set_cons_succ]
                  refine take_lit (i := 34) (v := ?_) rfl (by kernel_rfl) (by kernel_rfl) (by kernel_rfl) (fun _ _ _ h => h) (Or.inl ⟨by rfl, ?_⟩) (by assumption) ?_
                  rotate_left
                  · (intro w hSw; (try dsimp only at hSw); go_simp <;> with_reducible rfl)
                  try simp only [Act.put, List.setIfInBounds_toArray, List.set_cons_zero, List.set_cons_succ]
                  refine take_lit (i := 35) (v := ?_) rfl (by kernel_rfl) (by kernel_rfl) (by kernel_rfl) (fun _ _ _ h => h) (Or.inl ⟨by rfl, ?_⟩) (by assumption) ?_
                  rotate_left
                  · (intro w hSw; (try dsimp only at hSw); go_simp <;> with_reducible rfl)
                  try simp only [Act.put, List.setIfInBounds_toArray, List.set_cons_zero, List.set_cons_succ]
                  refine take_lit (i := 36) rfl (by kernel_rfl) (by kernel_rfl) (by kernel_rfl) (fun _ _ _ h => h) (yI x.id (fun w h => (HX.out _ h).2.1.i) (by rfl) rfl rfl) (by assumption) ?_
                  try simp only [Act.put, List.setIfInBounds_toArray, List.set_cons_zero, List.set_cons_succ]
                  refine take_lit (i := 37) rfl (by kernel_rfl) (by kernel_rfl) (by kernel_rfl) (fun _ _ _ h => h) (yI i (fun w h => (HX.out _ h).2.2.2) (by rfl) rfl rfl) (by assumption) ?_
                  try simp only [Act.put, List.setIfInBounds_toArray, List.set_cons_zero, List.set_cons_succ]
                  refine wpAnyH_ready (rs := [38]) (by kernel_rfl) (by simp) ?_
                  refine cons_lit rfl (fun K hK => ?_) ?_
                  · go_simp
                    refine (hC2 _).mono ?_
                    rintro e w6 ⟨rfl, b6⟩
                    refine hK.out _ _ ?_ (fun hHeld => ?_)
                    · exact bt hHeld b6
                    clear hK K
                    try simp only [Act.put, List.setIfInBounds_toArray, List.set_cons_zero, List.set_cons_succ]
                    refine take_lit (i := 39) (v := ?_) rfl (by kernel_rfl) (by kernel_rfl) (by kernel_rfl) (fun _ _ _ h => h) (Or.inl ⟨by rfl, ?_⟩) (by assumption) ?_
                    rotate_left
                    · (intro w hSw; (try dsimp only at hSw); go_simp <;> with_reducible rfl)
                    try simp only [Act.put, List.setIfInBounds_toArray, List.set_cons_zero, List.set_cons_succ]
                    refine take_lit (i := 40) (v := ?_) rfl (by kernel_rfl) (by kernel_rfl) (by kernel_rfl) (fun _ _ _ h => h) (Or.inl ⟨by rfl, ?_⟩) (by assumption) ?_
                    rotate_left
                    · (intro w hSw; (try dsimp only at hSw); go_simp <;> with_reducible rfl)
                    try simp only [Act.put, List.setIfInBounds_toArray, List.set_cons_zero, List.set_cons_succ]
                    refine take_lit (i := 41) (v := ?_) rfl (by kernel_rfl) (by kernel_rfl) (by kernel_rfl) (fun _ _ _ h => h) (Or.inl ⟨by rfl, ?_⟩) (by assumption) ?_
                    rotate_left
                    · (intro w hSw; (try dsimp only at hSw); go_simp <;> with_reducible rfl)
                    try simp only [Act.put, List.setIfInBounds_toArray, List.set_cons_zero, List.set_cons_succ]
                    refine take_lit (i := 42) (v := ?_) rfl (by kernel_rfl) (by kernel_rfl) (by kernel_rfl) (fun _ _ _ h => h) (Or.inl ⟨by rfl, ?_⟩) (by assumption) ?_
                    rotate_left
                    · (intro w hSw; (try dsimp only at hSw); go_simp <;> with_reducible rfl)
                    try simp only [Act.put, List.setIfInBounds_toArray, List.set_cons_zero, List.set_cons_succ]
                    refine wpAnyH_done (by kernel_rfl) ?_ _
                    refine NoPanic.normal ?_
                    have b7 := bt bX hHeld
                    clear hHeld hC1 hC2 hEQ gEQ HX hRw hVw
                    go_wp2_with fail
                    go_roundw
                    case rel => exact ⟨j, HJ.out, by first | exact congrArg (Value.int .i64) hw64 | rfl, hcn, b7⟩
                    case measure => first | (rw [hw64]; simp only [intOf]; exact HM2.out) | (simp only [intOf]; exact HM2.out)
                  exact AllReadyH.nil
                exact AllReadyH.nil
              · have hIns := HSt.out (by rw [hcc]; exact hci)
                clear HGo HSt hqz hqb hCx hcc hqt hq1 hq0
                refine wp_region_noPanic ?_
                refine wp_region_held_drew (S := fun W => Below wr.heap.size wr W) (by kernel_rfl) ((Below.refl _ _).drew) (fun hHeld => ?_)
                refine take_lit (i := 0) (v := ?_) rfl (by kernel_rfl) (by kernel_rfl) (by kernel_rfl) (fun _ _ _ h => h) (Or.inl ⟨by rfl, ?_⟩) (by assumption) ?_
                rotate_left
                · (intro w hSw; (try dsimp only at hSw); go_simp <;> with_reducible rfl)
                try simp only [Act.put, List.setIfInBounds_toArray, List.set_cons_zero, List.set_cons_succ]
                refine take_lit (i := 1) (v := ?_) rfl (by kernel_rfl) (by kernel_rfl) (by kernel_rfl) (fun _ _ _ h => h) (Or.inl ⟨by rfl, ?_⟩) (by assumption) ?_
                rotate_left
                · (intro w hSw; (try dsimp only at hSw); go_simp <;> with_reducible rfl)
                try simp only [Act.put, List.setIfInBounds_toArray, List.set_cons_zero, List.set_cons_succ]
                refine take_lit (i := 2) (v := ?_) rfl (by kernel_rfl) (by kernel_rfl) (by kernel_rfl) (fun _ _ _ h => h) (Or.inl ⟨by rfl, ?_⟩) (by assumption) ?_
                rotate_left
                · (intro w hSw; (try dsimp only at hSw); go_simp <;> with_reducible rfl)
                try simp only [Act.put, List.setIfInBounds_toArray, List.set_cons_zero, List.set_cons_succ]
                refine take_lit (i := 3) (v := ?_) rfl (by kernel_rfl) (by kernel_rfl) (by kernel_rfl) (fun _ _ _ h => h) (Or.inl ⟨by rfl, ?_⟩) (by assumption) ?_
                rotate_left
                · (intro w hSw; (try dsimp only at hSw); go_simp <;> with_reducible rfl)
                try simp only [Act.put, List.setIfInBounds_toArray, List.set_cons_zero, List.set_cons_succ]
                refine take_lit (i := 4) (v := ?_) rfl (by kernel_rfl) (by kernel_rfl) (by kernel_rfl) (fun _ _ _ h => h) (Or.inl ⟨by rfl, ?_⟩) (by assumption) ?_
                rotate_left
                · (intro w hSw; (try dsimp only at hSw); go_simp <;> with_reducible rfl)
                try simp only [Act.put, List.setIfInBounds_toArray, List.set_cons_zero, List.set_cons_succ]
                refine take_lit (i := 5) (v := ?_) rfl (by kernel_rfl) (by kernel_rfl) (by kernel_rfl) (fun _ _ _ h => h) (Or.inl ⟨by rfl, ?_⟩) (by assumption) ?_
                rotate_left
                · (intro w hSw; (try dsimp only at hSw); go_simp <;> with_reducible rfl)
                try simp only [Act.put, List.setIfInBounds_toArray, List.set_cons_zero, List.set_cons_succ]
                refine take_lit (i := 6) (v := ?_) rfl (by kernel_rfl) (by kernel_rfl) (by kernel_rfl) (fun _ _ _ h => h) (Or.inl ⟨by rfl, ?_⟩) (by assumption) ?_
                rotate_left
                · (intro w hSw; (try dsimp only at hSw); have z := (HX.out _ hSw).1; go_simp <;> with_reducible rfl)
                try simp only [Act.put, List.setIfInBounds_toArray, List.set_cons_zero, List.set_cons_succ]
                refine take_lit (i := 7) (v := ?_) rfl (by kernel_rfl) (by kernel_rfl) (by kernel_rfl) (fun _ _ _ h => h) (Or.inl ⟨by rfl, ?_⟩) (by assumption) ?_
                rotate_left
                · (intro w hSw; (try dsimp only at hSw); go_simp <;> with_reducible rfl)
                try simp only [Act.put, List.setIfInBounds_toArray, List.set_cons_zero, List.set_cons_succ]
                refine take_lit (i := 8) (v := ?_) rfl (by kernel_rfl) (by kernel_rfl) (by kernel_rfl) (fun _ _ _ h => h) (Or.inl ⟨by rfl, ?_⟩) (by assumption) ?_
                rotate_left
                · (intro w hSw; (try dsimp only at hSw); go_simp <;> with_reducible rfl)
                try simp only [Act.put, List.setIfInBounds_toArray, List.set_cons_zero, List.set_cons_succ]
                refine take_lit (i := 9) (v := ?_) rfl (by kernel_rfl) (by kernel_rfl) (by kernel_rfl) (fun _ _ _ h => h) (Or.inl ⟨by rfl, ?_⟩) (by assumption) ?_
                rotate_left
                · (intro w hSw; (try dsimp only at hSw); go_simp <;> with_reducible rfl)
                try simp only [Act.put, List.setIfInBounds_toArray, List.set_cons_zero, List.set_cons_succ]
                refine take_lit (i := 10) (v := ?_) rfl (by kernel_rfl) (by kernel_rfl) (by kernel_rfl) (fun _ _ _ h => h) (Or.inl ⟨by rfl, ?_⟩) (by assumption) ?_
                rotate_left
                · (intro w hSw; (try dsimp only at hSw); go_simp <;> with_reducible rfl)
                try simp only [Act.put, List.setIfInBounds_toArray, List.set_cons_zero, List.set_cons_succ]
                refine take_lit (i := 11) rfl (by kernel_rfl) (by kernel_rfl) (by kernel_rfl) (fun _ _ _ h => h) (yQ x.p (fun w h => (HX.out _ h).2.1.q) (by rfl) rfl rfl) (by assumption) ?_
                try simp only [Act.put, List.setIfInBounds_toArray, List.set_cons_zero, List.set_cons_succ]
                refine take_lit (i := 12) rfl (by kernel_rfl) (by kernel_rfl) (by kernel_rfl) (fun _ _ _ h => h) (yQ p (fun w h => (HX.out _ h).2.2.1) (by rfl) rfl rfl) (by assumption) ?_
                try simp only [Act.put, List.setIfInBounds_toArray, List.set_cons_zero, List.set_cons_succ]
                refine wpAnyH_ready (rs := [13]) (by kernel_rfl) (by simp) ?_
                refine cons_lit rfl (fun K hK => ?_) ?_
                · go_simp
                  refine (hC1 _).mono ?_
                  rintro e w5 ⟨rfl, b5⟩
                  refine hK.out _ _ ?_ (fun hHeld => ?_)
                  · exact bt hHeld b5
                  clear hK K
                  try simp only [Act.put, List.setIfInBounds_toArray, List.set_cons_zero, List.set_cons_succ]
                  refine take_lit (i := 14) (v := ?_) rfl (by kernel_rfl) (by kernel_rfl) (by kernel_rfl) (fun _ _ _ h => h) (Or.inl ⟨by rfl, ?_⟩) (by assumption) ?_
                  rotate_left
                  · (intro w hSw; (try dsimp only at hSw); go_simp <;> with_reducible rfl)
                  try simp only [Act.put, List.setIfInBounds_toArray, List.set_cons_zero, List.set_cons_succ]
                  refine take_lit (i := 15) (v := ?_) rfl (by kernel_rfl) (by kernel_rfl) (by kernel_rfl) (fun _ _ _ h => h) (Or.inl ⟨by rfl, ?_⟩) (by assumption) ?_
                  rotate_left
                  · (intro w hSw; (try dsimp only at hSw); go_simp <;> with_reducible rfl)
                  try simp only [Act.put, List.setIfInBounds_toArray, List.set_cons_zero, List.set_cons_succ]
                  refine take_lit (i := 16) (v := ?_) rfl (by kernel_rfl) (by kernel_rfl) (by kernel_rfl) (fun _ _ _ h => h) (Or.inl ⟨by rfl, ?_⟩) (by assumption) ?_
                  rotate_left
                  · (intro w hSw; (try dsimp only at hSw); go_simp <;> with_reducible rfl)
                  try simp only [Act.put, List.setIfInBounds_toArray, List.set_cons_zero, List.set_cons_succ]
                  refine take_lit (i := 17) (v := ?_) rfl (by kernel_rfl) (by kernel_rfl) (by kernel_rfl) (fun _ _ _ h => h) (Or.inl ⟨by rfl, ?_⟩) (by assumption) ?_
                  rotate_left
                  · (intro w hSw; (try dsimp only at hSw); go_simp <;> with_reducible rfl)
                  try simp only [Act.put, List.setIfInBounds_toArray, List.set_cons_zero, List.set_cons_succ]
                  refine take_lit (i := 18) (v := ?_) rfl (by kernel_rfl) (by kernel_rfl) (by kernel_rfl) (fun _ _ _ h => h) (Or.inl ⟨by rfl, ?_⟩) (by assumption) ?_
                  rotate_left
                  · (intro w hSw; (try dsimp only at hSw); go_simp <;> with_reducible rfl)
                  try simp only [Act.put, List.setIfInBounds_toArray, List.set_cons_zero, List.set_cons_succ]
                  refine take_lit (i := 19) (v := ?_) rfl (by kernel_rfl) (by kernel_rfl) (by kernel_rfl) (fun _ _ _ h => h) (Or.inl ⟨by rfl, ?_⟩) (by assumption) ?_
                  rotate_left
                  · (intro w hSw; (try dsimp only at hSw); have z := (HX.out _ hSw).1; go_simp <;> with_reducible rfl)
                  try simp only [Act.put, List.setIfInBounds_toArray, List.set_cons_zero, List.set_cons_succ]
                  refine take_lit (i := 20) (v := ?_) rfl (by kernel_rfl) (by kernel_rfl) (by kernel_rfl) (fun _ _ _ h => h) (Or.inl ⟨by rfl, ?_⟩) (by assumption) ?_
                  rotate_left
                  · (intro w hSw; (try dsimp only at hSw); go_simp <;> with_reducible rfl)
                  try simp only [Act.put, List.setIfInBounds_toArray, List.set_cons_zero, List.set_cons_succ]
                  refine take_lit (i := 21) (v := ?_) rfl (by kernel_rfl) (by kernel_rfl) (by kernel_rfl) (fun _ _ _ h => h) (Or.inl ⟨by rfl, ?_⟩) (by assumption) ?_
                  rotate_left
                  · (intro w hSw; (try dsimp only at hSw); go_simp <;> with_reducible rfl)
                  try simp only [Act.put, List.setIfInBounds_toArray, List.set_cons_zero, List.set_cons_succ]
                  refine take_lit (i := 22) (v := ?_) rfl (by kernel_rfl) (by kernel_rfl) (by kernel_rfl) (fun _ _ _ h => h) (Or.inl ⟨by rfl, ?_⟩) (by assumption) ?_
                  rotate_left
                  · (intro w hSw; (try dsimp only at hSw); go_simp <;> with_reducible rfl)
                  try simp only [Act.put, List.setIfInBounds_toArray, List.set_cons_zero, List.set_cons_succ]
                  refine take_lit (i := 23) (v := ?_) rfl (by kernel_rfl) (by kernel_rfl) (by kernel_rfl) (fun _ _ _ h => h) (Or.inl ⟨by rfl, ?_⟩) (by assumption) ?_
                  rotate_left
                  · (intro w hSw; (try dsimp only at hSw); go_simp <;> with_reducible rfl)
                  try simp only [Act.put, List.setIfInBounds_toArray, List.set_cons_zero, List.set_cons_succ]
                  refine take_lit (i := 24) rfl (by kernel_rfl) (by kernel_rfl) (by kernel_rfl) (fun _ _ _ h => h) (yQ x.p (fun w h => (HX.out _ h).2.1.q) (by rfl) rfl rfl) (by assumption) ?_
                  try simp only [Act.put, List.setIfInBounds_toArray, List.set_cons_zero, List.set_cons_succ]
                  refine take_lit (i := 25) rfl (by kernel_rfl) (by kernel_rfl) (by kernel_rfl) (fun _ _ _ h => h) (yQ p (fun w h => (HX.out _ h).2.2.1) (by rfl) rfl rfl) (by assumption) ?_
                  try simp only [Act.put, List.setIfInBounds_toArray, List.set_cons_zero, List.set_cons_succ]
                  refine take_lit (i := 26) (v := ?_) rfl (by kernel_rfl) (by kernel_rfl) (by kernel_rfl) (fun _ _ _ h => h) (Or.inl ⟨by rfl, ?_⟩) (by assumption) ?_
                  rotate_left
                  · (intro w hSw; (try dsimp only at hSw); have z := hEQ w; have z2 := fun op x y => gEQ op x y w; go_simp <;> with_reducible rfl)
                  try simp only [Act.put, List.setIfInBounds_toArray, List.set_cons_zero, List.set_cons_succ]
                  refine take_lit (i := 27) (v := ?_) rfl (by kernel_rfl) (by kernel_rfl) (by kernel_rfl) (fun _ _ _ h => h) (Or.inl ⟨by rfl, ?_⟩) (by assumption) ?_
                  rotate_left
                  · (intro w hSw; (try dsimp only at hSw); go_simp <;> with_reducible rfl)
                  try simp only [Act.put, List.setIfInBounds_toArray, List.set_cons_zero, List.set_cons_succ]
                  refine take_lit (i := 28) (v := ?_) rfl (by kernel_rfl) (by kernel_rfl) (by kernel_rfl) (fun _ _ _ h => h) (Or.inl ⟨by rfl, ?_⟩) (by assumption) ?_
                  rotate_left
                  · (intro w hSw; (try dsimp only at hSw); go_simp <;> with_reducible rfl)
                  try simp only [Act.put, List.setIfInBounds_toArray, List.set_cons_zero, List.set_cons_succ]
                  refine take_lit (i := 29) (v := ?_) rfl (by kernel_rfl) (by kernel_rfl) (by kernel_rfl) (fun _ _ _ h => h) (Or.inl ⟨by rfl, ?_⟩) (by assumption) ?_
                  rotate_left
                  · (intro w hSw; (try dsimp only at hSw); go_simp <;> with_reducible rfl)
                  try simp only [Act.put, List.setIfInBounds_toArray, List.set_cons_zero, List.set_cons_succ]
                  refine take_lit (i := 30) (v := ?_) rfl (by kernel_rfl) (by kernel_rfl) (by kernel_rfl) (fun _ _ _ h => h) (Or.inl ⟨by rfl, ?_⟩) (by assumption) ?_
                  rotate_left
                  · (intro w hSw; (try dsimp only at hSw); go_simp <;> with_reducible rfl)
                  try simp only [Act.put, List.setIfInBounds_toArray, List.set_cons_zero, List.set_cons_succ]
                  refine take_lit (i := 31) (v := ?_) rfl (by kernel_rfl) (by kernel_rfl) (by kernel_rfl) (fun _ _ _ h => h) (Or.inl ⟨by rfl, ?_⟩) (by assumption) ?_
                  rotate_left
                  · (intro w hSw; (try dsimp only at hSw); have z := (HX.out _ hSw).1; go_simp <;> with_reducible rfl)
                  try simp only [Act.put, List.setIfInBounds_toArray, List.set_cons_zero, List.set_cons_succ]
                  refine take_lit (i := 32) (v := ?_) rfl (by kernel_rfl) (by kernel_rfl) (by kernel_rfl) (fun _ _ _ h => h) (Or.inl ⟨by rfl, ?_⟩) (by assumption) ?_
                  rotate_left
                  · (intro w hSw; (try dsimp only at hSw); go_simp <;> with_reducible rfl)
                  try simp only [Act.put, List.setIfInBounds_toArray, List.set_cons_zero, List.set_cons_succ]
                  refine take_lit (i := 33) (v := ?_) rfl (by kernel_rfl) (by kernel_rfl) (by kernel_rfl) (fun _ _ _ h => h) (Or.inl ⟨by rfl, ?_⟩) (by assumption) ?_
                  rotate_left
                  · (intro w hSw; (try dsimp only at hSw); go_simp <;> with_reducible rfl)
                  try simp only [Act.put, List.setIfInBounds_toArray, List.set_cons_zero, List.set_cons_succ]
                  refine take_lit (i := 34) (v := ?_) rfl (by kernel_rfl) (by kernel_rfl) (by kernel_rfl) (fun _ _ _ h => h) (Or.inl ⟨by rfl, ?_⟩) (by assumption) ?_
                  rotate_left
                  · (intro w hSw; (try dsimp only at hSw); go_simp <;> with_reducible rfl)
                  try simp only [Act.put, List.setIfInBounds_toArray, List.set_cons_zero, List.set_cons_succ]
                  refine take_lit (i := 35) (v := ?_) rfl (by kernel_rfl) (by kernel_rfl) (by kernel_rfl) (fun _ _ _ h => h) (Or.inl ⟨by rfl, ?_⟩) (by assumption) ?_
                  rotate_left
                  · (intro w hSw; (try dsimp only at hSw); go_simp <;> with_reducible rfl)
                  try simp only [Act.put, List.setIfInBounds_toArray, List.set_cons_zero, List.set_cons_succ]
                  refine take_lit (i := 36) rfl (by kernel_rfl) (by kernel_rfl) (by kernel_rfl) (fun _ _ _ h => h) (yI x.id (fun w h => (HX.out _ h).2.1.i) (by rfl) rfl rfl) (by assumption) ?_
                  try simp only [Act.put, List.setIfInBounds_toArray, List.set_cons_zero, List.set_cons_succ]
                  refine take_lit (i := 37) rfl (by kernel_rfl) (by kernel_rfl) (by kernel_rfl) (fun _ _ _ h => h) (yI i (fun w h => (HX.out _ h).2.2.2) (by rfl) rfl rfl) (by assumption) ?_
                  try simp only [Act.put, List.setIfInBounds_toArray, List.set_cons_zero, List.set_cons_succ]
                  refine wpAnyH_ready (rs := [38]) (by kernel_rfl) (by simp) ?_
                  refine cons_lit rfl (fun K hK => ?_) ?_
                  · go_simp
                    refine (hC2 _).mono ?_
                    rintro e w6 ⟨rfl, b6⟩
                    refine hK.out _ _ ?_ (fun hHeld => ?_)
                    · exact bt hHeld b6
                    clear hK K
                    try simp only [Act.put, List.setIfInBounds_toArray, List.set_cons_zero, List.set_cons_succ]
                    refine take_lit (i := 39) (v := ?_) rfl (by kernel_rfl) (by kernel_rfl) (by kernel_rfl) (fun _ _ _ h => h) (Or.inl ⟨by rfl, ?_⟩) (by assumption) ?_
                    rotate_left
                    · (intro w hSw; (try dsimp only at hSw); go_simp <;> with_reducible rfl)
                    try simp only [Act.put, List.setIfInBounds_toArray, List.set_cons_zero, List.set_cons_succ]
                    refine take_lit (i := 40) (v := ?_) rfl (by kernel_rfl) (by kernel_rfl) (by kernel_rfl) (fun _ _ _ h => h) (Or.inl ⟨by rfl, ?_⟩) (by assumption) ?_
                    rotate_left
                    · (intro w hSw; (try dsimp only at hSw); go_simp <;> with_reducible rfl)
                    try simp only [Act.put, List.setIfInBounds_toArray, List.set_cons_zero, List.set_cons_succ]
                    refine take_lit (i := 41) (v := ?_) rfl (by kernel_rfl) (by kernel_rfl) (by kernel_rfl) (fun _ _ _ h => h) (Or.inl ⟨by rfl, ?_⟩) (by assumption) ?_
                    rotate_left
                    · (intro w hSw; (try dsimp only at hSw); go_simp <;> with_reducible rfl)
                    try simp only [Act.put, List.setIfInBounds_toArray, List.set_cons_zero, List.set_cons_succ]
                    refine take_lit (i := 42) (v := ?_) rfl (by kernel_rfl) (by kernel_rfl) (by kernel_rfl) (fun _ _ _ h => h) (Or.inl ⟨by rfl, ?_⟩) (by assumption) ?_
                    rotate_left
                    · (intro w hSw; (try dsimp only at hSw); go_simp <;> with_reducible rfl)
                    try simp only [Act.put, List.setIfInBounds_toArray, List.set_cons_zero, List.set_cons_succ]
                    refine wpAnyH_done (by kernel_rfl) ?_ _
                    refine NoPanic.normal ?_
                    refine name_world (R := fun W => Exit.then _ _ _ _ W) (P := fun W => Below wr.heap.size wr W) _ hHeld ?_
                    clear hHeld
                    intro V hV
                    have bV := bt bX hV
                    clear hRw hrw1 HQ2 HX hC1 hC2 hEQ gEQ
                    go_upto_region 13 with fail
                    have hVb : Below w.heap.size w V := (bt hB bV)
                    obtain ⟨s1, z1, s2, z2, S1, S2, A1, A2⟩ := hSl (j + 1) hIns.le
                    have hX := HX0.out _ bV
                    have hXl := hX.lt
                    have hrow := HRow.out _ hVb
                    have hrV : r < V.heap.size := hrow.lt
                    replace S1 := S1 z HZk.out
                    replace S2 := S2 z HZk.out
                    replace A1 := A1 V hVb
                    replace A2 := A2 V hVb
                    have HIn : Hid (InsP K n (j + 1)) := hIns
                    clear hIns hSl
                    refine wp_region_noPanic ?_
                    refine wp_region_N (S := fun W => Below V.heap.size V W) 21 (by kernel_rfl) ((Below.refl _ _).drew) (fun hHeld => ?_)
                    refine takeN_lit (i := 0) (v := ?_) (F := #[false, true, true, true, true, true, true, true, true, true, true, true, true, true, true, true, true, true, true, false, false, false]) rfl (by kernel_rfl) (by kernel_rfl) (by kernel_rfl) (by kernel_rfl) (fun _ _ _ h => h) (Or.inl ⟨by rfl, ?_⟩) (by assumption) ?_
                    rotate_left
                    · (intro w hSw; (try dsimp only at hSw); go_simp <;> with_reducible rfl)
                    try simp only [Act.put, List.setIfInBounds_toArray, List.set_cons_zero, List.set_cons_succ]
                    refine takeN_lit (i := 2) (v := ?_) (F := #[true, true, false, false, false, false, true, false, false, true, true, false, true, true, true, true, true, true, false, false, false, false]) rfl (by kernel_rfl) (by kernel_rfl) (by kernel_rfl) (by kernel_rfl) (fun _ _ _ h => h) (Or.inl ⟨by rfl, ?_⟩) (by assumption) ?_
                    rotate_left
                    · (intro w hSw; (try dsimp only at hSw); go_simp <;> with_reducible rfl)
                    try simp only [Act.put, List.setIfInBounds_toArray, List.set_cons_zero, List.set_cons_succ]
                    refine takeN_lit (i := 3) (v := ?_) (F := #[true, true, true, false, false, false, true, false, false, true, true, false, true, true, true, true, true, true, false, false, false, false]) rfl (by kernel_rfl) (by kernel_rfl) (by kernel_rfl) (by kernel_rfl) (fun _ _ _ h => h) (Or.inl ⟨by rfl, ?_⟩) (by assumption) ?_
                    rotate_left
                    · (intro w hSw; (try dsimp only at hSw); go_simp <;> with_reducible rfl)
                    try simp only [Act.put, List.setIfInBounds_toArray, List.set_cons_zero, List.set_cons_succ]
                    refine takeN_lit (i := 4) (v := ?_) (F := #[true, true, true, true, false, false, true, false, false, true, true, false, true, true, true, true, true, true, false, false, false, false]) rfl (by kernel_rfl) (by kernel_rfl) (by kernel_rfl) (by kernel_rfl) (fun _ _ _ h => h) (Or.inl ⟨by rfl, ?_⟩) (by assumption) ?_
                    rotate_left
                    · (intro w hSw; (try dsimp only at hSw); go_simp <;> with_reducible rfl)
                    try simp only [Act.put, List.setIfInBounds_toArray, List.set_cons_zero, List.set_cons_succ]
                    refine takeN_lit (i := 5) (v := ?_) (F := #[true, true, true, true, true, false, true, false, false, true, true, false, true, true, true, true, true, true, false, false, false, false]) rfl (by kernel_rfl) (by kernel_rfl) (by kernel_rfl) (by kernel_rfl) (fun _ _ _ h => h) (Or.inl ⟨by rfl, ?_⟩) (by assumption) ?_
                    rotate_left
                    · (intro w hSw; (try dsimp only at hSw); have z := (hrow.below hSw hrV).cell 1; go_simp <;> with_reducible rfl)
                    try simp only [Act.put, List.setIfInBounds_toArray, List.set_cons_zero, List.set_cons_succ]
                    refine takeN_lit (i := 6) (v := ?_) (F := #[true, true, true, true, true, true, false, false, false, true, true, false, true, true, true, true, true, true, false, false, false, false]) rfl (by kernel_rfl) (by kernel_rfl) (by kernel_rfl) (by kernel_rfl) (fun _ _ _ h => h) (Or.inl ⟨by rfl, ?_⟩) (by assumption) ?_
                    rotate_left
                    · (intro w hSw; (try dsimp only at hSw); go_simp <;> with_reducible rfl)
                    try simp only [Act.put, List.setIfInBounds_toArray, List.set_cons_zero, List.set_cons_succ]
                    refine takeN_lit (i := 7) (v := ?_) (F := #[true, true, true, true, true, true, true, false, false, true, true, false, true, true, true, true, true, true, false, false, false, false]) rfl (by kernel_rfl) (by kernel_rfl) (by kernel_rfl) (by kernel_rfl) (fun _ _ _ h => h) (Or.inl ⟨by rfl, ?_⟩) (by assumption) ?_
                    rotate_left
                    · (intro w hSw; (try dsimp only at hSw); have z := S1 w; go_simp <;> with_reducible rfl)
                    try simp only [Act.put, List.setIfInBounds_toArray, List.set_cons_zero, List.set_cons_succ]
                    refine takeN_lit (i := 9) (F := #[true, true, true, true, true, true, true, true, true, false, false, false, true, true, true, true, true, true, false, false, false, false]) rfl (by kernel_rfl) (by kernel_rfl) (by kernel_rfl) (by kernel_rfl) (fun _ _ _ h => h) (yS n (fun w h => (hX.below h hXl).sr) (by rfl) rfl rfl) (by assumption) ?_
                    try simp only [Act.put, List.setIfInBounds_toArray, List.set_cons_zero, List.set_cons_succ]
                    refine takeN_lit (i := 12) (v := ?_) (F := #[true, true, true, true, true, true, true, true, true, true, true, true, false, false, false, false, true, false, false, false, false, false]) rfl (by kernel_rfl) (by kernel_rfl) (by kernel_rfl) (by kernel_rfl) (fun _ _ _ h => h) (Or.inl ⟨by rfl, ?_⟩) (by assumption) ?_
                    rotate_left
                    · (intro w hSw; (try dsimp only at hSw); go_simp <;> with_reducible rfl)
                    try simp only [Act.put, List.setIfInBounds_toArray, List.set_cons_zero, List.set_cons_succ]
                    refine takeN_lit (i := 13) (v := ?_) (F := #[true, true, true, true, true, true, true, true, true, true, true, true, true, false, false, false, true, false, false, false, false, false]) rfl (by kernel_rfl) (by kernel_rfl) (by kernel_rfl) (by kernel_rfl) (fun _ _ _ h => h) (Or.inl ⟨by rfl, ?_⟩) (by assumption) ?_
                    rotate_left
                    · (intro w hSw; (try dsimp only at hSw); go_simp <;> with_reducible rfl)
                    try simp only [Act.put, List.setIfInBounds_toArray, List.set_cons_zero, List.set_cons_succ]
                    refine takeN_lit (i := 14) (v := ?_) (F := #[true, true, true, true, true, true, true, true, true, true, true, true, true, true, false, false, true, false, false, false, false, false]) rfl (by kernel_rfl) (by kernel_rfl) (by kernel_rfl) (by kernel_rfl) (fun _ _ _ h => h) (Or.inl ⟨by rfl, ?_⟩) (by assumption) ?_
                    rotate_left
                    · (intro w hSw; (try dsimp only at hSw); go_simp <;> with_reducible rfl)
                    try simp only [Act.put, List.setIfInBounds_toArray, List.set_cons_zero, List.set_cons_succ]
                    refine takeN_lit (i := 15) (v := ?_) (F := #[true, true, true, true, true, true, true, true, true, true, true, true, true, true, true, false, true, false, false, false, false, false]) rfl (by kernel_rfl) (by kernel_rfl) (by kernel_rfl) (by kernel_rfl) (fun _ _ _ h => h) (Or.inl ⟨by rfl, ?_⟩) (by assumption) ?_
                    rotate_left
                    · (intro w hSw; (try dsimp only at hSw); have z := (hrow.below hSw hrV).cell 1; go_simp <;> with_reducible rfl)
                    try simp only [Act.put, List.setIfInBounds_toArray, List.set_cons_zero, List.set_cons_succ]
                    refine takeN_lit (i := 16) (v := ?_) (F := #[true, true, true, true, true, true, true, true, true, true, true, true, true, true, true, true, false, false, false, false, false, false]) rfl (by kernel_rfl) (by kernel_rfl) (by kernel_rfl) (by kernel_rfl) (fun _ _ _ h => h) (Or.inl ⟨by rfl, ?_⟩) (by assumption) ?_
                    rotate_left
                    · (intro w hSw; (try dsimp only at hSw); go_simp <;> with_reducible rfl)
                    try simp only [Act.put, List.setIfInBounds_toArray, List.set_cons_zero, List.set_cons_succ]
                    refine takeN_lit (i := 17) (v := ?_) (F := #[true, true, true, true, true, true, true, true, true, true, true, true, true, true, true, true, true, false, false, false, false, false]) rfl (by kernel_rfl) (by kernel_rfl) (by kernel_rfl) (by kernel_rfl) (fun _ _ _ h => h) (Or.inl ⟨by rfl, ?_⟩) (by assumption) ?_
                    rotate_left
                    · (intro w hSw; (try dsimp only at hSw); have z := S2 w; go_simp <;> with_reducible rfl)
                    try simp only [Act.put, List.setIfInBounds_toArray, List.set_cons_zero, List.set_cons_succ]
                    refine wpAnyN_ready (rs := [1, 10]) (by kernel_rfl) (by simp) ?_
                    refine consN_lit rfl (fun K hK => ?_) ?_
                    · skip
                      refine sBsG (T := 29) (U := 67) [] [] (by rfl) rfl (fun w => bsN0 w) ?_
                      intro W1 r1 b1
                      have hB1 := hHeld.size
                      try (replace r14 := r14.below b1 r14.lt)
                      refine hK.out _ _ (Or.inr ?_) (fun hHeld => ?_)
                      · exact bt hHeld b1
                      replace hHeld := hHeld.resolve_left (by decide)
                      clear hK K
                      try simp only [Act.put, List.setIfInBounds_toArray, List.set_cons_zero, List.set_cons_succ]
                      refine wpAnyN_ready (rs := [8, 10]) (by kernel_rfl) (by simp) ?_
                      refine consN_lit rfl (fun K hK => ?_) ?_
                      · skip
                        obtain ⟨v8, W8, run8, o8, g8, e8⟩ := A1 _ hHeld 29 _ [] (own_zero r1 hB1) (by simp)
                        obtain ⟨a8, c8, rfl, _⟩ := Kd.own_at o8
                        refine sApp (.tmp 106) (.tmp 112) (by rfl) rfl rfl rfl run8 ?_
                        try (replace r14 := r14.keepO g8 (fun e => row_apart r1 r14 (by simpa [Value.ownBlock] using e)))
                        refine hK.out _ _ (Or.inr ?_) (fun hHeld => ?_)
                        · exact below_keepO hHeld g8 (fun g hg => own_ne_lt (own_zero r1 hB1) hg) hHeld.size
                        replace hHeld := hHeld.resolve_left (by decide)
                        clear hK K
                        try simp only [Act.put, List.setIfInBounds_toArray, List.set_cons_zero, List.set_cons_succ]
                        refine wpAnyN_ready (rs := [10]) (by kernel_rfl) (by simp) ?_
                        refine consN_lit rfl (fun K hK => ?_) ?_
                        · skip
                          refine sBsG (T := 29) (U := 67) [(0, .tmp 114)] (scs n) (by rfl) rfl (fun w => bsN1 _ w) ?_
                          intro W14 r14 b14
                          try (replace r1 := r1.below b14 r1.lt)
                          try (replace o8 := own_below o8 b14)
                          refine hK.out _ _ (Or.inr ?_) (fun hHeld => ?_)
                          · exact bt hHeld b14
                          replace hHeld := hHeld.resolve_left (by decide)
                          clear hK K
                          try simp only [Act.put, List.setIfInBounds_toArray, List.set_cons_zero, List.set_cons_succ]
                          refine wpAnyN_ready (rs := [11]) (by kernel_rfl) (by simp) ?_
                          refine consN_lit rfl (fun K hK => ?_) ?_
                          · skip
                            obtain ⟨v15, W15, run15, o15, g15, e15⟩ := app_one 29 o8 r14 (by simp <;> omega) hHeld.size
                            obtain ⟨a15, c15, rfl, _⟩ := Kd.own_at o15
                            refine sApp (.tmp 113) (.tmp 115) (by rfl) rfl rfl rfl run15 ?_
                            refine hK.out _ _ (Or.inr ?_) (fun hHeld => ?_)
                            · exact below_keepO hHeld g15 (fun g hg => own_ne_lt o8 hg) hHeld.size
                            replace hHeld := hHeld.resolve_left (by decide)
                            clear hK K
                            try simp only [Act.put, List.setIfInBounds_toArray, List.set_cons_zero, List.set_cons_succ]
                            refine wpAnyN_ready (rs := [18]) (by kernel_rfl) (by simp) ?_
                            refine consN_lit rfl (fun K hK => ?_) ?_
                            · skip
                              obtain ⟨v22, W22, run22, o22, g22, e22⟩ := A2 _ hHeld 29 _ _ o15 (by simp <;> omega)
                              obtain ⟨a22, c22, rfl, _⟩ := Kd.own_at o22
                              refine sApp (.tmp 116) (.tmp 122) (by rfl) rfl rfl rfl run22 ?_
                              refine hK.out _ _ (Or.inr ?_) (fun hHeld => ?_)
                              · exact below_keepO hHeld g22 (fun g hg => own_ne_lt o15 hg) hHeld.size
                              replace hHeld := hHeld.resolve_left (by decide)
                              clear hK K
                              try simp only [Act.put, List.setIfInBounds_toArray, List.set_cons_zero, List.set_cons_succ]
                              refine takeN_lit (i := 19) (v := ?_) (F := #[true, true, true, true, true, true, true, true, true, true, true, true, true, true, true, true, true, true, true, false, false, false]) rfl (by kernel_rfl) (by kernel_rfl) (by kernel_rfl) (by kernel_rfl) (fun _ _ _ h => h) (Or.inl ⟨by rfl, ?_⟩) (by assumption) ?_
                              rotate_left
                              · (intro w hSw; (try dsimp only at hSw); go_simp <;> with_reducible rfl)
                              try simp only [Act.put, List.setIfInBounds_toArray, List.set_cons_zero, List.set_cons_succ]
                              refine takeN_lit (i := 20) (v := ?_) (F := #[true, true, true, true, true, true, true, true, true, true, true, true, true, true, true, true, true, true, true, true, false, false]) rfl (by kernel_rfl) (by kernel_rfl) (by kernel_rfl) (by kernel_rfl) (fun _ _ _ h => h) (Or.inl ⟨by rfl, ?_⟩) (by assumption) ?_
                              rotate_left
                              · (intro w hSw; (try dsimp only at hSw); go_simp <;> with_reducible rfl)
                              try simp only [Act.put, List.setIfInBounds_toArray, List.set_cons_zero, List.set_cons_succ]
                              refine wpAnyN_ready (rs := [21]) (by kernel_rfl) (by simp) ?_
                              refine consN_lit rfl (fun K hK => ?_) ?_
                              · skip
                                refine sStSl (.tmp 125) (.tmp 123) (by rfl) rfl r 1 _ _ _ _ rfl rfl (hrow.below hHeld hrV) (by simp) ?_
                                intro W25 g25 r25
                                refine hK.out _ _ (Or.inl rfl) (fun _ => ?_)
                                clear hK K
                                try simp only [Act.put, List.setIfInBounds_toArray, List.set_cons_zero, List.set_cons_succ]
                                refine wpAnyN_done (by kernel_rfl) ?_ _
                                refine NoPanic.normal ?_
                                have HEnd : Hid (Rb W25 B r most (K.take ((j + 1)) ++ n :: K.drop ((j + 1))) ∧ RTurn w W25 B r) := by
                                  have e : ([] ++ K.take ((j + 1)) ++ [n] ++ K.drop ((j + 1)) : List Sr) = K.take ((j + 1)) ++ n :: K.drop ((j + 1)) := by simp
                                  rw [e] at o22 r25
                                  exact ⟨HFin.out V W25 ((j + 1)) HIn.out hVb _ _ o22 hHeld g25 r25, RTurn.pre (bt hVb hHeld) (RTurn.self g25)⟩
                                clear hHeld o22 r25 g25 o15 o8 r1 r14 hrow hX A1 A2 S1 S2
                                go_wp2_with fail
                                go_ret2
                                first | exact ⟨true, 0, _, rfl, .inr (.inr (.inr ⟨HG.out, HLen.out, rfl, rfl, (j + 1), HIn.out, rfl⟩)), HEnd.out.1, HEnd.out.2⟩ | exact .inr ⟨0, rfl, _, .inr (.inr (.inr ⟨HG.out, HLen.out, rfl, rfl, (j + 1), HIn.out, rfl⟩)), HEnd.out.1, HEnd.out.2⟩ | exact .inl ⟨0, rfl, _, .inr (.inr (.inr ⟨HG.out, HLen.out, rfl, rfl, (j + 1), HIn.out, rfl⟩)), HEnd.out.1, HEnd.out.2⟩ | exact ⟨0, rfl, _, .inr (.inr (.inr ⟨HG.out, HLen.out, rfl, rfl, (j + 1), HIn.out, rfl⟩)), HEnd.out.1, HEnd.out.2⟩
                              exact AllReadyN.nil
                            exact AllReadyN.nil
                          exact AllReadyN.nil
                        exact AllReadyN.nil
                      refine consN_lit rfl (fun K hK => ?_) ?_
                      · skip
                        refine sBsG (T := 29) (U := 67) [(0, .tmp 114)] (scs n) (by rfl) rfl (fun w => bsN1 _ w) ?_
                        intro W14 r14 b14
                        try (replace r1 := r1.below b14 r1.lt)
                        try (replace o8 := own_below o8 b14)
                        refine hK.out _ _ (Or.inr ?_) (fun hHeld => ?_)
                        · exact bt hHeld b14
                        replace hHeld := hHeld.resolve_left (by decide)
                        clear hK K
                        try simp only [Act.put, List.setIfInBounds_toArray, List.set_cons_zero, List.set_cons_succ]
                        refine wpAnyN_ready (rs := [8]) (by kernel_rfl) (by simp) ?_
                        refine consN_lit rfl (fun K hK => ?_) ?_
                        · skip
                          obtain ⟨v8, W8, run8, o8, g8, e8⟩ := A1 _ hHeld 29 _ [] (own_zero r1 hB1) (by simp)
                          obtain ⟨a8, c8, rfl, _⟩ := Kd.own_at o8
                          refine sApp (.tmp 106) (.tmp 112) (by rfl) rfl rfl rfl run8 ?_
                          try (replace r14 := r14.keepO g8 (fun e => row_apart r1 r14 (by simpa [Value.ownBlock] using e)))
                          refine hK.out _ _ (Or.inr ?_) (fun hHeld => ?_)
                          · exact below_keepO hHeld g8 (fun g hg => own_ne_lt (own_zero r1 hB1) hg) hHeld.size
                          replace hHeld := hHeld.resolve_left (by decide)
                          clear hK K
                          try simp only [Act.put, List.setIfInBounds_toArray, List.set_cons_zero, List.set_cons_succ]
                          refine wpAnyN_ready (rs := [11]) (by kernel_rfl) (by simp) ?_
                          refine consN_lit rfl (fun K hK => ?_) ?_
                          · skip
                            obtain ⟨v15, W15, run15, o15, g15, e15⟩ := app_one 29 o8 r14 (by simp <;> omega) hHeld.size
                            obtain ⟨a15, c15, rfl, _⟩ := Kd.own_at o15
                            refine sApp (.tmp 113) (.tmp 115) (by rfl) rfl rfl rfl run15 ?_
                            refine hK.out _ _ (Or.inr ?_) (fun hHeld => ?_)
                            · exact below_keepO hHeld g15 (fun g hg => own_ne_lt o8 hg) hHeld.size
                            replace hHeld := hHeld.resolve_left (by decide)
                            clear hK K
                            try simp only [Act.put, List.setIfInBounds_toArray, List.set_cons_zero, List.set_cons_succ]
                            refine wpAnyN_ready (rs := [18]) (by kernel_rfl) (by simp) ?_
                            refine consN_lit rfl (fun K hK => ?_) ?_
                            · skip
                              obtain ⟨v22, W22, run22, o22, g22, e22⟩ := A2 _ hHeld 29 _ _ o15 (by simp <;> omega)
                              obtain ⟨a22, c22, rfl, _⟩ := Kd.own_at o22
                              refine sApp (.tmp 116) (.tmp 122) (by rfl) rfl rfl rfl run22 ?_
                              refine hK.out _ _ (Or.inr ?_) (fun hHeld => ?_)
                              · exact below_keepO hHeld g22 (fun g hg => own_ne_lt o15 hg) hHeld.size
                              replace hHeld := hHeld.resolve_left (by decide)
                              clear hK K
                              try simp only [Act.put, List.setIfInBounds_toArray, List.set_cons_zero, List.set_cons_succ]
                              refine takeN_lit (i := 19) (v := ?_) (F := #[true, true, true, true, true, true, true, true, true, true, true, true, true, true, true, true, true, true, true, false, false, false]) rfl (by kernel_rfl) (by kernel_rfl) (by kernel_rfl) (by kernel_rfl) (fun _ _ _ h => h) (Or.inl ⟨by rfl, ?_⟩) (by assumption) ?_
                              rotate_left
                              · (intro w hSw; (try dsimp only at hSw); go_simp <;> with_reducible rfl)
                              try simp only [Act.put, List.setIfInBounds_toArray, List.set_cons_zero, List.set_cons_succ]
                              refine takeN_lit (i := 20) (v := ?_) (F := #[true, true, true, true, true, true, true, true, true, true, true, true, true, true, true, true, true, true, true, true, false, false]) rfl (by kernel_rfl) (by kernel_rfl) (by kernel_rfl) (by kernel_rfl) (fun _ _ _ h => h) (Or.inl ⟨by rfl, ?_⟩) (by assumption) ?_
                              rotate_left
                              · (intro w hSw; (try dsimp only at hSw); go_simp <;> with_reducible rfl)
                              try simp only [Act.put, List.setIfInBounds_toArray, List.set_cons_zero, List.set_cons_succ]
                              refine wpAnyN_ready (rs := [21]) (by kernel_rfl) (by simp) ?_
                              refine consN_lit rfl (fun K hK => ?_) ?_
                              · skip
                                refine sStSl (.tmp 125) (.tmp 123) (by rfl) rfl r 1 _ _ _ _ rfl rfl (hrow.below hHeld hrV) (by simp) ?_
                                intro W25 g25 r25
                                refine hK.out _ _ (Or.inl rfl) (fun _ => ?_)
                                clear hK K
                                try simp only [Act.put, List.setIfInBounds_toArray, List.set_cons_zero, List.set_cons_succ]
                                refine wpAnyN_done (by kernel_rfl) ?_ _
                                refine NoPanic.normal ?_
                                have HEnd : Hid (Rb W25 B r most (K.take ((j + 1)) ++ n :: K.drop ((j + 1))) ∧ RTurn w W25 B r) := by
                                  have e : ([] ++ K.take ((j + 1)) ++ [n] ++ K.drop ((j + 1)) : List Sr) = K.take ((j + 1)) ++ n :: K.drop ((j + 1)) := by simp
                                  rw [e] at o22 r25
                                  exact ⟨HFin.out V W25 ((j + 1)) HIn.out hVb _ _ o22 hHeld g25 r25, RTurn.pre (bt hVb hHeld) (RTurn.self g25)⟩
                                clear hHeld o22 r25 g25 o15 o8 r1 r14 hrow hX A1 A2 S1 S2
                                go_wp2_with fail
                                go_ret2
                                first | exact ⟨true, 0, _, rfl, .inr (.inr (.inr ⟨HG.out, HLen.out, rfl, rfl, (j + 1), HIn.out, rfl⟩)), HEnd.out.1, HEnd.out.2⟩ | exact .inr ⟨0, rfl, _, .inr (.inr (.inr ⟨HG.out, HLen.out, rfl, rfl, (j + 1), HIn.out, rfl⟩)), HEnd.out.1, HEnd.out.2⟩ | exact .inl ⟨0, rfl, _, .inr (.inr (.inr ⟨HG.out, HLen.out, rfl, rfl, (j + 1), HIn.out, rfl⟩)), HEnd.out.1, HEnd.out.2⟩ | exact ⟨0, rfl, _, .inr (.inr (.inr ⟨HG.out, HLen.out, rfl, rfl, (j + 1), HIn.out, rfl⟩)), HEnd.out.1, HEnd.out.2⟩
                              exact AllReadyN.nil
                            exact AllReadyN.nil
                          exact AllReadyN.nil
                        exact AllReadyN.nil
                      exact AllReadyN.nil
                    refine consN_lit rfl (fun K hK => ?_) ?_
                    · skip
                      refine sBsG (T := 29) (U := 67) [(0, .tmp 114)] (scs n) (by rfl) rfl (fun w => bsN1 _ w) ?_
                      intro W14 r14 b14
                      try (replace r1 := r1.below b14 r1.lt)
                      try (replace o8 := own_below o8 b14)
                      refine hK.out _ _ (Or.inr ?_) (fun hHeld => ?_)
                      · exact bt hHeld b14
                      replace hHeld := hHeld.resolve_left (by decide)
                      clear hK K
                      try simp only [Act.put, List.setIfInBounds_toArray, List.set_cons_zero, List.set_cons_succ]
                      refine wpAnyN_ready (rs := [1]) (by kernel_rfl) (by simp) ?_
                      refine consN_lit rfl (fun K hK => ?_) ?_
                      · skip
                        refine sBsG (T := 29) (U := 67) [] [] (by rfl) rfl (fun w => bsN0 w) ?_
                        intro W1 r1 b1
                        have hB1 := hHeld.size
                        try (replace r14 := r14.below b1 r14.lt)
                        refine hK.out _ _ (Or.inr ?_) (fun hHeld => ?_)
                        · exact bt hHeld b1
                        replace hHeld := hHeld.resolve_left (by decide)
                        clear hK K
                        try simp only [Act.put, List.setIfInBounds_toArray, List.set_cons_zero, List.set_cons_succ]
                        refine wpAnyN_ready (rs := [8]) (by kernel_rfl) (by simp) ?_
                        refine consN_lit rfl (fun K hK => ?_) ?_
                        · skip
                          obtain ⟨v8, W8, run8, o8, g8, e8⟩ := A1 _ hHeld 29 _ [] (own_zero r1 hB1) (by simp)
                          obtain ⟨a8, c8, rfl, _⟩ := Kd.own_at o8
                          refine sApp (.tmp 106) (.tmp 112) (by rfl) rfl rfl rfl run8 ?_
                          try (replace r14 := r14.keepO g8 (fun e => row_apart r1 r14 (by simpa [Value.ownBlock] using e)))
                          refine hK.out _ _ (Or.inr ?_) (fun hHeld => ?_)
                          · exact below_keepO hHeld g8 (fun g hg => own_ne_lt (own_zero r1 hB1) hg) hHeld.size
                          replace hHeld := hHeld.resolve_left (by decide)
                          clear hK K
                          try simp only [Act.put, List.setIfInBounds_toArray, List.set_cons_zero, List.set_cons_succ]
                          refine wpAnyN_ready (rs := [11]) (by kernel_rfl) (by simp) ?_
                          refine consN_lit rfl (fun K hK => ?_) ?_
                          · skip
                            obtain ⟨v15, W15, run15, o15, g15, e15⟩ := app_one 29 o8 r14 (by simp <;> omega) hHeld.size
                            obtain ⟨a15, c15, rfl, _⟩ := Kd.own_at o15
                            refine sApp (.tmp 113) (.tmp 115) (by rfl) rfl rfl rfl run15 ?_
                            refine hK.out _ _ (Or.inr ?_) (fun hHeld => ?_)
                            · exact below_keepO hHeld g15 (fun g hg => own_ne_lt o8 hg) hHeld.size
                            replace hHeld := hHeld.resolve_left (by decide)
                            clear hK K
                            try simp only [Act.put, List.setIfInBounds_toArray, List.set_cons_zero, List.set_cons_succ]
                            refine wpAnyN_ready (rs := [18]) (by kernel_rfl) (by simp) ?_
                            refine consN_lit rfl (fun K hK => ?_) ?_
                            · skip
                              obtain ⟨v22, W22, run22, o22, g22, e22⟩ := A2 _ hHeld 29 _ _ o15 (by simp <;> omega)
                              obtain ⟨a22, c22, rfl, _⟩ := Kd.own_at o22
                              refine sApp (.tmp 116) (.tmp 122) (by rfl) rfl rfl rfl run22 ?_
                              refine hK.out _ _ (Or.inr ?_) (fun hHeld => ?_)
                              · exact below_keepO hHeld g22 (fun g hg => own_ne_lt o15 hg) hHeld.size
                              replace hHeld := hHeld.resolve_left (by decide)
                              clear hK K
                              try simp only [Act.put, List.setIfInBounds_toArray, List.set_cons_zero, List.set_cons_succ]
                              refine takeN_lit (i := 19) (v := ?_) (F := #[true, true, true, true, true, true, true, true, true, true, true, true, true, true, true, true, true, true, true, false, false, false]) rfl (by kernel_rfl) (by kernel_rfl) (by kernel_rfl) (by kernel_rfl) (fun _ _ _ h => h) (Or.inl ⟨by rfl, ?_⟩) (by assumption) ?_
                              rotate_left
                              · (intro w hSw; (try dsimp only at hSw); go_simp <;> with_reducible rfl)
                              try simp only [Act.put, List.setIfInBounds_toArray, List.set_cons_zero, List.set_cons_succ]
                              refine takeN_lit (i := 20) (v := ?_) (F := #[true, true, true, true, true, true, true, true, true, true, true, true, true, true, true, true, true, true, true, true, false, false]) rfl (by kernel_rfl) (by kernel_rfl) (by kernel_rfl) (by kernel_rfl) (fun _ _ _ h => h) (Or.inl ⟨by rfl, ?_⟩) (by assumption) ?_
                              rotate_left
                              · (intro w hSw; (try dsimp only at hSw); go_simp <;> with_reducible rfl)
                              try simp only [Act.put, List.setIfInBounds_toArray, List.set_cons_zero, List.set_cons_succ]
                              refine wpAnyN_ready (rs := [21]) (by kernel_rfl) (by simp) ?_
                              refine consN_lit rfl (fun K hK => ?_) ?_
                              · skip
                                refine sStSl (.tmp 125) (.tmp 123) (by rfl) rfl r 1 _ _ _ _ rfl rfl (hrow.below hHeld hrV) (by simp) ?_
                                intro W25 g25 r25
                                refine hK.out _ _ (Or.inl rfl) (fun _ => ?_)
                                clear hK K
                                try simp only [Act.put, List.setIfInBounds_toArray, List.set_cons_zero, List.set_cons_succ]
                                refine wpAnyN_done (by kernel_rfl) ?_ _
                                refine NoPanic.normal ?_
                                have HEnd : Hid (Rb W25 B r most (K.take ((j + 1)) ++ n :: K.drop ((j + 1))) ∧ RTurn w W25 B r) := by
                                  have e : ([] ++ K.take ((j + 1)) ++ [n] ++ K.drop ((j + 1)) : List Sr) = K.take ((j + 1)) ++ n :: K.drop ((j + 1)) := by simp
                                  rw [e] at o22 r25
                                  exact ⟨HFin.out V W25 ((j + 1)) HIn.out hVb _ _ o22 hHeld g25 r25, RTurn.pre (bt hVb hHeld) (RTurn.self g25)⟩
                                clear hHeld o22 r25 g25 o15 o8 r1 r14 hrow hX A1 A2 S1 S2
                                go_wp2_with fail
                                go_ret2
                                first | exact ⟨true, 0, _, rfl, .inr (.inr (.inr ⟨HG.out, HLen.out, rfl, rfl, (j + 1), HIn.out, rfl⟩)), HEnd.out.1, HEnd.out.2⟩ | exact .inr ⟨0, rfl, _, .inr (.inr (.inr ⟨HG.out, HLen.out, rfl, rfl, (j + 1), HIn.out, rfl⟩)), HEnd.out.1, HEnd.out.2⟩ | exact .inl ⟨0, rfl, _, .inr (.inr (.inr ⟨HG.out, HLen.out, rfl, rfl, (j + 1), HIn.out, rfl⟩)), HEnd.out.1, HEnd.out.2⟩ | exact ⟨0, rfl, _, .inr (.inr (.inr ⟨HG.out, HLen.out, rfl, rfl, (j + 1), HIn.out, rfl⟩)), HEnd.out.1, HEnd.out.2⟩
                              exact AllReadyN.nil
                            exact AllReadyN.nil
                          exact AllReadyN.nil
                        exact AllReadyN.nil
                      exact AllReadyN.nil
                    exact AllReadyN.nil
                  exact AllReadyH.nil
                exact AllReadyH.nil
            · have hqt : qB x.p p = false := by
                cases hb : qB x.p p with
                | false => rfl
                | true => exact absurd (hqz.2 (hqb.1 hb)) hq1
              rw [hqt] at hEQ
              have hIns := HSt.out (by rw [hCx]; unfold orI; rw [if_neg hq1]; exact hq0)
              clear HGo HSt hqz hqb hCx hqt hq1
              refine wp_region_noPanic ?_
              refine wp_region_held_drew (S := fun W => Below wr.heap.size wr W) (by kernel_rfl) ((Below.refl _ _).drew) (fun hHeld => ?_)
              refine take_lit (i := 0) (v := ?_) rfl (by kernel_rfl) (by kernel_rfl) (by kernel_rfl) (fun _ _ _ h => h) (Or.inl ⟨by rfl, ?_⟩) (by assumption) ?_
              rotate_left
              · (intro w hSw; (try dsimp only at hSw); go_simp <;> with_reducible rfl)
              try simp only [Act.put, List.setIfInBounds_toArray, List.set_cons_zero, List.set_cons_succ]
              refine take_lit (i := 1) (v := ?_) rfl (by kernel_rfl) (by kernel_rfl) (by kernel_rfl) (fun _ _ _ h => h) (Or.inl ⟨by rfl, ?_⟩) (by assumption) ?_
              rotate_left
              · (intro w hSw; (try dsimp only at hSw); go_simp <;> with_reducible rfl)
              try simp only [Act.put, List.setIfInBounds_toArray, List.set_cons_zero, List.set_cons_succ]
              refine take_lit (i := 2) (v := ?_) rfl (by kernel_rfl) (by kernel_rfl) (by kernel_rfl) (fun _ _ _ h => h) (Or.inl ⟨by rfl, ?_⟩) (by assumption) ?_
              rotate_left
              · (intro w hSw; (try dsimp only at hSw); go_simp <;> with_reducible rfl)
              try simp only [Act.put, List.setIfInBounds_toArray, List.set_cons_zero, List.set_cons_succ]
              refine take_lit (i := 3) (v := ?_) rfl (by kernel_rfl) (by kernel_rfl) (by kernel_rfl) (fun _ _ _ h => h) (Or.inl ⟨by rfl, ?_⟩) (by assumption) ?_
              rotate_left
              · (intro w hSw; (try dsimp only at hSw); go_simp <;> with_reducible rfl)
              try simp only [Act.put, List.setIfInBounds_toArray, List.set_cons_zero, List.set_cons_succ]
              refine take_lit (i := 4) (v := ?_) rfl (by kernel_rfl) (by kernel_rfl) (by kernel_rfl) (fun _ _ _ h => h) (Or.inl ⟨by rfl, ?_⟩) (by assumption) ?_
              rotate_left
              · (intro w hSw; (try dsimp only at hSw); go_simp <;> with_reducible rfl)
              try simp only [Act.put, List.setIfInBounds_toArray, List.set_cons_zero, List.set_cons_succ]
              refine take_lit (i := 5) (v := ?_) rfl (by kernel_rfl) (by kernel_rfl) (by kernel_rfl) (fun _ _ _ h => h) (Or.inl ⟨by rfl, ?_⟩) (by assumption) ?_
              rotate_left
              · (intro w hSw; (try dsimp only at hSw); go_simp <;> with_reducible rfl)
              try simp only [Act.put, List.setIfInBounds_toArray, List.set_cons_zero, List.set_cons_succ]
              refine take_lit (i := 6) (v := ?_) rfl (by kernel_rfl) (by kernel_rfl) (by kernel_rfl) (fun _ _ _ h => h) (Or.inl ⟨by rfl, ?_⟩) (by assumption) ?_
              rotate_left
              · (intro w hSw; (try dsimp only at hSw); have z := (HX.out _ hSw).1; go_simp <;> with_reducible rfl)
              try simp only [Act.put, List.setIfInBounds_toArray, List.set_cons_zero, List.set_cons_succ]
              refine take_lit (i := 7) (v := ?_) rfl (by kernel_rfl) (by kernel_rfl) (by kernel_rfl) (fun _ _ _ h => h) (Or.inl ⟨by rfl, ?_⟩) (by assumption) ?_
              rotate_left
              · (intro w hSw; (try dsimp only at hSw); go_simp <;> with_reducible rfl)
              try simp only [Act.put, List.setIfInBounds_toArray, List.set_cons_zero, List.set_cons_succ]
              refine take_lit (i := 8) (v := ?_) rfl (by kernel_rfl) (by kernel_rfl) (by kernel_rfl) (fun _ _ _ h => h) (Or.inl ⟨by rfl, ?_⟩) (by assumption) ?_
              rotate_left
              · (intro w hSw; (try dsimp only at hSw); go_simp <;> with_reducible rfl)
              try simp only [Act.put, List.setIfInBounds_toArray, List.set_cons_zero, List.set_cons_succ]
              refine take_lit (i := 9) (v := ?_) rfl (by kernel_rfl) (by kernel_rfl) (by kernel_rfl) (fun _ _ _ h => h) (Or.inl ⟨by rfl, ?_⟩) (by assumption) ?_
              rotate_left
              · (intro w hSw; (try dsimp only at hSw); go_simp <;> with_reducible rfl)
              try simp only [Act.put, List.setIfInBounds_toArray, List.set_cons_zero, List.set_cons_succ]
              refine take_lit (i := 10) (v := ?_) rfl (by kernel_rfl) (by kernel_rfl) (by kernel_rfl) (fun _ _ _ h => h) (Or.inl ⟨by rfl, ?_⟩) (by assumption) ?_
              rotate_left
              · (intro w hSw; (try dsimp only at hSw); go_simp <;> with_reducible rfl)
              try simp only [Act.put, List.setIfInBounds_toArray, List.set_cons_zero, List.set_cons_succ]
              refine take_lit (i := 11) rfl (by kernel_rfl) (by kernel_rfl) (by kernel_rfl) (fun _ _ _ h => h) (yQ x.p (fun w h => (HX.out _ h).2.1.q) (by rfl) rfl rfl) (by assumption) ?_
              try simp only [Act.put, List.setIfInBounds_toArray, List.set_cons_zero, List.set_cons_succ]
              refine take_lit (i := 12) rfl (by kernel_rfl) (by kernel_rfl) (by kernel_rfl) (fun _ _ _ h => h) (yQ p (fun w h => (HX.out _ h).2.2.1) (by rfl) rfl rfl) (by assumption) ?_
              try simp only [Act.put, List.setIfInBounds_toArray, List.set_cons_zero, List.set_cons_succ]
              refine wpAnyH_ready (rs := [13]) (by kernel_rfl) (by simp) ?_
              refine cons_lit rfl (fun K hK => ?_) ?_
              · go_simp
                refine (hC1 _).mono ?_
                rintro e w5 ⟨rfl, b5⟩
                refine hK.out _ _ ?_ (fun hHeld => ?_)
                · exact bt hHeld b5
                clear hK K
                try simp only [Act.put, List.setIfInBounds_toArray, List.set_cons_zero, List.set_cons_succ]
                refine take_lit (i := 14) (v := ?_) rfl (by kernel_rfl) (by kernel_rfl) (by kernel_rfl) (fun _ _ _ h => h) (Or.inl ⟨by rfl, ?_⟩) (by assumption) ?_
                rotate_left
                · (intro w hSw; (try dsimp only at hSw); go_simp <;> with_reducible rfl)
                try simp only [Act.put, List.setIfInBounds_toArray, List.set_cons_zero, List.set_cons_succ]
                refine take_lit (i := 15) (v := ?_) rfl (by kernel_rfl) (by kernel_rfl) (by kernel_rfl) (fun _ _ _ h => h) (Or.inl ⟨by rfl, ?_⟩) (by assumption) ?_
                rotate_left
                · (intro w hSw; (try dsimp only at hSw); go_simp <;> with_reducible rfl)
                try simp only [Act.put, List.setIfInBounds_toArray, List.set_cons_zero, List.set_cons_succ]
                refine take_lit (i := 16) (v := ?_) rfl (by kernel_rfl) (by kernel_rfl) (by kernel_rfl) (fun _ _ _ h => h) (Or.inl ⟨by rfl, ?_⟩) (by assumption) ?_
                rotate_left
                · (intro w hSw; (try dsimp only at hSw); go_simp <;> with_reducible rfl)
                try simp only [Act.put, List.setIfInBounds_toArray, List.set_cons_zero, List.set_cons_succ]
                refine take_lit (i := 17) (v := ?_) rfl (by kernel_rfl) (by kernel_rfl) (by kernel_rfl) (fun _ _ _ h => h) (Or.inl ⟨by rfl, ?_⟩) (by assumption) ?_
                rotate_left
                · (intro w hSw; (try dsimp only at hSw); go_simp <;> with_reducible rfl)
                try simp only [Act.put, List.setIfInBounds_toArray, List.set_cons_zero, List.set_cons_succ]
                refine take_lit (i := 18) (v := ?_) rfl (by kernel_rfl) (by kernel_rfl) (by kernel_rfl) (fun _ _ _ h => h) (Or.inl ⟨by rfl, ?_⟩) (by assumption) ?_
                rotate_left
                · (intro w hSw; (try dsimp only at hSw); go_simp <;> with_reducible rfl)
                try simp only [Act.put, List.setIfInBounds_toArray, List.set_cons_zero, List.set_cons_succ]
                refine take_lit (i := 19) (v := ?_) rfl (by kernel_rfl) (by kernel_rfl) (by kernel_rfl) (fun _ _ _ h => h) (Or.inl ⟨by rfl, ?_⟩) (by assumption) ?_
                rotate_left
                · (intro w hSw; (try dsimp only at hSw); have z := (HX.out _ hSw).1; go_simp <;> with_reducible rfl)
                try simp only [Act.put, List.setIfInBounds_toArray, List.set_cons_zero, List.set_cons_succ]
                refine take_lit (i := 20) (v := ?_) rfl (by kernel_rfl) (by kernel_rfl) (by kernel_rfl) (fun _ _ _ h => h) (Or.inl ⟨by rfl, ?_⟩) (by assumption) ?_
                rotate_left
                · (intro w hSw; (try dsimp only at hSw); go_simp <;> with_reducible rfl)
                try simp only [Act.put, List.setIfInBounds_toArray, List.set_cons_zero, List.set_cons_succ]
                refine take_lit (i := 21) (v := ?_) rfl (by kernel_rfl) (by kernel_rfl) (by kernel_rfl) (fun _ _ _ h => h) (Or.inl ⟨by rfl, ?_⟩) (by assumption) ?_
                rotate_left
                · (intro w hSw; (try dsimp only at hSw); go_simp <;> with_reducible rfl)
                try simp only [Act.put, List.setIfInBounds_toArray, List.set_cons_zero, List.set_cons_succ]
                refine take_lit (i := 22) (v := ?_) rfl (by kernel_rfl) (by kernel_rfl) (by kernel_rfl) (fun _ _ _ h => h) (Or.inl ⟨by rfl, ?_⟩) (by assumption) ?_
                rotate_left
                · (intro w hSw; (try dsimp only at hSw); go_simp <;> with_reducible rfl)
                try simp only [Act.put, List.setIfInBounds_toArray, List.set_cons_zero, List.set_cons_succ]
                refine take_lit (i := 23) (v := ?_) rfl (by kernel_rfl) (by kernel_rfl) (by kernel_rfl) (fun _ _ _ h => h) (Or.inl ⟨by rfl, ?_⟩) (by assumption) ?_
                rotate_left
                · (intro w hSw; (try dsimp only at hSw); go_simp <;> with_reducible rfl)
                try simp only [Act.put, List.setIfInBounds_toArray, List.set_cons_zero, List.set_cons_succ]
                refine take_lit (i := 24) rfl (by kernel_rfl) (by kernel_rfl) (by kernel_rfl) (fun _ _ _ h => h) (yQ x.p (fun w h => (HX.out _ h).2.1.q) (by rfl) rfl rfl) (by assumption) ?_
                try simp only [Act.put, List.setIfInBounds_toArray, List.set_cons_zero, List.set_cons_succ]
                refine take_lit (i := 25) rfl (by kernel_rfl) (by kernel_rfl) (by kernel_rfl) (fun _ _ _ h => h) (yQ p (fun w h => (HX.out _ h).2.2.1) (by rfl) rfl rfl) (by assumption) ?_
                try simp only [Act.put, List.setIfInBounds_toArray, List.set_cons_zero, List.set_cons_succ]
                refine take_lit (i := 26) (v := ?_) rfl (by kernel_rfl) (by kernel_rfl) (by kernel_rfl) (fun _ _ _ h => h) (Or.inl ⟨by rfl, ?_⟩) (by assumption) ?_
                rotate_left
                · (intro w hSw; (try dsimp only at hSw); have z := hEQ w; have z2 := fun op x y => gEQ op x y w; go_simp <;> with_reducible rfl)
                try simp only [Act.put, List.setIfInBounds_toArray, List.set_cons_zero, List.set_cons_succ]
                refine take_lit (i := 27) (v := ?_) rfl (by kernel_rfl) (by kernel_rfl) (by kernel_rfl) (fun _ _ _ h => h) (Or.inl ⟨by rfl, ?_⟩) (by assumption) ?_
                rotate_left
                · (intro w hSw; (try dsimp only at hSw); go_simp <;> with_reducible rfl)
                try simp only [Act.put, List.setIfInBounds_toArray, List.set_cons_zero, List.set_cons_succ]
                refine take_lit (i := 28) rfl (by kernel_rfl) (by kernel_rfl) (by kernel_rfl) (fun _ _ _ h => h) (Or.inr ⟨by rfl, rfl⟩) (by assumption) ?_
                try simp only [Act.put, List.setIfInBounds_toArray, List.set_cons_zero, List.set_cons_succ]
                refine take_lit (i := 29) rfl (by kernel_rfl) (by kernel_rfl) (by kernel_rfl) (fun _ _ _ h => h) (Or.inr ⟨by rfl, rfl⟩) (by assumption) ?_
                try simp only [Act.put, List.setIfInBounds_toArray, List.set_cons_zero, List.set_cons_succ]
                refine take_lit (i := 30) rfl (by kernel_rfl) (by kernel_rfl) (by kernel_rfl) (fun _ _ _ h => h) (Or.inr ⟨by rfl, rfl⟩) (by assumption) ?_
                try simp only [Act.put, List.setIfInBounds_toArray, List.set_cons_zero, List.set_cons_succ]
                refine take_lit (i := 31) rfl (by kernel_rfl) (by kernel_rfl) (by kernel_rfl) (fun _ _ _ h => h) (Or.inr ⟨by rfl, rfl⟩) (by assumption) ?_
                try simp only [Act.put, List.setIfInBounds_toArray, List.set_cons_zero, List.set_cons_succ]
                refine take_lit (i := 32) rfl (by kernel_rfl) (by kernel_rfl) (by kernel_rfl) (fun _ _ _ h => h) (Or.inr ⟨by rfl, rfl⟩) (by assumption) ?_
                try simp only [Act.put, List.setIfInBounds_toArray, List.set_cons_zero, List.set_cons_succ]
                refine take_lit (i := 33) rfl (by kernel_rfl) (by kernel_rfl) (by kernel_rfl) (fun _ _ _ h => h) (Or.inr ⟨by rfl, rfl⟩) (by assumption) ?_
                try simp only [Act.put, List.setIfInBounds_toArray, List.set_cons_zero, List.set_cons_succ]
                refine take_lit (i := 34) rfl (by kernel_rfl) (by kernel_rfl) (by kernel_rfl) (fun _ _ _ h => h) (Or.inr ⟨by rfl, rfl⟩) (by assumption) ?_
                try simp only [Act.put, List.setIfInBounds_toArray, List.set_cons_zero, List.set_cons_succ]
                refine take_lit (i := 35) rfl (by kernel_rfl) (by kernel_rfl) (by kernel_rfl) (fun _ _ _ h => h) (Or.inr ⟨by rfl, rfl⟩) (by assumption) ?_
                try simp only [Act.put, List.setIfInBounds_toArray, List.set_cons_zero, List.set_cons_succ]
                refine take_lit (i := 36) rfl (by kernel_rfl) (by kernel_rfl) (by kernel_rfl) (fun _ _ _ h => h) (Or.inr ⟨by rfl, rfl⟩) (by assumption) ?_
                try simp only [Act.put, List.setIfInBounds_toArray, List.set_cons_zero, List.set_cons_succ]
                refine take_lit (i := 37) rfl (by kernel_rfl) (by kernel_rfl) (by kernel_rfl) (fun _ _ _ h => h) (Or.inr ⟨by rfl, rfl⟩) (by assumption) ?_
                try simp only [Act.put, List.setIfInBounds_toArray, List.set_cons_zero, List.set_cons_succ]
                refine take_lit (i := 38) rfl (by kernel_rfl) (by kernel_rfl) (by kernel_rfl) (fun _ _ _ h => h) (Or.inr ⟨by rfl, rfl⟩) (by assumption) ?_
                try simp only [Act.put, List.setIfInBounds_toArray, List.set_cons_zero, List.set_cons_succ]
                refine take_lit (i := 39) rfl (by kernel_rfl) (by kernel_rfl) (by kernel_rfl) (fun _ _ _ h => h) (Or.inr ⟨by rfl, rfl⟩) (by assumption) ?_
                try simp only [Act.put, List.setIfInBounds_toArray, List.set_cons_zero, List.set_cons_succ]
                refine take_lit (i := 40) (v := ?_) rfl (by kernel_rfl) (by kernel_rfl) (by kernel_rfl) (fun _ _ _ h => h) (Or.inl ⟨by rfl, ?_⟩) (by assumption) ?_
                rotate_left
                · (intro w hSw; (try dsimp only at hSw); go_simp <;> with_reducible rfl)
                try simp only [Act.put, List.setIfInBounds_toArray, List.set_cons_zero, List.set_cons_succ]
                refine take_lit (i := 41) (v := ?_) rfl (by kernel_rfl) (by kernel_rfl) (by kernel_rfl) (fun _ _ _ h => h) (Or.inl ⟨by rfl, ?_⟩) (by assumption) ?_
                rotate_left
                · (intro w hSw; (try dsimp only at hSw); go_simp <;> with_reducible rfl)
                try simp only [Act.put, List.setIfInBounds_toArray, List.set_cons_zero, List.set_cons_succ]
                refine take_lit (i := 42) (v := ?_) rfl (by kernel_rfl) (by kernel_rfl) (by kernel_rfl) (fun _ _ _ h => h) (Or.inl ⟨by rfl, ?_⟩) (by assumption) ?_
                rotate_left
                · (intro w hSw; (try dsimp only at hSw); go_simp <;> with_reducible rfl)
                try simp only [Act.put, List.setIfInBounds_toArray, List.set_cons_zero, List.set_cons_succ]
                refine wpAnyH_done (by kernel_rfl) ?_ _
                refine NoPanic.normal ?_
                refine name_world (R := fun W => Exit.then _ _ _ _ W) (P := fun W => Below wr.heap.size wr W) _ hHeld ?_
                clear hHeld
                intro V hV
                have bV := bt bX hV
                clear hRw hrw1 HQ2 HX hC1 hC2 hEQ gEQ
                go_upto_region 13 with fail
                have hVb : Below w.heap.size w V := (bt hB bV)
                obtain ⟨s1, z1, s2, z2, S1, S2, A1, A2⟩ := hSl (j + 1) hIns.le
                have hX := HX0.out _ bV
                have hXl := hX.lt
                have hrow := HRow.out _ hVb
                have hrV : r < V.heap.size := hrow.lt
                replace S1 := S1 z HZk.out
                replace S2 := S2 z HZk.out
                replace A1 := A1 V hVb
                replace A2 := A2 V hVb
                have HIn : Hid (InsP K n (j + 1)) := hIns
                clear hIns hSl
                refine wp_region_noPanic ?_
                refine wp_region_N (S := fun W => Below V.heap.size V W) 21 (by kernel_rfl) ((Below.refl _ _).drew) (fun hHeld => ?_)
                refine takeN_lit (i := 0) (v := ?_) (F := #[false, true, true, true, true, true, true, true, true, true, true, true, true, true, true, true, true, true, true, false, false, false]) rfl (by kernel_rfl) (by kernel_rfl) (by kernel_rfl) (by kernel_rfl) (fun _ _ _ h => h) (Or.inl ⟨by rfl, ?_⟩) (by assumption) ?_
                rotate_left
                · (intro w hSw; (try dsimp only at hSw); go_simp <;> with_reducible rfl)
                try simp only [Act.put, List.setIfInBounds_toArray, List.set_cons_zero, List.set_cons_succ]
                refine takeN_lit (i := 2) (v := ?_) (F := #[true, true, false, false, false, false, true, false, false, true, true, false, true, true, true, true, true, true, false, false, false, false]) rfl (by kernel_rfl) (by kernel_rfl) (by kernel_rfl) (by kernel_rfl) (fun _ _ _ h => h) (Or.inl ⟨by rfl, ?_⟩) (by assumption) ?_
                rotate_left
                · (intro w hSw; (try dsimp only at hSw); go_simp <;> with_reducible rfl)
                try simp only [Act.put, List.setIfInBounds_toArray, List.set_cons_zero, List.set_cons_succ]
                refine takeN_lit (i := 3) (v := ?_) (F := #[true, true, true, false, false, false, true, false, false, true, true, false, true, true, true, true, true, true, false, false, false, false]) rfl (by kernel_rfl) (by kernel_rfl) (by kernel_rfl) (by kernel_rfl) (fun _ _ _ h => h) (Or.inl ⟨by rfl, ?_⟩) (by assumption) ?_
                rotate_left
                · (intro w hSw; (try dsimp only at hSw); go_simp <;> with_reducible rfl)
                try simp only [Act.put, List.setIfInBounds_toArray, List.set_cons_zero, List.set_cons_succ]
                refine takeN_lit (i := 4) (v := ?_) (F := #[true, true, true, true, false, false, true, false, false, true, true, false, true, true, true, true, true, true, false, false, false, false]) rfl (by kernel_rfl) (by kernel_rfl) (by kernel_rfl) (by kernel_rfl) (fun _ _ _ h => h) (Or.inl ⟨by rfl, ?_⟩) (by assumption) ?_
                rotate_left
                · (intro w hSw; (try dsimp only at hSw); go_simp <;> with_reducible rfl)
                try simp only [Act.put, List.setIfInBounds_toArray, List.set_cons_zero, List.set_cons_succ]
                refine takeN_lit (i := 5) (v := ?_) (F := #[true, true, true, true, true, false, true, false, false, true, true, false, true, true, true, true, true, true, false, false, false, false]) rfl (by kernel_rfl) (by kernel_rfl) (by kernel_rfl) (by kernel_rfl) (fun _ _ _ h => h) (Or.inl ⟨by rfl, ?_⟩) (by assumption) ?_
                rotate_left
                · (intro w hSw; (try dsimp only at hSw); have z := (hrow.below hSw hrV).cell 1; go_simp <;> with_reducible rfl)
                try simp only [Act.put, List.setIfInBounds_toArray, List.set_cons_zero, List.set_cons_succ]
                refine takeN_lit (i := 6) (v := ?_) (F := #[true, true, true, true, true, true, false, false, false, true, true, false, true, true, true, true, true, true, false, false, false, false]) rfl (by kernel_rfl) (by kernel_rfl) (by kernel_rfl) (by kernel_rfl) (fun _ _ _ h => h) (Or.inl ⟨by rfl, ?_⟩) (by assumption) ?_
                rotate_left
                · (intro w hSw; (try dsimp only at hSw); go_simp <;> with_reducible rfl)
                try simp only [Act.put, List.setIfInBounds_toArray, List.set_cons_zero, List.set_cons_succ]
                refine takeN_lit (i := 7) (v := ?_) (F := #[true, true, true, true, true, true, true, false, false, true, true, false, true, true, true, true, true, true, false, false, false, false]) rfl (by kernel_rfl) (by kernel_rfl) (by kernel_rfl) (by kernel_rfl) (fun _ _ _ h => h) (Or.inl ⟨by rfl, ?_⟩) (by assumption) ?_
                rotate_left
                · (intro w hSw; (try dsimp only at hSw); have z := S1 w; go_simp <;> with_reducible rfl)
                try simp only [Act.put, List.setIfInBounds_toArray, List.set_cons_zero, List.set_cons_succ]
                refine takeN_lit (i := 9) (F := #[true, true, true, true, true, true, true, true, true, false, false, false, true, true, true, true, true, true, false, false, false, false]) rfl (by kernel_rfl) (by kernel_rfl) (by kernel_rfl) (by kernel_rfl) (fun _ _ _ h => h) (yS n (fun w h => (hX.below h hXl).sr) (by rfl) rfl rfl) (by assumption) ?_
                try simp only [Act.put, List.setIfInBounds_toArray, List.set_cons_zero, List.set_cons_succ]
                refine takeN_lit (i := 12) (v := ?_) (F := #[true, true, true, true, true, true, true, true, true, true, true, true, false, false, false, false, true, false, false, false, false, false]) rfl (by kernel_rfl) (by kernel_rfl) (by kernel_rfl) (by kernel_rfl) (fun _ _ _ h => h) (Or.inl ⟨by rfl, ?_⟩) (by assumption) ?_
                rotate_left
                · (intro w hSw; (try dsimp only at hSw); go_simp <;> with_reducible rfl)
                try simp only [Act.put, List.setIfInBounds_toArray, List.set_cons_zero, List.set_cons_succ]
                refine takeN_lit (i := 13) (v := ?_) (F := #[true, true, true, true, true, true, true, true, true, true, true, true, true, false, false, false, true, false, false, false, false, false]) rfl (by kernel_rfl) (by kernel_rfl) (by kernel_rfl) (by kernel_rfl) (fun _ _ _ h => h) (Or.inl ⟨by rfl, ?_⟩) (by assumption) ?_
                rotate_left
                · (intro w hSw; (try dsimp only at hSw); go_simp <;> with_reducible rfl)
                try simp only [Act.put, List.setIfInBounds_toArray, List.set_cons_zero, List.set_cons_succ]
                refine takeN_lit (i := 14) (v := ?_) (F := #[true, true, true, true, true, true, true, true, true, true, true, true, true, true, false, false, true, false, false, false, false, false]) rfl (by kernel_rfl) (by kernel_rfl) (by kernel_rfl) (by kernel_rfl) (fun _ _ _ h => h) (Or.inl ⟨by rfl, ?_⟩) (by assumption) ?_
                rotate_left
                · (intro w hSw; (try dsimp only at hSw); go_simp <;> with_reducible rfl)
                try simp only [Act.put, List.setIfInBounds_toArray, List.set_cons_zero, List.set_cons_succ]
                refine takeN_lit (i := 15) (v := ?_) (F := #[true, true, true, true, true, true, true, true, true, true, true, true, true, true, true, false, true, false, false, false, false, false]) rfl (by kernel_rfl) (by kernel_rfl) (by kernel_rfl) (by kernel_rfl) (fun _ _ _ h => h) (Or.inl ⟨by rfl, ?_⟩) (by assumption) ?_
                rotate_left
                · (intro w hSw; (try dsimp only at hSw); have z := (hrow.below hSw hrV).cell 1; go_simp <;> with_reducible rfl)
                try simp only [Act.put, List.setIfInBounds_toArray, List.set_cons_zero, List.set_cons_succ]
                refine takeN_lit (i := 16) (v := ?_) (F := #[true, true, true, true, true, true, true, true, true, true, true, true, true, true, true, true, false, false, false, false, false, false]) rfl (by kernel_rfl) (by kernel_rfl) (by kernel_rfl) (by kernel_rfl) (fun _ _ _ h => h) (Or.inl ⟨by rfl, ?_⟩) (by assumption) ?_
                rotate_left
                · (intro w hSw; (try dsimp only at hSw); go_simp <;> with_reducible rfl)
                try simp only [Act.put, List.setIfInBounds_toArray, List.set_cons_zero, List.set_cons_succ]
                refine takeN_lit (i := 17) (v := ?_) (F := #[true, true, true, true, true, true, true, true, true, true, true, true, true, true, true, true, true, false, false, false, false, false]) rfl (by kernel_rfl) (by kernel_rfl) (by kernel_rfl) (by kernel_rfl) (fun _ _ _ h => h) (Or.inl ⟨by rfl, ?_⟩) (by assumption) ?_
                rotate_left
                · (intro w hSw; (try dsimp only at hSw); have z := S2 w; go_simp <;> with_reducible rfl)
                try simp only [Act.put, List.setIfInBounds_toArray, List.set_cons_zero, List.set_cons_succ]
                refine wpAnyN_ready (rs := [1, 10]) (by kernel_rfl) (by simp) ?_
                refine consN_lit rfl (fun K hK => ?_) ?_
                · skip
                  refine sBsG (T := 29) (U := 67) [] [] (by rfl) rfl (fun w => bsN0 w) ?_
                  intro W1 r1 b1
                  have hB1 := hHeld.size
                  try (replace r14 := r14.below b1 r14.lt)
                  refine hK.out _ _ (Or.inr ?_) (fun hHeld => ?_)
                  · exact bt hHeld b1
                  replace hHeld := hHeld.resolve_left (by decide)
                  clear hK K
                  try simp only [Act.put, List.setIfInBounds_toArray, List.set_cons_zero, List.set_cons_succ]
                  refine wpAnyN_ready (rs := [8, 10]) (by kernel_rfl) (by simp) ?_
                  refine consN_lit rfl (fun K hK => ?_) ?_
                  · skip
                    obtain ⟨v8, W8, run8, o8, g8, e8⟩ := A1 _ hHeld 29 _ [] (own_zero r1 hB1) (by simp)
                    obtain ⟨a8, c8, rfl, _⟩ := Kd.own_at o8
                    refine sApp (.tmp 106) (.tmp 112) (by rfl) rfl rfl rfl run8 ?_
                    try (replace r14 := r14.keepO g8 (fun e => row_apart r1 r14 (by simpa [Value.ownBlock] using e)))
                    refine hK.out _ _ (Or.inr ?_) (fun hHeld => ?_)
                    · exact below_keepO hHeld g8 (fun g hg => own_ne_lt (own_zero r1 hB1) hg) hHeld.size
                    replace hHeld := hHeld.resolve_left (by decide)
                    clear hK K
                    try simp only [Act.put, List.setIfInBounds_toArray, List.set_cons_zero, List.set_cons_succ]
                    refine wpAnyN_ready (rs := [10]) (by kernel_rfl) (by simp) ?_
                    refine consN_lit rfl (fun K hK => ?_) ?_
                    · skip
                      refine sBsG (T := 29) (U := 67) [(0, .tmp 114)] (scs n) (by rfl) rfl (fun w => bsN1 _ w) ?_
                      intro W14 r14 b14
                      try (replace r1 := r1.below b14 r1.lt)
                      try (replace o8 := own_below o8 b14)
                      refine hK.out _ _ (Or.inr ?_) (fun hHeld => ?_)
                      · exact bt hHeld b14
                      replace hHeld := hHeld.resolve_left (by decide)
                      clear hK K
                      try simp only [Act.put, List.setIfInBounds_toArray, List.set_cons_zero, List.set_cons_succ]
                      refine wpAnyN_ready (rs := [11]) (by kernel_rfl) (by simp) ?_
                      refine consN_lit rfl (fun K hK => ?_) ?_
                      · skip
                        obtain ⟨v15, W15, run15, o15, g15, e15⟩ := app_one 29 o8 r14 (by simp <;> omega) hHeld.size
                        obtain ⟨a15, c15, rfl, _⟩ := Kd.own_at o15
                        refine sApp (.tmp 113) (.tmp 115) (by rfl) rfl rfl rfl run15 ?_
                        refine hK.out _ _ (Or.inr ?_) (fun hHeld => ?_)
                        · exact below_keepO hHeld g15 (fun g hg => own_ne_lt o8 hg) hHeld.size
                        replace hHeld := hHeld.resolve_left (by decide)
                        clear hK K
                        try simp only [Act.put, List.setIfInBounds_toArray, List.set_cons_zero, List.set_cons_succ]
                        refine wpAnyN_ready (rs := [18]) (by kernel_rfl) (by simp) ?_
                        refine consN_lit rfl (fun K hK => ?_) ?_
                        · skip
                          obtain ⟨v22, W22, run22, o22, g22, e22⟩ := A2 _ hHeld 29 _ _ o15 (by simp <;> omega)
                          obtain ⟨a22, c22, rfl, _⟩ := Kd.own_at o22
                          refine sApp (.tmp 116) (.tmp 122) (by rfl) rfl rfl rfl run22 ?_
                          refine hK.out _ _ (Or.inr ?_) (fun hHeld => ?_)
                          · exact below_keepO hHeld g22 (fun g hg => own_ne_lt o15 hg) hHeld.size
                          replace hHeld := hHeld.resolve_left (by decide)
                          clear hK K
                          try simp only [Act.put, List.setIfInBounds_toArray, List.set_cons_zero, List.set_cons_succ]
                          refine takeN_lit (i := 19) (v := ?_) (F := #[true, true, true, true, true, true, true, true, true, true, true, true, true, true, true, true, true, true, true, false, false, false]) rfl (by kernel_rfl) (by kernel_rfl) (by kernel_rfl) (by kernel_rfl) (fun _ _ _ h => h) (Or.inl ⟨by rfl, ?_⟩) (by assumption) ?_
                          rotate_left
                          · (intro w hSw; (try dsimp only at hSw); go_simp <;> with_reducible rfl)
                          try simp only [Act.put, List.setIfInBounds_toArray, List.set_cons_zero, List.set_cons_succ]
                          refine takeN_lit (i := 20) (v := ?_) (F := #[true, true, true, true, true, true, true, true, true, true, true, true, true, true, true, true, true, true, true, true, false, false]) rfl (by kernel_rfl) (by kernel_rfl) (by kernel_rfl) (by kernel_rfl) (fun _ _ _ h => h) (Or.inl ⟨by rfl, ?_⟩) (by assumption) ?_
                          rotate_left
                          · (intro w hSw; (try dsimp only at hSw); go_simp <;> with_reducible rfl)
                          try simp only [Act.put, List.setIfInBounds_toArray, List.set_cons_zero, List.set_cons_succ]
                          refine wpAnyN_ready (rs := [21]) (by kernel_rfl) (by simp) ?_
                          refine consN_lit rfl (fun K hK => ?_) ?_
                          · skip
                            refine sStSl (.tmp 125) (.tmp 123) (by rfl) rfl r 1 _ _ _ _ rfl rfl (hrow.below hHeld hrV) (by simp) ?_
                            intro W25 g25 r25
                            refine hK.out _ _ (Or.inl rfl) (fun _ => ?_)
                            clear hK K
                            try simp only [Act.put, List.setIfInBounds_toArray, List.set_cons_zero, List.set_cons_succ]
                            refine wpAnyN_done (by kernel_rfl) ?_ _
                            refine NoPanic.normal ?_
                            have HEnd : Hid (Rb W25 B r most (K.take ((j + 1)) ++ n :: K.drop ((j + 1))) ∧ RTurn w W25 B r) := by
                              have e : ([] ++ K.take ((j + 1)) ++ [n] ++ K.drop ((j + 1)) : List Sr) = K.take ((j + 1)) ++ n :: K.drop ((j + 1)) := by simp
                              rw [e] at o22 r25
                              exact ⟨HFin.out V W25 ((j + 1)) HIn.out hVb _ _ o22 hHeld g25 r25, RTurn.pre (bt hVb hHeld) (RTurn.self g25)⟩
                            clear hHeld o22 r25 g25 o15 o8 r1 r14 hrow hX A1 A2 S1 S2
                            go_wp2_with fail
                            go_ret2
                            first | exact ⟨true, 0, _, rfl, .inr (.inr (.inr ⟨HG.out, HLen.out, rfl, rfl, (j + 1), HIn.out, rfl⟩)), HEnd.out.1, HEnd.out.2⟩ | exact .inr ⟨0, rfl, _, .inr (.inr (.inr ⟨HG.out, HLen.out, rfl, rfl, (j + 1), HIn.out, rfl⟩)), HEnd.out.1, HEnd.out.2⟩ | exact .inl ⟨0, rfl, _, .inr (.inr (.inr ⟨HG.out, HLen.out, rfl, rfl, (j + 1), HIn.out, rfl⟩)), HEnd.out.1, HEnd.out.2⟩ | exact ⟨0, rfl, _, .inr (.inr (.inr ⟨HG.out, HLen.out, rfl, rfl, (j + 1), HIn.out, rfl⟩)), HEnd.out.1, HEnd.out.2⟩
                          exact AllReadyN.nil
                        exact AllReadyN.nil
                      exact AllReadyN.nil
                    exact AllReadyN.nil
                  refine consN_lit rfl (fun K hK => ?_) ?_
                  · skip
                    refine sBsG (T := 29) (U := 67) [(0, .tmp 114)] (scs n) (by rfl) rfl (fun w => bsN1 _ w) ?_
                    intro W14 r14 b14
                    try (replace r1 := r1.below b14 r1.lt)
                    try (replace o8 := own_below o8 b14)
                    refine hK.out _ _ (Or.inr ?_) (fun hHeld => ?_)
                    · exact bt hHeld b14
                    replace hHeld := hHeld.resolve_left (by decide)
                    clear hK K
                    try simp only [Act.put, List.setIfInBounds_toArray, List.set_cons_zero, List.set_cons_succ]
                    refine wpAnyN_ready (rs := [8]) (by kernel_rfl) (by simp) ?_
                    refine consN_lit rfl (fun K hK => ?_) ?_
                    · skip
                      obtain ⟨v8, W8, run8, o8, g8, e8⟩ := A1 _ hHeld 29 _ [] (own_zero r1 hB1) (by simp)
                      obtain ⟨a8, c8, rfl, _⟩ := Kd.own_at o8
                      refine sApp (.tmp 106) (.tmp 112) (by rfl) rfl rfl rfl run8 ?_
                      try (replace r14 := r14.keepO g8 (fun e => row_apart r1 r14 (by simpa [Value.ownBlock] using e)))
                      refine hK.out _ _ (Or.inr ?_) (fun hHeld => ?_)
                      · exact below_keepO hHeld g8 (fun g hg => own_ne_lt (own_zero r1 hB1) hg) hHeld.size
                      replace hHeld := hHeld.resolve_left (by decide)
                      clear hK K
                      try simp only [Act.put, List.setIfInBounds_toArray, List.set_cons_zero, List.set_cons_succ]
                      refine wpAnyN_ready (rs := [11]) (by kernel_rfl) (by simp) ?_
                      refine consN_lit rfl (fun K hK => ?_) ?_
                      · skip
                        obtain ⟨v15, W15, run15, o15, g15, e15⟩ := app_one 29 o8 r14 (by simp <;> omega) hHeld.size
                        obtain ⟨a15, c15, rfl, _⟩ := Kd.own_at o15
                        refine sApp (.tmp 113) (.tmp 115) (by rfl) rfl rfl rfl run15 ?_
                        refine hK.out _ _ (Or.inr ?_) (fun hHeld => ?_)
                        · exact below_keepO hHeld g15 (fun g hg => own_ne_lt o8 hg) hHeld.size
                        replace hHeld := hHeld.resolve_left (by decide)
                        clear hK K
                        try simp only [Act.put, List.setIfInBounds_toArray, List.set_cons_zero, List.set_cons_succ]
                        refine wpAnyN_ready (rs := [18]) (by kernel_rfl) (by simp) ?_
                        refine consN_lit rfl (fun K hK => ?_) ?_
                        · skip
                          obtain ⟨v22, W22, run22, o22, g22, e22⟩ := A2 _ hHeld 29 _ _ o15 (by simp <;> omega)
                          obtain ⟨a22, c22, rfl, _⟩ := Kd.own_at o22
                          refine sApp (.tmp 116) (.tmp 122) (by rfl) rfl rfl rfl run22 ?_
                          refine hK.out _ _ (Or.inr ?_) (fun hHeld => ?_)
                          · exact below_keepO hHeld g22 (fun g hg => own_ne_lt o15 hg) hHeld.size
                          replace hHeld := hHeld.resolve_left (by decide)
                          clear hK K
                          try simp only [Act.put, List.setIfInBounds_toArray, List.set_cons_zero, List.set_cons_succ]
                          refine takeN_lit (i := 19) (v := ?_) (F := #[true, true, true, true, true, true, true, true, true, true, true, true, true, true, true, true, true, true, true, false, false, false]) rfl (by kernel_rfl) (by kernel_rfl) (by kernel_rfl) (by kernel_rfl) (fun _ _ _ h => h) (Or.inl ⟨by rfl, ?_⟩) (by assumption) ?_
                          rotate_left
                          · (intro w hSw; (try dsimp only at hSw); go_simp <;> with_reducible rfl)
                          try simp only [Act.put, List.setIfInBounds_toArray, List.set_cons_zero, List.set_cons_succ]
                          refine takeN_lit (i := 20) (v := ?_) (F := #[true, true, true, true, true, true, true, true, true, true, true, true, true, true, true, true, true, true, true, true, false, false]) rfl (by kernel_rfl) (by kernel_rfl) (by kernel_rfl) (by kernel_rfl) (fun _ _ _ h => h) (Or.inl ⟨by rfl, ?_⟩) (by assumption) ?_
                          rotate_left
                          · (intro w hSw; (try dsimp only at hSw); go_simp <;> with_reducible rfl)
                          try simp only [Act.put, List.setIfInBounds_toArray, List.set_cons_zero, List.set_cons_succ]
                          refine wpAnyN_ready (rs := [21]) (by kernel_rfl) (by simp) ?_
                          refine consN_lit rfl (fun K hK => ?_) ?_
                          · skip
                            refine sStSl (.tmp 125) (.tmp 123) (by rfl) rfl r 1 _ _ _ _ rfl rfl (hrow.below hHeld hrV) (by simp) ?_
                            intro W25 g25 r25
                            refine hK.out _ _ (Or.inl rfl) (fun _ => ?_)
                            clear hK K
                            try simp only [Act.put, List.setIfInBounds_toArray, List.set_cons_zero, List.set_cons_succ]
                            refine wpAnyN_done (by kernel_rfl) ?_ _
                            refine NoPanic.normal ?_
                            have HEnd : Hid (Rb W25 B r most (K.take ((j + 1)) ++ n :: K.drop ((j + 1))) ∧ RTurn w W25 B r) := by
                              have e : ([] ++ K.take ((j + 1)) ++ [n] ++ K.drop ((j + 1)) : List Sr) = K.take ((j + 1)) ++ n :: K.drop ((j + 1)) := by simp
                              rw [e] at o22 r25
                              exact ⟨HFin.out V W25 ((j + 1)) HIn.out hVb _ _ o22 hHeld g25 r25, RTurn.pre (bt hVb hHeld) (RTurn.self g25)⟩
                            clear hHeld o22 r25 g25 o15 o8 r1 r14 hrow hX A1 A2 S1 S2
                            go_wp2_with fail
                            go_ret2
                            first | exact ⟨true, 0, _, rfl, .inr (.inr (.inr ⟨HG.out, HLen.out, rfl, rfl, (j + 1), HIn.out, rfl⟩)), HEnd.out.1, HEnd.out.2⟩ | exact .inr ⟨0, rfl, _, .inr (.inr (.inr ⟨HG.out, HLen.out, rfl, rfl, (j + 1), HIn.out, rfl⟩)), HEnd.out.1, HEnd.out.2⟩ | exact .inl ⟨0, rfl, _, .inr (.inr (.inr ⟨HG.out, HLen.out, rfl, rfl, (j + 1), HIn.out, rfl⟩)), HEnd.out.1, HEnd.out.2⟩ | exact ⟨0, rfl, _, .inr (.inr (.inr ⟨HG.out, HLen.out, rfl, rfl, (j + 1), HIn.out, rfl⟩)), HEnd.out.1, HEnd.out.2⟩
                          exact AllReadyN.nil
                        exact AllReadyN.nil
                      exact AllReadyN.nil
                    exact AllReadyN.nil
                  exact AllReadyN.nil
                refine consN_lit rfl (fun K hK => ?_) ?_
                · skip
                  refine sBsG (T := 29) (U := 67) [(0, .tmp 114)] (scs n) (by rfl) rfl (fun w => bsN1 _ w) ?_
                  intro W14 r14 b14
                  try (replace r1 := r1.below b14 r1.lt)
                  try (replace o8 := own_below o8 b14)
                  refine hK.out _ _ (Or.inr ?_) (fun hHeld => ?_)
                  · exact bt hHeld b14
                  replace hHeld := hHeld.resolve_left (by decide)
                  clear hK K
                  try simp only [Act.put, List.setIfInBounds_toArray, List.set_cons_zero, List.set_cons_succ]
                  refine wpAnyN_ready (rs := [1]) (by kernel_rfl) (by simp) ?_
                  refine consN_lit rfl (fun K hK => ?_) ?_
                  · skip
                    refine sBsG (T := 29) (U := 67) [] [] (by rfl) rfl (fun w => bsN0 w) ?_
                    intro W1 r1 b1
                    have hB1 := hHeld.size
                    try (replace r14 := r14.below b1 r14.lt)
                    refine hK.out _ _ (Or.inr ?_) (fun hHeld => ?_)
                    · exact bt hHeld b1
                    replace hHeld := hHeld.resolve_left (by decide)
                    clear hK K
                    try simp only [Act.put, List.setIfInBounds_toArray, List.set_cons_zero, List.set_cons_succ]
                    refine wpAnyN_ready (rs := [8]) (by kernel_rfl) (by simp) ?_
                    refine consN_lit rfl (fun K hK => ?_) ?_
                    · skip
                      obtain ⟨v8, W8, run8, o8, g8, e8⟩ := A1 _ hHeld 29 _ [] (own_zero r1 hB1) (by simp)
                      obtain ⟨a8, c8, rfl, _⟩ := Kd.own_at o8
                      refine sApp (.tmp 106) (.tmp 112) (by rfl) rfl rfl rfl run8 ?_
                      try (replace r14 := r14.keepO g8 (fun e => row_apart r1 r14 (by simpa [Value.ownBlock] using e)))
                      refine hK.out _ _ (Or.inr ?_) (fun hHeld => ?_)
                      · exact below_keepO hHeld g8 (fun g hg => own_ne_lt (own_zero r1 hB1) hg) hHeld.size
                      replace hHeld := hHeld.resolve_left (by decide)
                      clear hK K
                      try simp only [Act.put, List.setIfInBounds_toArray, List.set_cons_zero, List.set_cons_succ]
                      refine wpAnyN_ready (rs := [11]) (by kernel_rfl) (by simp) ?_
                      refine consN_lit rfl (fun K hK => ?_) ?_
                      · skip
                        obtain ⟨v15, W15, run15, o15, g15, e15⟩ := app_one 29 o8 r14 (by simp <;> omega) hHeld.size
                        obtain ⟨a15, c15, rfl, _⟩ := Kd.own_at o15
                        refine sApp (.tmp 113) (.tmp 115) (by rfl) rfl rfl rfl run15 ?_
                        refine hK.out _ _ (Or.inr ?_) (fun hHeld => ?_)
                        · exact below_keepO hHeld g15 (fun g hg => own_ne_lt o8 hg) hHeld.size
                        replace hHeld := hHeld.resolve_left (by decide)
                        clear hK K
                        try simp only [Act.put, List.setIfInBounds_toArray, List.set_cons_zero, List.set_cons_succ]
                        refine wpAnyN_ready (rs := [18]) (by kernel_rfl) (by simp) ?_
                        refine consN_lit rfl (fun K hK => ?_) ?_
                        · skip
                          obtain ⟨v22, W22, run22, o22, g22, e22⟩ := A2 _ hHeld 29 _ _ o15 (by simp <;> omega)
                          obtain ⟨a22, c22, rfl, _⟩ := Kd.own_at o22
                          refine sApp (.tmp 116) (.tmp 122) (by rfl) rfl rfl rfl run22 ?_
                          refine hK.out _ _ (Or.inr ?_) (fun hHeld => ?_)
                          · exact below_keepO hHeld g22 (fun g hg => own_ne_lt o15 hg) hHeld.size
                          replace hHeld := hHeld.resolve_left (by decide)
                          clear hK K
                          try simp only [Act.put, List.setIfInBounds_toArray, List.set_cons_zero, List.set_cons_succ]
                          refine takeN_lit (i := 19) (v := ?_) (F := #[true, true, true, true, true, true, true, true, true, true, true, true, true, true, true, true, true, true, true, false, false, false]) rfl (by kernel_rfl) (by kernel_rfl) (by kernel_rfl) (by kernel_rfl) (fun _ _ _ h => h) (Or.inl ⟨by rfl, ?_⟩) (by assumption) ?_
                          rotate_left
                          · (intro w hSw; (try dsimp only at hSw); go_simp <;> with_reducible rfl)
                          try simp only [Act.put, List.setIfInBounds_toArray, List.set_cons_zero, List.set_cons_succ]
                          refine takeN_lit (i := 20) (v := ?_) (F := #[true, true, true, true, true, true, true, true, true, true, true, true, true, true, true, true, true, true, true, true, false, false]) rfl (by kernel_rfl) (by kernel_rfl) (by kernel_rfl) (by kernel_rfl) (fun _ _ _ h => h) (Or.inl ⟨by rfl, ?_⟩) (by assumption) ?_
                          rotate_left
                          · (intro w hSw; (try dsimp only at hSw); go_simp <;> with_reducible rfl)
                          try simp only [Act.put, List.setIfInBounds_toArray, List.set_cons_zero, List.set_cons_succ]
                          refine wpAnyN_ready (rs := [21]) (by kernel_rfl) (by simp) ?_
                          refine consN_lit rfl (fun K hK => ?_) ?_
                          · skip
                            refine sStSl (.tmp 125) (.tmp 123) (by rfl) rfl r 1 _ _ _ _ rfl rfl (hrow.below hHeld hrV) (by simp) ?_
                            intro W25 g25 r25
                            refine hK.out _ _ (Or.inl rfl) (fun _ => ?_)
                            clear hK K
                            try simp only [Act.put, List.setIfInBounds_toArray, List.set_cons_zero, List.set_cons_succ]
                            refine wpAnyN_done (by kernel_rfl) ?_ _
                            refine NoPanic.normal ?_
                            have HEnd : Hid (Rb W25 B r most (K.take ((j + 1)) ++ n :: K.drop ((j + 1))) ∧ RTurn w W25 B r) := by
                              have e : ([] ++ K.take ((j + 1)) ++ [n] ++ K.drop ((j + 1)) : List Sr) = K.take ((j + 1)) ++ n :: K.drop ((j + 1)) := by simp
                              rw [e] at o22 r25
                              exact ⟨HFin.out V W25 ((j + 1)) HIn.out hVb _ _ o22 hHeld g25 r25, RTurn.pre (bt hVb hHeld) (RTurn.self g25)⟩
                            clear hHeld o22 r25 g25 o15 o8 r1 r14 hrow hX A1 A2 S1 S2
                            go_wp2_with fail
                            go_ret2
                            first | exact ⟨true, 0, _, rfl, .inr (.inr (.inr ⟨HG.out, HLen.out, rfl, rfl, (j + 1), HIn.out, rfl⟩)), HEnd.out.1, HEnd.out.2⟩ | exact .inr ⟨0, rfl, _, .inr (.inr (.inr ⟨HG.out, HLen.out, rfl, rfl, (j + 1), HIn.out, rfl⟩)), HEnd.out.1, HEnd.out.2⟩ | exact .inl ⟨0, rfl, _, .inr (.inr (.inr ⟨HG.out, HLen.out, rfl, rfl, (j + 1), HIn.out, rfl⟩)), HEnd.out.1, HEnd.out.2⟩ | exact ⟨0, rfl, _, .inr (.inr (.inr ⟨HG.out, HLen.out, rfl, rfl, (j + 1), HIn.out, rfl⟩)), HEnd.out.1, HEnd.out.2⟩
                          exact AllReadyN.nil
                        exact AllReadyN.nil
                      exact AllReadyN.nil
                    exact AllReadyN.nil
                  exact AllReadyN.nil
                exact AllReadyN.nil
              exact AllReadyH.nil
  · rw [e1] at hFi
    have HG : Hid (K[k]? = some m ∧ getN K p i = some m) := ⟨e2, e3⟩
    have hkl : k < K.length := (List.getElem?_eq_some_iff.1 e2).1
    have hki : (k : Int) < (K.length : Int) := by omega
    have hk0 : (0 : Int) ≤ (k : Int) := by omega
    have ok := HH.out.ok m (List.mem_of_getElem? e2)
    have HS : Hid (∀ W, Below w.heap.size w W → ∃ g A Z c, Row W r 31 [.int .i64 most, .slice (some ⟨g, 0, none⟩) K.length c] ∧ Row W g 67 (A ++ (scs m ++ Z)) ∧ A.length = k * 45 ∧ B ≤ g ∧ g ≠ r ∧ ∀ w', W.grownBy w' (some g) → Row w' g 67 (A ++ (scs n ++ Z)) → Rb w' B r most (K.set k n)) := fun W hW => Rb.set2 (HH.out.below hW) e2 HNok.out
    have hLe := fun W => Sn.rless_any m.s s W ok.s0 ok.s1 HSb.out.1 HSb.out.2
    clear e1 e2 e3 hkl ok hSl L2
    go_upto_region 4 with (first
      | (go_at_call 31; refine hFi.mono ?_; rintro e w1 ⟨rfl, b1⟩)
      | ((with_reducible refine ldI (.tmp 8) ?_ ?_ (w.heap.size + 1) 0 i ?_ ?_ ?_); (focus rfl); (focus rfl); (focus (repeat (first | with_reducible refine ev_ne ?_ rfl | with_reducible refine ev_no ?_ | (with_reducible refine ev_eq (n := 126) ?_ rfl; repeat (first | with_reducible refine sz_put ?_ | with_reducible refine sz_no ?_ | rfl)) | rfl))); (focus exact (HQ0.out _ (Below.refl _ _)).2))
      | ((with_reducible refine ldQ (.tmp 7) ?_ ?_ w.heap.size 0 p ?_ ?_ ?_); (focus rfl); (focus rfl); (focus (repeat (first | with_reducible refine ev_ne ?_ rfl | with_reducible refine ev_no ?_ | (with_reducible refine ev_eq (n := 126) ?_ rfl; repeat (first | with_reducible refine sz_put ?_ | with_reducible refine sz_no ?_ | rfl)) | rfl))); (focus exact (HQ0.out _ (Below.refl _ _)).1)))
    obtain ⟨g, A, Z, cc, hRr, hr, hA, hBg, hne, hfin⟩ := HS.out _ (bt hB b1)
    have hg1 := hr.lt
    have hr1 := hRr.lt
    have c1 := hRr.cell 1
    have cs := (hr.midS hA).s_
    clear HS hFi
    have HLb : Hid (Sn.lessB m.s s = Sn.lessB m.s s) := rfl
    cases hlb : Sn.lessB m.s s with
    | false =>
      rw [hlb] at hLe
      have HL1 : Hid (Sn.lessB m.s s = false) := hlb
      clear hfin hr hlb
      go_wp2_with (go_at_call 28; refine (hLe _).mono ?_; rintro e w2 ⟨rfl, rfl⟩)
      go_ret2
      first | exact ⟨false, 0, K, rfl, .inl ⟨k, m, HG.out.1, HG.out.2, HL1.out, rfl, rfl, rfl⟩, HH.out.below (bt hB b1), RTurn.of (bt hB b1)⟩ | exact .inr ⟨0, rfl, K, .inl ⟨k, m, HG.out.1, HG.out.2, HL1.out, rfl, rfl, rfl⟩, HH.out.below (bt hB b1), RTurn.of (bt hB b1)⟩ | exact .inl ⟨0, rfl, K, .inl ⟨k, m, HG.out.1, HG.out.2, HL1.out, rfl, rfl, rfl⟩, HH.out.below (bt hB b1), RTurn.of (bt hB b1)⟩ | exact ⟨0, rfl, K, .inl ⟨k, m, HG.out.1, HG.out.2, HL1.out, rfl, rfl, rfl⟩, HH.out.below (bt hB b1), RTurn.of (bt hB b1)⟩
    | true =>
      rw [hlb] at hLe
      have HL1 : Hid (Sn.lessB m.s s = true) := hlb
      clear hlb
      go_upto_region 6 with (go_at_call 28; refine (hLe _).mono ?_; rintro e w2 ⟨rfl, rfl⟩)
      have hX := HX0.out _ b1
      have hXl := hX.lt
      refine wp_region_noPanic ?_
      refine wp_region_N (S := fun W => Below w1.heap.size w1 W) 7 (by kernel_rfl) ((Below.refl _ _).drew) (fun hHeld => ?_)
      refine takeN_lit (i := 0) (v := ?_) (F := #[false, false, false, false, true, true, false, false]) rfl (by kernel_rfl) (by kernel_rfl) (by kernel_rfl) (by kernel_rfl) (fun _ _ _ h => h) (Or.inl ⟨by rfl, ?_⟩) (by assumption) ?_
      rotate_left
      · (intro w hSw; (try dsimp only at hSw); go_simp <;> with_reducible rfl)
      try simp only [Act.put, List.setIfInBounds_toArray, List.set_cons_zero, List.set_cons_succ]
      refine takeN_lit (i := 1) (v := ?_) (F := #[true, false, false, false, true, true, false, false]) rfl (by kernel_rfl) (by kernel_rfl) (by kernel_rfl) (by kernel_rfl) (fun _ _ _ h => h) (Or.inl ⟨by rfl, ?_⟩) (by assumption) ?_
      rotate_left
      · (intro w hSw; (try dsimp only at hSw); go_simp <;> with_reducible rfl)
      try simp only [Act.put, List.setIfInBounds_toArray, List.set_cons_zero, List.set_cons_succ]
      refine takeN_lit (i := 2) (v := ?_) (F := #[true, true, false, false, true, true, false, false]) rfl (by kernel_rfl) (by kernel_rfl) (by kernel_rfl) (by kernel_rfl) (fun _ _ _ h => h) (Or.inl ⟨by rfl, ?_⟩) (by assumption) ?_
      rotate_left
      · (intro w hSw; (try dsimp only at hSw); go_simp <;> with_reducible rfl)
      try simp only [Act.put, List.setIfInBounds_toArray, List.set_cons_zero, List.set_cons_succ]
      refine takeN_lit (i := 3) (v := ?_) (F := #[true, true, true, false, true, true, false, false]) rfl (by kernel_rfl) (by kernel_rfl) (by kernel_rfl) (by kernel_rfl) (fun _ _ _ h => h) (Or.inl ⟨by rfl, ?_⟩) (by assumption) ?_
      rotate_left
      · (intro w hSw; (try dsimp only at hSw); have z := (hRr.below hSw hr1).cell 1; go_simp <;> with_reducible rfl)
      try simp only [Act.put, List.setIfInBounds_toArray, List.set_cons_zero, List.set_cons_succ]
      refine takeN_lit (i := 4) (v := ?_) (F := #[true, true, true, true, false, true, false, false]) rfl (by kernel_rfl) (by kernel_rfl) (by kernel_rfl) (by kernel_rfl) (fun _ _ _ h => h) (Or.inl ⟨by rfl, ?_⟩) (by assumption) ?_
      rotate_left
      · (intro w hSw; (try dsimp only at hSw); go_simp <;> with_reducible rfl)
      try simp only [Act.put, List.setIfInBounds_toArray, List.set_cons_zero, List.set_cons_succ]
      refine takeN_lit (i := 5) (F := #[true, true, true, true, true, false, false, false]) rfl (by kernel_rfl) (by kernel_rfl) (by kernel_rfl) (by kernel_rfl) (fun _ _ _ h => h) (yS n (fun w h => (hX.below h hXl).sr) (by rfl) rfl rfl) (by assumption) ?_
      try simp only [Act.put, List.setIfInBounds_toArray, List.set_cons_zero, List.set_cons_succ]
      refine takeN_lit (i := 6) (v := ?_) (F := #[true, true, true, true, true, true, false, false]) rfl (by kernel_rfl) (by kernel_rfl) (by kernel_rfl) (by kernel_rfl) (fun _ _ _ h => h) (Or.inl ⟨by rfl, ?_⟩) (by assumption) ?_
      rotate_left
      · (intro w hSw; (try dsimp only at hSw); go_simp <;> with_reducible rfl)
      try simp only [Act.put, List.setIfInBounds_toArray, List.set_cons_zero, List.set_cons_succ]
      refine wpAnyN_ready (rs := [7]) (by kernel_rfl) (by simp) ?_
      refine consN_lit rfl (fun K hK => ?_) ?_
      · skip
        have hrr := hr.below hHeld hg1
        refine sStSm (.tmp 44) (.tmp 43) (by rfl) rfl g (k * 45) n rfl rfl (hrr.thereMid (by simp [scs_len, hA] <;> omega)) ?_
        refine hK.out _ _ (Or.inl rfl) (fun _ => ?_)
        clear hK K
        try simp only [Act.put, List.setIfInBounds_toArray, List.set_cons_zero, List.set_cons_succ]
        refine wpAnyN_done (by kernel_rfl) ?_ _
        refine NoPanic.normal ?_
        have hr2 := Row.setMid (scs n) A (scs m) Z _ hrr (by rw [scs_len, scs_len])
        rw [hA] at hr2
        have hg2 := grown_pre hHeld (grownBy_setCells g (scs n) (k * 45) _)
        have HEnd : Hid (Rb _ B r most (K.set k n) ∧ RTurn w _ B r) := ⟨hfin _ hg2 hr2, RTurn.pre (bt hB b1) (RTurn.src hg2 hr hBg)⟩
        clear hfin hr2 hg2 hr hRr hX
        go_wp2_with fail
        go_ret2
        first | exact ⟨true, 0, _, rfl, .inr (.inl ⟨k, m, HG.out.1, HG.out.2, HL1.out, rfl, rfl, rfl⟩), HEnd.out.1, HEnd.out.2⟩ | exact .inr ⟨0, rfl, _, .inr (.inl ⟨k, m, HG.out.1, HG.out.2, HL1.out, rfl, rfl, rfl⟩), HEnd.out.1, HEnd.out.2⟩ | exact .inl ⟨0, rfl, _, .inr (.inl ⟨k, m, HG.out.1, HG.out.2, HL1.out, rfl, rfl, rfl⟩), HEnd.out.1, HEnd.out.2⟩ | exact ⟨0, rfl, _, .inr (.inl ⟨k, m, HG.out.1, HG.out.2, HL1.out, rfl, rfl, rfl⟩), HEnd.out.1, HEnd.out.2⟩
      exact AllReadyN.nil
end Go.Proofs.Ytbjclphgabpgoaa
