/-
  The document's Tell.
-/
import Derived.Test.YthofoocknmkdjaaM18
namespace Go.Proofs.Ythofoocknmkdjaa
open Go.RowKit Go.Maps Go.Shelf
set_option linter.unusedSimpArgs false
set_option linter.unusedVariables false
set_option maxRecDepth 20000
theorem bdMade (p : Pr) (i : Int) (a : Ad) (id : Id8) (q r : Int) (h : Ad) (u d : Int) (w : World) : (Instr.build 41 #[(0, (Value.agg (qcells p).toArray)), (1, .int .i64 i), (2, (Value.agg (acells a).toArray)), (3, idV id), (4, .int .u16 q), (5, .int .u16 r), (6, .int .u16 65535), (7, (Value.agg (acells h).toArray)), (8, .int .i64 u), (9, .int .i64 d)]).run Try.prog w = .ok (rV ⟨p, i, a, id, q, r, 65535, h, u, d, false⟩) w := by
  induction p using Pr.lits with | h =>
  induction a using Ad.lits with | h =>
  induction id using Id8.lits with | h =>
  induction h using Ad.lits with | h =>
  show _ = _
  kernel_rfl
set_option maxHeartbeats 64000000 in
theorem rtell_any {w : World} {B r : Nat} {most : Int} {K : List Ro} (h : Rb w B r most K) (now : Int) (n mn : Ro) (f : Bool) (hmn : mn = madeN n now) (hBw : B ≤ w.heap.size) (t0 : 0 ≤ now) (t1 : now ≤ 17592186044416) (hf : n.fit) (hl : K.length < 1000000) :
    Calls Try.prog 35 #[.pointer (some ⟨r, 0, none⟩), .int .i64 now, rV n, .bool f] w fun e w' => ∃ z e' K', e = .returned (.tuple #[.int .i64 z, .int .i64 e']) ∧ RtP most K now n f z e' K' ∧ Rb w' B r most K' ∧ RTurn w w' B r := by
  have hrl := h.lt
  have HH : Hid (Rb w B r most K) := h
  have hB0 : Below w.heap.size w (w.alloc (.cells (ocs n).toArray 41)) := ba _ _
  have r0 := Row.new w 41 (ocs n)
  have hll := h.ll
  obtain ⟨ad, c, hrow0, L2, hSl⟩ := h.parts
  have HRow : Hid (∀ W, Below w.heap.size w W → Row W r 30 [.int .i64 most, .slice ad K.length c]) := fun W hW => hrow0.below hW hrl
  have HT01 : Hid (0 ≤ now ∧ now ≤ 17592186044416) := ⟨t0, t1⟩
  have hFi0 : ∀ W, Below w.heap.size w W → Calls Try.prog 16 #[.pointer (some ⟨r, 0, none⟩), (Value.agg (qcells n.p).toArray), .int .i64 n.i, (Value.agg (acells n.a).toArray)] W (Gives W (.int .i64 (fndI K n.k))) := fun W hW => rfind_any (HH.out.below hW) n.k
  clear h hrow0 t0 t1
  go_enter Try.func35, Try.ntmps35
  go_upto_region 1 with fail
  refine name_world (R := fun W => Code.wp _ _ _ _ W) (P := fun W => Below w.heap.size w W ∧ Row W w.heap.size 41 (ocs n)) _ ⟨hB0, r0⟩ ?_
  clear hB0 r0
  rintro X ⟨hB, rX⟩
  have hFi := hFi0 X hB
  have c79 := (rX.cell 79).trans (oc79 n)
  have c34 := (rX.cell 34).trans (oc34 n)
  have HX : Hid (∀ W, Below X.heap.size X W → Row W w.heap.size 41 (ocs n)) := fun W hW => rX.below hW rX.lt
  clear hFi0
  by_cases hd : n.d < 1
  · have HB1 : Hid (n.d < 1) := hd
    clear L2 hSl
    go_wp2_with fail
    go_ret2
    first | exact ⟨0, 2, K, rfl, .inl ⟨.inl HB1.out, rfl, rfl, rfl⟩, HH.out.below hB, RTurn.of hB⟩ | exact ⟨0, 2, rfl, K, .inl ⟨.inl HB1.out, rfl, rfl, rfl⟩, HH.out.below hB, RTurn.of hB⟩
  by_cases hd2 : 2147483648 < n.d
  · have HB1 : Hid (2147483648 < n.d) := hd2
    clear L2 hSl
    go_wp2_with fail
    go_ret2
    first | exact ⟨0, 2, K, rfl, .inl ⟨.inr HB1.out, rfl, rfl, rfl⟩, HH.out.below hB, RTurn.of hB⟩ | exact ⟨0, 2, rfl, K, .inl ⟨.inr HB1.out, rfl, rfl, rfl⟩, HH.out.below hB, RTurn.of hB⟩
  have HGd : Hid (¬ (n.d < 1 ∨ 2147483648 < n.d)) := fun e => e.elim hd hd2
  have HDb : Hid (1 ≤ n.d ∧ n.d ≤ 2147483648) := by show _ ∧ _; omega
  rcases fnd_some (K := K) (k := n.k) with ⟨e1, e2⟩ | ⟨k, old, e1, e2, e3⟩
  · rw [e1] at hFi
    have HG : Hid (getN K n.k = none) := e2
    clear e1 e2
    go_upto_region 4 with (first
      | (go_at_call 16; refine hFi.mono ?_; rintro e w1 ⟨rfl, b1⟩)
      | ((with_reducible refine ldA (.tmp 26) ?_ ?_ w.heap.size 35 n.a ?_ ?_ ?_); (focus rfl); (focus rfl); (focus (repeat (first | with_reducible refine ev_ne ?_ rfl | with_reducible refine ev_no ?_ | (with_reducible refine ev_eq (n := 173) ?_ rfl; repeat (first | with_reducible refine sz_put ?_ | with_reducible refine sz_no ?_ | rfl)) | rfl))); (focus exact LS.a rX.ro))
      | ((with_reducible refine ldQ (.tmp 22) ?_ ?_ w.heap.size 0 n.p ?_ ?_ ?_); (focus rfl); (focus rfl); (focus (repeat (first | with_reducible refine ev_ne ?_ rfl | with_reducible refine ev_no ?_ | (with_reducible refine ev_eq (n := 173) ?_ rfl; repeat (first | with_reducible refine sz_put ?_ | with_reducible refine sz_no ?_ | rfl)) | rfl))); (focus exact LS.q rX.ro)))
    have c60 := ((HX.out _ b1).cell 60).trans (oc60 n)
    clear hd hd2 c79 c34 hFi
    by_cases hr1 : n.r = 65535
    · have hr1' : (n.r == 65535) = true := by simpa using hr1
      have HNr : Hid (n.r = 65535) := hr1
      clear hr1 hSl L2
      go_wp2_with fail
      go_ret2
      first | exact ⟨3, 0, K, rfl, .inr (.inl ⟨HGd.out, HG.out, .inl HNr.out, rfl, rfl, rfl⟩), HH.out.below (bt hB b1), RTurn.of (bt hB b1)⟩ | exact ⟨3, 0, rfl, K, .inr (.inl ⟨HGd.out, HG.out, .inl HNr.out, rfl, rfl, rfl⟩), HH.out.below (bt hB b1), RTurn.of (bt hB b1)⟩
    have hr1' : (n.r == 65535) = false := by simpa using hr1
    cases f with
    | false =>
      clear hr1 hSl L2
      go_wp2_with fail
      go_ret2
      first | exact ⟨3, 0, K, rfl, .inr (.inl ⟨HGd.out, HG.out, .inr rfl, rfl, rfl, rfl⟩), HH.out.below (bt hB b1), RTurn.of (bt hB b1)⟩ | exact ⟨3, 0, rfl, K, .inr (.inl ⟨HGd.out, HG.out, .inr rfl, rfl, rfl, rfl⟩), HH.out.below (bt hB b1), RTurn.of (bt hB b1)⟩
    | true =>
      have HNr : Hid (¬ (n.r = 65535 ∨ true = false)) := fun e => e.elim hr1 (fun e => by cases e)
      clear hr1
      go_upto_region 7 with fail
      have hRw := HRow.out _ (bt hB b1)
      have hrw1 := hRw.lt
      refine wp_region_noPanic ?_
      refine wp_region_held_drew (S := fun W => Below w1.heap.size w1 W) (by kernel_rfl) ((Below.refl _ _).drew) (fun hHeld => ?_)
      refine take_lit (i := 0) (v := ?_) rfl (by kernel_rfl) (by kernel_rfl) (by kernel_rfl) (fun _ _ _ h => h) (Or.inl ⟨by rfl, ?_⟩) (by assumption) ?_
      rotate_left
      · (intro w hSw; (try dsimp only at hSw); go_simp <;> with_reducible rfl)
      try simp only [Act.put, List.setIfInBounds_toArray, List.set_cons_zero, List.set_cons_succ]
      refine take_lit (i := 1) (v := ?_) rfl (by kernel_rfl) (by kernel_rfl) (by kernel_rfl) (fun _ _ _ h => h) (Or.inl ⟨by rfl, ?_⟩) (by assumption) ?_
      rotate_left
      · (intro w hSw; (try dsimp only at hSw); go_simp <;> with_reducible rfl)
      try simp only [Act.put, List.setIfInBounds_toArray, List.set_cons_zero, List.set_cons_succ]
      refine take_lit (i := 2) (v := ?_) rfl (by kernel_rfl) (by kernel_rfl) (by kernel_rfl) (fun _ _ _ h => h) (Or.inl ⟨by rfl, ?_⟩) (by assumption) ?_
      rotate_left
      · (intro w hSw; (try dsimp only at hSw); go_simp <;> with_reducible rfl)
      try simp only [Act.put, List.setIfInBounds_toArray, List.set_cons_zero, List.set_cons_succ]
      refine take_lit (i := 3) (v := ?_) rfl (by kernel_rfl) (by kernel_rfl) (by kernel_rfl) (fun _ _ _ h => h) (Or.inl ⟨by rfl, ?_⟩) (by assumption) ?_
      rotate_left
      · (intro w hSw; (try dsimp only at hSw); have z := (hRw.below hSw hrw1).cell 1; go_simp <;> with_reducible rfl)
      try simp only [Act.put, List.setIfInBounds_toArray, List.set_cons_zero, List.set_cons_succ]
      refine take_lit (i := 4) (v := ?_) rfl (by kernel_rfl) (by kernel_rfl) (by kernel_rfl) (fun _ _ _ h => h) (Or.inl ⟨by rfl, ?_⟩) (by assumption) ?_
      rotate_left
      · (intro w hSw; (try dsimp only at hSw); go_simp <;> with_reducible rfl)
      try simp only [Act.put, List.setIfInBounds_toArray, List.set_cons_zero, List.set_cons_succ]
      refine take_lit (i := 5) (v := ?_) rfl (by kernel_rfl) (by kernel_rfl) (by kernel_rfl) (fun _ _ _ h => h) (Or.inl ⟨by rfl, ?_⟩) (by assumption) ?_
      rotate_left
      · (intro w hSw; (try dsimp only at hSw); go_simp <;> with_reducible rfl)
      try simp only [Act.put, List.setIfInBounds_toArray, List.set_cons_zero, List.set_cons_succ]
      refine take_lit (i := 6) (v := ?_) rfl (by kernel_rfl) (by kernel_rfl) (by kernel_rfl) (fun _ _ _ h => h) (Or.inl ⟨by rfl, ?_⟩) (by assumption) ?_
      rotate_left
      · (intro w hSw; (try dsimp only at hSw); go_simp <;> with_reducible rfl)
      try simp only [Act.put, List.setIfInBounds_toArray, List.set_cons_zero, List.set_cons_succ]
      refine take_lit (i := 7) (v := ?_) rfl (by kernel_rfl) (by kernel_rfl) (by kernel_rfl) (fun _ _ _ h => h) (Or.inl ⟨by rfl, ?_⟩) (by assumption) ?_
      rotate_left
      · (intro w hSw; (try dsimp only at hSw); go_simp <;> with_reducible rfl)
      try simp only [Act.put, List.setIfInBounds_toArray, List.set_cons_zero, List.set_cons_succ]
      refine take_lit (i := 8) (v := ?_) rfl (by kernel_rfl) (by kernel_rfl) (by kernel_rfl) (fun _ _ _ h => h) (Or.inl ⟨by rfl, ?_⟩) (by assumption) ?_
      rotate_left
      · (intro w hSw; (try dsimp only at hSw); have z := (hRw.below hSw hrw1).cell 0; go_simp <;> with_reducible rfl)
      try simp only [Act.put, List.setIfInBounds_toArray, List.set_cons_zero, List.set_cons_succ]
      refine take_lit (i := 9) (v := ?_) rfl (by kernel_rfl) (by kernel_rfl) (by kernel_rfl) (fun _ _ _ h => h) (Or.inl ⟨by rfl, ?_⟩) (by assumption) ?_
      rotate_left
      · (intro w hSw; (try dsimp only at hSw); go_simp <;> with_reducible rfl)
      try simp only [Act.put, List.setIfInBounds_toArray, List.set_cons_zero, List.set_cons_succ]
      refine take_lit (i := 10) (v := ?_) rfl (by kernel_rfl) (by kernel_rfl) (by kernel_rfl) (fun _ _ _ h => h) (Or.inl ⟨by rfl, ?_⟩) (by assumption) ?_
      rotate_left
      · (intro w hSw; (try dsimp only at hSw); go_simp <;> with_reducible rfl)
      try simp only [Act.put, List.setIfInBounds_toArray, List.set_cons_zero, List.set_cons_succ]
      refine wpAnyH_done (by kernel_rfl) ?_ _
      refine NoPanic.normal ?_
      refine name_world (R := fun W => Exit.then _ _ _ _ W) (P := fun W => Below w1.heap.size w1 W) _ hHeld ?_
      clear hHeld
      intro V1 hV1
      have bV1 := bt b1 hV1
      clear hRw hrw1
      by_cases hmo : most ≤ (K.length : Int)
      · have HMo : Hid (most ≤ (K.length : Int)) := hmo
        clear hSl L2
        go_wp2_with fail
        go_ret2
        first | exact ⟨0, 6, K, rfl, .inr (.inr (.inl ⟨HGd.out, HG.out, HNr.out, HMo.out, rfl, rfl, rfl⟩)), HH.out.below (bt hB bV1), RTurn.of (bt hB bV1)⟩ | exact ⟨0, 6, rfl, K, .inr (.inr (.inl ⟨HGd.out, HG.out, HNr.out, HMo.out, rfl, rfl, rfl⟩)), HH.out.below (bt hB bV1), RTurn.of (bt hB bV1)⟩
      · have HLen : Hid ((K.length : Int) < most) := by show _ < _; omega
        have hmo' : (K.length : Int) < most := HLen.out
        have hwn : wrap64 (now + n.d) = now + n.d := by have := HT01.out; have := HDb.out; unfold wrap64; omega
        have HNm : Hid (mn = madeN n now) := hmn
        have HNb : Hid (∀ w, (Instr.build 41 #[(0, (Value.agg (qcells n.p).toArray)), (1, .int .i64 n.i), (2, (Value.agg (acells n.a).toArray)), (3, idV n.id), (4, .int .u16 n.q), (5, .int .u16 n.r), (6, .int .u16 65535), (7, (Value.agg (acells n.h).toArray)), (8, .int .i64 (wrap64 (now + n.d))), (9, .int .i64 n.d)]).run Try.prog w = .ok (rV mn) w) := fun w => by rw [hmn, hwn]; exact bdMade n.p n.i n.a n.id n.q n.r n.h (now + n.d) n.d w
        have HNok : Hid mn.ok := by
          have := HT01.out; have := HDb.out
          rw [hmn]
          exact ⟨hf.q0, hf.q1, hf.r0, hf.r1, by show (0 : Int) ≤ 65535; omega, by show (65535 : Int) < 65536; omega, by show 0 ≤ now + n.d; omega, by show now + n.d ≤ _; omega, HDb.out.1, HDb.out.2⟩
        have HFin : Hid (∀ (V W' : World) (k : Nat), InsP K mn k → Below w.heap.size w V → ∀ (a : Option Addr) (cc : Nat) {W : World}, kN.Own W V.heap.size (.slice a (K.take k ++ mn :: K.drop k).length cc) (K.take k ++ mn :: K.drop k) → Below V.heap.size V W → W.grownBy W' (some r) → Row W' r 30 ([.int .i64 most, .slice ad K.length c].set 1 (.slice a (K.take k ++ mn :: K.drop k).length cc)) → Rb W' B r most (K.take k ++ mn :: K.drop k)) := fun V W' k hi hV a cc W ho hW hg hr => by
          refine ⟨⟨a, cc, hr, Kd.own_up (World.ownsRow.kept ho hg (.inr (own_ne_lt ho (Nat.lt_of_lt_of_le hrl hV.size)))) (Nat.le_trans hBw hV.size)⟩, fun x hx => ?_, ?_⟩
          · rcases List.mem_append.1 hx with h1 | h1
            · exact HH.out.ok x (List.mem_of_mem_take h1)
            · rcases List.mem_cons.1 h1 with rfl | h1
              · exact HNok.out
              · exact HH.out.ok x (List.mem_of_mem_drop h1)
          · have := hi.le
            simp only [List.length_append, List.length_take, List.length_cons, List.length_drop]
            omega
        have q0 := HX.out _ bV1
        have c34 := (q0.cell 34).trans (oc34 n)
        have c59 := (q0.cell 59).trans (oc59 n)
        have d60 := (q0.cell 60).trans (oc60 n)
        have c79 := (q0.cell 79).trans (oc79 n)
        have HAns : ∀ k, InsP K mn k → RtP most K now n true 1 0 (K.take k ++ mn :: K.drop k) := fun k hk => by
          rw [HNm.out] at hk ⊢
          exact .inr (.inr (.inr (.inl ⟨HGd.out, HG.out, HNr.out, HLen.out, rfl, rfl, k, hk, rfl⟩)))
        clear hmo hwn hmn hf c60
        go_upto_region 10 with (first
          | (have kk := rx; (with_reducible refine stS (.tmp 11) (.tmp 70) ?_ ?_ gx mn zeroR ?_ ?_ ?_ ?_); (focus rfl); (focus rfl); (focus (repeat (first | with_reducible refine ev_ne ?_ rfl | with_reducible refine ev_no ?_ | (with_reducible refine ev_eq (n := 173) ?_ rfl; repeat (first | with_reducible refine sz_put ?_ | with_reducible refine sz_no ?_ | rfl)) | rfl))); (focus (repeat (first | with_reducible refine ev_ne ?_ rfl | with_reducible refine ev_no ?_ | (with_reducible refine ev_eq (n := 173) ?_ rfl; repeat (first | with_reducible refine sz_put ?_ | with_reducible refine sz_no ?_ | rfl)) | rfl))); (focus exact rx); intro V0 gX rX0; have bX0 := grown_below gX hBx hgex hBx.size; clear rx)
          | ((with_reducible refine alG infoRz ?_ ?_ ?_); (focus rfl); (focus rfl); intro gx Wx hgex hglx hBx rx)
          | ((with_reducible refine bdG (T := 41) (v := rV mn) [(0, .tmp 51), (1, .tmp 53), (2, .tmp 55), (3, .tmp 57), (4, .tmp 59), (5, .tmp 61), (6, .const (.int .u16 65535)), (7, .tmp 63), (8, .tmp 67), (9, .tmp 69)] ?_ ?_ ?_ ?_); (focus rfl); (focus rfl); (focus exact HNb.out _))
          | ((with_reducible refine ldA (.tmp 62) ?_ ?_ w.heap.size 62 n.h ?_ ?_ ?_); (focus rfl); (focus rfl); (focus (repeat (first | with_reducible refine ev_ne ?_ rfl | with_reducible refine ev_no ?_ | (with_reducible refine ev_eq (n := 173) ?_ rfl; repeat (first | with_reducible refine sz_put ?_ | with_reducible refine sz_no ?_ | rfl)) | rfl))); (focus exact LS.h q0.ro))
          | ((with_reducible refine ldI (.tmp 56) ?_ ?_ w.heap.size 51 n.id ?_ ?_ ?_); (focus rfl); (focus rfl); (focus (repeat (first | with_reducible refine ev_ne ?_ rfl | with_reducible refine ev_no ?_ | (with_reducible refine ev_eq (n := 173) ?_ rfl; repeat (first | with_reducible refine sz_put ?_ | with_reducible refine sz_no ?_ | rfl)) | rfl))); (focus exact LS.id q0.ro))
          | ((with_reducible refine ldA (.tmp 54) ?_ ?_ w.heap.size 35 n.a ?_ ?_ ?_); (focus rfl); (focus rfl); (focus (repeat (first | with_reducible refine ev_ne ?_ rfl | with_reducible refine ev_no ?_ | (with_reducible refine ev_eq (n := 173) ?_ rfl; repeat (first | with_reducible refine sz_put ?_ | with_reducible refine sz_no ?_ | rfl)) | rfl))); (focus exact LS.a q0.ro))
          | ((with_reducible refine ldQ (.tmp 50) ?_ ?_ w.heap.size 0 n.p ?_ ?_ ?_); (focus rfl); (focus rfl); (focus (repeat (first | with_reducible refine ev_ne ?_ rfl | with_reducible refine ev_no ?_ | (with_reducible refine ev_eq (n := 173) ?_ rfl; repeat (first | with_reducible refine sz_put ?_ | with_reducible refine sz_no ?_ | rfl)) | rfl))); (focus exact LS.q q0.ro)))
        have bV0 : Below X.heap.size X V0 := bt bV1 bX0
        have HX0 : Hid (∀ W, Below V0.heap.size V0 W → Row W gx 41 (ocs mn)) := fun W hW => rX0.below hW rX0.lt
        clear rX0 bX0 hBx gX q0 c34 c59 d60 c79 HNb hV1
        have HCmp : Hid (∀ x : Ro, headB mn x = decide (0 < cmpN x mn)) := fun x => by
          unfold headB
          rw [decide_eq_decide]
          have := cmpN_neg x mn
          omega
        have cV0 : V0.cell? ⟨r, 1, none⟩ = some (.slice ad K.length c) := (HRow.out _ (bt hB bV0)).cell 1
        go_wp2_with fail
        go_loopw [10] (fun u wr => ∃ k : Nat, k ≤ K.length ∧ u = .int .i64 k ∧ (∀ x ∈ K.drop k, 0 < cmpN x mn) ∧ Below V0.heap.size V0 wr) (fun u _ => (intOf u).toNat)
        case atStart => exact ⟨K.length, Nat.le_refl _, rfl, by simp, Below.refl _ _⟩
        case round =>
          clear cV0
          obtain ⟨k, hk, rfl, hhi, bX⟩ := hrel
          have hVw : Below w.heap.size w wr := bt hB (bt bV0 bX)
          have hRw := HRow.out _ hVw
          have hrw1 := hRw.lt
          cases k with
          | zero =>
            have hIns : InsP K mn 0 := ⟨Nat.zero_le _, hhi, fun x h => by omega⟩
            rw [show ((0 : Nat) : Int) = 0 from rfl]
            go_upto_region 11 with fail
            refine wp_region_noPanic ?_
            refine wp_region_held_drew (S := fun W => Below wr.heap.size wr W) (by kernel_rfl) ((Below.refl _ _).drew) (fun hHeld => ?_)
            refine take_lit (i := 0) (v := ?_) rfl (by kernel_rfl) (by kernel_rfl) (by kernel_rfl) (fun _ _ _ h => h) (Or.inl ⟨by rfl, ?_⟩) (by assumption) ?_
            rotate_left
            · (intro w hSw; (try dsimp only at hSw); go_simp <;> with_reducible rfl)
            try simp only [Act.put, List.setIfInBounds_toArray, List.set_cons_zero, List.set_cons_succ]
            refine take_lit (i := 1) (v := ?_) rfl (by kernel_rfl) (by kernel_rfl) (by kernel_rfl) (fun _ _ _ h => h) (Or.inl ⟨by rfl, ?_⟩) (by assumption) ?_
            rotate_left
            · (intro w hSw; (try dsimp only at hSw); go_simp <;> with_reducible rfl)
            try simp only [Act.put, List.setIfInBounds_toArray, List.set_cons_zero, List.set_cons_succ]
            refine take_lit (i := 2) (v := ?_) rfl (by kernel_rfl) (by kernel_rfl) (by kernel_rfl) (fun _ _ _ h => h) (Or.inl ⟨by rfl, ?_⟩) (by assumption) ?_
            rotate_left
            · (intro w hSw; (try dsimp only at hSw); go_simp <;> with_reducible rfl)
            try simp only [Act.put, List.setIfInBounds_toArray, List.set_cons_zero, List.set_cons_succ]
            refine take_lit (i := 3) rfl (by kernel_rfl) (by kernel_rfl) (by kernel_rfl) (fun _ _ _ h => h) (Or.inr ⟨by rfl, rfl⟩) (by assumption) ?_
            try simp only [Act.put, List.setIfInBounds_toArray, List.set_cons_zero, List.set_cons_succ]
            refine take_lit (i := 4) rfl (by kernel_rfl) (by kernel_rfl) (by kernel_rfl) (fun _ _ _ h => h) (Or.inr ⟨by rfl, rfl⟩) (by assumption) ?_
            try simp only [Act.put, List.setIfInBounds_toArray, List.set_cons_zero, List.set_cons_succ]
            refine take_lit (i := 5) rfl (by kernel_rfl) (by kernel_rfl) (by kernel_rfl) (fun _ _ _ h => h) (Or.inr ⟨by rfl, rfl⟩) (by assumption) ?_
            try simp only [Act.put, List.setIfInBounds_toArray, List.set_cons_zero, List.set_cons_succ]
            refine take_lit (i := 6) rfl (by kernel_rfl) (by kernel_rfl) (by kernel_rfl) (fun _ _ _ h => h) (Or.inr ⟨by rfl, rfl⟩) (by assumption) ?_
            try simp only [Act.put, List.setIfInBounds_toArray, List.set_cons_zero, List.set_cons_succ]
            refine take_lit (i := 7) rfl (by kernel_rfl) (by kernel_rfl) (by kernel_rfl) (fun _ _ _ h => h) (Or.inr ⟨by rfl, rfl⟩) (by assumption) ?_
            try simp only [Act.put, List.setIfInBounds_toArray, List.set_cons_zero, List.set_cons_succ]
            refine take_lit (i := 8) rfl (by kernel_rfl) (by kernel_rfl) (by kernel_rfl) (fun _ _ _ h => h) (Or.inr ⟨by rfl, rfl⟩) (by assumption) ?_
            try simp only [Act.put, List.setIfInBounds_toArray, List.set_cons_zero, List.set_cons_succ]
            refine take_lit (i := 9) rfl (by kernel_rfl) (by kernel_rfl) (by kernel_rfl) (fun _ _ _ h => h) (Or.inr ⟨by rfl, rfl⟩) (by assumption) ?_
            try simp only [Act.put, List.setIfInBounds_toArray, List.set_cons_zero, List.set_cons_succ]
            refine take_lit (i := 10) rfl (by kernel_rfl) (by kernel_rfl) (by kernel_rfl) (fun _ _ _ h => h) (Or.inr ⟨by rfl, rfl⟩) (by assumption) ?_
            try simp only [Act.put, List.setIfInBounds_toArray, List.set_cons_zero, List.set_cons_succ]
            refine take_lit (i := 11) rfl (by kernel_rfl) (by kernel_rfl) (by kernel_rfl) (fun _ _ _ h => h) (Or.inr ⟨by rfl, rfl⟩) (by assumption) ?_
            try simp only [Act.put, List.setIfInBounds_toArray, List.set_cons_zero, List.set_cons_succ]
            refine take_lit (i := 12) rfl (by kernel_rfl) (by kernel_rfl) (by kernel_rfl) (fun _ _ _ h => h) (Or.inr ⟨by rfl, rfl⟩) (by assumption) ?_
            try simp only [Act.put, List.setIfInBounds_toArray, List.set_cons_zero, List.set_cons_succ]
            refine take_lit (i := 13) (v := ?_) rfl (by kernel_rfl) (by kernel_rfl) (by kernel_rfl) (fun _ _ _ h => h) (Or.inl ⟨by rfl, ?_⟩) (by assumption) ?_
            rotate_left
            · (intro w hSw; (try dsimp only at hSw); go_simp <;> with_reducible rfl)
            try simp only [Act.put, List.setIfInBounds_toArray, List.set_cons_zero, List.set_cons_succ]
            refine wpAnyH_done (by kernel_rfl) ?_ _
            refine NoPanic.normal ?_
            refine name_world (R := fun W => Exit.then _ _ _ _ W) (P := fun W => Below wr.heap.size wr W) _ hHeld ?_
            clear hHeld
            intro V hV
            have bV := bt bX hV
            have hVb : Below w.heap.size w V := bt hVw hV
            clear hRw hrw1 hhi L2
            go_upto_region 13 with fail
            obtain ⟨s1, z1, s2, z2, S1, S2, A1, A2⟩ := hSl 0 hIns.le
            have hX := HX0.out _ bV
            have hXl := hX.lt
            have hrow := HRow.out _ hVb
            have hrV : r < V.heap.size := hrow.lt
            replace S1 := S1 0 rfl
            replace S2 := S2 0 rfl
            replace A1 := A1 V hVb
            replace A2 := A2 V hVb
            have HIn : Hid (InsP K mn 0) := hIns
            clear hIns hSl
            refine wp_region_noPanic ?_
            refine wp_region_N (S := fun W => Below V.heap.size V W) 21 (by kernel_rfl) ((Below.refl _ _).drew) (fun hHeld => ?_)
            refine takeN_lit (i := 0) (v := ?_) (F := #[false, true, true, true, true, true, true, true, true, true, true, true, true, true, true, true, true, true, true, false, false, false]) rfl (by kernel_rfl) (by kernel_rfl) (by kernel_rfl) (by kernel_rfl) (fun _ _ _ h => h) (Or.inl ⟨by rfl, ?_⟩) (by assumption) ?_
            rotate_left
            · (intro w hSw; (try dsimp only at hSw); go_simp <;> with_reducible rfl)
            try simp only [Act.put, List.setIfInBounds_toArray, List.set_cons_zero, List.set_cons_succ]
            refine takeN_lit (i := 2) (v := ?_) (F := #[true, true, false, false, false, false, true, false, false, true, true, false, true, true, true, true, true, true, false, false, false, false]) rfl (by kernel_rfl) (by kernel_rfl) (by kernel_rfl) (by kernel_rfl) (fun _ _ _ h => h) (Or.inl ⟨by rfl, ?_⟩) (by assumption) ?_
            rotate_left
            · (intro w hSw; (try dsimp only at hSw); go_simp <;> with_reducible rfl)
            try simp only [Act.put, List.setIfInBounds_toArray, List.set_cons_zero, List.set_cons_succ]
            refine takeN_lit (i := 3) (v := ?_) (F := #[true, true, true, false, false, false, true, false, false, true, true, false, true, true, true, true, true, true, false, false, false, false]) rfl (by kernel_rfl) (by kernel_rfl) (by kernel_rfl) (by kernel_rfl) (fun _ _ _ h => h) (Or.inl ⟨by rfl, ?_⟩) (by assumption) ?_
            rotate_left
            · (intro w hSw; (try dsimp only at hSw); go_simp <;> with_reducible rfl)
            try simp only [Act.put, List.setIfInBounds_toArray, List.set_cons_zero, List.set_cons_succ]
            refine takeN_lit (i := 4) (v := ?_) (F := #[true, true, true, true, false, false, true, false, false, true, true, false, true, true, true, true, true, true, false, false, false, false]) rfl (by kernel_rfl) (by kernel_rfl) (by kernel_rfl) (by kernel_rfl) (fun _ _ _ h => h) (Or.inl ⟨by rfl, ?_⟩) (by assumption) ?_
            rotate_left
            · (intro w hSw; (try dsimp only at hSw); go_simp <;> with_reducible rfl)
            try simp only [Act.put, List.setIfInBounds_toArray, List.set_cons_zero, List.set_cons_succ]
            refine takeN_lit (i := 5) (v := ?_) (F := #[true, true, true, true, true, false, true, false, false, true, true, false, true, true, true, true, true, true, false, false, false, false]) rfl (by kernel_rfl) (by kernel_rfl) (by kernel_rfl) (by kernel_rfl) (fun _ _ _ h => h) (Or.inl ⟨by rfl, ?_⟩) (by assumption) ?_
            rotate_left
            · (intro w hSw; (try dsimp only at hSw); have z := (hrow.below hSw hrV).cell 1; go_simp <;> with_reducible rfl)
            try simp only [Act.put, List.setIfInBounds_toArray, List.set_cons_zero, List.set_cons_succ]
            refine takeN_lit (i := 6) (v := ?_) (F := #[true, true, true, true, true, true, false, false, false, true, true, false, true, true, true, true, true, true, false, false, false, false]) rfl (by kernel_rfl) (by kernel_rfl) (by kernel_rfl) (by kernel_rfl) (fun _ _ _ h => h) (Or.inl ⟨by rfl, ?_⟩) (by assumption) ?_
            rotate_left
            · (intro w hSw; (try dsimp only at hSw); go_simp <;> with_reducible rfl)
            try simp only [Act.put, List.setIfInBounds_toArray, List.set_cons_zero, List.set_cons_succ]
            refine takeN_lit (i := 7) (v := ?_) (F := #[true, true, true, true, true, true, true, false, false, true, true, false, true, true, true, true, true, true, false, false, false, false]) rfl (by kernel_rfl) (by kernel_rfl) (by kernel_rfl) (by kernel_rfl) (fun _ _ _ h => h) (Or.inl ⟨by rfl, ?_⟩) (by assumption) ?_
            rotate_left
            · (intro w hSw; (try dsimp only at hSw); have z := S1 w; go_simp <;> with_reducible rfl)
            try simp only [Act.put, List.setIfInBounds_toArray, List.set_cons_zero, List.set_cons_succ]
            refine takeN_lit (i := 9) (F := #[true, true, true, true, true, true, true, true, true, false, false, false, true, true, true, true, true, true, false, false, false, false]) rfl (by kernel_rfl) (by kernel_rfl) (by kernel_rfl) (by kernel_rfl) (fun _ _ _ h => h) (yS mn (fun w h => (hX.below h hXl).ro) (by rfl) rfl rfl) (by assumption) ?_
            try simp only [Act.put, List.setIfInBounds_toArray, List.set_cons_zero, List.set_cons_succ]
            refine takeN_lit (i := 12) (v := ?_) (F := #[true, true, true, true, true, true, true, true, true, true, true, true, false, false, false, false, true, false, false, false, false, false]) rfl (by kernel_rfl) (by kernel_rfl) (by kernel_rfl) (by kernel_rfl) (fun _ _ _ h => h) (Or.inl ⟨by rfl, ?_⟩) (by assumption) ?_
            rotate_left
            · (intro w hSw; (try dsimp only at hSw); go_simp <;> with_reducible rfl)
            try simp only [Act.put, List.setIfInBounds_toArray, List.set_cons_zero, List.set_cons_succ]
            refine takeN_lit (i := 13) (v := ?_) (F := #[true, true, true, true, true, true, true, true, true, true, true, true, true, false, false, false, true, false, false, false, false, false]) rfl (by kernel_rfl) (by kernel_rfl) (by kernel_rfl) (by kernel_rfl) (fun _ _ _ h => h) (Or.inl ⟨by rfl, ?_⟩) (by assumption) ?_
            rotate_left
            · (intro w hSw; (try dsimp only at hSw); go_simp <;> with_reducible rfl)
            try simp only [Act.put, List.setIfInBounds_toArray, List.set_cons_zero, List.set_cons_succ]
            refine takeN_lit (i := 14) (v := ?_) (F := #[true, true, true, true, true, true, true, true, true, true, true, true, true, true, false, false, true, false, false, false, false, false]) rfl (by kernel_rfl) (by kernel_rfl) (by kernel_rfl) (by kernel_rfl) (fun _ _ _ h => h) (Or.inl ⟨by rfl, ?_⟩) (by assumption) ?_
            rotate_left
            · (intro w hSw; (try dsimp only at hSw); go_simp <;> with_reducible rfl)
            try simp only [Act.put, List.setIfInBounds_toArray, List.set_cons_zero, List.set_cons_succ]
            refine takeN_lit (i := 15) (v := ?_) (F := #[true, true, true, true, true, true, true, true, true, true, true, true, true, true, true, false, true, false, false, false, false, false]) rfl (by kernel_rfl) (by kernel_rfl) (by kernel_rfl) (by kernel_rfl) (fun _ _ _ h => h) (Or.inl ⟨by rfl, ?_⟩) (by assumption) ?_
            rotate_left
            · (intro w hSw; (try dsimp only at hSw); have z := (hrow.below hSw hrV).cell 1; go_simp <;> with_reducible rfl)
            try simp only [Act.put, List.setIfInBounds_toArray, List.set_cons_zero, List.set_cons_succ]
            refine takeN_lit (i := 16) (v := ?_) (F := #[true, true, true, true, true, true, true, true, true, true, true, true, true, true, true, true, false, false, false, false, false, false]) rfl (by kernel_rfl) (by kernel_rfl) (by kernel_rfl) (by kernel_rfl) (fun _ _ _ h => h) (Or.inl ⟨by rfl, ?_⟩) (by assumption) ?_
            rotate_left
            · (intro w hSw; (try dsimp only at hSw); go_simp <;> with_reducible rfl)
            try simp only [Act.put, List.setIfInBounds_toArray, List.set_cons_zero, List.set_cons_succ]
            refine takeN_lit (i := 17) (v := ?_) (F := #[true, true, true, true, true, true, true, true, true, true, true, true, true, true, true, true, true, false, false, false, false, false]) rfl (by kernel_rfl) (by kernel_rfl) (by kernel_rfl) (by kernel_rfl) (fun _ _ _ h => h) (Or.inl ⟨by rfl, ?_⟩) (by assumption) ?_
            rotate_left
            · (intro w hSw; (try dsimp only at hSw); have z := S2 w; go_simp <;> with_reducible rfl)
            try simp only [Act.put, List.setIfInBounds_toArray, List.set_cons_zero, List.set_cons_succ]
            refine wpAnyN_ready (rs := [1, 10]) (by kernel_rfl) (by simp) ?_
            refine consN_lit rfl (fun K hK => ?_) ?_
            · skip
              refine sBsG (T := 28) (U := 41) [] [] (by rfl) rfl (fun w => bsN0 w) ?_
              intro W1 r1 b1
              have hB1 := hHeld.size
              try (replace r14 := r14.below b1 r14.lt)
              refine hK.out _ _ (Or.inr ?_) (fun hHeld => ?_)
              · exact bt hHeld b1
              replace hHeld := hHeld.resolve_left (by decide)
              clear hK K
              try simp only [Act.put, List.setIfInBounds_toArray, List.set_cons_zero, List.set_cons_succ]
              refine wpAnyN_ready (rs := [8, 10]) (by kernel_rfl) (by simp) ?_
              refine consN_lit rfl (fun K hK => ?_) ?_
              · skip
                obtain ⟨v8, W8, run8, o8, g8, e8⟩ := A1 _ hHeld 28 _ [] (own_zero r1 hB1) (by simp)
                obtain ⟨a8, c8, rfl, _⟩ := Kd.own_at o8
                refine sApp (.tmp 93) (.tmp 99) (by rfl) rfl rfl rfl run8 ?_
                try (replace r14 := r14.keepO g8 (fun e => row_apart r1 r14 (by simpa [Value.ownBlock] using e)))
                refine hK.out _ _ (Or.inr ?_) (fun hHeld => ?_)
                · exact below_keepO hHeld g8 (fun g hg => own_ne_lt (own_zero r1 hB1) hg) hHeld.size
                replace hHeld := hHeld.resolve_left (by decide)
                clear hK K
                try simp only [Act.put, List.setIfInBounds_toArray, List.set_cons_zero, List.set_cons_succ]
                refine wpAnyN_ready (rs := [10]) (by kernel_rfl) (by simp) ?_
                refine consN_lit rfl (fun K hK => ?_) ?_
                · skip
                  refine sBsG (T := 28) (U := 41) [(0, .tmp 101)] (ocs mn) (by rfl) rfl (fun w => bsN1 _ w) ?_
                  intro W14 r14 b14
                  try (replace r1 := r1.below b14 r1.lt)
                  try (replace o8 := own_below o8 b14)
                  refine hK.out _ _ (Or.inr ?_) (fun hHeld => ?_)
                  · exact bt hHeld b14
                  replace hHeld := hHeld.resolve_left (by decide)
                  clear hK K
                  try simp only [Act.put, List.setIfInBounds_toArray, List.set_cons_zero, List.set_cons_succ]
                  refine wpAnyN_ready (rs := [11]) (by kernel_rfl) (by simp) ?_
                  refine consN_lit rfl (fun K hK => ?_) ?_
                  · skip
                    obtain ⟨v15, W15, run15, o15, g15, e15⟩ := app_one 28 o8 r14 (by simp <;> omega) hHeld.size
                    obtain ⟨a15, c15, rfl, _⟩ := Kd.own_at o15
                    refine sApp (.tmp 100) (.tmp 102) (by rfl) rfl rfl rfl run15 ?_
                    refine hK.out _ _ (Or.inr ?_) (fun hHeld => ?_)
                    · exact below_keepO hHeld g15 (fun g hg => own_ne_lt o8 hg) hHeld.size
                    replace hHeld := hHeld.resolve_left (by decide)
                    clear hK K
                    try simp only [Act.put, List.setIfInBounds_toArray, List.set_cons_zero, List.set_cons_succ]
                    refine wpAnyN_ready (rs := [18]) (by kernel_rfl) (by simp) ?_
                    refine consN_lit rfl (fun K hK => ?_) ?_
                    · skip
                      obtain ⟨v22, W22, run22, o22, g22, e22⟩ := A2 _ hHeld 28 _ _ o15 (by simp <;> omega)
                      obtain ⟨a22, c22, rfl, _⟩ := Kd.own_at o22
                      refine sApp (.tmp 103) (.tmp 109) (by rfl) rfl rfl rfl run22 ?_
                      refine hK.out _ _ (Or.inr ?_) (fun hHeld => ?_)
                      · exact below_keepO hHeld g22 (fun g hg => own_ne_lt o15 hg) hHeld.size
                      replace hHeld := hHeld.resolve_left (by decide)
                      clear hK K
                      try simp only [Act.put, List.setIfInBounds_toArray, List.set_cons_zero, List.set_cons_succ]
                      refine takeN_lit (i := 19) (v := ?_) (F := #[true, true, true, true, true, true, true, true, true, true, true, true, true, true, true, true, true, true, true, false, false, false]) rfl (by kernel_rfl) (by kernel_rfl) (by kernel_rfl) (by kernel_rfl) (fun _ _ _ h => h) (Or.inl ⟨by rfl, ?_⟩) (by assumption) ?_
                      rotate_left
                      · (intro w hSw; (try dsimp only at hSw); go_simp <;> with_reducible rfl)
                      try simp only [Act.put, List.setIfInBounds_toArray, List.set_cons_zero, List.set_cons_succ]
                      refine takeN_lit (i := 20) (v := ?_) (F := #[true, true, true, true, true, true, true, true, true, true, true, true, true, true, true, true, true, true, true, true, false, false]) rfl (by kernel_rfl) (by kernel_rfl) (by kernel_rfl) (by kernel_rfl) (fun _ _ _ h => h) (Or.inl ⟨by rfl, ?_⟩) (by assumption) ?_
                      rotate_left
                      · (intro w hSw; (try dsimp only at hSw); go_simp <;> with_reducible rfl)
                      try simp only [Act.put, List.setIfInBounds_toArray, List.set_cons_zero, List.set_cons_succ]
                      refine wpAnyN_ready (rs := [21]) (by kernel_rfl) (by simp) ?_
                      refine consN_lit rfl (fun K hK => ?_) ?_
                      · skip
                        refine sStSl (.tmp 112) (.tmp 110) (by rfl) rfl r 1 _ _ _ _ rfl rfl (hrow.below hHeld hrV) (by simp) ?_
                        intro W25 g25 r25
                        refine hK.out _ _ (Or.inl rfl) (fun _ => ?_)
                        clear hK K
                        try simp only [Act.put, List.setIfInBounds_toArray, List.set_cons_zero, List.set_cons_succ]
                        refine wpAnyN_done (by kernel_rfl) ?_ _
                        refine NoPanic.normal ?_
                        have HEnd : Hid (Rb W25 B r most (K.take (0) ++ mn :: K.drop (0)) ∧ RTurn w W25 B r) := by
                          have e : ([] ++ K.take (0) ++ [mn] ++ K.drop (0) : List Ro) = K.take (0) ++ mn :: K.drop (0) := by simp
                          rw [e] at o22 r25
                          exact ⟨HFin.out V W25 (0) HIn.out hVb _ _ o22 hHeld g25 r25, RTurn.pre (bt hVb hHeld) (RTurn.self g25)⟩
                        clear hHeld o22 r25 g25 o15 o8 r1 r14 hrow hX A1 A2 S1 S2
                        go_wp2_with fail
                        go_ret2
                        first | exact ⟨1, 0, _, rfl, HAns _ HIn.out, HEnd.out.1, HEnd.out.2⟩ | exact ⟨1, 0, rfl, _, HAns _ HIn.out, HEnd.out.1, HEnd.out.2⟩
                      exact AllReadyN.nil
                    exact AllReadyN.nil
                  exact AllReadyN.nil
                exact AllReadyN.nil
              refine consN_lit rfl (fun K hK => ?_) ?_
              · skip
                refine sBsG (T := 28) (U := 41) [(0, .tmp 101)] (ocs mn) (by rfl) rfl (fun w => bsN1 _ w) ?_
                intro W14 r14 b14
                try (replace r1 := r1.below b14 r1.lt)
                try (replace o8 := own_below o8 b14)
                refine hK.out _ _ (Or.inr ?_) (fun hHeld => ?_)
                · exact bt hHeld b14
                replace hHeld := hHeld.resolve_left (by decide)
                clear hK K
                try simp only [Act.put, List.setIfInBounds_toArray, List.set_cons_zero, List.set_cons_succ]
                refine wpAnyN_ready (rs := [8]) (by kernel_rfl) (by simp) ?_
                refine consN_lit rfl (fun K hK => ?_) ?_
                · skip
                  obtain ⟨v8, W8, run8, o8, g8, e8⟩ := A1 _ hHeld 28 _ [] (own_zero r1 hB1) (by simp)
                  obtain ⟨a8, c8, rfl, _⟩ := Kd.own_at o8
                  refine sApp (.tmp 93) (.tmp 99) (by rfl) rfl rfl rfl run8 ?_
                  try (replace r14 := r14.keepO g8 (fun e => row_apart r1 r14 (by simpa [Value.ownBlock] using e)))
                  refine hK.out _ _ (Or.inr ?_) (fun hHeld => ?_)
                  · exact below_keepO hHeld g8 (fun g hg => own_ne_lt (own_zero r1 hB1) hg) hHeld.size
                  replace hHeld := hHeld.resolve_left (by decide)
                  clear hK K
                  try simp only [Act.put, List.setIfInBounds_toArray, List.set_cons_zero, List.set_cons_succ]
                  refine wpAnyN_ready (rs := [11]) (by kernel_rfl) (by simp) ?_
                  refine consN_lit rfl (fun K hK => ?_) ?_
                  · skip
                    obtain ⟨v15, W15, run15, o15, g15, e15⟩ := app_one 28 o8 r14 (by simp <;> omega) hHeld.size
                    obtain ⟨a15, c15, rfl, _⟩ := Kd.own_at o15
                    refine sApp (.tmp 100) (.tmp 102) (by rfl) rfl rfl rfl run15 ?_
                    refine hK.out _ _ (Or.inr ?_) (fun hHeld => ?_)
                    · exact below_keepO hHeld g15 (fun g hg => own_ne_lt o8 hg) hHeld.size
                    replace hHeld := hHeld.resolve_left (by decide)
                    clear hK K
                    try simp only [Act.put, List.setIfInBounds_toArray, List.set_cons_zero, List.set_cons_succ]
                    refine wpAnyN_ready (rs := [18]) (by kernel_rfl) (by simp) ?_
                    refine consN_lit rfl (fun K hK => ?_) ?_
                    · skip
                      obtain ⟨v22, W22, run22, o22, g22, e22⟩ := A2 _ hHeld 28 _ _ o15 (by simp <;> omega)
                      obtain ⟨a22, c22, rfl, _⟩ := Kd.own_at o22
                      refine sApp (.tmp 103) (.tmp 109) (by rfl) rfl rfl rfl run22 ?_
                      refine hK.out _ _ (Or.inr ?_) (fun hHeld => ?_)
                      · exact below_keepO hHeld g22 (fun g hg => own_ne_lt o15 hg) hHeld.size
                      replace hHeld := hHeld.resolve_left (by decide)
                      clear hK K
                      try simp only [Act.put, List.setIfInBounds_toArray, List.set_cons_zero, List.set_cons_succ]
                      refine takeN_lit (i := 19) (v := ?_) (F := #[true, true, true, true, true, true, true, true, true, true, true, true, true, true, true, true, true, true, true, false, false, false]) rfl (by kernel_rfl) (by kernel_rfl) (by kernel_rfl) (by kernel_rfl) (fun _ _ _ h => h) (Or.inl ⟨by rfl, ?_⟩) (by assumption) ?_
                      rotate_left
                      · (intro w hSw; (try dsimp only at hSw); go_simp <;> with_reducible rfl)
                      try simp only [Act.put, List.setIfInBounds_toArray, List.set_cons_zero, List.set_cons_succ]
                      refine takeN_lit (i := 20) (v := ?_) (F := #[true, true, true, true, true, true, true, true, true, true, true, true, true, true, true, true, true, true, true, true, false, false]) rfl (by kernel_rfl) (by kernel_rfl) (by kernel_rfl) (by kernel_rfl) (fun _ _ _ h => h) (Or.inl ⟨by rfl, ?_⟩) (by assumption) ?_
                      rotate_left
                      · (intro w hSw; (try dsimp only at hSw); go_simp <;> with_reducible rfl)
                      try simp only [Act.put, List.setIfInBounds_toArray, List.set_cons_zero, List.set_cons_succ]
                      refine wpAnyN_ready (rs := [21]) (by kernel_rfl) (by simp) ?_
                      refine consN_lit rfl (fun K hK => ?_) ?_
                      · skip
                        refine sStSl (.tmp 112) (.tmp 110) (by rfl) rfl r 1 _ _ _ _ rfl rfl (hrow.below hHeld hrV) (by simp) ?_
                        intro W25 g25 r25
                        refine hK.out _ _ (Or.inl rfl) (fun _ => ?_)
                        clear hK K
                        try simp only [Act.put, List.setIfInBounds_toArray, List.set_cons_zero, List.set_cons_succ]
                        refine wpAnyN_done (by kernel_rfl) ?_ _
                        refine NoPanic.normal ?_
                        have HEnd : Hid (Rb W25 B r most (K.take (0) ++ mn :: K.drop (0)) ∧ RTurn w W25 B r) := by
                          have e : ([] ++ K.take (0) ++ [mn] ++ K.drop (0) : List Ro) = K.take (0) ++ mn :: K.drop (0) := by simp
                          rw [e] at o22 r25
                          exact ⟨HFin.out V W25 (0) HIn.out hVb _ _ o22 hHeld g25 r25, RTurn.pre (bt hVb hHeld) (RTurn.self g25)⟩
                        clear hHeld o22 r25 g25 o15 o8 r1 r14 hrow hX A1 A2 S1 S2
                        go_wp2_with fail
                        go_ret2
                        first | exact ⟨1, 0, _, rfl, HAns _ HIn.out, HEnd.out.1, HEnd.out.2⟩ | exact ⟨1, 0, rfl, _, HAns _ HIn.out, HEnd.out.1, HEnd.out.2⟩
                      exact AllReadyN.nil
                    exact AllReadyN.nil
                  exact AllReadyN.nil
                exact AllReadyN.nil
              exact AllReadyN.nil
            refine consN_lit rfl (fun K hK => ?_) ?_
            · skip
              refine sBsG (T := 28) (U := 41) [(0, .tmp 101)] (ocs mn) (by rfl) rfl (fun w => bsN1 _ w) ?_
              intro W14 r14 b14
              try (replace r1 := r1.below b14 r1.lt)
              try (replace o8 := own_below o8 b14)
              refine hK.out _ _ (Or.inr ?_) (fun hHeld => ?_)
              · exact bt hHeld b14
              replace hHeld := hHeld.resolve_left (by decide)
              clear hK K
              try simp only [Act.put, List.setIfInBounds_toArray, List.set_cons_zero, List.set_cons_succ]
              refine wpAnyN_ready (rs := [1]) (by kernel_rfl) (by simp) ?_
              refine consN_lit rfl (fun K hK => ?_) ?_
              · skip
                refine sBsG (T := 28) (U := 41) [] [] (by rfl) rfl (fun w => bsN0 w) ?_
                intro W1 r1 b1
                have hB1 := hHeld.size
                try (replace r14 := r14.below b1 r14.lt)
                refine hK.out _ _ (Or.inr ?_) (fun hHeld => ?_)
                · exact bt hHeld b1
                replace hHeld := hHeld.resolve_left (by decide)
                clear hK K
                try simp only [Act.put, List.setIfInBounds_toArray, List.set_cons_zero, List.set_cons_succ]
                refine wpAnyN_ready (rs := [8]) (by kernel_rfl) (by simp) ?_
                refine consN_lit rfl (fun K hK => ?_) ?_
                · skip
                  obtain ⟨v8, W8, run8, o8, g8, e8⟩ := A1 _ hHeld 28 _ [] (own_zero r1 hB1) (by simp)
                  obtain ⟨a8, c8, rfl, _⟩ := Kd.own_at o8
                  refine sApp (.tmp 93) (.tmp 99) (by rfl) rfl rfl rfl run8 ?_
                  try (replace r14 := r14.keepO g8 (fun e => row_apart r1 r14 (by simpa [Value.ownBlock] using e)))
                  refine hK.out _ _ (Or.inr ?_) (fun hHeld => ?_)
                  · exact below_keepO hHeld g8 (fun g hg => own_ne_lt (own_zero r1 hB1) hg) hHeld.size
                  replace hHeld := hHeld.resolve_left (by decide)
                  clear hK K
                  try simp only [Act.put, List.setIfInBounds_toArray, List.set_cons_zero, List.set_cons_succ]
                  refine wpAnyN_ready (rs := [11]) (by kernel_rfl) (by simp) ?_
                  refine consN_lit rfl (fun K hK => ?_) ?_
                  · skip
                    obtain ⟨v15, W15, run15, o15, g15, e15⟩ := app_one 28 o8 r14 (by simp <;> omega) hHeld.size
                    obtain ⟨a15, c15, rfl, _⟩ := Kd.own_at o15
                    refine sApp (.tmp 100) (.tmp 102) (by rfl) rfl rfl rfl run15 ?_
                    refine hK.out _ _ (Or.inr ?_) (fun hHeld => ?_)
                    · exact below_keepO hHeld g15 (fun g hg => own_ne_lt o8 hg) hHeld.size
                    replace hHeld := hHeld.resolve_left (by decide)
                    clear hK K
                    try simp only [Act.put, List.setIfInBounds_toArray, List.set_cons_zero, List.set_cons_succ]
                    refine wpAnyN_ready (rs := [18]) (by kernel_rfl) (by simp) ?_
                    refine consN_lit rfl (fun K hK => ?_) ?_
                    · skip
                      obtain ⟨v22, W22, run22, o22, g22, e22⟩ := A2 _ hHeld 28 _ _ o15 (by simp <;> omega)
                      obtain ⟨a22, c22, rfl, _⟩ := Kd.own_at o22
                      refine sApp (.tmp 103) (.tmp 109) (by rfl) rfl rfl rfl run22 ?_
                      refine hK.out _ _ (Or.inr ?_) (fun hHeld => ?_)
                      · exact below_keepO hHeld g22 (fun g hg => own_ne_lt o15 hg) hHeld.size
                      replace hHeld := hHeld.resolve_left (by decide)
                      clear hK K
                      try simp only [Act.put, List.setIfInBounds_toArray, List.set_cons_zero, List.set_cons_succ]
                      refine takeN_lit (i := 19) (v := ?_) (F := #[true, true, true, true, true, true, true, true, true, true, true, true, true, true, true, true, true, true, true, false, false, false]) rfl (by kernel_rfl) (by kernel_rfl) (by kernel_rfl) (by kernel_rfl) (fun _ _ _ h => h) (Or.inl ⟨by rfl, ?_⟩) (by assumption) ?_
                      rotate_left
                      · (intro w hSw; (try dsimp only at hSw); go_simp <;> with_reducible rfl)
                      try simp only [Act.put, List.setIfInBounds_toArray, List.set_cons_zero, List.set_cons_succ]
                      refine takeN_lit (i := 20) (v := ?_) (F := #[true, true, true, true, true, true, true, true, true, true, true, true, true, true, true, true, true, true, true, true, false, false]) rfl (by kernel_rfl) (by kernel_rfl) (by kernel_rfl) (by kernel_rfl) (fun _ _ _ h => h) (Or.inl ⟨by rfl, ?_⟩) (by assumption) ?_
                      rotate_left
                      · (intro w hSw; (try dsimp only at hSw); go_simp <;> with_reducible rfl)
                      try simp only [Act.put, List.setIfInBounds_toArray, List.set_cons_zero, List.set_cons_succ]
                      refine wpAnyN_ready (rs := [21]) (by kernel_rfl) (by simp) ?_
                      refine consN_lit rfl (fun K hK => ?_) ?_
                      · skip
                        refine sStSl (.tmp 112) (.tmp 110) (by rfl) rfl r 1 _ _ _ _ rfl rfl (hrow.below hHeld hrV) (by simp) ?_
                        intro W25 g25 r25
                        refine hK.out _ _ (Or.inl rfl) (fun _ => ?_)
                        clear hK K
                        try simp only [Act.put, List.setIfInBounds_toArray, List.set_cons_zero, List.set_cons_succ]
                        refine wpAnyN_done (by kernel_rfl) ?_ _
                        refine NoPanic.normal ?_
                        have HEnd : Hid (Rb W25 B r most (K.take (0) ++ mn :: K.drop (0)) ∧ RTurn w W25 B r) := by
                          have e : ([] ++ K.take (0) ++ [mn] ++ K.drop (0) : List Ro) = K.take (0) ++ mn :: K.drop (0) := by simp
                          rw [e] at o22 r25
                          exact ⟨HFin.out V W25 (0) HIn.out hVb _ _ o22 hHeld g25 r25, RTurn.pre (bt hVb hHeld) (RTurn.self g25)⟩
                        clear hHeld o22 r25 g25 o15 o8 r1 r14 hrow hX A1 A2 S1 S2
                        go_wp2_with fail
                        go_ret2
                        first | exact ⟨1, 0, _, rfl, HAns _ HIn.out, HEnd.out.1, HEnd.out.2⟩ | exact ⟨1, 0, rfl, _, HAns _ HIn.out, HEnd.out.1, HEnd.out.2⟩
                      exact AllReadyN.nil
                    exact AllReadyN.nil
                  exact AllReadyN.nil
                exact AllReadyN.nil
              exact AllReadyN.nil
            exact AllReadyN.nil
          | succ j =>
            have hjl : j < K.length := hk
            obtain ⟨g, rfl, hLS⟩ := L2 (by intro e; rw [e] at hjl; simp at hjl)
            have HXx : Hid (∀ W, Below wr.heap.size wr W → W.cell? ⟨r, 1, none⟩ = some (.slice (some ⟨g, 0, none⟩) K.length c) ∧ LS W g (j * 81) K[j] ∧ LS W gx 0 mn) := fun W hW => ⟨(hRw.below hW hrw1).cell 1, hLS _ (bt hVw hW) j _ (List.getElem?_eq_getElem hjl), (HX0.out _ (bt bX hW)).ro⟩
            have hC1 := fun W => rahead_any mn K[j] W
            have hCx := HCmp.out K[j]
            have HGo : Hid (0 < cmpN K[j] mn → ∀ x ∈ K.drop j, 0 < cmpN x mn) := fun hc x hx => by
              rw [List.drop_eq_getElem_cons hjl] at hx
              rcases List.mem_cons.1 hx with rfl | hx
              · exact hc
              · exact hhi x hx
            have HSt : Hid (¬ 0 < cmpN K[j] mn → InsP K mn (j + 1)) := fun hc => ⟨hk, hhi, fun x _ hx => by
              rw [Nat.add_sub_cancel, List.getElem?_eq_getElem hjl] at hx
              cases hx
              exact hc⟩
            clear hLS L2 hhi
            generalize K[j] = x at *
            rw [hCx] at hC1
            clear hCx
            generalize cmpN x mn = cn at *
            have hw64 : wrap64 (((j + 1 : Nat) : Int) - 1) = (j : Int) := by unfold wrap64; omega
            have hz0 : (0 : Int) < ((j + 1 : Nat) : Int) := by omega
            have hji : (j : Int) < (K.length : Int) := by omega
            have HM2 : Hid (((j : Int)).toNat < (((j + 1 : Nat) : Int)).toNat) := by show _ < _; omega
            have HJ : Hid (j ≤ K.length) := by show _ ≤ _; omega
            obtain ⟨z, hz⟩ : ∃ z : Int, ((j + 1 : Nat) : Int) = z := ⟨_, rfl⟩
            have HZk : Hid (z = ((j + 1 : Nat) : Int)) := hz.symm
            rw [hz] at hw64 hz0 HM2 ⊢
            have hwi : IntKind.i64.wrap (z - 1) = (j : Int) := by have q := hw64; unfold wrap64 at q; exact (IntKind.wrap_i64 _).trans q
            clear hz
            go_upto_region 11 with fail
            by_cases hq0 : 0 < cn
            · have hcn := HGo.out hq0
              rw [decide_eq_true hq0] at hC1
              clear HGo HSt hSl hq0
              refine wp_region_noPanic ?_
              refine wp_region_held_drew (S := fun W => Below wr.heap.size wr W) (by kernel_rfl) ((Below.refl _ _).drew) (fun hHeld => ?_)
              refine take_lit (i := 0) (v := ?_) rfl (by kernel_rfl) (by kernel_rfl) (by kernel_rfl) (fun _ _ _ h => h) (Or.inl ⟨by rfl, ?_⟩) (by assumption) ?_
              rotate_left
              · (intro w hSw; (try dsimp only at hSw); go_simp <;> with_reducible rfl)
              try simp only [Act.put, List.setIfInBounds_toArray, List.set_cons_zero, List.set_cons_succ]
              refine take_lit (i := 1) (v := ?_) rfl (by kernel_rfl) (by kernel_rfl) (by kernel_rfl) (fun _ _ _ h => h) (Or.inl ⟨by rfl, ?_⟩) (by assumption) ?_
              rotate_left
              · (intro w hSw; (try dsimp only at hSw); go_simp <;> with_reducible rfl)
              try simp only [Act.put, List.setIfInBounds_toArray, List.set_cons_zero, List.set_cons_succ]
              refine take_lit (i := 2) (v := ?_) rfl (by kernel_rfl) (by kernel_rfl) (by kernel_rfl) (fun _ _ _ h => h) (Or.inl ⟨by rfl, ?_⟩) (by assumption) ?_
              rotate_left
              · (intro w hSw; (try dsimp only at hSw); go_simp <;> with_reducible rfl)
              try simp only [Act.put, List.setIfInBounds_toArray, List.set_cons_zero, List.set_cons_succ]
              refine take_lit (i := 3) rfl (by kernel_rfl) (by kernel_rfl) (by kernel_rfl) (fun _ _ _ h => h) (yS mn (fun w h => (HXx.out _ h).2.2) (by rfl) rfl rfl) (by assumption) ?_
              try simp only [Act.put, List.setIfInBounds_toArray, List.set_cons_zero, List.set_cons_succ]
              refine take_lit (i := 4) (v := ?_) rfl (by kernel_rfl) (by kernel_rfl) (by kernel_rfl) (fun _ _ _ h => h) (Or.inl ⟨by rfl, ?_⟩) (by assumption) ?_
              rotate_left
              · (intro w hSw; (try dsimp only at hSw); go_simp <;> with_reducible rfl)
              try simp only [Act.put, List.setIfInBounds_toArray, List.set_cons_zero, List.set_cons_succ]
              refine take_lit (i := 5) (v := ?_) rfl (by kernel_rfl) (by kernel_rfl) (by kernel_rfl) (fun _ _ _ h => h) (Or.inl ⟨by rfl, ?_⟩) (by assumption) ?_
              rotate_left
              · (intro w hSw; (try dsimp only at hSw); go_simp <;> with_reducible rfl)
              try simp only [Act.put, List.setIfInBounds_toArray, List.set_cons_zero, List.set_cons_succ]
              refine take_lit (i := 6) (v := ?_) rfl (by kernel_rfl) (by kernel_rfl) (by kernel_rfl) (fun _ _ _ h => h) (Or.inl ⟨by rfl, ?_⟩) (by assumption) ?_
              rotate_left
              · (intro w hSw; (try dsimp only at hSw); go_simp <;> with_reducible rfl)
              try simp only [Act.put, List.setIfInBounds_toArray, List.set_cons_zero, List.set_cons_succ]
              refine take_lit (i := 7) (v := ?_) rfl (by kernel_rfl) (by kernel_rfl) (by kernel_rfl) (fun _ _ _ h => h) (Or.inl ⟨by rfl, ?_⟩) (by assumption) ?_
              rotate_left
              · (intro w hSw; (try dsimp only at hSw); have z := (HXx.out _ hSw).1; go_simp <;> with_reducible rfl)
              try simp only [Act.put, List.setIfInBounds_toArray, List.set_cons_zero, List.set_cons_succ]
              refine take_lit (i := 8) (v := ?_) rfl (by kernel_rfl) (by kernel_rfl) (by kernel_rfl) (fun _ _ _ h => h) (Or.inl ⟨by rfl, ?_⟩) (by assumption) ?_
              rotate_left
              · (intro w hSw; (try dsimp only at hSw); go_simp <;> with_reducible rfl)
              try simp only [Act.put, List.setIfInBounds_toArray, List.set_cons_zero, List.set_cons_succ]
              refine take_lit (i := 9) (v := ?_) rfl (by kernel_rfl) (by kernel_rfl) (by kernel_rfl) (fun _ _ _ h => h) (Or.inl ⟨by rfl, ?_⟩) (by assumption) ?_
              rotate_left
              · (intro w hSw; (try dsimp only at hSw); go_simp <;> with_reducible rfl)
              try simp only [Act.put, List.setIfInBounds_toArray, List.set_cons_zero, List.set_cons_succ]
              refine take_lit (i := 10) (v := ?_) rfl (by kernel_rfl) (by kernel_rfl) (by kernel_rfl) (fun _ _ _ h => h) (Or.inl ⟨by rfl, ?_⟩) (by assumption) ?_
              rotate_left
              · (intro w hSw; (try dsimp only at hSw); go_simp <;> with_reducible rfl)
              try simp only [Act.put, List.setIfInBounds_toArray, List.set_cons_zero, List.set_cons_succ]
              refine take_lit (i := 11) rfl (by kernel_rfl) (by kernel_rfl) (by kernel_rfl) (fun _ _ _ h => h) (yS x (fun w h => (HXx.out _ h).2.1) (by rfl) rfl rfl) (by assumption) ?_
              try simp only [Act.put, List.setIfInBounds_toArray, List.set_cons_zero, List.set_cons_succ]
              refine wpAnyH_ready (rs := [12]) (by kernel_rfl) (by simp) ?_
              refine cons_lit rfl (fun K hK => ?_) ?_
              · go_simp
                refine (hC1 _).mono ?_
                rintro e w5 ⟨rfl, b5⟩
                refine hK.out _ _ ?_ (fun hHeld => ?_)
                · exact bt hHeld b5
                clear hK K
                try simp only [Act.put, List.setIfInBounds_toArray, List.set_cons_zero, List.set_cons_succ]
                refine take_lit (i := 13) (v := ?_) rfl (by kernel_rfl) (by kernel_rfl) (by kernel_rfl) (fun _ _ _ h => h) (Or.inl ⟨by rfl, ?_⟩) (by assumption) ?_
                rotate_left
                · (intro w hSw; (try dsimp only at hSw); go_simp <;> with_reducible rfl)
                try simp only [Act.put, List.setIfInBounds_toArray, List.set_cons_zero, List.set_cons_succ]
                refine wpAnyH_done (by kernel_rfl) ?_ _
                refine NoPanic.normal ?_
                have b6 := bt bX hHeld
                clear hHeld hC1 HXx hRw hVw
                go_wp2_with fail
                go_roundw
                case rel => exact ⟨j, HJ.out, by first | exact congrArg (Value.int .i64) hw64 | rfl, hcn, b6⟩
                case measure => first | (rw [hw64]; simp only [intOf]; exact HM2.out) | (simp only [intOf]; exact HM2.out)
              exact AllReadyH.nil
            · have hIns := HSt.out hq0
              rw [decide_eq_false hq0] at hC1
              clear HGo HSt hq0
              refine wp_region_noPanic ?_
              refine wp_region_held_drew (S := fun W => Below wr.heap.size wr W) (by kernel_rfl) ((Below.refl _ _).drew) (fun hHeld => ?_)
              refine take_lit (i := 0) (v := ?_) rfl (by kernel_rfl) (by kernel_rfl) (by kernel_rfl) (fun _ _ _ h => h) (Or.inl ⟨by rfl, ?_⟩) (by assumption) ?_
              rotate_left
              · (intro w hSw; (try dsimp only at hSw); go_simp <;> with_reducible rfl)
              try simp only [Act.put, List.setIfInBounds_toArray, List.set_cons_zero, List.set_cons_succ]
              refine take_lit (i := 1) (v := ?_) rfl (by kernel_rfl) (by kernel_rfl) (by kernel_rfl) (fun _ _ _ h => h) (Or.inl ⟨by rfl, ?_⟩) (by assumption) ?_
              rotate_left
              · (intro w hSw; (try dsimp only at hSw); go_simp <;> with_reducible rfl)
              try simp only [Act.put, List.setIfInBounds_toArray, List.set_cons_zero, List.set_cons_succ]
              refine take_lit (i := 2) (v := ?_) rfl (by kernel_rfl) (by kernel_rfl) (by kernel_rfl) (fun _ _ _ h => h) (Or.inl ⟨by rfl, ?_⟩) (by assumption) ?_
              rotate_left
              · (intro w hSw; (try dsimp only at hSw); go_simp <;> with_reducible rfl)
              try simp only [Act.put, List.setIfInBounds_toArray, List.set_cons_zero, List.set_cons_succ]
              refine take_lit (i := 3) rfl (by kernel_rfl) (by kernel_rfl) (by kernel_rfl) (fun _ _ _ h => h) (yS mn (fun w h => (HXx.out _ h).2.2) (by rfl) rfl rfl) (by assumption) ?_
              try simp only [Act.put, List.setIfInBounds_toArray, List.set_cons_zero, List.set_cons_succ]
              refine take_lit (i := 4) (v := ?_) rfl (by kernel_rfl) (by kernel_rfl) (by kernel_rfl) (fun _ _ _ h => h) (Or.inl ⟨by rfl, ?_⟩) (by assumption) ?_
              rotate_left
              · (intro w hSw; (try dsimp only at hSw); go_simp <;> with_reducible rfl)
              try simp only [Act.put, List.setIfInBounds_toArray, List.set_cons_zero, List.set_cons_succ]
              refine take_lit (i := 5) (v := ?_) rfl (by kernel_rfl) (by kernel_rfl) (by kernel_rfl) (fun _ _ _ h => h) (Or.inl ⟨by rfl, ?_⟩) (by assumption) ?_
              rotate_left
              · (intro w hSw; (try dsimp only at hSw); go_simp <;> with_reducible rfl)
              try simp only [Act.put, List.setIfInBounds_toArray, List.set_cons_zero, List.set_cons_succ]
              refine take_lit (i := 6) (v := ?_) rfl (by kernel_rfl) (by kernel_rfl) (by kernel_rfl) (fun _ _ _ h => h) (Or.inl ⟨by rfl, ?_⟩) (by assumption) ?_
              rotate_left
              · (intro w hSw; (try dsimp only at hSw); go_simp <;> with_reducible rfl)
              try simp only [Act.put, List.setIfInBounds_toArray, List.set_cons_zero, List.set_cons_succ]
              refine take_lit (i := 7) (v := ?_) rfl (by kernel_rfl) (by kernel_rfl) (by kernel_rfl) (fun _ _ _ h => h) (Or.inl ⟨by rfl, ?_⟩) (by assumption) ?_
              rotate_left
              · (intro w hSw; (try dsimp only at hSw); have z := (HXx.out _ hSw).1; go_simp <;> with_reducible rfl)
              try simp only [Act.put, List.setIfInBounds_toArray, List.set_cons_zero, List.set_cons_succ]
              refine take_lit (i := 8) (v := ?_) rfl (by kernel_rfl) (by kernel_rfl) (by kernel_rfl) (fun _ _ _ h => h) (Or.inl ⟨by rfl, ?_⟩) (by assumption) ?_
              rotate_left
              · (intro w hSw; (try dsimp only at hSw); go_simp <;> with_reducible rfl)
              try simp only [Act.put, List.setIfInBounds_toArray, List.set_cons_zero, List.set_cons_succ]
              refine take_lit (i := 9) (v := ?_) rfl (by kernel_rfl) (by kernel_rfl) (by kernel_rfl) (fun _ _ _ h => h) (Or.inl ⟨by rfl, ?_⟩) (by assumption) ?_
              rotate_left
              · (intro w hSw; (try dsimp only at hSw); go_simp <;> with_reducible rfl)
              try simp only [Act.put, List.setIfInBounds_toArray, List.set_cons_zero, List.set_cons_succ]
              refine take_lit (i := 10) (v := ?_) rfl (by kernel_rfl) (by kernel_rfl) (by kernel_rfl) (fun _ _ _ h => h) (Or.inl ⟨by rfl, ?_⟩) (by assumption) ?_
              rotate_left
              · (intro w hSw; (try dsimp only at hSw); go_simp <;> with_reducible rfl)
              try simp only [Act.put, List.setIfInBounds_toArray, List.set_cons_zero, List.set_cons_succ]
              refine take_lit (i := 11) rfl (by kernel_rfl) (by kernel_rfl) (by kernel_rfl) (fun _ _ _ h => h) (yS x (fun w h => (HXx.out _ h).2.1) (by rfl) rfl rfl) (by assumption) ?_
              try simp only [Act.put, List.setIfInBounds_toArray, List.set_cons_zero, List.set_cons_succ]
              refine wpAnyH_ready (rs := [12]) (by kernel_rfl) (by simp) ?_
              refine cons_lit rfl (fun K hK => ?_) ?_
              · go_simp
                refine (hC1 _).mono ?_
                rintro e w5 ⟨rfl, b5⟩
                refine hK.out _ _ ?_ (fun hHeld => ?_)
                · exact bt hHeld b5
                clear hK K
                try simp only [Act.put, List.setIfInBounds_toArray, List.set_cons_zero, List.set_cons_succ]
                refine take_lit (i := 13) (v := ?_) rfl (by kernel_rfl) (by kernel_rfl) (by kernel_rfl) (fun _ _ _ h => h) (Or.inl ⟨by rfl, ?_⟩) (by assumption) ?_
                rotate_left
                · (intro w hSw; (try dsimp only at hSw); go_simp <;> with_reducible rfl)
                try simp only [Act.put, List.setIfInBounds_toArray, List.set_cons_zero, List.set_cons_succ]
                refine wpAnyH_done (by kernel_rfl) ?_ _
                refine NoPanic.normal ?_
                refine name_world (R := fun W => Exit.then _ _ _ _ W) (P := fun W => Below wr.heap.size wr W) _ hHeld ?_
                clear hHeld
                intro V hV
                have bV := bt bX hV
                have hVb : Below w.heap.size w V := bt hVw hV
                clear hRw hrw1 HXx hC1
                go_upto_region 13 with fail
                obtain ⟨s1, z1, s2, z2, S1, S2, A1, A2⟩ := hSl (j + 1) hIns.le
                have hX := HX0.out _ bV
                have hXl := hX.lt
                have hrow := HRow.out _ hVb
                have hrV : r < V.heap.size := hrow.lt
                replace S1 := S1 z HZk.out
                replace S2 := S2 z HZk.out
                replace A1 := A1 V hVb
                replace A2 := A2 V hVb
                have HIn : Hid (InsP K mn (j + 1)) := hIns
                clear hIns hSl
                refine wp_region_noPanic ?_
                refine wp_region_N (S := fun W => Below V.heap.size V W) 21 (by kernel_rfl) ((Below.refl _ _).drew) (fun hHeld => ?_)
                refine takeN_lit (i := 0) (v := ?_) (F := #[false, true, true, true, true, true, true, true, true, true, true, true, true, true, true, true, true, true, true, false, false, false]) rfl (by kernel_rfl) (by kernel_rfl) (by kernel_rfl) (by kernel_rfl) (fun _ _ _ h => h) (Or.inl ⟨by rfl, ?_⟩) (by assumption) ?_
                rotate_left
                · (intro w hSw; (try dsimp only at hSw); go_simp <;> with_reducible rfl)
                try simp only [Act.put, List.setIfInBounds_toArray, List.set_cons_zero, List.set_cons_succ]
                refine takeN_lit (i := 2) (v := ?_) (F := #[true, true, false, false, false, false, true, false, false, true, true, false, true, true, true, true, true, true, false, false, false, false]) rfl (by kernel_rfl) (by kernel_rfl) (by kernel_rfl) (by kernel_rfl) (fun _ _ _ h => h) (Or.inl ⟨by rfl, ?_⟩) (by assumption) ?_
                rotate_left
                · (intro w hSw; (try dsimp only at hSw); go_simp <;> with_reducible rfl)
                try simp only [Act.put, List.setIfInBounds_toArray, List.set_cons_zero, List.set_cons_succ]
                refine takeN_lit (i := 3) (v := ?_) (F := #[true, true, true, false, false, false, true, false, false, true, true, false, true, true, true, true, true, true, false, false, false, false]) rfl (by kernel_rfl) (by kernel_rfl) (by kernel_rfl) (by kernel_rfl) (fun _ _ _ h => h) (Or.inl ⟨by rfl, ?_⟩) (by assumption) ?_
                rotate_left
                · (intro w hSw; (try dsimp only at hSw); go_simp <;> with_reducible rfl)
                try simp only [Act.put, List.setIfInBounds_toArray, List.set_cons_zero, List.set_cons_succ]
                refine takeN_lit (i := 4) (v := ?_) (F := #[true, true, true, true, false, false, true, false, false, true, true, false, true, true, true, true, true, true, false, false, false, false]) rfl (by kernel_rfl) (by kernel_rfl) (by kernel_rfl) (by kernel_rfl) (fun _ _ _ h => h) (Or.inl ⟨by rfl, ?_⟩) (by assumption) ?_
                rotate_left
                · (intro w hSw; (try dsimp only at hSw); go_simp <;> with_reducible rfl)
                try simp only [Act.put, List.setIfInBounds_toArray, List.set_cons_zero, List.set_cons_succ]
                refine takeN_lit (i := 5) (v := ?_) (F := #[true, true, true, true, true, false, true, false, false, true, true, false, true, true, true, true, true, true, false, false, false, false]) rfl (by kernel_rfl) (by kernel_rfl) (by kernel_rfl) (by kernel_rfl) (fun _ _ _ h => h) (Or.inl ⟨by rfl, ?_⟩) (by assumption) ?_
                rotate_left
                · (intro w hSw; (try dsimp only at hSw); have z := (hrow.below hSw hrV).cell 1; go_simp <;> with_reducible rfl)
                try simp only [Act.put, List.setIfInBounds_toArray, List.set_cons_zero, List.set_cons_succ]
                refine takeN_lit (i := 6) (v := ?_) (F := #[true, true, true, true, true, true, false, false, false, true, true, false, true, true, true, true, true, true, false, false, false, false]) rfl (by kernel_rfl) (by kernel_rfl) (by kernel_rfl) (by kernel_rfl) (fun _ _ _ h => h) (Or.inl ⟨by rfl, ?_⟩) (by assumption) ?_
                rotate_left
                · (intro w hSw; (try dsimp only at hSw); go_simp <;> with_reducible rfl)
                try simp only [Act.put, List.setIfInBounds_toArray, List.set_cons_zero, List.set_cons_succ]
                refine takeN_lit (i := 7) (v := ?_) (F := #[true, true, true, true, true, true, true, false, false, true, true, false, true, true, true, true, true, true, false, false, false, false]) rfl (by kernel_rfl) (by kernel_rfl) (by kernel_rfl) (by kernel_rfl) (fun _ _ _ h => h) (Or.inl ⟨by rfl, ?_⟩) (by assumption) ?_
                rotate_left
                · (intro w hSw; (try dsimp only at hSw); have z := S1 w; go_simp <;> with_reducible rfl)
                try simp only [Act.put, List.setIfInBounds_toArray, List.set_cons_zero, List.set_cons_succ]
                refine takeN_lit (i := 9) (F := #[true, true, true, true, true, true, true, true, true, false, false, false, true, true, true, true, true, true, false, false, false, false]) rfl (by kernel_rfl) (by kernel_rfl) (by kernel_rfl) (by kernel_rfl) (fun _ _ _ h => h) (yS mn (fun w h => (hX.below h hXl).ro) (by rfl) rfl rfl) (by assumption) ?_
                try simp only [Act.put, List.setIfInBounds_toArray, List.set_cons_zero, List.set_cons_succ]
                refine takeN_lit (i := 12) (v := ?_) (F := #[true, true, true, true, true, true, true, true, true, true, true, true, false, false, false, false, true, false, false, false, false, false]) rfl (by kernel_rfl) (by kernel_rfl) (by kernel_rfl) (by kernel_rfl) (fun _ _ _ h => h) (Or.inl ⟨by rfl, ?_⟩) (by assumption) ?_
                rotate_left
                · (intro w hSw; (try dsimp only at hSw); go_simp <;> with_reducible rfl)
                try simp only [Act.put, List.setIfInBounds_toArray, List.set_cons_zero, List.set_cons_succ]
                refine takeN_lit (i := 13) (v := ?_) (F := #[true, true, true, true, true, true, true, true, true, true, true, true, true, false, false, false, true, false, false, false, false, false]) rfl (by kernel_rfl) (by kernel_rfl) (by kernel_rfl) (by kernel_rfl) (fun _ _ _ h => h) (Or.inl ⟨by rfl, ?_⟩) (by assumption) ?_
                rotate_left
                · (intro w hSw; (try dsimp only at hSw); go_simp <;> with_reducible rfl)
                try simp only [Act.put, List.setIfInBounds_toArray, List.set_cons_zero, List.set_cons_succ]
                refine takeN_lit (i := 14) (v := ?_) (F := #[true, true, true, true, true, true, true, true, true, true, true, true, true, true, false, false, true, false, false, false, false, false]) rfl (by kernel_rfl) (by kernel_rfl) (by kernel_rfl) (by kernel_rfl) (fun _ _ _ h => h) (Or.inl ⟨by rfl, ?_⟩) (by assumption) ?_
                rotate_left
                · (intro w hSw; (try dsimp only at hSw); go_simp <;> with_reducible rfl)
                try simp only [Act.put, List.setIfInBounds_toArray, List.set_cons_zero, List.set_cons_succ]
                refine takeN_lit (i := 15) (v := ?_) (F := #[true, true, true, true, true, true, true, true, true, true, true, true, true, true, true, false, true, false, false, false, false, false]) rfl (by kernel_rfl) (by kernel_rfl) (by kernel_rfl) (by kernel_rfl) (fun _ _ _ h => h) (Or.inl ⟨by rfl, ?_⟩) (by assumption) ?_
                rotate_left
                · (intro w hSw; (try dsimp only at hSw); have z := (hrow.below hSw hrV).cell 1; go_simp <;> with_reducible rfl)
                try simp only [Act.put, List.setIfInBounds_toArray, List.set_cons_zero, List.set_cons_succ]
                refine takeN_lit (i := 16) (v := ?_) (F := #[true, true, true, true, true, true, true, true, true, true, true, true, true, true, true, true, false, false, false, false, false, false]) rfl (by kernel_rfl) (by kernel_rfl) (by kernel_rfl) (by kernel_rfl) (fun _ _ _ h => h) (Or.inl ⟨by rfl, ?_⟩) (by assumption) ?_
                rotate_left
                · (intro w hSw; (try dsimp only at hSw); go_simp <;> with_reducible rfl)
                try simp only [Act.put, List.setIfInBounds_toArray, List.set_cons_zero, List.set_cons_succ]
                refine takeN_lit (i := 17) (v := ?_) (F := #[true, true, true, true, true, true, true, true, true, true, true, true, true, true, true, true, true, false, false, false, false, false]) rfl (by kernel_rfl) (by kernel_rfl) (by kernel_rfl) (by kernel_rfl) (fun _ _ _ h => h) (Or.inl ⟨by rfl, ?_⟩) (by assumption) ?_
                rotate_left
                · (intro w hSw; (try dsimp only at hSw); have z := S2 w; go_simp <;> with_reducible rfl)
                try simp only [Act.put, List.setIfInBounds_toArray, List.set_cons_zero, List.set_cons_succ]
                refine wpAnyN_ready (rs := [1, 10]) (by kernel_rfl) (by simp) ?_
                refine consN_lit rfl (fun K hK => ?_) ?_
                · skip
                  refine sBsG (T := 28) (U := 41) [] [] (by rfl) rfl (fun w => bsN0 w) ?_
                  intro W1 r1 b1
                  have hB1 := hHeld.size
                  try (replace r14 := r14.below b1 r14.lt)
                  refine hK.out _ _ (Or.inr ?_) (fun hHeld => ?_)
                  · exact bt hHeld b1
                  replace hHeld := hHeld.resolve_left (by decide)
                  clear hK K
                  try simp only [Act.put, List.setIfInBounds_toArray, List.set_cons_zero, List.set_cons_succ]
                  refine wpAnyN_ready (rs := [8, 10]) (by kernel_rfl) (by simp) ?_
                  refine consN_lit rfl (fun K hK => ?_) ?_
                  · skip
                    obtain ⟨v8, W8, run8, o8, g8, e8⟩ := A1 _ hHeld 28 _ [] (own_zero r1 hB1) (by simp)
                    obtain ⟨a8, c8, rfl, _⟩ := Kd.own_at o8
                    refine sApp (.tmp 93) (.tmp 99) (by rfl) rfl rfl rfl run8 ?_
                    try (replace r14 := r14.keepO g8 (fun e => row_apart r1 r14 (by simpa [Value.ownBlock] using e)))
                    refine hK.out _ _ (Or.inr ?_) (fun hHeld => ?_)
                    · exact below_keepO hHeld g8 (fun g hg => own_ne_lt (own_zero r1 hB1) hg) hHeld.size
                    replace hHeld := hHeld.resolve_left (by decide)
                    clear hK K
                    try simp only [Act.put, List.setIfInBounds_toArray, List.set_cons_zero, List.set_cons_succ]
                    refine wpAnyN_ready (rs := [10]) (by kernel_rfl) (by simp) ?_
                    refine consN_lit rfl (fun K hK => ?_) ?_
                    · skip
                      refine sBsG (T := 28) (U := 41) [(0, .tmp 101)] (ocs mn) (by rfl) rfl (fun w => bsN1 _ w) ?_
                      intro W14 r14 b14
                      try (replace r1 := r1.below b14 r1.lt)
                      try (replace o8 := own_below o8 b14)
                      refine hK.out _ _ (Or.inr ?_) (fun hHeld => ?_)
                      · exact bt hHeld b14
                      replace hHeld := hHeld.resolve_left (by decide)
                      clear hK K
                      try simp only [Act.put, List.setIfInBounds_toArray, List.set_cons_zero, List.set_cons_succ]
                      refine wpAnyN_ready (rs := [11]) (by kernel_rfl) (by simp) ?_
                      refine consN_lit rfl (fun K hK => ?_) ?_
                      · skip
                        obtain ⟨v15, W15, run15, o15, g15, e15⟩ := app_one 28 o8 r14 (by simp <;> omega) hHeld.size
                        obtain ⟨a15, c15, rfl, _⟩ := Kd.own_at o15
                        refine sApp (.tmp 100) (.tmp 102) (by rfl) rfl rfl rfl run15 ?_
                        refine hK.out _ _ (Or.inr ?_) (fun hHeld => ?_)
                        · exact below_keepO hHeld g15 (fun g hg => own_ne_lt o8 hg) hHeld.size
                        replace hHeld := hHeld.resolve_left (by decide)
                        clear hK K
                        try simp only [Act.put, List.setIfInBounds_toArray, List.set_cons_zero, List.set_cons_succ]
                        refine wpAnyN_ready (rs := [18]) (by kernel_rfl) (by simp) ?_
                        refine consN_lit rfl (fun K hK => ?_) ?_
                        · skip
                          obtain ⟨v22, W22, run22, o22, g22, e22⟩ := A2 _ hHeld 28 _ _ o15 (by simp <;> omega)
                          obtain ⟨a22, c22, rfl, _⟩ := Kd.own_at o22
                          refine sApp (.tmp 103) (.tmp 109) (by rfl) rfl rfl rfl run22 ?_
                          refine hK.out _ _ (Or.inr ?_) (fun hHeld => ?_)
                          · exact below_keepO hHeld g22 (fun g hg => own_ne_lt o15 hg) hHeld.size
                          replace hHeld := hHeld.resolve_left (by decide)
                          clear hK K
                          try simp only [Act.put, List.setIfInBounds_toArray, List.set_cons_zero, List.set_cons_succ]
                          refine takeN_lit (i := 19) (v := ?_) (F := #[true, true, true, true, true, true, true, true, true, true, true, true, true, true, true, true, true, true, true, false, false, false]) rfl (by kernel_rfl) (by kernel_rfl) (by kernel_rfl) (by kernel_rfl) (fun _ _ _ h => h) (Or.inl ⟨by rfl, ?_⟩) (by assumption) ?_
                          rotate_left
                          · (intro w hSw; (try dsimp only at hSw); go_simp <;> with_reducible rfl)
                          try simp only [Act.put, List.setIfInBounds_toArray, List.set_cons_zero, List.set_cons_succ]
                          refine takeN_lit (i := 20) (v := ?_) (F := #[true, true, true, true, true, true, true, true, true, true, true, true, true, true, true, true, true, true, true, true, false, false]) rfl (by kernel_rfl) (by kernel_rfl) (by kernel_rfl) (by kernel_rfl) (fun _ _ _ h => h) (Or.inl ⟨by rfl, ?_⟩) (by assumption) ?_
                          rotate_left
                          · (intro w hSw; (try dsimp only at hSw); go_simp <;> with_reducible rfl)
                          try simp only [Act.put, List.setIfInBounds_toArray, List.set_cons_zero, List.set_cons_succ]
                          refine wpAnyN_ready (rs := [21]) (by kernel_rfl) (by simp) ?_
                          refine consN_lit rfl (fun K hK => ?_) ?_
                          · skip
                            refine sStSl (.tmp 112) (.tmp 110) (by rfl) rfl r 1 _ _ _ _ rfl rfl (hrow.below hHeld hrV) (by simp) ?_
                            intro W25 g25 r25
                            refine hK.out _ _ (Or.inl rfl) (fun _ => ?_)
                            clear hK K
                            try simp only [Act.put, List.setIfInBounds_toArray, List.set_cons_zero, List.set_cons_succ]
                            refine wpAnyN_done (by kernel_rfl) ?_ _
                            refine NoPanic.normal ?_
                            have HEnd : Hid (Rb W25 B r most (K.take ((j + 1)) ++ mn :: K.drop ((j + 1))) ∧ RTurn w W25 B r) := by
                              have e : ([] ++ K.take ((j + 1)) ++ [mn] ++ K.drop ((j + 1)) : List Ro) = K.take ((j + 1)) ++ mn :: K.drop ((j + 1)) := by simp
                              rw [e] at o22 r25
                              exact ⟨HFin.out V W25 ((j + 1)) HIn.out hVb _ _ o22 hHeld g25 r25, RTurn.pre (bt hVb hHeld) (RTurn.self g25)⟩
                            clear hHeld o22 r25 g25 o15 o8 r1 r14 hrow hX A1 A2 S1 S2
                            go_wp2_with fail
                            go_ret2
                            first | exact ⟨1, 0, _, rfl, HAns _ HIn.out, HEnd.out.1, HEnd.out.2⟩ | exact ⟨1, 0, rfl, _, HAns _ HIn.out, HEnd.out.1, HEnd.out.2⟩
                          exact AllReadyN.nil
                        exact AllReadyN.nil
                      exact AllReadyN.nil
                    exact AllReadyN.nil
                  refine consN_lit rfl (fun K hK => ?_) ?_
                  · skip
                    refine sBsG (T := 28) (U := 41) [(0, .tmp 101)] (ocs mn) (by rfl) rfl (fun w => bsN1 _ w) ?_
                    intro W14 r14 b14
                    try (replace r1 := r1.below b14 r1.lt)
                    try (replace o8 := own_below o8 b14)
                    refine hK.out _ _ (Or.inr ?_) (fun hHeld => ?_)
                    · exact bt hHeld b14
                    replace hHeld := hHeld.resolve_left (by decide)
                    clear hK K
                    try simp only [Act.put, List.setIfInBounds_toArray, List.set_cons_zero, List.set_cons_succ]
                    refine wpAnyN_ready (rs := [8]) (by kernel_rfl) (by simp) ?_
                    refine consN_lit rfl (fun K hK => ?_) ?_
                    · skip
                      obtain ⟨v8, W8, run8, o8, g8, e8⟩ := A1 _ hHeld 28 _ [] (own_zero r1 hB1) (by simp)
                      obtain ⟨a8, c8, rfl, _⟩ := Kd.own_at o8
                      refine sApp (.tmp 93) (.tmp 99) (by rfl) rfl rfl rfl run8 ?_
                      try (replace r14 := r14.keepO g8 (fun e => row_apart r1 r14 (by simpa [Value.ownBlock] using e)))
                      refine hK.out _ _ (Or.inr ?_) (fun hHeld => ?_)
                      · exact below_keepO hHeld g8 (fun g hg => own_ne_lt (own_zero r1 hB1) hg) hHeld.size
                      replace hHeld := hHeld.resolve_left (by decide)
                      clear hK K
                      try simp only [Act.put, List.setIfInBounds_toArray, List.set_cons_zero, List.set_cons_succ]
                      refine wpAnyN_ready (rs := [11]) (by kernel_rfl) (by simp) ?_
                      refine consN_lit rfl (fun K hK => ?_) ?_
                      · skip
                        obtain ⟨v15, W15, run15, o15, g15, e15⟩ := app_one 28 o8 r14 (by simp <;> omega) hHeld.size
                        obtain ⟨a15, c15, rfl, _⟩ := Kd.own_at o15
                        refine sApp (.tmp 100) (.tmp 102) (by rfl) rfl rfl rfl run15 ?_
                        refine hK.out _ _ (Or.inr ?_) (fun hHeld => ?_)
                        · exact below_keepO hHeld g15 (fun g hg => own_ne_lt o8 hg) hHeld.size
                        replace hHeld := hHeld.resolve_left (by decide)
                        clear hK K
                        try simp only [Act.put, List.setIfInBounds_toArray, List.set_cons_zero, List.set_cons_succ]
                        refine wpAnyN_ready (rs := [18]) (by kernel_rfl) (by simp) ?_
                        refine consN_lit rfl (fun K hK => ?_) ?_
                        · skip
                          obtain ⟨v22, W22, run22, o22, g22, e22⟩ := A2 _ hHeld 28 _ _ o15 (by simp <;> omega)
                          obtain ⟨a22, c22, rfl, _⟩ := Kd.own_at o22
                          refine sApp (.tmp 103) (.tmp 109) (by rfl) rfl rfl rfl run22 ?_
                          refine hK.out _ _ (Or.inr ?_) (fun hHeld => ?_)
                          · exact below_keepO hHeld g22 (fun g hg => own_ne_lt o15 hg) hHeld.size
                          replace hHeld := hHeld.resolve_left (by decide)
                          clear hK K
                          try simp only [Act.put, List.setIfInBounds_toArray, List.set_cons_zero, List.set_cons_succ]
                          refine takeN_lit (i := 19) (v := ?_) (F := #[true, true, true, true, true, true, true, true, true, true, true, true, true, true, true, true, true, true, true, false, false, false]) rfl (by kernel_rfl) (by kernel_rfl) (by kernel_rfl) (by kernel_rfl) (fun _ _ _ h => h) (Or.inl ⟨by rfl, ?_⟩) (by assumption) ?_
                          rotate_left
                          · (intro w hSw; (try dsimp only at hSw); go_simp <;> with_reducible rfl)
                          try simp only [Act.put, List.setIfInBounds_toArray, List.set_cons_zero, List.set_cons_succ]
                          refine takeN_lit (i := 20) (v := ?_) (F := #[true, true, true, true, true, true, true, true, true, true, true, true, true, true, true, true, true, true, true, true, false, false]) rfl (by kernel_rfl) (by kernel_rfl) (by kernel_rfl) (by kernel_rfl) (fun _ _ _ h => h) (Or.inl ⟨by rfl, ?_⟩) (by assumption) ?_
                          rotate_left
                          · (intro w hSw; (try dsimp only at hSw); go_simp <;> with_reducible rfl)
                          try simp only [Act.put, List.setIfInBounds_toArray, List.set_cons_zero, List.set_cons_succ]
                          refine wpAnyN_ready (rs := [21]) (by kernel_rfl) (by simp) ?_
                          refine consN_lit rfl (fun K hK => ?_) ?_
                          · skip
                            refine sStSl (.tmp 112) (.tmp 110) (by rfl) rfl r 1 _ _ _ _ rfl rfl (hrow.below hHeld hrV) (by simp) ?_
                            intro W25 g25 r25
                            refine hK.out _ _ (Or.inl rfl) (fun _ => ?_)
                            clear hK K
                            try simp only [Act.put, List.setIfInBounds_toArray, List.set_cons_zero, List.set_cons_succ]
                            refine wpAnyN_done (by kernel_rfl) ?_ _
                            refine NoPanic.normal ?_
                            have HEnd : Hid (Rb W25 B r most (K.take ((j + 1)) ++ mn :: K.drop ((j + 1))) ∧ RTurn w W25 B r) := by
                              have e : ([] ++ K.take ((j + 1)) ++ [mn] ++ K.drop ((j + 1)) : List Ro) = K.take ((j + 1)) ++ mn :: K.drop ((j + 1)) := by simp
                              rw [e] at o22 r25
                              exact ⟨HFin.out V W25 ((j + 1)) HIn.out hVb _ _ o22 hHeld g25 r25, RTurn.pre (bt hVb hHeld) (RTurn.self g25)⟩
                            clear hHeld o22 r25 g25 o15 o8 r1 r14 hrow hX A1 A2 S1 S2
                            go_wp2_with fail
                            go_ret2
                            first | exact ⟨1, 0, _, rfl, HAns _ HIn.out, HEnd.out.1, HEnd.out.2⟩ | exact ⟨1, 0, rfl, _, HAns _ HIn.out, HEnd.out.1, HEnd.out.2⟩
                          exact AllReadyN.nil
                        exact AllReadyN.nil
                      exact AllReadyN.nil
                    exact AllReadyN.nil
                  exact AllReadyN.nil
                refine consN_lit rfl (fun K hK => ?_) ?_
                · skip
                  refine sBsG (T := 28) (U := 41) [(0, .tmp 101)] (ocs mn) (by rfl) rfl (fun w => bsN1 _ w) ?_
                  intro W14 r14 b14
                  try (replace r1 := r1.below b14 r1.lt)
                  try (replace o8 := own_below o8 b14)
                  refine hK.out _ _ (Or.inr ?_) (fun hHeld => ?_)
                  · exact bt hHeld b14
                  replace hHeld := hHeld.resolve_left (by decide)
                  clear hK K
                  try simp only [Act.put, List.setIfInBounds_toArray, List.set_cons_zero, List.set_cons_succ]
                  refine wpAnyN_ready (rs := [1]) (by kernel_rfl) (by simp) ?_
                  refine consN_lit rfl (fun K hK => ?_) ?_
                  · skip
                    refine sBsG (T := 28) (U := 41) [] [] (by rfl) rfl (fun w => bsN0 w) ?_
                    intro W1 r1 b1
                    have hB1 := hHeld.size
                    try (replace r14 := r14.below b1 r14.lt)
                    refine hK.out _ _ (Or.inr ?_) (fun hHeld => ?_)
                    · exact bt hHeld b1
                    replace hHeld := hHeld.resolve_left (by decide)
                    clear hK K
                    try simp only [Act.put, List.setIfInBounds_toArray, List.set_cons_zero, List.set_cons_succ]
                    refine wpAnyN_ready (rs := [8]) (by kernel_rfl) (by simp) ?_
                    refine consN_lit rfl (fun K hK => ?_) ?_
                    · skip
                      obtain ⟨v8, W8, run8, o8, g8, e8⟩ := A1 _ hHeld 28 _ [] (own_zero r1 hB1) (by simp)
                      obtain ⟨a8, c8, rfl, _⟩ := Kd.own_at o8
                      refine sApp (.tmp 93) (.tmp 99) (by rfl) rfl rfl rfl run8 ?_
                      try (replace r14 := r14.keepO g8 (fun e => row_apart r1 r14 (by simpa [Value.ownBlock] using e)))
                      refine hK.out _ _ (Or.inr ?_) (fun hHeld => ?_)
                      · exact below_keepO hHeld g8 (fun g hg => own_ne_lt (own_zero r1 hB1) hg) hHeld.size
                      replace hHeld := hHeld.resolve_left (by decide)
                      clear hK K
                      try simp only [Act.put, List.setIfInBounds_toArray, List.set_cons_zero, List.set_cons_succ]
                      refine wpAnyN_ready (rs := [11]) (by kernel_rfl) (by simp) ?_
                      refine consN_lit rfl (fun K hK => ?_) ?_
                      · skip
                        obtain ⟨v15, W15, run15, o15, g15, e15⟩ := app_one 28 o8 r14 (by simp <;> omega) hHeld.size
                        obtain ⟨a15, c15, rfl, _⟩ := Kd.own_at o15
                        refine sApp (.tmp 100) (.tmp 102) (by rfl) rfl rfl rfl run15 ?_
                        refine hK.out _ _ (Or.inr ?_) (fun hHeld => ?_)
                        · exact below_keepO hHeld g15 (fun g hg => own_ne_lt o8 hg) hHeld.size
                        replace hHeld := hHeld.resolve_left (by decide)
                        clear hK K
                        try simp only [Act.put, List.setIfInBounds_toArray, List.set_cons_zero, List.set_cons_succ]
                        refine wpAnyN_ready (rs := [18]) (by kernel_rfl) (by simp) ?_
                        refine consN_lit rfl (fun K hK => ?_) ?_
                        · skip
                          obtain ⟨v22, W22, run22, o22, g22, e22⟩ := A2 _ hHeld 28 _ _ o15 (by simp <;> omega)
                          obtain ⟨a22, c22, rfl, _⟩ := Kd.own_at o22
                          refine sApp (.tmp 103) (.tmp 109) (by rfl) rfl rfl rfl run22 ?_
                          refine hK.out _ _ (Or.inr ?_) (fun hHeld => ?_)
                          · exact below_keepO hHeld g22 (fun g hg => own_ne_lt o15 hg) hHeld.size
                          replace hHeld := hHeld.resolve_left (by decide)
                          clear hK K
                          try simp only [Act.put, List.setIfInBounds_toArray, List.set_cons_zero, List.set_cons_succ]
                          refine takeN_lit (i := 19) (v := ?_) (F := #[true, true, true, true, true, true, true, true, true, true, true, true, true, true, true, true, true, true, true, false, false, false]) rfl (by kernel_rfl) (by kernel_rfl) (by kernel_rfl) (by kernel_rfl) (fun _ _ _ h => h) (Or.inl ⟨by rfl, ?_⟩) (by assumption) ?_
                          rotate_left
                          · (intro w hSw; (try dsimp only at hSw); go_simp <;> with_reducible rfl)
                          try simp only [Act.put, List.setIfInBounds_toArray, List.set_cons_zero, List.set_cons_succ]
                          refine takeN_lit (i := 20) (v := ?_) (F := #[true, true, true, true, true, true, true, true, true, true, true, true, true, true, true, true, true, true, true, true, false, false]) rfl (by kernel_rfl) (by kernel_rfl) (by kernel_rfl) (by kernel_rfl) (fun _ _ _ h => h) (Or.inl ⟨by rfl, ?_⟩) (by assumption) ?_
                          rotate_left
                          · (intro w hSw; (try dsimp only at hSw); go_simp <;> with_reducible rfl)
                          try simp only [Act.put, List.setIfInBounds_toArray, List.set_cons_zero, List.set_cons_succ]
                          refine wpAnyN_ready (rs := [21]) (by kernel_rfl) (by simp) ?_
                          refine consN_lit rfl (fun K hK => ?_) ?_
                          · skip
                            refine sStSl (.tmp 112) (.tmp 110) (by rfl) rfl r 1 _ _ _ _ rfl rfl (hrow.below hHeld hrV) (by simp) ?_
                            intro W25 g25 r25
                            refine hK.out _ _ (Or.inl rfl) (fun _ => ?_)
                            clear hK K
                            try simp only [Act.put, List.setIfInBounds_toArray, List.set_cons_zero, List.set_cons_succ]
                            refine wpAnyN_done (by kernel_rfl) ?_ _
                            refine NoPanic.normal ?_
                            have HEnd : Hid (Rb W25 B r most (K.take ((j + 1)) ++ mn :: K.drop ((j + 1))) ∧ RTurn w W25 B r) := by
                              have e : ([] ++ K.take ((j + 1)) ++ [mn] ++ K.drop ((j + 1)) : List Ro) = K.take ((j + 1)) ++ mn :: K.drop ((j + 1)) := by simp
                              rw [e] at o22 r25
                              exact ⟨HFin.out V W25 ((j + 1)) HIn.out hVb _ _ o22 hHeld g25 r25, RTurn.pre (bt hVb hHeld) (RTurn.self g25)⟩
                            clear hHeld o22 r25 g25 o15 o8 r1 r14 hrow hX A1 A2 S1 S2
                            go_wp2_with fail
                            go_ret2
                            first | exact ⟨1, 0, _, rfl, HAns _ HIn.out, HEnd.out.1, HEnd.out.2⟩ | exact ⟨1, 0, rfl, _, HAns _ HIn.out, HEnd.out.1, HEnd.out.2⟩
                          exact AllReadyN.nil
                        exact AllReadyN.nil
                      exact AllReadyN.nil
                    exact AllReadyN.nil
                  exact AllReadyN.nil
                exact AllReadyN.nil
              exact AllReadyH.nil
  · rw [e1] at hFi
    have HG : Hid (K[k]? = some old ∧ getN K n.k = some old) := ⟨e2, e3⟩
    have hkl : k < K.length := (List.getElem?_eq_some_iff.1 e2).1
    have hki : (k : Int) < (K.length : Int) := by omega
    have hk0 : (0 : Int) ≤ (k : Int) := by omega
    have ok := HH.out.ok old (List.mem_of_getElem? e2)
    have HS : Hid (∀ W, Below w.heap.size w W → ∃ g A Z c, Row W r 30 [.int .i64 most, .slice (some ⟨g, 0, none⟩) K.length c] ∧ Row W g 41 (A ++ (ocs old ++ Z)) ∧ A.length = k * 81 ∧ B ≤ g ∧ g ≠ r ∧ ∀ W', W.grownBy W' (some g) → Row W' g 41 (A ++ (ocs (retold old now n) ++ Z)) → Rb W' B r most (K.set k (retold old now n))) := fun W hW => Rb.set2 (HH.out.below hW) e2 (retold_ok ok hf HDb.out.1 HDb.out.2 HT01.out.1 HT01.out.2)
    have HOd : Hid (1 ≤ old.d ∧ old.d ≤ 2147483648) := ⟨ok.d0, ok.d1⟩
    have HGn : Hid (∃ gg, ad = some ⟨gg, 0, none⟩ ∧ gg < w.heap.size) := by
      obtain ⟨gg, e, hLS⟩ := L2 (by intro e; rw [e] at hkl; simp at hkl)
      exact ⟨gg, e, block_lt_of_cell (hLS w (Below.refl _ _) k old e2).i_⟩
    clear e1 e2 e3 hkl ok hSl L2 hmn hf
    go_upto_region 15 with (first
      | (go_at_call 16; refine hFi.mono ?_; rintro e w1 ⟨rfl, b1⟩)
      | ((with_reducible refine ldA (.tmp 26) ?_ ?_ w.heap.size 35 n.a ?_ ?_ ?_); (focus rfl); (focus rfl); (focus (repeat (first | with_reducible refine ev_ne ?_ rfl | with_reducible refine ev_no ?_ | (with_reducible refine ev_eq (n := 173) ?_ rfl; repeat (first | with_reducible refine sz_put ?_ | with_reducible refine sz_no ?_ | rfl)) | rfl))); (focus exact LS.a rX.ro))
      | ((with_reducible refine ldQ (.tmp 22) ?_ ?_ w.heap.size 0 n.p ?_ ?_ ?_); (focus rfl); (focus rfl); (focus (repeat (first | with_reducible refine ev_ne ?_ rfl | with_reducible refine ev_no ?_ | (with_reducible refine ev_eq (n := 173) ?_ rfl; repeat (first | with_reducible refine sz_put ?_ | with_reducible refine sz_no ?_ | rfl)) | rfl))); (focus exact LS.q rX.ro)))
    obtain ⟨g, A, Z, cc, hRr, hr, hA, hBg, hne, hfin⟩ := HS.out _ (bt hB b1)
    have hg1 := hr.lt
    have hr1 := hRr.lt
    have hgn : w.heap.size ≠ g := by
      obtain ⟨gg, e, hlt⟩ := HGn.out
      have e3 := (HRow.out _ (bt hB b1)).cell 1
      rw [hRr.cell 1, e] at e3
      simp at e3
      omega
    have c1 := hRr.cell 1
    clear HS hFi hd hd2 c79 c34
    go_upto_region 16 with fail
    have HS2 : Hid (∀ W, Below w1.heap.size w1 W → LS W g (k * 81) old ∧ LS W w.heap.size 0 n) := fun W hW => ⟨(hr.midS hA).below hW hg1, (HX.out _ (bt b1 hW)).ro⟩
    have hEI := fun W => run_eqlI old.id n.id W
    have gEI := fun op x y W => guardI op x y old.id n.id W
    have HSb : Hid (stayB old n f = ((old.s && !f) && decide (old.id.l = n.id.l))) := rfl
    generalize decide (old.id.l = n.id.l) = b3 at *
    cases hos : old.s with
    | false =>
      have HS3 : Hid (∀ W, Below w1.heap.size w1 W → W.cell? ⟨g, k * 81 + 80, none⟩ = some (.bool false)) := fun W hW => by have := (HS2.out W hW).1.s; rwa [hos] at this
      have HSt : stayB old n f = false := by rw [HSb.out, hos]; rfl
      refine wp_region_noPanic ?_
      refine wp_region_held_drew (S := fun W => Below w1.heap.size w1 W) (by kernel_rfl) ((Below.refl _ _).drew) (fun hHeld => ?_)
      refine take_lit (i := 0) (v := ?_) rfl (by kernel_rfl) (by kernel_rfl) (by kernel_rfl) (fun _ _ _ h => h) (Or.inl ⟨by rfl, ?_⟩) (by assumption) ?_
      rotate_left
      · (intro w hSw; (try dsimp only at hSw); go_simp <;> with_reducible rfl)
      try simp only [Act.put, List.setIfInBounds_toArray, List.set_cons_zero, List.set_cons_succ]
      refine take_lit (i := 1) (v := ?_) rfl (by kernel_rfl) (by kernel_rfl) (by kernel_rfl) (fun _ _ _ h => h) (Or.inl ⟨by rfl, ?_⟩) (by assumption) ?_
      rotate_left
      · (intro w hSw; (try dsimp only at hSw); go_simp <;> with_reducible rfl)
      try simp only [Act.put, List.setIfInBounds_toArray, List.set_cons_zero, List.set_cons_succ]
      refine take_lit (i := 2) (v := ?_) rfl (by kernel_rfl) (by kernel_rfl) (by kernel_rfl) (fun _ _ _ h => h) (Or.inl ⟨by rfl, ?_⟩) (by assumption) ?_
      rotate_left
      · (intro w hSw; (try dsimp only at hSw); go_simp <;> with_reducible rfl)
      try simp only [Act.put, List.setIfInBounds_toArray, List.set_cons_zero, List.set_cons_succ]
      refine take_lit (i := 3) (v := ?_) rfl (by kernel_rfl) (by kernel_rfl) (by kernel_rfl) (fun _ _ _ h => h) (Or.inl ⟨by rfl, ?_⟩) (by assumption) ?_
      rotate_left
      · (intro w hSw; (try dsimp only at hSw); have z := HS3.out _ hSw; go_simp <;> with_reducible rfl)
      try simp only [Act.put, List.setIfInBounds_toArray, List.set_cons_zero, List.set_cons_succ]
      refine take_lit (i := 4) (v := ?_) rfl (by kernel_rfl) (by kernel_rfl) (by kernel_rfl) (fun _ _ _ h => h) (Or.inl ⟨by rfl, ?_⟩) (by assumption) ?_
      rotate_left
      · (intro w hSw; (try dsimp only at hSw); go_simp <;> with_reducible rfl)
      try simp only [Act.put, List.setIfInBounds_toArray, List.set_cons_zero, List.set_cons_succ]
      refine take_lit (i := 5) rfl (by kernel_rfl) (by kernel_rfl) (by kernel_rfl) (fun _ _ _ h => h) (Or.inr ⟨by rfl, rfl⟩) (by assumption) ?_
      try simp only [Act.put, List.setIfInBounds_toArray, List.set_cons_zero, List.set_cons_succ]
      refine take_lit (i := 6) rfl (by kernel_rfl) (by kernel_rfl) (by kernel_rfl) (fun _ _ _ h => h) (Or.inr ⟨by rfl, rfl⟩) (by assumption) ?_
      try simp only [Act.put, List.setIfInBounds_toArray, List.set_cons_zero, List.set_cons_succ]
      refine take_lit (i := 7) (v := ?_) rfl (by kernel_rfl) (by kernel_rfl) (by kernel_rfl) (fun _ _ _ h => h) (Or.inl ⟨by rfl, ?_⟩) (by assumption) ?_
      rotate_left
      · (intro w hSw; (try dsimp only at hSw); go_simp <;> with_reducible rfl)
      try simp only [Act.put, List.setIfInBounds_toArray, List.set_cons_zero, List.set_cons_succ]
      refine take_lit (i := 8) (v := ?_) rfl (by kernel_rfl) (by kernel_rfl) (by kernel_rfl) (fun _ _ _ h => h) (Or.inl ⟨by rfl, ?_⟩) (by assumption) ?_
      rotate_left
      · (intro w hSw; (try dsimp only at hSw); go_simp <;> with_reducible rfl)
      try simp only [Act.put, List.setIfInBounds_toArray, List.set_cons_zero, List.set_cons_succ]
      refine take_lit (i := 9) rfl (by kernel_rfl) (by kernel_rfl) (by kernel_rfl) (fun _ _ _ h => h) (Or.inr ⟨by rfl, rfl⟩) (by assumption) ?_
      try simp only [Act.put, List.setIfInBounds_toArray, List.set_cons_zero, List.set_cons_succ]
      refine take_lit (i := 10) rfl (by kernel_rfl) (by kernel_rfl) (by kernel_rfl) (fun _ _ _ h => h) (Or.inr ⟨by rfl, rfl⟩) (by assumption) ?_
      try simp only [Act.put, List.setIfInBounds_toArray, List.set_cons_zero, List.set_cons_succ]
      refine take_lit (i := 11) rfl (by kernel_rfl) (by kernel_rfl) (by kernel_rfl) (fun _ _ _ h => h) (Or.inr ⟨by rfl, rfl⟩) (by assumption) ?_
      try simp only [Act.put, List.setIfInBounds_toArray, List.set_cons_zero, List.set_cons_succ]
      refine take_lit (i := 12) rfl (by kernel_rfl) (by kernel_rfl) (by kernel_rfl) (fun _ _ _ h => h) (Or.inr ⟨by rfl, rfl⟩) (by assumption) ?_
      try simp only [Act.put, List.setIfInBounds_toArray, List.set_cons_zero, List.set_cons_succ]
      refine take_lit (i := 13) rfl (by kernel_rfl) (by kernel_rfl) (by kernel_rfl) (fun _ _ _ h => h) (Or.inr ⟨by rfl, rfl⟩) (by assumption) ?_
      try simp only [Act.put, List.setIfInBounds_toArray, List.set_cons_zero, List.set_cons_succ]
      refine take_lit (i := 14) rfl (by kernel_rfl) (by kernel_rfl) (by kernel_rfl) (fun _ _ _ h => h) (Or.inr ⟨by rfl, rfl⟩) (by assumption) ?_
      try simp only [Act.put, List.setIfInBounds_toArray, List.set_cons_zero, List.set_cons_succ]
      refine take_lit (i := 15) rfl (by kernel_rfl) (by kernel_rfl) (by kernel_rfl) (fun _ _ _ h => h) (Or.inr ⟨by rfl, rfl⟩) (by assumption) ?_
      try simp only [Act.put, List.setIfInBounds_toArray, List.set_cons_zero, List.set_cons_succ]
      refine take_lit (i := 16) (v := ?_) rfl (by kernel_rfl) (by kernel_rfl) (by kernel_rfl) (fun _ _ _ h => h) (Or.inl ⟨by rfl, ?_⟩) (by assumption) ?_
      rotate_left
      · (intro w hSw; (try dsimp only at hSw); go_simp <;> with_reducible rfl)
      try simp only [Act.put, List.setIfInBounds_toArray, List.set_cons_zero, List.set_cons_succ]
      refine wpAnyH_done (by kernel_rfl) ?_ _
      refine NoPanic.normal ?_
      refine name_world (R := fun W => Exit.then _ _ _ _ W) (P := fun W => Below w1.heap.size w1 W) _ hHeld ?_
      clear hHeld
      intro V hV
      have y0 : Row V g 41 (A ++ (ocs old ++ Z)) := hr.below hV hg1
      have rn : Row V w.heap.size 41 (ocs n) := HX.out _ (bt b1 hV)
      have m60 := (rn.cell 60).trans (oc60 n)
      have bV := bt hB (bt b1 hV)
      have HEnd : Hid (∀ W, V.grownBy W (some g) → Row W g 41 (A ++ (ocs (retold old now n) ++ Z)) → Rb W B r most (K.set k (retold old now n)) ∧ RTurn w W B r) := fun W hgW hrW => by
        have hg2 := grown_pre hV hgW
        exact ⟨hfin _ hg2 hrW, RTurn.pre (bt hB b1) (RTurn.roc hg2 hr hBg)⟩
      clear hEI gEI HS2
      by_cases hrf : n.r = 65535
      · have hrf' : (n.r != 65535) = false := by simpa using hrf
        obtain ⟨zd, hzd⟩ : ∃ z, now + old.d = z := ⟨_, rfl⟩
        have hwd : wrap64 (now + old.d) = zd := by rw [← hzd]; have := HT01.out; have := HOd.out; unfold wrap64; omega
        have HRt : Hid (retold old now n = (old.sR n.r).sU zd) := by show _ = _; rw [retold_inf hrf, ← hzd, hrf]; rfl
        clear hrf hzd hfin hr
        go_wp2_with (first
          | (have kk := y60; refine mid64 (.tmp 172) (.tmp 170) rfl rfl g (k * 81) 78 A Z (old.sR n.r) ((old.sR n.r).sU zd) zd rfl (by first | exact congrArg (Value.int .i64) hwd | rfl) y60 hA (by omega) (os78 (old.sR n.r) zd) ?_; intro W8 g8 y78; have k8 := grownBy_trans k60 g8; clear y60)
          | (have kk := y0; refine mid16 (.tmp 140) (.tmp 138) rfl rfl g (k * 81) 60 A Z old (old.sR n.r) n.r rfl rfl y0 hA (by omega) (os60 old n.r) ?_; intro W3 g3 y60; have rn3 := rn.keep g3 hgn; have k60 := g3; have d79 := (y60.midS hA).d; have n60 := (rn3.cell 60).trans (oc60 n); clear y0))
        have HE := HEnd.out _ k8 (by rw [HRt.out]; exact y78)
        go_ret2
        first | exact ⟨2, 0, _, rfl, .inr (.inr (.inr (.inr (.inr ⟨HGd.out, k, old, HG.out.1, HG.out.2, HSt, rfl, rfl, rfl⟩)))), HE.1, HE.2⟩ | exact ⟨2, 0, rfl, _, .inr (.inr (.inr (.inr (.inr ⟨HGd.out, k, old, HG.out.1, HG.out.2, HSt, rfl, rfl, rfl⟩)))), HE.1, HE.2⟩
      · have hrf' : (n.r != 65535) = true := by simpa using hrf
        obtain ⟨zd, hzd⟩ : ∃ z, now + n.d = z := ⟨_, rfl⟩
        have hwd : wrap64 (now + n.d) = zd := by rw [← hzd]; have := HT01.out; have := HDb.out; unfold wrap64; omega
        have HRt : Hid (retold old now n = (((((old.sR n.r).sId n.id).sQ n.q).sH n.h).sD n.d).sU zd) := by show _ = _; rw [retold_fin hrf, ← hzd]; rfl
        clear hrf hzd hfin hr
        go_wp2_with (first
          | (have kk := y79; refine mid64 (.tmp 172) (.tmp 170) rfl rfl g (k * 81) 78 A Z (((((old.sR n.r).sId n.id).sQ n.q).sH n.h).sD n.d) ((((((old.sR n.r).sId n.id).sQ n.q).sH n.h).sD n.d).sU zd) zd rfl (by first | exact congrArg (Value.int .i64) hwd | rfl) y79 hA (by omega) (os78 _ zd) ?_; intro W8 g8 y78; have k8 := grownBy_trans k79 g8; clear y79)
          | (have kk := y62; refine mid64 (.tmp 163) (.tmp 161) rfl rfl g (k * 81) 79 A Z ((((old.sR n.r).sId n.id).sQ n.q).sH n.h) (((((old.sR n.r).sId n.id).sQ n.q).sH n.h).sD n.d) n.d rfl rfl y62 hA (by omega) (os79 _ n.d) ?_; intro W7 g7 y79; have k79 := grownBy_trans k62 g7; have d79 := (y79.midS hA).d; clear y62)
          | (have kk := y59; refine midH (.tmp 158) (.tmp 156) rfl rfl g (k * 81) A Z (((old.sR n.r).sId n.id).sQ n.q) n.h rfl rfl y59 hA ?_; intro W6 g6 y62; have rn6 := rn5.keep g6 hgn; have k62 := grownBy_trans k59 g6; have n79 := (rn6.cell 79).trans (oc79 n); clear y59)
          | (have kk := y59; refine ldA (.tmp 155) rfl rfl _ _ n.h rfl (LS.h rn5.ro) ?_)
          | (have kk := y51; refine mid16 (.tmp 153) (.tmp 151) rfl rfl g (k * 81) 59 A Z ((old.sR n.r).sId n.id) (((old.sR n.r).sId n.id).sQ n.q) n.q rfl rfl y51 hA (by omega) (os59 _ n.q) ?_; intro W5 g5 y59; have rn5 := rn4.keep g5 hgn; have k59 := grownBy_trans k51 g5; clear y51)
          | (have kk := y60; refine midI (.tmp 148) (.tmp 146) rfl rfl g (k * 81) A Z (old.sR n.r) n.id rfl rfl y60 hA ?_; intro W4 g4 y51; have rn4 := rn3.keep g4 hgn; have k51 := grownBy_trans k60 g4; have n59 := (rn4.cell 59).trans (oc59 n); clear y60)
          | (have kk := y60; refine ldI (.tmp 145) rfl rfl _ _ n.id rfl (LS.id rn3.ro) ?_)
          | (have kk := y0; refine mid16 (.tmp 140) (.tmp 138) rfl rfl g (k * 81) 60 A Z old (old.sR n.r) n.r rfl rfl y0 hA (by omega) (os60 old n.r) ?_; intro W3 g3 y60; have rn3 := rn.keep g3 hgn; have k60 := g3; have n60 := (rn3.cell 60).trans (oc60 n); clear y0))
        have HE := HEnd.out _ k8 (by rw [HRt.out]; exact y78)
        go_ret2
        first | exact ⟨2, 0, _, rfl, .inr (.inr (.inr (.inr (.inr ⟨HGd.out, k, old, HG.out.1, HG.out.2, HSt, rfl, rfl, rfl⟩)))), HE.1, HE.2⟩ | exact ⟨2, 0, rfl, _, .inr (.inr (.inr (.inr (.inr ⟨HGd.out, k, old, HG.out.1, HG.out.2, HSt, rfl, rfl, rfl⟩)))), HE.1, HE.2⟩
    | true =>
      have HS3 : Hid (∀ W, Below w1.heap.size w1 W → W.cell? ⟨g, k * 81 + 80, none⟩ = some (.bool true)) := fun W hW => by have := (HS2.out W hW).1.s; rwa [hos] at this
      cases f with
      | true =>
        have HSt : stayB old n true = false := by rw [HSb.out, hos]; rfl
        refine wp_region_noPanic ?_
        refine wp_region_held_drew (S := fun W => Below w1.heap.size w1 W) (by kernel_rfl) ((Below.refl _ _).drew) (fun hHeld => ?_)
        refine take_lit (i := 0) (v := ?_) rfl (by kernel_rfl) (by kernel_rfl) (by kernel_rfl) (fun _ _ _ h => h) (Or.inl ⟨by rfl, ?_⟩) (by assumption) ?_
        rotate_left
        · (intro w hSw; (try dsimp only at hSw); go_simp <;> with_reducible rfl)
        try simp only [Act.put, List.setIfInBounds_toArray, List.set_cons_zero, List.set_cons_succ]
        refine take_lit (i := 1) (v := ?_) rfl (by kernel_rfl) (by kernel_rfl) (by kernel_rfl) (fun _ _ _ h => h) (Or.inl ⟨by rfl, ?_⟩) (by assumption) ?_
        rotate_left
        · (intro w hSw; (try dsimp only at hSw); go_simp <;> with_reducible rfl)
        try simp only [Act.put, List.setIfInBounds_toArray, List.set_cons_zero, List.set_cons_succ]
        refine take_lit (i := 2) (v := ?_) rfl (by kernel_rfl) (by kernel_rfl) (by kernel_rfl) (fun _ _ _ h => h) (Or.inl ⟨by rfl, ?_⟩) (by assumption) ?_
        rotate_left
        · (intro w hSw; (try dsimp only at hSw); go_simp <;> with_reducible rfl)
        try simp only [Act.put, List.setIfInBounds_toArray, List.set_cons_zero, List.set_cons_succ]
        refine take_lit (i := 3) (v := ?_) rfl (by kernel_rfl) (by kernel_rfl) (by kernel_rfl) (fun _ _ _ h => h) (Or.inl ⟨by rfl, ?_⟩) (by assumption) ?_
        rotate_left
        · (intro w hSw; (try dsimp only at hSw); have z := HS3.out _ hSw; go_simp <;> with_reducible rfl)
        try simp only [Act.put, List.setIfInBounds_toArray, List.set_cons_zero, List.set_cons_succ]
        refine take_lit (i := 4) (v := ?_) rfl (by kernel_rfl) (by kernel_rfl) (by kernel_rfl) (fun _ _ _ h => h) (Or.inl ⟨by rfl, ?_⟩) (by assumption) ?_
        rotate_left
        · (intro w hSw; (try dsimp only at hSw); go_simp <;> with_reducible rfl)
        try simp only [Act.put, List.setIfInBounds_toArray, List.set_cons_zero, List.set_cons_succ]
        refine take_lit (i := 5) (v := ?_) rfl (by kernel_rfl) (by kernel_rfl) (by kernel_rfl) (fun _ _ _ h => h) (Or.inl ⟨by rfl, ?_⟩) (by assumption) ?_
        rotate_left
        · (intro w hSw; (try dsimp only at hSw); go_simp <;> with_reducible rfl)
        try simp only [Act.put, List.setIfInBounds_toArray, List.set_cons_zero, List.set_cons_succ]
        refine take_lit (i := 6) (v := ?_) rfl (by kernel_rfl) (by kernel_rfl) (by kernel_rfl) (fun _ _ _ h => h) (Or.inl ⟨by rfl, ?_⟩) (by assumption) ?_
        rotate_left
        · (intro w hSw; (try dsimp only at hSw); go_simp <;> with_reducible rfl)
        try simp only [Act.put, List.setIfInBounds_toArray, List.set_cons_zero, List.set_cons_succ]
        refine take_lit (i := 7) (v := ?_) rfl (by kernel_rfl) (by kernel_rfl) (by kernel_rfl) (fun _ _ _ h => h) (Or.inl ⟨by rfl, ?_⟩) (by assumption) ?_
        rotate_left
        · (intro w hSw; (try dsimp only at hSw); go_simp <;> with_reducible rfl)
        try simp only [Act.put, List.setIfInBounds_toArray, List.set_cons_zero, List.set_cons_succ]
        refine take_lit (i := 8) (v := ?_) rfl (by kernel_rfl) (by kernel_rfl) (by kernel_rfl) (fun _ _ _ h => h) (Or.inl ⟨by rfl, ?_⟩) (by assumption) ?_
        rotate_left
        · (intro w hSw; (try dsimp only at hSw); go_simp <;> with_reducible rfl)
        try simp only [Act.put, List.setIfInBounds_toArray, List.set_cons_zero, List.set_cons_succ]
        refine take_lit (i := 9) rfl (by kernel_rfl) (by kernel_rfl) (by kernel_rfl) (fun _ _ _ h => h) (Or.inr ⟨by rfl, rfl⟩) (by assumption) ?_
        try simp only [Act.put, List.setIfInBounds_toArray, List.set_cons_zero, List.set_cons_succ]
        refine take_lit (i := 10) rfl (by kernel_rfl) (by kernel_rfl) (by kernel_rfl) (fun _ _ _ h => h) (Or.inr ⟨by rfl, rfl⟩) (by assumption) ?_
        try simp only [Act.put, List.setIfInBounds_toArray, List.set_cons_zero, List.set_cons_succ]
        refine take_lit (i := 11) rfl (by kernel_rfl) (by kernel_rfl) (by kernel_rfl) (fun _ _ _ h => h) (Or.inr ⟨by rfl, rfl⟩) (by assumption) ?_
        try simp only [Act.put, List.setIfInBounds_toArray, List.set_cons_zero, List.set_cons_succ]
        refine take_lit (i := 12) rfl (by kernel_rfl) (by kernel_rfl) (by kernel_rfl) (fun _ _ _ h => h) (Or.inr ⟨by rfl, rfl⟩) (by assumption) ?_
        try simp only [Act.put, List.setIfInBounds_toArray, List.set_cons_zero, List.set_cons_succ]
        refine take_lit (i := 13) rfl (by kernel_rfl) (by kernel_rfl) (by kernel_rfl) (fun _ _ _ h => h) (Or.inr ⟨by rfl, rfl⟩) (by assumption) ?_
        try simp only [Act.put, List.setIfInBounds_toArray, List.set_cons_zero, List.set_cons_succ]
        refine take_lit (i := 14) rfl (by kernel_rfl) (by kernel_rfl) (by kernel_rfl) (fun _ _ _ h => h) (Or.inr ⟨by rfl, rfl⟩) (by assumption) ?_
        try simp only [Act.put, List.setIfInBounds_toArray, List.set_cons_zero, List.set_cons_succ]
        refine take_lit (i := 15) rfl (by kernel_rfl) (by kernel_rfl) (by kernel_rfl) (fun _ _ _ h => h) (Or.inr ⟨by rfl, rfl⟩) (by assumption) ?_
        try simp only [Act.put, List.setIfInBounds_toArray, List.set_cons_zero, List.set_cons_succ]
        refine take_lit (i := 16) (v := ?_) rfl (by kernel_rfl) (by kernel_rfl) (by kernel_rfl) (fun _ _ _ h => h) (Or.inl ⟨by rfl, ?_⟩) (by assumption) ?_
        rotate_left
        · (intro w hSw; (try dsimp only at hSw); go_simp <;> with_reducible rfl)
        try simp only [Act.put, List.setIfInBounds_toArray, List.set_cons_zero, List.set_cons_succ]
        refine wpAnyH_done (by kernel_rfl) ?_ _
        refine NoPanic.normal ?_
        refine name_world (R := fun W => Exit.then _ _ _ _ W) (P := fun W => Below w1.heap.size w1 W) _ hHeld ?_
        clear hHeld
        intro V hV
        have y0 : Row V g 41 (A ++ (ocs old ++ Z)) := hr.below hV hg1
        have rn : Row V w.heap.size 41 (ocs n) := HX.out _ (bt b1 hV)
        have m60 := (rn.cell 60).trans (oc60 n)
        have bV := bt hB (bt b1 hV)
        have HEnd : Hid (∀ W, V.grownBy W (some g) → Row W g 41 (A ++ (ocs (retold old now n) ++ Z)) → Rb W B r most (K.set k (retold old now n)) ∧ RTurn w W B r) := fun W hgW hrW => by
          have hg2 := grown_pre hV hgW
          exact ⟨hfin _ hg2 hrW, RTurn.pre (bt hB b1) (RTurn.roc hg2 hr hBg)⟩
        clear hEI gEI HS2
        by_cases hrf : n.r = 65535
        · have hrf' : (n.r != 65535) = false := by simpa using hrf
          obtain ⟨zd, hzd⟩ : ∃ z, now + old.d = z := ⟨_, rfl⟩
          have hwd : wrap64 (now + old.d) = zd := by rw [← hzd]; have := HT01.out; have := HOd.out; unfold wrap64; omega
          have HRt : Hid (retold old now n = (old.sR n.r).sU zd) := by show _ = _; rw [retold_inf hrf, ← hzd, hrf]; rfl
          clear hrf hzd hfin hr
          go_wp2_with (first
            | (have kk := y60; refine mid64 (.tmp 172) (.tmp 170) rfl rfl g (k * 81) 78 A Z (old.sR n.r) ((old.sR n.r).sU zd) zd rfl (by first | exact congrArg (Value.int .i64) hwd | rfl) y60 hA (by omega) (os78 (old.sR n.r) zd) ?_; intro W8 g8 y78; have k8 := grownBy_trans k60 g8; clear y60)
            | (have kk := y0; refine mid16 (.tmp 140) (.tmp 138) rfl rfl g (k * 81) 60 A Z old (old.sR n.r) n.r rfl rfl y0 hA (by omega) (os60 old n.r) ?_; intro W3 g3 y60; have rn3 := rn.keep g3 hgn; have k60 := g3; have d79 := (y60.midS hA).d; have n60 := (rn3.cell 60).trans (oc60 n); clear y0))
          have HE := HEnd.out _ k8 (by rw [HRt.out]; exact y78)
          go_ret2
          first | exact ⟨2, 0, _, rfl, .inr (.inr (.inr (.inr (.inr ⟨HGd.out, k, old, HG.out.1, HG.out.2, HSt, rfl, rfl, rfl⟩)))), HE.1, HE.2⟩ | exact ⟨2, 0, rfl, _, .inr (.inr (.inr (.inr (.inr ⟨HGd.out, k, old, HG.out.1, HG.out.2, HSt, rfl, rfl, rfl⟩)))), HE.1, HE.2⟩
        · have hrf' : (n.r != 65535) = true := by simpa using hrf
          obtain ⟨zd, hzd⟩ : ∃ z, now + n.d = z := ⟨_, rfl⟩
          have hwd : wrap64 (now + n.d) = zd := by rw [← hzd]; have := HT01.out; have := HDb.out; unfold wrap64; omega
          have HRt : Hid (retold old now n = (((((old.sR n.r).sId n.id).sQ n.q).sH n.h).sD n.d).sU zd) := by show _ = _; rw [retold_fin hrf, ← hzd]; rfl
          clear hrf hzd hfin hr
          go_wp2_with (first
            | (have kk := y79; refine mid64 (.tmp 172) (.tmp 170) rfl rfl g (k * 81) 78 A Z (((((old.sR n.r).sId n.id).sQ n.q).sH n.h).sD n.d) ((((((old.sR n.r).sId n.id).sQ n.q).sH n.h).sD n.d).sU zd) zd rfl (by first | exact congrArg (Value.int .i64) hwd | rfl) y79 hA (by omega) (os78 _ zd) ?_; intro W8 g8 y78; have k8 := grownBy_trans k79 g8; clear y79)
            | (have kk := y62; refine mid64 (.tmp 163) (.tmp 161) rfl rfl g (k * 81) 79 A Z ((((old.sR n.r).sId n.id).sQ n.q).sH n.h) (((((old.sR n.r).sId n.id).sQ n.q).sH n.h).sD n.d) n.d rfl rfl y62 hA (by omega) (os79 _ n.d) ?_; intro W7 g7 y79; have k79 := grownBy_trans k62 g7; have d79 := (y79.midS hA).d; clear y62)
            | (have kk := y59; refine midH (.tmp 158) (.tmp 156) rfl rfl g (k * 81) A Z (((old.sR n.r).sId n.id).sQ n.q) n.h rfl rfl y59 hA ?_; intro W6 g6 y62; have rn6 := rn5.keep g6 hgn; have k62 := grownBy_trans k59 g6; have n79 := (rn6.cell 79).trans (oc79 n); clear y59)
            | (have kk := y59; refine ldA (.tmp 155) rfl rfl _ _ n.h rfl (LS.h rn5.ro) ?_)
            | (have kk := y51; refine mid16 (.tmp 153) (.tmp 151) rfl rfl g (k * 81) 59 A Z ((old.sR n.r).sId n.id) (((old.sR n.r).sId n.id).sQ n.q) n.q rfl rfl y51 hA (by omega) (os59 _ n.q) ?_; intro W5 g5 y59; have rn5 := rn4.keep g5 hgn; have k59 := grownBy_trans k51 g5; clear y51)
            | (have kk := y60; refine midI (.tmp 148) (.tmp 146) rfl rfl g (k * 81) A Z (old.sR n.r) n.id rfl rfl y60 hA ?_; intro W4 g4 y51; have rn4 := rn3.keep g4 hgn; have k51 := grownBy_trans k60 g4; have n59 := (rn4.cell 59).trans (oc59 n); clear y60)
            | (have kk := y60; refine ldI (.tmp 145) rfl rfl _ _ n.id rfl (LS.id rn3.ro) ?_)
            | (have kk := y0; refine mid16 (.tmp 140) (.tmp 138) rfl rfl g (k * 81) 60 A Z old (old.sR n.r) n.r rfl rfl y0 hA (by omega) (os60 old n.r) ?_; intro W3 g3 y60; have rn3 := rn.keep g3 hgn; have k60 := g3; have n60 := (rn3.cell 60).trans (oc60 n); clear y0))
          have HE := HEnd.out _ k8 (by rw [HRt.out]; exact y78)
          go_ret2
          first | exact ⟨2, 0, _, rfl, .inr (.inr (.inr (.inr (.inr ⟨HGd.out, k, old, HG.out.1, HG.out.2, HSt, rfl, rfl, rfl⟩)))), HE.1, HE.2⟩ | exact ⟨2, 0, rfl, _, .inr (.inr (.inr (.inr (.inr ⟨HGd.out, k, old, HG.out.1, HG.out.2, HSt, rfl, rfl, rfl⟩)))), HE.1, HE.2⟩
      | false =>
        cases b3 with
        | false =>
          have HSt : stayB old n false = false := by rw [HSb.out, hos]; rfl
          refine wp_region_noPanic ?_
          refine wp_region_held_drew (S := fun W => Below w1.heap.size w1 W) (by kernel_rfl) ((Below.refl _ _).drew) (fun hHeld => ?_)
          refine take_lit (i := 0) (v := ?_) rfl (by kernel_rfl) (by kernel_rfl) (by kernel_rfl) (fun _ _ _ h => h) (Or.inl ⟨by rfl, ?_⟩) (by assumption) ?_
          rotate_left
          · (intro w hSw; (try dsimp only at hSw); go_simp <;> with_reducible rfl)
          try simp only [Act.put, List.setIfInBounds_toArray, List.set_cons_zero, List.set_cons_succ]
          refine take_lit (i := 1) (v := ?_) rfl (by kernel_rfl) (by kernel_rfl) (by kernel_rfl) (fun _ _ _ h => h) (Or.inl ⟨by rfl, ?_⟩) (by assumption) ?_
          rotate_left
          · (intro w hSw; (try dsimp only at hSw); go_simp <;> with_reducible rfl)
          try simp only [Act.put, List.setIfInBounds_toArray, List.set_cons_zero, List.set_cons_succ]
          refine take_lit (i := 2) (v := ?_) rfl (by kernel_rfl) (by kernel_rfl) (by kernel_rfl) (fun _ _ _ h => h) (Or.inl ⟨by rfl, ?_⟩) (by assumption) ?_
          rotate_left
          · (intro w hSw; (try dsimp only at hSw); go_simp <;> with_reducible rfl)
          try simp only [Act.put, List.setIfInBounds_toArray, List.set_cons_zero, List.set_cons_succ]
          refine take_lit (i := 3) (v := ?_) rfl (by kernel_rfl) (by kernel_rfl) (by kernel_rfl) (fun _ _ _ h => h) (Or.inl ⟨by rfl, ?_⟩) (by assumption) ?_
          rotate_left
          · (intro w hSw; (try dsimp only at hSw); have z := HS3.out _ hSw; go_simp <;> with_reducible rfl)
          try simp only [Act.put, List.setIfInBounds_toArray, List.set_cons_zero, List.set_cons_succ]
          refine take_lit (i := 4) (v := ?_) rfl (by kernel_rfl) (by kernel_rfl) (by kernel_rfl) (fun _ _ _ h => h) (Or.inl ⟨by rfl, ?_⟩) (by assumption) ?_
          rotate_left
          · (intro w hSw; (try dsimp only at hSw); go_simp <;> with_reducible rfl)
          try simp only [Act.put, List.setIfInBounds_toArray, List.set_cons_zero, List.set_cons_succ]
          refine take_lit (i := 5) (v := ?_) rfl (by kernel_rfl) (by kernel_rfl) (by kernel_rfl) (fun _ _ _ h => h) (Or.inl ⟨by rfl, ?_⟩) (by assumption) ?_
          rotate_left
          · (intro w hSw; (try dsimp only at hSw); go_simp <;> with_reducible rfl)
          try simp only [Act.put, List.setIfInBounds_toArray, List.set_cons_zero, List.set_cons_succ]
          refine take_lit (i := 6) (v := ?_) rfl (by kernel_rfl) (by kernel_rfl) (by kernel_rfl) (fun _ _ _ h => h) (Or.inl ⟨by rfl, ?_⟩) (by assumption) ?_
          rotate_left
          · (intro w hSw; (try dsimp only at hSw); go_simp <;> with_reducible rfl)
          try simp only [Act.put, List.setIfInBounds_toArray, List.set_cons_zero, List.set_cons_succ]
          refine take_lit (i := 7) (v := ?_) rfl (by kernel_rfl) (by kernel_rfl) (by kernel_rfl) (fun _ _ _ h => h) (Or.inl ⟨by rfl, ?_⟩) (by assumption) ?_
          rotate_left
          · (intro w hSw; (try dsimp only at hSw); go_simp <;> with_reducible rfl)
          try simp only [Act.put, List.setIfInBounds_toArray, List.set_cons_zero, List.set_cons_succ]
          refine take_lit (i := 8) (v := ?_) rfl (by kernel_rfl) (by kernel_rfl) (by kernel_rfl) (fun _ _ _ h => h) (Or.inl ⟨by rfl, ?_⟩) (by assumption) ?_
          rotate_left
          · (intro w hSw; (try dsimp only at hSw); go_simp <;> with_reducible rfl)
          try simp only [Act.put, List.setIfInBounds_toArray, List.set_cons_zero, List.set_cons_succ]
          refine take_lit (i := 9) (v := ?_) rfl (by kernel_rfl) (by kernel_rfl) (by kernel_rfl) (fun _ _ _ h => h) (Or.inl ⟨by rfl, ?_⟩) (by assumption) ?_
          rotate_left
          · (intro w hSw; (try dsimp only at hSw); go_simp <;> with_reducible rfl)
          try simp only [Act.put, List.setIfInBounds_toArray, List.set_cons_zero, List.set_cons_succ]
          refine take_lit (i := 10) (v := ?_) rfl (by kernel_rfl) (by kernel_rfl) (by kernel_rfl) (fun _ _ _ h => h) (Or.inl ⟨by rfl, ?_⟩) (by assumption) ?_
          rotate_left
          · (intro w hSw; (try dsimp only at hSw); go_simp <;> with_reducible rfl)
          try simp only [Act.put, List.setIfInBounds_toArray, List.set_cons_zero, List.set_cons_succ]
          refine take_lit (i := 11) (v := ?_) rfl (by kernel_rfl) (by kernel_rfl) (by kernel_rfl) (fun _ _ _ h => h) (Or.inl ⟨by rfl, ?_⟩) (by assumption) ?_
          rotate_left
          · (intro w hSw; (try dsimp only at hSw); go_simp <;> with_reducible rfl)
          try simp only [Act.put, List.setIfInBounds_toArray, List.set_cons_zero, List.set_cons_succ]
          refine take_lit (i := 12) rfl (by kernel_rfl) (by kernel_rfl) (by kernel_rfl) (fun _ _ _ h => h) (yI old.id (fun w h => (HS2.out _ h).1.id) (by rfl) rfl rfl) (by assumption) ?_
          try simp only [Act.put, List.setIfInBounds_toArray, List.set_cons_zero, List.set_cons_succ]
          refine take_lit (i := 13) (v := ?_) rfl (by kernel_rfl) (by kernel_rfl) (by kernel_rfl) (fun _ _ _ h => h) (Or.inl ⟨by rfl, ?_⟩) (by assumption) ?_
          rotate_left
          · (intro w hSw; (try dsimp only at hSw); go_simp <;> with_reducible rfl)
          try simp only [Act.put, List.setIfInBounds_toArray, List.set_cons_zero, List.set_cons_succ]
          refine take_lit (i := 14) rfl (by kernel_rfl) (by kernel_rfl) (by kernel_rfl) (fun _ _ _ h => h) (yI n.id (fun w h => (HS2.out _ h).2.id) (by rfl) rfl rfl) (by assumption) ?_
          try simp only [Act.put, List.setIfInBounds_toArray, List.set_cons_zero, List.set_cons_succ]
          refine take_lit (i := 15) (v := ?_) rfl (by kernel_rfl) (by kernel_rfl) (by kernel_rfl) (fun _ _ _ h => h) (Or.inl ⟨by rfl, ?_⟩) (by assumption) ?_
          rotate_left
          · (intro w hSw; (try dsimp only at hSw); have z := hEI w; have z2 := fun op x y => gEI op x y w; go_simp <;> with_reducible rfl)
          try simp only [Act.put, List.setIfInBounds_toArray, List.set_cons_zero, List.set_cons_succ]
          refine take_lit (i := 16) (v := ?_) rfl (by kernel_rfl) (by kernel_rfl) (by kernel_rfl) (fun _ _ _ h => h) (Or.inl ⟨by rfl, ?_⟩) (by assumption) ?_
          rotate_left
          · (intro w hSw; (try dsimp only at hSw); go_simp <;> with_reducible rfl)
          try simp only [Act.put, List.setIfInBounds_toArray, List.set_cons_zero, List.set_cons_succ]
          refine wpAnyH_done (by kernel_rfl) ?_ _
          refine NoPanic.normal ?_
          refine name_world (R := fun W => Exit.then _ _ _ _ W) (P := fun W => Below w1.heap.size w1 W) _ hHeld ?_
          clear hHeld
          intro V hV
          have y0 : Row V g 41 (A ++ (ocs old ++ Z)) := hr.below hV hg1
          have rn : Row V w.heap.size 41 (ocs n) := HX.out _ (bt b1 hV)
          have m60 := (rn.cell 60).trans (oc60 n)
          have bV := bt hB (bt b1 hV)
          have HEnd : Hid (∀ W, V.grownBy W (some g) → Row W g 41 (A ++ (ocs (retold old now n) ++ Z)) → Rb W B r most (K.set k (retold old now n)) ∧ RTurn w W B r) := fun W hgW hrW => by
            have hg2 := grown_pre hV hgW
            exact ⟨hfin _ hg2 hrW, RTurn.pre (bt hB b1) (RTurn.roc hg2 hr hBg)⟩
          clear hEI gEI HS2
          by_cases hrf : n.r = 65535
          · have hrf' : (n.r != 65535) = false := by simpa using hrf
            obtain ⟨zd, hzd⟩ : ∃ z, now + old.d = z := ⟨_, rfl⟩
            have hwd : wrap64 (now + old.d) = zd := by rw [← hzd]; have := HT01.out; have := HOd.out; unfold wrap64; omega
            have HRt : Hid (retold old now n = (old.sR n.r).sU zd) := by show _ = _; rw [retold_inf hrf, ← hzd, hrf]; rfl
            clear hrf hzd hfin hr
            go_wp2_with (first
              | (have kk := y60; refine mid64 (.tmp 172) (.tmp 170) rfl rfl g (k * 81) 78 A Z (old.sR n.r) ((old.sR n.r).sU zd) zd rfl (by first | exact congrArg (Value.int .i64) hwd | rfl) y60 hA (by omega) (os78 (old.sR n.r) zd) ?_; intro W8 g8 y78; have k8 := grownBy_trans k60 g8; clear y60)
              | (have kk := y0; refine mid16 (.tmp 140) (.tmp 138) rfl rfl g (k * 81) 60 A Z old (old.sR n.r) n.r rfl rfl y0 hA (by omega) (os60 old n.r) ?_; intro W3 g3 y60; have rn3 := rn.keep g3 hgn; have k60 := g3; have d79 := (y60.midS hA).d; have n60 := (rn3.cell 60).trans (oc60 n); clear y0))
            have HE := HEnd.out _ k8 (by rw [HRt.out]; exact y78)
            go_ret2
            first | exact ⟨2, 0, _, rfl, .inr (.inr (.inr (.inr (.inr ⟨HGd.out, k, old, HG.out.1, HG.out.2, HSt, rfl, rfl, rfl⟩)))), HE.1, HE.2⟩ | exact ⟨2, 0, rfl, _, .inr (.inr (.inr (.inr (.inr ⟨HGd.out, k, old, HG.out.1, HG.out.2, HSt, rfl, rfl, rfl⟩)))), HE.1, HE.2⟩
          · have hrf' : (n.r != 65535) = true := by simpa using hrf
            obtain ⟨zd, hzd⟩ : ∃ z, now + n.d = z := ⟨_, rfl⟩
            have hwd : wrap64 (now + n.d) = zd := by rw [← hzd]; have := HT01.out; have := HDb.out; unfold wrap64; omega
            have HRt : Hid (retold old now n = (((((old.sR n.r).sId n.id).sQ n.q).sH n.h).sD n.d).sU zd) := by show _ = _; rw [retold_fin hrf, ← hzd]; rfl
            clear hrf hzd hfin hr
            go_wp2_with (first
              | (have kk := y79; refine mid64 (.tmp 172) (.tmp 170) rfl rfl g (k * 81) 78 A Z (((((old.sR n.r).sId n.id).sQ n.q).sH n.h).sD n.d) ((((((old.sR n.r).sId n.id).sQ n.q).sH n.h).sD n.d).sU zd) zd rfl (by first | exact congrArg (Value.int .i64) hwd | rfl) y79 hA (by omega) (os78 _ zd) ?_; intro W8 g8 y78; have k8 := grownBy_trans k79 g8; clear y79)
              | (have kk := y62; refine mid64 (.tmp 163) (.tmp 161) rfl rfl g (k * 81) 79 A Z ((((old.sR n.r).sId n.id).sQ n.q).sH n.h) (((((old.sR n.r).sId n.id).sQ n.q).sH n.h).sD n.d) n.d rfl rfl y62 hA (by omega) (os79 _ n.d) ?_; intro W7 g7 y79; have k79 := grownBy_trans k62 g7; have d79 := (y79.midS hA).d; clear y62)
              | (have kk := y59; refine midH (.tmp 158) (.tmp 156) rfl rfl g (k * 81) A Z (((old.sR n.r).sId n.id).sQ n.q) n.h rfl rfl y59 hA ?_; intro W6 g6 y62; have rn6 := rn5.keep g6 hgn; have k62 := grownBy_trans k59 g6; have n79 := (rn6.cell 79).trans (oc79 n); clear y59)
              | (have kk := y59; refine ldA (.tmp 155) rfl rfl _ _ n.h rfl (LS.h rn5.ro) ?_)
              | (have kk := y51; refine mid16 (.tmp 153) (.tmp 151) rfl rfl g (k * 81) 59 A Z ((old.sR n.r).sId n.id) (((old.sR n.r).sId n.id).sQ n.q) n.q rfl rfl y51 hA (by omega) (os59 _ n.q) ?_; intro W5 g5 y59; have rn5 := rn4.keep g5 hgn; have k59 := grownBy_trans k51 g5; clear y51)
              | (have kk := y60; refine midI (.tmp 148) (.tmp 146) rfl rfl g (k * 81) A Z (old.sR n.r) n.id rfl rfl y60 hA ?_; intro W4 g4 y51; have rn4 := rn3.keep g4 hgn; have k51 := grownBy_trans k60 g4; have n59 := (rn4.cell 59).trans (oc59 n); clear y60)
              | (have kk := y60; refine ldI (.tmp 145) rfl rfl _ _ n.id rfl (LS.id rn3.ro) ?_)
              | (have kk := y0; refine mid16 (.tmp 140) (.tmp 138) rfl rfl g (k * 81) 60 A Z old (old.sR n.r) n.r rfl rfl y0 hA (by omega) (os60 old n.r) ?_; intro W3 g3 y60; have rn3 := rn.keep g3 hgn; have k60 := g3; have n60 := (rn3.cell 60).trans (oc60 n); clear y0))
            have HE := HEnd.out _ k8 (by rw [HRt.out]; exact y78)
            go_ret2
            first | exact ⟨2, 0, _, rfl, .inr (.inr (.inr (.inr (.inr ⟨HGd.out, k, old, HG.out.1, HG.out.2, HSt, rfl, rfl, rfl⟩)))), HE.1, HE.2⟩ | exact ⟨2, 0, rfl, _, .inr (.inr (.inr (.inr (.inr ⟨HGd.out, k, old, HG.out.1, HG.out.2, HSt, rfl, rfl, rfl⟩)))), HE.1, HE.2⟩
        | true =>
          have HSt : stayB old n false = true := by rw [HSb.out, hos]; rfl
          clear hfin hr
          refine wp_region_noPanic ?_
          refine wp_region_held_drew (S := fun W => Below w1.heap.size w1 W) (by kernel_rfl) ((Below.refl _ _).drew) (fun hHeld => ?_)
          refine take_lit (i := 0) (v := ?_) rfl (by kernel_rfl) (by kernel_rfl) (by kernel_rfl) (fun _ _ _ h => h) (Or.inl ⟨by rfl, ?_⟩) (by assumption) ?_
          rotate_left
          · (intro w hSw; (try dsimp only at hSw); go_simp <;> with_reducible rfl)
          try simp only [Act.put, List.setIfInBounds_toArray, List.set_cons_zero, List.set_cons_succ]
          refine take_lit (i := 1) (v := ?_) rfl (by kernel_rfl) (by kernel_rfl) (by kernel_rfl) (fun _ _ _ h => h) (Or.inl ⟨by rfl, ?_⟩) (by assumption) ?_
          rotate_left
          · (intro w hSw; (try dsimp only at hSw); go_simp <;> with_reducible rfl)
          try simp only [Act.put, List.setIfInBounds_toArray, List.set_cons_zero, List.set_cons_succ]
          refine take_lit (i := 2) (v := ?_) rfl (by kernel_rfl) (by kernel_rfl) (by kernel_rfl) (fun _ _ _ h => h) (Or.inl ⟨by rfl, ?_⟩) (by assumption) ?_
          rotate_left
          · (intro w hSw; (try dsimp only at hSw); go_simp <;> with_reducible rfl)
          try simp only [Act.put, List.setIfInBounds_toArray, List.set_cons_zero, List.set_cons_succ]
          refine take_lit (i := 3) (v := ?_) rfl (by kernel_rfl) (by kernel_rfl) (by kernel_rfl) (fun _ _ _ h => h) (Or.inl ⟨by rfl, ?_⟩) (by assumption) ?_
          rotate_left
          · (intro w hSw; (try dsimp only at hSw); have z := HS3.out _ hSw; go_simp <;> with_reducible rfl)
          try simp only [Act.put, List.setIfInBounds_toArray, List.set_cons_zero, List.set_cons_succ]
          refine take_lit (i := 4) (v := ?_) rfl (by kernel_rfl) (by kernel_rfl) (by kernel_rfl) (fun _ _ _ h => h) (Or.inl ⟨by rfl, ?_⟩) (by assumption) ?_
          rotate_left
          · (intro w hSw; (try dsimp only at hSw); go_simp <;> with_reducible rfl)
          try simp only [Act.put, List.setIfInBounds_toArray, List.set_cons_zero, List.set_cons_succ]
          refine take_lit (i := 5) (v := ?_) rfl (by kernel_rfl) (by kernel_rfl) (by kernel_rfl) (fun _ _ _ h => h) (Or.inl ⟨by rfl, ?_⟩) (by assumption) ?_
          rotate_left
          · (intro w hSw; (try dsimp only at hSw); go_simp <;> with_reducible rfl)
          try simp only [Act.put, List.setIfInBounds_toArray, List.set_cons_zero, List.set_cons_succ]
          refine take_lit (i := 6) (v := ?_) rfl (by kernel_rfl) (by kernel_rfl) (by kernel_rfl) (fun _ _ _ h => h) (Or.inl ⟨by rfl, ?_⟩) (by assumption) ?_
          rotate_left
          · (intro w hSw; (try dsimp only at hSw); go_simp <;> with_reducible rfl)
          try simp only [Act.put, List.setIfInBounds_toArray, List.set_cons_zero, List.set_cons_succ]
          refine take_lit (i := 7) (v := ?_) rfl (by kernel_rfl) (by kernel_rfl) (by kernel_rfl) (fun _ _ _ h => h) (Or.inl ⟨by rfl, ?_⟩) (by assumption) ?_
          rotate_left
          · (intro w hSw; (try dsimp only at hSw); go_simp <;> with_reducible rfl)
          try simp only [Act.put, List.setIfInBounds_toArray, List.set_cons_zero, List.set_cons_succ]
          refine take_lit (i := 8) (v := ?_) rfl (by kernel_rfl) (by kernel_rfl) (by kernel_rfl) (fun _ _ _ h => h) (Or.inl ⟨by rfl, ?_⟩) (by assumption) ?_
          rotate_left
          · (intro w hSw; (try dsimp only at hSw); go_simp <;> with_reducible rfl)
          try simp only [Act.put, List.setIfInBounds_toArray, List.set_cons_zero, List.set_cons_succ]
          refine take_lit (i := 9) (v := ?_) rfl (by kernel_rfl) (by kernel_rfl) (by kernel_rfl) (fun _ _ _ h => h) (Or.inl ⟨by rfl, ?_⟩) (by assumption) ?_
          rotate_left
          · (intro w hSw; (try dsimp only at hSw); go_simp <;> with_reducible rfl)
          try simp only [Act.put, List.setIfInBounds_toArray, List.set_cons_zero, List.set_cons_succ]
          refine take_lit (i := 10) (v := ?_) rfl (by kernel_rfl) (by kernel_rfl) (by kernel_rfl) (fun _ _ _ h => h) (Or.inl ⟨by rfl, ?_⟩) (by assumption) ?_
          rotate_left
          · (intro w hSw; (try dsimp only at hSw); go_simp <;> with_reducible rfl)
          try simp only [Act.put, List.setIfInBounds_toArray, List.set_cons_zero, List.set_cons_succ]
          refine take_lit (i := 11) (v := ?_) rfl (by kernel_rfl) (by kernel_rfl) (by kernel_rfl) (fun _ _ _ h => h) (Or.inl ⟨by rfl, ?_⟩) (by assumption) ?_
          rotate_left
          · (intro w hSw; (try dsimp only at hSw); go_simp <;> with_reducible rfl)
          try simp only [Act.put, List.setIfInBounds_toArray, List.set_cons_zero, List.set_cons_succ]
          refine take_lit (i := 12) rfl (by kernel_rfl) (by kernel_rfl) (by kernel_rfl) (fun _ _ _ h => h) (yI old.id (fun w h => (HS2.out _ h).1.id) (by rfl) rfl rfl) (by assumption) ?_
          try simp only [Act.put, List.setIfInBounds_toArray, List.set_cons_zero, List.set_cons_succ]
          refine take_lit (i := 13) (v := ?_) rfl (by kernel_rfl) (by kernel_rfl) (by kernel_rfl) (fun _ _ _ h => h) (Or.inl ⟨by rfl, ?_⟩) (by assumption) ?_
          rotate_left
          · (intro w hSw; (try dsimp only at hSw); go_simp <;> with_reducible rfl)
          try simp only [Act.put, List.setIfInBounds_toArray, List.set_cons_zero, List.set_cons_succ]
          refine take_lit (i := 14) rfl (by kernel_rfl) (by kernel_rfl) (by kernel_rfl) (fun _ _ _ h => h) (yI n.id (fun w h => (HS2.out _ h).2.id) (by rfl) rfl rfl) (by assumption) ?_
          try simp only [Act.put, List.setIfInBounds_toArray, List.set_cons_zero, List.set_cons_succ]
          refine take_lit (i := 15) (v := ?_) rfl (by kernel_rfl) (by kernel_rfl) (by kernel_rfl) (fun _ _ _ h => h) (Or.inl ⟨by rfl, ?_⟩) (by assumption) ?_
          rotate_left
          · (intro w hSw; (try dsimp only at hSw); have z := hEI w; have z2 := fun op x y => gEI op x y w; go_simp <;> with_reducible rfl)
          try simp only [Act.put, List.setIfInBounds_toArray, List.set_cons_zero, List.set_cons_succ]
          refine take_lit (i := 16) (v := ?_) rfl (by kernel_rfl) (by kernel_rfl) (by kernel_rfl) (fun _ _ _ h => h) (Or.inl ⟨by rfl, ?_⟩) (by assumption) ?_
          rotate_left
          · (intro w hSw; (try dsimp only at hSw); go_simp <;> with_reducible rfl)
          try simp only [Act.put, List.setIfInBounds_toArray, List.set_cons_zero, List.set_cons_succ]
          refine wpAnyH_done (by kernel_rfl) ?_ _
          refine NoPanic.normal ?_
          have bE := bt hB (bt b1 hHeld)
          clear hHeld hEI gEI HS2 HS3
          go_wp2_with fail
          go_ret2
          first | exact ⟨3, 0, K, rfl, .inr (.inr (.inr (.inr (.inl ⟨HGd.out, k, old, HG.out.1, HG.out.2, HSt, rfl, rfl, rfl⟩)))), HH.out.below bE, RTurn.of bE⟩ | exact ⟨3, 0, rfl, K, .inr (.inr (.inr (.inr (.inl ⟨HGd.out, k, old, HG.out.1, HG.out.2, HSt, rfl, rfl, rfl⟩)))), HH.out.below bE, RTurn.of bE⟩
end Go.Proofs.Ythofoocknmkdjaa
