/-
  Whether two neighbours are the same; the document's Same.
-/
import Derived.Test.YtacadlbhgelncaaN23
namespace Go.Proofs.Ytacadlbhgelncaa
open Lk (Hi hcs hcs_one)
open Rk (Rt rcs rtV)
open Go.RowKit Go.Maps Go.Shelf
set_option linter.unusedSimpArgs false
set_option linter.unusedVariables false
set_option maxRecDepth 20000
theorem meas2 {n j : Nat} (h : j < n) : n - ((j : Int) + 1).toNat < n - ((j : Int)).toNat := by omega
def eqNg (x y : Ng) : Bool := (x.i == y.i) && (decide (x.a.l = y.a.l) && (Lk.hiEq x.m y.m && (Lk.hiEq x.u y.u && ((x.mg == y.mg) && ((x.ug == y.ug) && ((x.ma == y.ma) && ((x.ua == y.ua) && ((x.tx == y.tx) && ((x.ta == y.ta) && ((x.se == y.se) && ((x.he == y.he) && ((x.hs == y.hs) && ((x.rt == y.rt) && ((x.hr == y.hr)))))))))))))))
theorem hiEq_iff (a b : Hi) : Lk.hiEq a b = true ↔ a = b := by
  obtain ⟨p, q, r⟩ := a
  obtain ⟨p', q', r'⟩ := b
  simp [Lk.hiEq, and_assoc]
theorem eqNg_iff (x y : Ng) : eqNg x y = true ↔ x = y := by
  unfold eqNg
  simp only [Bool.and_eq_true, beq_iff_eq, decide_eq_true_eq, hiEq_iff]
  constructor
  · rintro ⟨h0, h1, h2, h3, h4, h5, h6, h7, h8, h9, h10, h11, h12, h13, h14⟩
    have hA : x.a = y.a := Ad.ext h1
    cases x; cases y
    simp_all
  · rintro rfl
    simp
theorem nk_parts (x : Ng) : ((ncs x).drop 1).take 16 = acells x.a ∧ ((ncs x).drop 17).take 3 = hcs x.m ∧ ((ncs x).drop 20).take 3 = hcs x.u := by
  obtain ⟨i, ⟨l, hl⟩, m, u, mg, ug, ma, ua, tx, ta, se, he, hs, rt, hr⟩ := x
  match l, hl with
  | [b0, b1, b2, b3, b4, b5, b6, b7, b8, b9, b10, b11, b12, b13, b14, b15], _ => exact ⟨rfl, rfl, rfl⟩
set_option maxHeartbeats 4000000 in
theorem eqN (x y : Ng) (w : World) : (Op.equalIn 10000 55 (nV x) (nV y)).run Try.prog w = .ok (eqNg x y) w := by
  have hA : ∀ w, (Op.equalIn 9999 29 (Value.agg (acells x.a).toArray) (Value.agg (acells y.a).toArray)).run Try.prog w = .ok (decide (x.a.l = y.a.l)) w := eqA 9997 x.a y.a
  have hM : ∀ w, (Op.equalIn 9999 52 (hV x.m) (hV y.m)).run Try.prog w = .ok (Lk.hiEq x.m y.m) w := Lk.eqH 9997 x.m y.m
  have hU : ∀ w, (Op.equalIn 9999 52 (hV x.u) (hV y.u)).run Try.prog w = .ok (Lk.hiEq x.u y.u) w := Lk.eqH 9997 x.u y.u
  have heI : ∀ w a b, (Op.equalIn 9999 3 (.int .i64 a) (.int .i64 b)).run Try.prog w = .ok (a == b) w := fun w a b => run_equalIn_int w 9998 _ _ _ a b Try.underlying3
  have he16 : ∀ w a b, (Op.equalIn 9999 30 (.int .u16 a) (.int .u16 b)).run Try.prog w = .ok (a == b) w := fun w a b => run_equalIn_int w 9998 _ _ _ a b Try.underlying30
  have he32 : ∀ w a b, (Op.equalIn 9999 53 (.int .u32 a) (.int .u32 b)).run Try.prog w = .ok (a == b) w := fun w a b => run_equalIn_int w 9998 _ _ _ a b Try.underlying53
  have heB : ∀ w (a b : Bool), (Op.equalIn 9999 4 (.bool a) (.bool b)).run Try.prog w = .ok (a == b) w := fun w a b => run_equalIn_bool w 9998 _ a b Try.underlying4
  have hf : (Try.prog.fieldsOf 55).toList.map (fun f => (f.name, f.type, f.offset)) = [("If", 3, 0), ("Addr", 29, 1), ("Multi", 52, 17), ("Uni", 52, 20), ("MultiGap", 3, 23), ("UniGap", 3, 24), ("MultiAt", 3, 25), ("UniAt", 3, 26), ("Tx", 30, 27), ("TxAt", 3, 28), ("Sent", 53, 29), ("Heard", 3, 30), ("HasSent", 4, 31), ("Rtt", 3, 32), ("HasRtt", 4, 33)] := by kernel_rfl
  obtain ⟨p1, p2, p3⟩ := nk_parts x
  obtain ⟨q1, q2, q3⟩ := nk_parts y
  have cx0 := nc0 x
  have cy0 := nc0 y
  have cx23 := nc23 x
  have cy23 := nc23 y
  have cx24 := nc24 x
  have cy24 := nc24 y
  have cx25 := nc25 x
  have cy25 := nc25 y
  have cx26 := nc26 x
  have cy26 := nc26 y
  have cx27 := nc27 x
  have cy27 := nc27 y
  have cx28 := nc28 x
  have cy28 := nc28 y
  have cx29 := nc29 x
  have cy29 := nc29 y
  have cx30 := nc30 x
  have cy30 := nc30 y
  have cx31 := nc31 x
  have cy31 := nc31 y
  have cx32 := nc32 x
  have cy32 := nc32 y
  have cx33 := nc33 x
  have cy33 := nc33 y
  have hcsx : ∀ h : Hi, (hcs h).toArray = #[.int .u16 h.b, .int .u16 h.n, .bool h.k] := fun _ => rfl
  rw [run_equalIn_struct w 9999 55 _ _ (by kernel_rfl) (by kernel_rfl)]
  generalize (Try.prog.fieldsOf 55).toList = fs at hf
  have hl : fs.length = 15 := by have := congrArg List.length hf; simpa using this
  match fs, hl with
  | [f0, f1, f2, f3, f4, f5, f6, f7, f8, f9, f10, f11, f12, f13, f14], _ =>
    simp only [List.map_cons, List.map_nil, List.cons.injEq, Prod.mk.injEq, and_true] at hf
    obtain ⟨⟨n0, t0, o0⟩, ⟨n1, t1, o1⟩, ⟨n2, t2, o2⟩, ⟨n3, t3, o3⟩, ⟨n4, t4, o4⟩, ⟨n5, t5, o5⟩, ⟨n6, t6, o6⟩, ⟨n7, t7, o7⟩, ⟨n8, t8, o8⟩, ⟨n9, t9, o9⟩, ⟨n10, t10, o10⟩, ⟨n11, t11, o11⟩, ⟨n12, t12, o12⟩, ⟨n13, t13, o13⟩, n14, t14, o14⟩ := hf
    have a1 : ∀ w, (isAgg 29).run Try.prog w = .ok true w := fun w => by simp [isAgg, run_underlying Try.underlying29]
    have a2 : ∀ w, (isAgg 52).run Try.prog w = .ok true w := fun w => by simp [isAgg, run_underlying Try.underlying52]
    have a3 : ∀ w, (isAgg 3).run Try.prog w = .ok false w := fun w => by simp [isAgg, run_underlying Try.underlying3]
    have a4 : ∀ w, (isAgg 30).run Try.prog w = .ok false w := fun w => by simp [isAgg, run_underlying Try.underlying30]
    have a5 : ∀ w, (isAgg 53).run Try.prog w = .ok false w := fun w => by simp [isAgg, run_underlying Try.underlying53]
    have a6 : ∀ w, (isAgg 4).run Try.prog w = .ok false w := fun w => by simp [isAgg, run_underlying Try.underlying4]
    have s1 : ∀ w, (sizeOf 29).run Try.prog w = .ok 16 w := fun w => by kernel_rfl
    have s2 : ∀ w, (sizeOf 52).run Try.prog w = .ok 3 w := fun w => by kernel_rfl
    have u0 : ¬ "If" = "_" := by decide
    have u1 : ¬ "Addr" = "_" := by decide
    have u2 : ¬ "Multi" = "_" := by decide
    have u3 : ¬ "Uni" = "_" := by decide
    have u4 : ¬ "MultiGap" = "_" := by decide
    have u5 : ¬ "UniGap" = "_" := by decide
    have u6 : ¬ "MultiAt" = "_" := by decide
    have u7 : ¬ "UniAt" = "_" := by decide
    have u8 : ¬ "Tx" = "_" := by decide
    have u9 : ¬ "TxAt" = "_" := by decide
    have u10 : ¬ "Sent" = "_" := by decide
    have u11 : ¬ "Heard" = "_" := by decide
    have u12 : ¬ "HasSent" = "_" := by decide
    have u13 : ¬ "Rtt" = "_" := by decide
    have u14 : ¬ "HasRtt" = "_" := by decide
    simp only [ne_eq, not_false_eq_true, u0, u1, u2, u3, u4, u5, u6, u7, u8, u9, u10, u11, u12, u13, u14, Op.eqFields, n0, t0, o0, n1, t1, o1, n2, t2, o2, n3, t3, o3, n4, t4, o4, n5, t5, o5, n6, t6, o6, n7, t7, o7, n8, t8, o8, n9, t9, o9, n10, t10, o10, n11, t11, o11, n12, t12, o12, n13, t13, o13, n14, t14, o14, Sem.run_bind, Sem.run_ite, part, a1, a2, a3, a4, a5, a6, s1, s2, Result.andThen_ok, if_true, Nat.zero_add, Nat.reduceAdd, Sem.run_pure, Bool.false_eq_true, if_false, List.getElem?_toArray, List.extract_toArray, List.extract_eq_take_drop, Nat.reduceSub, cx0, cy0, cx23, cy23, cx24, cy24, cx25, cy25, cx26, cy26, cx27, cy27, cx28, cy28, cx29, cy29, cx30, cy30, cx31, cy31, cx32, cy32, cx33, cy33, p1, p2, p3, q1, q2, q3, hcsx, hA, hM, hU, heI, he16, he32, heB]
    unfold eqNg
    generalize (x.i == y.i) = b0
    generalize decide (x.a.l = y.a.l) = b1
    generalize Lk.hiEq x.m y.m = b2
    generalize Lk.hiEq x.u y.u = b3
    generalize (x.mg == y.mg) = b4
    generalize (x.ug == y.ug) = b5
    generalize (x.ma == y.ma) = b6
    generalize (x.ua == y.ua) = b7
    generalize (x.tx == y.tx) = b8
    generalize (x.ta == y.ta) = b9
    generalize (x.se == y.se) = b10
    generalize (x.he == y.he) = b11
    generalize (x.hs == y.hs) = b12
    generalize (x.rt == y.rt) = b13
    generalize (x.hr == y.hr) = b14
    cases b0
    · rfl
    cases b1
    · rfl
    cases b2
    · rfl
    cases b3
    · rfl
    cases b4
    · rfl
    cases b5
    · rfl
    cases b6
    · rfl
    cases b7
    · rfl
    cases b8
    · rfl
    cases b9
    · rfl
    cases b10
    · rfl
    cases b11
    · rfl
    cases b12
    · rfl
    cases b13
    · rfl
    cases b14 <;> rfl
/-- Neighbours in memory. -/
structure NsW (w : World) (ad : Option Addr) (l : List Ng) : Prop where
  lies : l = [] ∨ ∃ g o, ad = some ⟨g, o, none⟩ ∧ g < w.heap.size ∧ ∀ (j : Nat) (p : Ng), l[j]? = some p → w.rangeAt g (o + j * 34) (ncs p)
theorem NsW.below {w w' : World} {ad : Option Addr} {l : List Ng} (h : NsW w ad l) (hb : Below w.heap.size w w') : NsW w' ad l :=
  ⟨h.lies.imp id fun ⟨g, o, e, hg, hl⟩ => ⟨g, o, e, Nat.lt_of_lt_of_le hg hb.size, fun j p hp => rangeAt_below (hl j p hp) hb hg⟩⟩
theorem NsW.of {w : World} {B : Nat} {ad : Option Addr} {n c : Nat} {l : List Ng} (h : kN.Own w B (.slice ad n c) l) : NsW w ad l ∧ n = l.length := by
  obtain ⟨a, c', e, hat⟩ := Kd.own_at h
  cases e
  refine ⟨⟨?_⟩, rfl⟩
  by_cases hl : l = []
  · exact .inl hl
  · obtain ⟨g, rfl, _, hg, _, hc⟩ := hat hl
    exact .inr ⟨g, 0, rfl, hg, fun j p hp => by rw [Nat.zero_add]; exact hc j p hp⟩
def sameP (A B : List Ng) (w : World) (e : Ending) (w' : World) : Prop := ∃ b : Bool, e = .returned (.bool b) ∧ (b = true ↔ A = B) ∧ Below w.heap.size w w'
theorem take_eq_step {A B : List Ng} {j : Nat} (h : A.take j = B.take j) (hA : j < A.length) (hB : j < B.length) (e : A[j] = B[j]) : A.take (j + 1) = B.take (j + 1) := by
  rw [List.take_succ_eq_append_getElem hA, List.take_succ_eq_append_getElem hB, h, e]
theorem run_neqN (x y : Ng) (w : World) : (binOp .neq 55 (nV x) (nV y)).run Try.prog w = .ok (.bool (!eqNg x y)) w := by
  rw [run_neq_struct w, eqN x y w]; rfl
theorem guardN (op : BinOp) (x y : Operand) (a b : Ng) (w : World) : (eqGuard op 55 x y (nV a) (nV b)).run Try.prog w = .ok () w := run_eqGuard_agg w op _ x y _ _ (by kernel_rfl)
set_option maxHeartbeats 8000000 in
theorem same_any (ad : Option Addr) (c : Nat) (A : List Ng) (bd : Option Addr) (d : Nat) (B : List Ng) (w : World) (hA : NsW w ad A) (hB : NsW w bd B) (hl : A.length ≤ 1000000) : Calls Try.prog 16 #[.slice ad A.length c, .slice bd B.length d] w (sameP A B w) := by
  by_cases hlen : A.length = B.length
  · have e0 : ((A.length : Int) != (B.length : Int)) = false := by simp; omega
    have HLE : Hid (A.length = B.length) := hlen
    have hLA : A.length ≤ 1000000 := hl
    clear hlen hl
    go_enter Try.func16, Try.ntmps16
    go_wp2_with fail
    go_loopw [5] (fun i wr => ∃ j : Nat, j ≤ A.length ∧ i = .int .i64 j ∧ A.take j = B.take j ∧ Below w.heap.size w wr) (fun i _ => A.length - (intOf i).toNat)
    case atStart => exact ⟨0, Nat.zero_le _, rfl, rfl, Below.refl _ _⟩
    case round =>
      obtain ⟨j, hj, rfl, htk, hb⟩ := hrel
      by_cases hlt : j < A.length
      · have hltB : j < B.length := by rw [← HLE.out]; exact hlt
        rcases (hA.below hb).lies with h0 | ⟨g, o, rfl, hg, hc⟩
        · rw [h0] at hlt; simp at hlt
        rcases (hB.below hb).lies with h0 | ⟨g2, o2, rfl, hg2, hc2⟩
        · rw [h0] at hltB; simp at hltB
        have hq := hc j A[j] (List.getElem?_eq_getElem hlt)
        have hq2 := hc2 j B[j] (List.getElem?_eq_getElem hltB)
        have hji : (j : Int) < (A.length : Int) := by omega
        have hji2 : (j : Int) < (B.length : Int) := by omega
        have hw64 : wrap64 ((j : Int) + 1) = (j : Int) + 1 := by unfold wrap64; omega
        have HJ : Hid (j + 1 ≤ A.length) := hlt
        have HM : Hid (A.length - ((j : Int) + 1).toNat < A.length - ((j : Int)).toNat) := meas2 hlt
        have HY : Hid (eqNg A[j] B[j] = true → A.take (j + 1) = B.take (j + 1)) := fun h => take_eq_step htk hlt hltB ((eqNg_iff _ _).1 h)
        have HZ : Hid (eqNg A[j] B[j] = false → A ≠ B) := fun h e => by
          have e1 : A[j]? = B[j]? := by rw [e]
          rw [List.getElem?_eq_getElem hlt, List.getElem?_eq_getElem hltB] at e1
          have h2 := (eqNg_iff A[j] B[j]).2 (Option.some.inj e1)
          exact absurd (h.symm.trans h2) (by decide)
        have hNe := run_neqN A[j] B[j]
        have hGu := guardN .neq (.tmp 20) (.tmp 24) A[j] B[j]
        generalize A[j] = x at *
        generalize B[j] = y at *
        generalize eqNg x y = z at *
        clear htk hc hc2 hj hlt hltB
        go_upto_region 6 with fail
        refine wp_region_noPanic ?_
        refine wp_region_held_drew (S := fun W => Below wr.heap.size wr W) (by kernel_rfl) ((Below.refl _ _).drew) (fun hHeld => ?_)
        refine take_lit (i := 0) (v := ?_) rfl (by kernel_rfl) (by kernel_rfl) (by kernel_rfl) (fun _ _ _ h => h) (Or.inl ⟨by rfl, ?_⟩) (by assumption) ?_
        rotate_left
        · (intro w hSw; (try dsimp only at hSw); go_simp <;> with_reducible rfl)
        try simp only [Act.put, List.setIfInBounds_toArray, List.set_cons_zero, List.set_cons_succ]
        refine take_lit (i := 1) (v := ?_) rfl (by kernel_rfl) (by kernel_rfl) (by kernel_rfl) (fun _ _ _ h => h) (Or.inl ⟨by rfl, ?_⟩) (by assumption) ?_
        rotate_left
        · (intro w hSw; (try dsimp only at hSw); go_simp <;> with_reducible rfl)
        try simp only [Act.put, List.setIfInBounds_toArray, List.set_cons_zero, List.set_cons_succ]
        refine take_lit (i := 2) (v := ?_) rfl (by kernel_rfl) (by kernel_rfl) (by kernel_rfl) (fun _ _ _ h => h) (Or.inl ⟨by rfl, ?_⟩) (by assumption) ?_
        rotate_left
        · (intro w hSw; (try dsimp only at hSw); have z := hji; go_simp <;> with_reducible rfl)
        try simp only [Act.put, List.setIfInBounds_toArray, List.set_cons_zero, List.set_cons_succ]
        refine take_lit (i := 3) rfl (by kernel_rfl) (by kernel_rfl) (by kernel_rfl) (fun _ _ _ h => h) (yN x (fun w h => rangeAt_below hq h hg) (by rfl) rfl rfl) (by assumption) ?_
        try simp only [Act.put, List.setIfInBounds_toArray, List.set_cons_zero, List.set_cons_succ]
        refine take_lit (i := 4) (v := ?_) rfl (by kernel_rfl) (by kernel_rfl) (by kernel_rfl) (fun _ _ _ h => h) (Or.inl ⟨by rfl, ?_⟩) (by assumption) ?_
        rotate_left
        · (intro w hSw; (try dsimp only at hSw); go_simp <;> with_reducible rfl)
        try simp only [Act.put, List.setIfInBounds_toArray, List.set_cons_zero, List.set_cons_succ]
        refine take_lit (i := 5) (v := ?_) rfl (by kernel_rfl) (by kernel_rfl) (by kernel_rfl) (fun _ _ _ h => h) (Or.inl ⟨by rfl, ?_⟩) (by assumption) ?_
        rotate_left
        · (intro w hSw; (try dsimp only at hSw); go_simp <;> with_reducible rfl)
        try simp only [Act.put, List.setIfInBounds_toArray, List.set_cons_zero, List.set_cons_succ]
        refine take_lit (i := 6) (v := ?_) rfl (by kernel_rfl) (by kernel_rfl) (by kernel_rfl) (fun _ _ _ h => h) (Or.inl ⟨by rfl, ?_⟩) (by assumption) ?_
        rotate_left
        · (intro w hSw; (try dsimp only at hSw); have z := hji2; go_simp <;> with_reducible rfl)
        try simp only [Act.put, List.setIfInBounds_toArray, List.set_cons_zero, List.set_cons_succ]
        refine take_lit (i := 7) rfl (by kernel_rfl) (by kernel_rfl) (by kernel_rfl) (fun _ _ _ h => h) (yN y (fun w h => rangeAt_below hq2 h hg2) (by rfl) rfl rfl) (by assumption) ?_
        try simp only [Act.put, List.setIfInBounds_toArray, List.set_cons_zero, List.set_cons_succ]
        refine take_lit (i := 8) (v := ?_) rfl (by kernel_rfl) (by kernel_rfl) (by kernel_rfl) (fun _ _ _ h => h) (Or.inl ⟨by rfl, ?_⟩) (by assumption) ?_
        rotate_left
        · (intro w hSw; (try dsimp only at hSw); have z := hNe; have z2 := hGu; go_simp <;> with_reducible rfl)
        try simp only [Act.put, List.setIfInBounds_toArray, List.set_cons_zero, List.set_cons_succ]
        refine wpAnyH_done (by kernel_rfl) ?_ _
        refine NoPanic.normal ?_
        cases z with
        | false =>
          have hne := HZ.out rfl
          go_wp2_with fail
          go_ret
          exact ⟨false, rfl, ⟨fun h => (by cases h), fun h => absurd h hne⟩, bt hb hHeld⟩
        | true =>
          have htk := HY.out rfl
          go_wp2_with fail
          go_roundw
          case rel => exact ⟨j + 1, HJ.out, by first | rfl | go_num, htk, bt hb hHeld⟩
          case measure => (try rw [hw64]); simp only [intOf]; exact HM.out
      · have hjl : j = A.length := by omega
        have heq : A = B := by
          rw [hjl, List.take_length, HLE.out, List.take_length] at htk
          exact htk
        have hji : ¬ (j : Int) < (A.length : Int) := by omega
        have HQ : Hid (A = B) := heq
        clear htk heq hjl hlt hj
        go_wp2_with fail
        go_ret
        exact ⟨true, rfl, ⟨fun _ => HQ.out, fun _ => rfl⟩, hb⟩
  · have e0 : ((A.length : Int) != (B.length : Int)) = true := by simp; omega
    have HNE : Hid (A ≠ B) := fun e => hlen (by rw [e])
    clear hlen hA hB
    go_enter Try.func16, Try.ntmps16
    go_wp2_with fail
    go_ret
    exact ⟨false, rfl, ⟨fun h => (by cases h), fun h => absurd h HNE.out⟩, Below.refl _ _⟩
theorem Asc.unique : ∀ {A B : List Ng}, Asc A → Asc B → A.Perm B → A = B
  | [], B, _, _, hp => hp.symm.eq_nil.symm ▸ rfl
  | a :: A, [], _, _, hp => absurd hp.eq_nil (by simp)
  | a :: A, b :: B, hA, hB, hp => by
    have hab : a = b := by
      have h1 : a ∈ b :: B := hp.mem_iff.1 (by simp)
      have h2 : b ∈ a :: A := hp.mem_iff.2 (by simp)
      rcases List.mem_cons.1 h1 with e | h1
      · exact e
      rcases List.mem_cons.1 h2 with e | h2
      · exact e.symm
      have k1 := (List.pairwise_cons.1 hB).1 a h1
      have k2 := (List.pairwise_cons.1 hA).1 b h2
      have := cmpN_neg a b
      omega
    subst hab
    rw [Asc.unique (List.pairwise_cons.1 hA).2 (List.pairwise_cons.1 hB).2 (List.Perm.cons_inv hp)]
end Go.Proofs.Ytacadlbhgelncaa
