/-
  The document's iface: where it answers true, an interface may be.
-/
import Derived.Test.YtacadlbhgelncaaCk0
namespace Go.Proofs.Ytacadlbhgelncaa
open Lk (Hi hcs hcs_one)
open Rk (Rt rcs rtV)
open Go.RowKit
set_option linter.unusedSimpArgs false
set_option linter.unusedVariables false
set_option maxRecDepth 20000
/-- What may be of an interface. -/
structure IfOk (c : Ic) : Prop where
  k : c.k = 0 ∨ c.k = 1
  c0 : 1 ≤ c.c
  c1 : c.c ≤ 65534
  m0 : 64 ≤ c.mt
  m1 : c.mt ≤ 65539
  h0 : 10 ≤ c.he
  h1 : c.he ≤ 655350
  u0 : 10 ≤ c.up
  u1 : c.up ≤ 655350
  r : c.r.on = true → c.r.ok
def zeroRt : Rt := ⟨false, 0, 0, 0, 0⟩
theorem infoRz : (Try.prog.info? 64).map (·.zero) = some (some (.agg (rcs zeroRt).toArray)) := by kernel_rfl
section
variable {ops : Array Oper} {rest : List Oper} {op : Oper} {a : Act} {w : World} {Q : Exit → Act → World → Prop}
theorem ldRt (x : Operand) (hw : Region.wanted op (yielded ops a.tmps) = true) (ho : op.op = .load 64 x) (b o : Nat) (r : Rt) (hx : a.eval x = .pointer (some ⟨b, o, none⟩)) (hc : w.rangeAt b o (rcs r))
    (h : wpList Try.prog ops Q rest (a.put op.dst (rtV r)) w) : wpList Try.prog ops Q (op :: rest) a w :=
  wpList_step fun K hK => by
    rw [if_pos hw]
    exact wp_load_mid _ x ho b o hx (rcs r) _ hc Try.underlying64 rfl (by rw [infoRt]; rfl) (hK _ _ h)
theorem rcs_one (r : Rt) : ∀ u ∈ rcs r, u.oneCell' = true := by
  intro u hu
  simp [rcs] at hu
  rcases hu with rfl | rfl | rfl | rfl | rfl <;> rfl
theorem stRt (x y : Operand) (hw : Region.wanted op (yielded ops a.tmps) = true) (ho : op.op = .store 64 x y) (b : Nat) (n u : Rt) (hx : a.eval x = .pointer (some ⟨b, 0, none⟩)) (hy : a.eval y = rtV n) (hr : Row w b 64 (rcs u))
    (h : ∀ W, w.grownBy W (some b) → Row W b 64 (rcs n) → wpList Try.prog ops Q rest (a.put op.dst undef) W) : wpList Try.prog ops Q (op :: rest) a w :=
  wpList_step fun K hK => by
    rw [if_pos hw]
    refine wp_store_mid _ x y ho b 0 (rcs n).toArray hx hy (by exact hr.there (n := 5) (by simp [rcs])) (by rw [infoRt]; simp [rcs]) (all_oneCell_toArray (rcs_one n)) (hK _ _ (h _ (grownBy_setCells b _ _ _) ?_))
    have := Row.setCells (rcs n) [] w (rcs u) hr rfl
    simpa using this
end
theorem Row.a6 {w : World} {g : Nat} {t : TypeId} {i : Ic} (h : Row w g t (ics i)) : LA w g 6 i.a := by
  have h1 : w.rangeAt g 0 (ihd i ++ (acells i.a ++ (acells i.a4 ++ rcs i.r))) := h.range
  exact rangeAt_left (by simpa using rangeAt_right h1 (k := 6) rfl)
theorem Row.a22 {w : World} {g : Nat} {t : TypeId} {i : Ic} (h : Row w g t (ics i)) : LA w g 22 i.a4 := by
  have h1 : w.rangeAt g 0 ((ihd i ++ acells i.a) ++ (acells i.a4 ++ rcs i.r)) := by simpa [ics] using h.range
  exact rangeAt_left (by simpa using rangeAt_right h1 (k := 22) (by simp [ihd, acells_len]))
theorem eqRt (r : Rt) : ∃ z : Bool, ∀ w, (Op.equalIn 10000 64 (rtV r) (.agg #[.bool false, .int .i64 0, .int .i64 0, .int .i64 0, .int .i64 0])).run Try.prog w = .ok z w := by
  have he : ∀ w a b, (Op.equalIn 9999 3 (.int .i64 a) (.int .i64 b)).run Try.prog w = .ok (a == b) w := fun w a b => run_equalIn_int w 9998 _ _ _ a b Try.underlying3
  have he' : ∀ w (a b : Bool), (Op.equalIn 9999 4 (.bool a) (.bool b)).run Try.prog w = .ok (a == b) w := fun w a b => run_equalIn_bool w 9998 _ a b Try.underlying4
  have hf : (Try.prog.fieldsOf 64).toList.map (fun f => (f.name, f.type, f.offset)) = [("On", 4, 0), ("Min", 3, 1), ("Max", 3, 2), ("Cost", 3, 3), ("Decay", 3, 4)] := by kernel_rfl
  refine ⟨r.on == false && (r.mi == 0 && (r.ma == 0 && (r.co == 0 && r.de == 0))), fun w => ?_⟩
  rw [run_equalIn_struct w 9999 64 _ _ (by kernel_rfl) (by kernel_rfl)]
  generalize (Try.prog.fieldsOf 64).toList = fs at hf
  have hl : fs.length = 5 := by have := congrArg List.length hf; simpa using this
  match fs, hl with
  | [f1, f2, f3, f4, f5], _ =>
    simp only [List.map_cons, List.map_nil, List.cons.injEq, Prod.mk.injEq, and_true] at hf
    obtain ⟨⟨n1, t1, o1⟩, ⟨n2, t2, o2⟩, ⟨n3, t3, o3⟩, ⟨n4, t4, o4⟩, n5, t5, o5⟩ := hf
    have hb : ∀ w, (isAgg 3).run Try.prog w = .ok false w := fun w => by simp [isAgg, run_underlying Try.underlying3]
    have hb' : ∀ w, (isAgg 4).run Try.prog w = .ok false w := fun w => by simp [isAgg, run_underlying Try.underlying4]
    simp [Op.eqFields, n1, n2, n3, n4, n5, t1, t2, t3, t4, t5, o1, o2, o3, o4, o5, Sem.run_bind, Sem.run_ite, part, hb, hb', Result.andThen_ok, he, he']
    cases r.on <;> by_cases h1 : r.mi = 0 <;> by_cases h2 : r.ma = 0 <;> by_cases h3 : r.co = 0 <;> by_cases h4 : r.de = 0 <;> simp [h1, h2, h3, h4]
def S91 (c : Ic) (b : Bool) : Prop := b = true → (((0 ≤ c.r.mi ∧ c.r.mi ≤ 1000000) ∧ c.r.mi < c.r.ma) ∧ c.r.ma ≤ 1000000) ∧ 1 ≤ c.r.co ∧ c.r.co ≤ 65534
def S86 (c : Ic) (b : Bool) : Prop := b = true → ((0 ≤ c.r.mi ∧ c.r.mi ≤ 1000000) ∧ c.r.mi < c.r.ma) ∧ c.r.ma ≤ 1000000
def S80 (c : Ic) (b : Bool) : Prop := b = true → (0 ≤ c.r.mi ∧ c.r.mi ≤ 1000000) ∧ c.r.mi < c.r.ma
def S76 (c : Ic) (b : Bool) : Prop := b = true → 0 ≤ c.r.mi ∧ c.r.mi ≤ 1000000
def S59 (c : Ic) (b : Bool) : Prop := b = false → True
def S54 (c : Ic) (b : Bool) : Prop := b = false → True
def S49 (c : Ic) (b : Bool) : Prop := b = false → (10 ≤ c.he ∧ c.he ≤ 655350) ∧ 10 ≤ c.up ∧ c.up ≤ 655350
def S43 (c : Ic) (b : Bool) : Prop := b = false → (10 ≤ c.he ∧ c.he ≤ 655350) ∧ 10 ≤ c.up ∧ c.up ≤ 655350
def S37 (c : Ic) (b : Bool) : Prop := b = false → (10 ≤ c.he ∧ c.he ≤ 655350) ∧ 10 ≤ c.up ∧ c.up ≤ 655350
def S32 (c : Ic) (b : Bool) : Prop := b = false → 10 ≤ c.he ∧ c.he ≤ 655350
def S27 (c : Ic) (b : Bool) : Prop := b = false → ((c.k = 0 ∨ c.k = 1) ∧ 1 ≤ c.c ∧ c.c ≤ 65534) ∧ 64 ≤ c.mt ∧ c.mt ≤ 65539
def S21 (c : Ic) (b : Bool) : Prop := b = false → (c.k = 0 ∨ c.k = 1) ∧ 1 ≤ c.c ∧ c.c ≤ 65534
def S11 (c : Ic) (b : Bool) : Prop := b = false → (c.k = 0 ∨ c.k = 1)
def S6 (c : Ic) (b : Bool) : Prop := b = false → True
set_option maxHeartbeats 32000000 in
theorem riface_is (c : Ic) (w : World) : Calls Try.prog 44 #[.agg (ics c).toArray] w fun e w' => ∃ b : Bool, e = .returned (.bool b) ∧ (b = true → IfOk c) ∧ Below w.heap.size w w' := by
  obtain ⟨zr, hEr⟩ := eqRt c.r
  have hEa := fun w => eqA 9998 c.a4 zeroA w
  generalize decide (c.a4.l = zeroA.l) = za at *
  have hR := Row.new w 66 (ics c)
  go_enter Try.func44, Try.ntmps44
  go_upto_region 1 with fail
  refine name_world (R := fun W => Code.wp _ _ _ _ W) (P := fun W => Below w.heap.size w W ∧ Row W w.heap.size 66 (ics c)) _ ⟨ba _ _, hR⟩ ?_
  clear hR
  rintro X0 ⟨hB0, hR0⟩
  have hq := hR0.rtt38
  go_upto_region 2 with (first
    | (have kk := r2; refine stRt (.tmp 3) (.tmp 5) rfl rfl g c.r _ rfl rfl r2 ?_; intro X g3 hG)
    | (refine alG infoRz rfl rfl ?_; intro g W2 hge2 hgl2 hB2 r2)
    | (refine ldRt (.tmp 4) rfl rfl _ _ c.r rfl hq ?_))
  have hB := grown_below g3 (bt hB0 hB2) (by have := hB0.size; omega) (by have := hB0.size; have := hB2.size; omega)
  have hR := hR0.below (grown_below g3 hB2 hge2 hB2.size) hR0.lt
  have hs := hR.lt
  clear hR0 hB0 hB2 g3 r2 hge2 hgl2 hq
  have HK : Hid (∀ W, Below X.heap.size X W → W.cell? ⟨w.heap.size, 0, none⟩ = some (.string c.nm) ∧ W.cell? ⟨w.heap.size, 1, none⟩ = some (.int .i64 c.k) ∧ W.cell? ⟨w.heap.size, 2, none⟩ = some (.int .i64 c.c) ∧ W.cell? ⟨w.heap.size, 3, none⟩ = some (.int .i64 c.he) ∧ W.cell? ⟨w.heap.size, 4, none⟩ = some (.int .i64 c.up) ∧ W.cell? ⟨w.heap.size, 5, none⟩ = some (.int .i64 c.mt) ∧ W.cell? ⟨g, 0, none⟩ = some (.bool c.r.on) ∧ W.cell? ⟨g, 1, none⟩ = some (.int .i64 c.r.mi) ∧ W.cell? ⟨g, 2, none⟩ = some (.int .i64 c.r.ma) ∧ W.cell? ⟨g, 3, none⟩ = some (.int .i64 c.r.co) ∧ W.cell? ⟨g, 4, none⟩ = some (.int .i64 c.r.de)) := fun W h => by
    have hr := hR.below h hs
    have hg := hG.below h hG.lt
    exact ⟨hr.cell 0, hr.cell 1, hr.cell 2, hr.cell 3, hr.cell 4, hr.cell 5, hg.cell 0, hg.cell 1, hg.cell 2, hg.cell 3, hg.cell 4⟩
  have hb := Below.refl X.heap.size X
  have hD := hR.a6
  have hS := hR.a22
  obtain ⟨c0, c1, c2, c3, c4, c5, d0, d1, d2, d3, d4⟩ := HK.out _ hb
  apply wp_region_lit
  refine cutB 5 6 4 (fun b W => Below X.heap.size X W ∧ S6 c b) ?_ ?_
  · simp only [List.take_succ_cons, List.take_zero]
    go_wp2_with (go_at_call 61; refine (rname_any _ _).mono ?_; rintro e wm ⟨bm, rfl, hn⟩; replace hb := hb.trans (Below.mono hn hb.size); clear hn; replace hD := hR.a6.below hb hs; replace hS := hR.a22.below hb hs; clear c0 c1 c2 c3 c4 c5 d0 d1 d2 d3 d4; obtain ⟨c0, c1, c2, c3, c4, c5, d0, d1, d2, d3, d4⟩ := HK.out _ hb; cases bm)
    all_goals first | exact CutQ.normal ⟨by kernel_rfl, by kernel_rfl, _, rfl, hb, fun h => absurd h (by decide)⟩ | exact CutQ.normal ⟨by kernel_rfl, by kernel_rfl, _, rfl, hb, fun _ => trivial⟩
  · intro xs0 b W hl0 hPB
    obtain ⟨v6, xs1, rfl, hl1⟩ := len_s hl0
    obtain ⟨v7, xs2, rfl, hl2⟩ := len_s hl1
    obtain ⟨v8, xs3, rfl, hl3⟩ := len_s hl2
    obtain ⟨v9, xs4, rfl, hl4⟩ := len_s hl3
    obtain rfl := len_z hl4
    clear hl0 hl1 hl2 hl3 hl4
    simp only [List.drop_succ_cons, List.drop_zero]
    simp only [over, List.cons_append, List.nil_append, Act.put, List.setIfInBounds_toArray, List.set_cons_zero, List.set_cons_succ, Nat.reduceAdd]
    clear hb
    obtain ⟨hb, hp⟩ := hPB; replace hD := hR.a6.below hb hs; replace hS := hR.a22.below hb hs; clear c0 c1 c2 c3 c4 c5 d0 d1 d2 d3 d4; obtain ⟨c0, c1, c2, c3, c4, c5, d0, d1, d2, d3, d4⟩ := HK.out _ hb
    refine cutB 10 11 9 (fun b W => Below X.heap.size X W ∧ S11 c b) ?_ ?_
    · simp only [List.take_succ_cons, List.take_zero]
      cases b with
      | true =>
        go_wp2_with fail
        all_goals exact CutQ.normal ⟨by kernel_rfl, by kernel_rfl, _, rfl, hb, fun h => absurd h (by decide)⟩
      | false =>
        have hp := hp rfl
        by_cases k0 : c.k = 0
        · have e0 : (c.k != 0) = false := by simp [k0]
          go_wp2_with fail
          all_goals exact CutQ.normal ⟨by kernel_rfl, by kernel_rfl, _, rfl, hb, fun _ => Or.inl k0⟩
        · have e0 : (c.k != 0) = true := by simp [k0]
          by_cases k1 : c.k = 1
          · have e1 : (c.k != 1) = false := by simp [k1]
            go_wp2_with fail
            all_goals exact CutQ.normal ⟨by kernel_rfl, by kernel_rfl, _, rfl, hb, fun _ => Or.inr k1⟩
          · have e1 : (c.k != 1) = true := by simp [k1]
            go_wp2_with fail
            all_goals exact CutQ.normal ⟨by kernel_rfl, by kernel_rfl, _, rfl, hb, fun h => absurd h (by decide)⟩
    · intro xs0 b W hl0 hPB
      obtain ⟨u11, xs1, rfl, hl1⟩ := len_s hl0
      obtain ⟨u12, xs2, rfl, hl2⟩ := len_s hl1
      obtain ⟨u13, xs3, rfl, hl3⟩ := len_s hl2
      obtain ⟨u14, xs4, rfl, hl4⟩ := len_s hl3
      obtain ⟨u15, xs5, rfl, hl5⟩ := len_s hl4
      obtain ⟨u16, xs6, rfl, hl6⟩ := len_s hl5
      obtain ⟨u17, xs7, rfl, hl7⟩ := len_s hl6
      obtain ⟨u18, xs8, rfl, hl8⟩ := len_s hl7
      obtain ⟨u19, xs9, rfl, hl9⟩ := len_s hl8
      obtain rfl := len_z hl9
      clear hl0 hl1 hl2 hl3 hl4 hl5 hl6 hl7 hl8 hl9
      simp only [List.drop_succ_cons, List.drop_zero]
      simp only [over, List.cons_append, List.nil_append, Act.put, List.setIfInBounds_toArray, List.set_cons_zero, List.set_cons_succ, Nat.reduceAdd]
      clear hb
      obtain ⟨hb, hp⟩ := hPB; replace hD := hR.a6.below hb hs; replace hS := hR.a22.below hb hs; clear c0 c1 c2 c3 c4 c5 d0 d1 d2 d3 d4; obtain ⟨c0, c1, c2, c3, c4, c5, d0, d1, d2, d3, d4⟩ := HK.out _ hb
      refine cutB 6 21 5 (fun b W => Below X.heap.size X W ∧ S21 c b) ?_ ?_
      · simp only [List.take_succ_cons, List.take_zero]
        cases b with
        | true =>
          go_wp2_with fail
          all_goals exact CutQ.normal ⟨by kernel_rfl, by kernel_rfl, _, rfl, hb, fun h => absurd h (by decide)⟩
        | false =>
          have hp := hp rfl
          go_wp2_with (go_at_call 47; refine (rin_is _ _ _ _).mono ?_; rintro e wn ⟨bn, rfl, hin, rfl⟩; cases bn)
          all_goals first | exact CutQ.normal ⟨by kernel_rfl, by kernel_rfl, _, rfl, hb, fun h => absurd h (by decide)⟩ | exact CutQ.normal ⟨by kernel_rfl, by kernel_rfl, _, rfl, hb, fun _ => ⟨hp, hin (by simp)⟩⟩
      · intro xs0 b W hl0 hPB
        obtain ⟨y21, xs1, rfl, hl1⟩ := len_s hl0
        obtain ⟨y22, xs2, rfl, hl2⟩ := len_s hl1
        obtain ⟨y23, xs3, rfl, hl3⟩ := len_s hl2
        obtain ⟨y24, xs4, rfl, hl4⟩ := len_s hl3
        obtain ⟨y25, xs5, rfl, hl5⟩ := len_s hl4
        obtain rfl := len_z hl5
        clear hl0 hl1 hl2 hl3 hl4 hl5
        simp only [List.drop_succ_cons, List.drop_zero]
        simp only [over, List.cons_append, List.nil_append, Act.put, List.setIfInBounds_toArray, List.set_cons_zero, List.set_cons_succ, Nat.reduceAdd]
        clear hb
        obtain ⟨hb, hp⟩ := hPB; replace hD := hR.a6.below hb hs; replace hS := hR.a22.below hb hs; clear c0 c1 c2 c3 c4 c5 d0 d1 d2 d3 d4; obtain ⟨c0, c1, c2, c3, c4, c5, d0, d1, d2, d3, d4⟩ := HK.out _ hb
        refine cutB 5 27 4 (fun b W => Below X.heap.size X W ∧ S27 c b) ?_ ?_
        · simp only [List.take_succ_cons, List.take_zero]
          cases b with
          | true =>
            go_wp2_with fail
            all_goals exact CutQ.normal ⟨by kernel_rfl, by kernel_rfl, _, rfl, hb, fun h => absurd h (by decide)⟩
          | false =>
            have hp := hp rfl
            go_wp2_with (go_at_call 47; refine (rin_is _ _ _ _).mono ?_; rintro e wn ⟨bn, rfl, hin, rfl⟩; cases bn)
            all_goals first | exact CutQ.normal ⟨by kernel_rfl, by kernel_rfl, _, rfl, hb, fun h => absurd h (by decide)⟩ | exact CutQ.normal ⟨by kernel_rfl, by kernel_rfl, _, rfl, hb, fun _ => ⟨hp, hin (by simp)⟩⟩
        · intro xs0 b W hl0 hPB
          obtain ⟨x27, xs1, rfl, hl1⟩ := len_s hl0
          obtain ⟨x28, xs2, rfl, hl2⟩ := len_s hl1
          obtain ⟨x29, xs3, rfl, hl3⟩ := len_s hl2
          obtain ⟨x30, xs4, rfl, hl4⟩ := len_s hl3
          obtain rfl := len_z hl4
          clear hl0 hl1 hl2 hl3 hl4
          simp only [List.drop_succ_cons, List.drop_zero]
          simp only [over, List.cons_append, List.nil_append, Act.put, List.setIfInBounds_toArray, List.set_cons_zero, List.set_cons_succ, Nat.reduceAdd]
          clear hb
          obtain ⟨hb, hp⟩ := hPB; replace hD := hR.a6.below hb hs; replace hS := hR.a22.below hb hs; clear c0 c1 c2 c3 c4 c5 d0 d1 d2 d3 d4; obtain ⟨c0, c1, c2, c3, c4, c5, d0, d1, d2, d3, d4⟩ := HK.out _ hb
          cases b with
          | true =>
            go_wp2_with fail
            go_ret
            exact ⟨false, rfl, fun h => absurd h (by decide), bt hB hb⟩
          | false =>
            have f1 := hp rfl
            clear hp
            go_upto_region 4 with fail
            apply wp_region_lit
            refine cutB 5 32 4 (fun b W => Below X.heap.size X W ∧ S32 c b) ?_ ?_
            · simp only [List.take_succ_cons, List.take_zero]
              go_wp2_with (go_at_call 47; refine (rin_is _ _ _ _).mono ?_; rintro e wn ⟨bn, rfl, hin, rfl⟩; cases bn)
              all_goals first | exact CutQ.normal ⟨by kernel_rfl, by kernel_rfl, _, rfl, hb, fun h => absurd h (by decide)⟩ | exact CutQ.normal ⟨by kernel_rfl, by kernel_rfl, _, rfl, hb, fun _ => hin (by simp)⟩
            · intro xs0 b W hl0 hPB
              obtain ⟨g32, xs1, rfl, hl1⟩ := len_s hl0
              obtain ⟨g33, xs2, rfl, hl2⟩ := len_s hl1
              obtain ⟨g34, xs3, rfl, hl3⟩ := len_s hl2
              obtain ⟨g35, xs4, rfl, hl4⟩ := len_s hl3
              obtain rfl := len_z hl4
              clear hl0 hl1 hl2 hl3 hl4
              simp only [List.drop_succ_cons, List.drop_zero]
              simp only [over, List.cons_append, List.nil_append, Act.put, List.setIfInBounds_toArray, List.set_cons_zero, List.set_cons_succ, Nat.reduceAdd]
              clear hb
              obtain ⟨hb, hp⟩ := hPB; replace hD := hR.a6.below hb hs; replace hS := hR.a22.below hb hs; clear c0 c1 c2 c3 c4 c5 d0 d1 d2 d3 d4; obtain ⟨c0, c1, c2, c3, c4, c5, d0, d1, d2, d3, d4⟩ := HK.out _ hb
              refine cutB 6 37 5 (fun b W => Below X.heap.size X W ∧ S37 c b) ?_ ?_
              · simp only [List.take_succ_cons, List.take_zero]
                cases b with
                | true =>
                  go_wp2_with fail
                  all_goals exact CutQ.normal ⟨by kernel_rfl, by kernel_rfl, _, rfl, hb, fun h => absurd h (by decide)⟩
                | false =>
                  have hp := hp rfl
                  go_wp2_with (go_at_call 47; refine (rin_is _ _ _ _).mono ?_; rintro e wn ⟨bn, rfl, hin, rfl⟩; cases bn)
                  all_goals first | exact CutQ.normal ⟨by kernel_rfl, by kernel_rfl, _, rfl, hb, fun h => absurd h (by decide)⟩ | exact CutQ.normal ⟨by kernel_rfl, by kernel_rfl, _, rfl, hb, fun _ => ⟨hp, hin (by simp)⟩⟩
              · intro xs0 b W hl0 hPB
                obtain ⟨h37, xs1, rfl, hl1⟩ := len_s hl0
                obtain ⟨h38, xs2, rfl, hl2⟩ := len_s hl1
                obtain ⟨h39, xs3, rfl, hl3⟩ := len_s hl2
                obtain ⟨h40, xs4, rfl, hl4⟩ := len_s hl3
                obtain ⟨h41, xs5, rfl, hl5⟩ := len_s hl4
                obtain rfl := len_z hl5
                clear hl0 hl1 hl2 hl3 hl4 hl5
                simp only [List.drop_succ_cons, List.drop_zero]
                simp only [over, List.cons_append, List.nil_append, Act.put, List.setIfInBounds_toArray, List.set_cons_zero, List.set_cons_succ, Nat.reduceAdd]
                clear hb
                obtain ⟨hb, hp⟩ := hPB; replace hD := hR.a6.below hb hs; replace hS := hR.a22.below hb hs; clear c0 c1 c2 c3 c4 c5 d0 d1 d2 d3 d4; obtain ⟨c0, c1, c2, c3, c4, c5, d0, d1, d2, d3, d4⟩ := HK.out _ hb
                refine cutB 6 43 5 (fun b W => Below X.heap.size X W ∧ S43 c b) ?_ ?_
                · simp only [List.take_succ_cons, List.take_zero]
                  cases b with
                  | true =>
                    go_wp2_with fail
                    all_goals exact CutQ.normal ⟨by kernel_rfl, by kernel_rfl, _, rfl, hb, fun h => absurd h (by decide)⟩
                  | false =>
                    have hp := hp rfl
                    go_wp2_with fail
                    all_goals exact CutQ.normal ⟨by kernel_rfl, by kernel_rfl, _, rfl, hb, fun _ => hp⟩
                · intro xs0 b W hl0 hPB
                  obtain ⟨i43, xs1, rfl, hl1⟩ := len_s hl0
                  obtain ⟨i44, xs2, rfl, hl2⟩ := len_s hl1
                  obtain ⟨i45, xs3, rfl, hl3⟩ := len_s hl2
                  obtain ⟨i46, xs4, rfl, hl4⟩ := len_s hl3
                  obtain ⟨i47, xs5, rfl, hl5⟩ := len_s hl4
                  obtain rfl := len_z hl5
                  clear hl0 hl1 hl2 hl3 hl4 hl5
                  simp only [List.drop_succ_cons, List.drop_zero]
                  simp only [over, List.cons_append, List.nil_append, Act.put, List.setIfInBounds_toArray, List.set_cons_zero, List.set_cons_succ, Nat.reduceAdd]
                  clear hb
                  obtain ⟨hb, hp⟩ := hPB; replace hD := hR.a6.below hb hs; replace hS := hR.a22.below hb hs; clear c0 c1 c2 c3 c4 c5 d0 d1 d2 d3 d4; obtain ⟨c0, c1, c2, c3, c4, c5, d0, d1, d2, d3, d4⟩ := HK.out _ hb
                  refine cutB 5 49 4 (fun b W => Below X.heap.size X W ∧ S49 c b) ?_ ?_
                  · simp only [List.take_succ_cons, List.take_zero]
                    cases b with
                    | true =>
                      go_wp2_with fail
                      all_goals exact CutQ.normal ⟨by kernel_rfl, by kernel_rfl, _, rfl, hb, fun h => absurd h (by decide)⟩
                    | false =>
                      have hp := hp rfl
                      go_wp2_with fail
                      all_goals exact CutQ.normal ⟨by kernel_rfl, by kernel_rfl, _, rfl, hb, fun _ => hp⟩
                  · intro xs0 b W hl0 hPB
                    obtain ⟨j49, xs1, rfl, hl1⟩ := len_s hl0
                    obtain ⟨j50, xs2, rfl, hl2⟩ := len_s hl1
                    obtain ⟨j51, xs3, rfl, hl3⟩ := len_s hl2
                    obtain ⟨j52, xs4, rfl, hl4⟩ := len_s hl3
                    obtain rfl := len_z hl4
                    clear hl0 hl1 hl2 hl3 hl4
                    simp only [List.drop_succ_cons, List.drop_zero]
                    simp only [over, List.cons_append, List.nil_append, Act.put, List.setIfInBounds_toArray, List.set_cons_zero, List.set_cons_succ, Nat.reduceAdd]
                    clear hb
                    obtain ⟨hb, hp⟩ := hPB; replace hD := hR.a6.below hb hs; replace hS := hR.a22.below hb hs; clear c0 c1 c2 c3 c4 c5 d0 d1 d2 d3 d4; obtain ⟨c0, c1, c2, c3, c4, c5, d0, d1, d2, d3, d4⟩ := HK.out _ hb
                    cases b with
                    | true =>
                      go_wp2_with fail
                      go_ret
                      exact ⟨false, rfl, fun h => absurd h (by decide), bt hB hb⟩
                    | false =>
                      have f2 := hp rfl
                      clear hp
                      go_upto_region 6 with fail
                      apply wp_region_lit
                      refine cutB 5 54 4 (fun b W => Below X.heap.size X W ∧ S54 c b) ?_ ?_
                      · simp only [List.take_succ_cons, List.take_zero]
                        go_wp2_with first | (go_at_call 62; refine (rlocal_some _ _).mono ?_; rintro e wm ⟨bm, rfl, hn⟩; replace hb := hb.trans (Below.mono hn hb.size); clear hn; replace hD := hR.a6.below hb hs; replace hS := hR.a22.below hb hs; clear c0 c1 c2 c3 c4 c5 d0 d1 d2 d3 d4; obtain ⟨c0, c1, c2, c3, c4, c5, d0, d1, d2, d3, d4⟩ := HK.out _ hb; cases bm) | (refine ldA (.tmp 54) rfl rfl _ _ c.a rfl hD ?_)
                        all_goals first | exact CutQ.normal ⟨by kernel_rfl, by kernel_rfl, _, rfl, hb, fun h => absurd h (by decide)⟩ | exact CutQ.normal ⟨by kernel_rfl, by kernel_rfl, _, rfl, hb, fun _ => trivial⟩
                      · intro xs0 b W hl0 hPB
                        obtain ⟨k54, xs1, rfl, hl1⟩ := len_s hl0
                        obtain ⟨k55, xs2, rfl, hl2⟩ := len_s hl1
                        obtain ⟨k56, xs3, rfl, hl3⟩ := len_s hl2
                        obtain ⟨k57, xs4, rfl, hl4⟩ := len_s hl3
                        obtain rfl := len_z hl4
                        clear hl0 hl1 hl2 hl3 hl4
                        simp only [List.drop_succ_cons, List.drop_zero]
                        simp only [over, List.cons_append, List.nil_append, Act.put, List.setIfInBounds_toArray, List.set_cons_zero, List.set_cons_succ, Nat.reduceAdd]
                        clear hb
                        obtain ⟨hb, hp⟩ := hPB; replace hD := hR.a6.below hb hs; replace hS := hR.a22.below hb hs; clear c0 c1 c2 c3 c4 c5 d0 d1 d2 d3 d4; obtain ⟨c0, c1, c2, c3, c4, c5, d0, d1, d2, d3, d4⟩ := HK.out _ hb
                        refine cutB 11 59 10 (fun b W => Below X.heap.size X W ∧ S59 c b) ?_ ?_
                        · simp only [List.take_succ_cons, List.take_zero]
                          cases b with
                          | true =>
                            go_wp2_with fail
                            all_goals exact CutQ.normal ⟨by kernel_rfl, by kernel_rfl, _, rfl, hb, fun h => absurd h (by decide)⟩
                          | false =>
                            have hp := hp rfl
                            cases za with
                            | true =>
                              go_wp2_with (first | (refine ldA (.tmp 59) rfl rfl _ _ c.a4 rfl hS ?_) | (refine ldA (.tmp 64) rfl rfl _ _ c.a4 rfl hS ?_) | ((with_reducible refine bdG (T := 29) (v := (Value.agg (acells zeroA).toArray)) [] ?_ ?_ ?_ ?_); (focus rfl); (focus rfl); (focus exact bdA0 _)))
                              all_goals exact CutQ.normal ⟨by kernel_rfl, by kernel_rfl, _, rfl, hb, fun _ => trivial⟩
                            | false =>
                              go_wp2_with (first | (go_at_call 63; refine (rfam_some _ _).mono ?_; rintro e wm ⟨zm, rfl, hn⟩; replace hb := hb.trans (Below.mono hn hb.size); clear hn; replace hD := hR.a6.below hb hs; replace hS := hR.a22.below hb hs; clear c0 c1 c2 c3 c4 c5 d0 d1 d2 d3 d4; obtain ⟨c0, c1, c2, c3, c4, c5, d0, d1, d2, d3, d4⟩ := HK.out _ hb) | (refine ldA (.tmp 59) rfl rfl _ _ c.a4 rfl hS ?_) | (refine ldA (.tmp 64) rfl rfl _ _ c.a4 rfl hS ?_) | ((with_reducible refine bdG (T := 29) (v := (Value.agg (acells zeroA).toArray)) [] ?_ ?_ ?_ ?_); (focus rfl); (focus rfl); (focus exact bdA0 _)))
                              all_goals exact CutQ.normal ⟨by kernel_rfl, by kernel_rfl, _, rfl, hb, fun _ => trivial⟩
                        · intro xs0 b W hl0 hPB
                          obtain ⟨l59, xs1, rfl, hl1⟩ := len_s hl0
                          obtain ⟨l60, xs2, rfl, hl2⟩ := len_s hl1
                          obtain ⟨l61, xs3, rfl, hl3⟩ := len_s hl2
                          obtain ⟨l62, xs4, rfl, hl4⟩ := len_s hl3
                          obtain ⟨l63, xs5, rfl, hl5⟩ := len_s hl4
                          obtain ⟨l64, xs6, rfl, hl6⟩ := len_s hl5
                          obtain ⟨l65, xs7, rfl, hl7⟩ := len_s hl6
                          obtain ⟨l66, xs8, rfl, hl8⟩ := len_s hl7
                          obtain ⟨l67, xs9, rfl, hl9⟩ := len_s hl8
                          obtain ⟨l68, xs10, rfl, hl10⟩ := len_s hl9
                          obtain rfl := len_z hl10
                          clear hl0 hl1 hl2 hl3 hl4 hl5 hl6 hl7 hl8 hl9 hl10
                          simp only [List.drop_succ_cons, List.drop_zero]
                          simp only [over, List.cons_append, List.nil_append, Act.put, List.setIfInBounds_toArray, List.set_cons_zero, List.set_cons_succ, Nat.reduceAdd]
                          clear hb
                          obtain ⟨hb, hp⟩ := hPB; replace hD := hR.a6.below hb hs; replace hS := hR.a22.below hb hs; clear c0 c1 c2 c3 c4 c5 d0 d1 d2 d3 d4; obtain ⟨c0, c1, c2, c3, c4, c5, d0, d1, d2, d3, d4⟩ := HK.out _ hb
                          cases b with
                          | true =>
                            go_wp2_with fail
                            go_ret
                            exact ⟨false, rfl, fun h => absurd h (by decide), bt hB hb⟩
                          | false =>
                            clear hp
                            go_upto_region 8 with fail
                            cases hon : c.r.on with
                            | false =>
                              rw [hon] at d0
                              go_wp2_with (first | (refine ldRt (.tmp 3) rfl rfl _ _ c.r rfl (hG.below hb hG.lt).range ?_))
                              all_goals
                                go_ret
                                exact ⟨_, rfl, fun _ => ⟨f1.1.1, f1.1.2.1, f1.1.2.2, f1.2.1, f1.2.2, f2.1.1, f2.1.2, f2.2.1, f2.2.2, fun h => by rw [hon] at h; cases h⟩, bt hB hb⟩
                            | true =>
                              rw [hon] at d0
                              go_upto_region 10 with fail
                              apply wp_region_lit
                              refine cutB 4 76 3 (fun b W => Below X.heap.size X W ∧ S76 c b) ?_ ?_
                              · simp only [List.take_succ_cons, List.take_zero]
                                go_wp2_with (go_at_call 47; refine (rin_is _ _ _ _).mono ?_; rintro e wn ⟨bn, rfl, hin, rfl⟩; cases bn)
                                all_goals first | exact CutQ.normal ⟨by kernel_rfl, by kernel_rfl, _, rfl, hb, fun h => absurd h (by decide)⟩ | exact CutQ.normal ⟨by kernel_rfl, by kernel_rfl, _, rfl, hb, fun _ => hin (by simp)⟩
                              · intro xs0 b W hl0 hPB
                                obtain ⟨n76, xs1, rfl, hl1⟩ := len_s hl0
                                obtain ⟨n77, xs2, rfl, hl2⟩ := len_s hl1
                                obtain ⟨n78, xs3, rfl, hl3⟩ := len_s hl2
                                obtain rfl := len_z hl3
                                clear hl0 hl1 hl2 hl3
                                simp only [List.drop_succ_cons, List.drop_zero]
                                simp only [over, List.cons_append, List.nil_append, Act.put, List.setIfInBounds_toArray, List.set_cons_zero, List.set_cons_succ, Nat.reduceAdd]
                                clear hb
                                obtain ⟨hb, hp⟩ := hPB; replace hD := hR.a6.below hb hs; replace hS := hR.a22.below hb hs; clear c0 c1 c2 c3 c4 c5 d0 d1 d2 d3 d4; obtain ⟨c0, c1, c2, c3, c4, c5, d0, d1, d2, d3, d4⟩ := HK.out _ hb
                                refine cutB 6 80 5 (fun b W => Below X.heap.size X W ∧ S80 c b) ?_ ?_
                                · simp only [List.take_succ_cons, List.take_zero]
                                  cases b with
                                  | true =>
                                    have hp := hp rfl
                                    by_cases hq : c.r.mi < c.r.ma
                                    · go_wp2_with fail
                                      all_goals exact CutQ.normal ⟨by kernel_rfl, by kernel_rfl, _, rfl, hb, fun _ => ⟨hp, hq⟩⟩
                                    · have hq2 : ¬ c.r.ma > c.r.mi := hq
                                      go_wp2_with fail
                                      all_goals first | exact CutQ.normal ⟨by kernel_rfl, by kernel_rfl, _, rfl, hb, fun h => absurd h (by decide)⟩ | exact CutQ.normal ⟨by kernel_rfl, by kernel_rfl, _, rfl, hb, fun h => absurd h (by simp [hq])⟩
                                  | false =>
                                    go_wp2_with fail
                                    all_goals exact CutQ.normal ⟨by kernel_rfl, by kernel_rfl, _, rfl, hb, fun h => absurd h (by decide)⟩
                                · intro xs0 b W hl0 hPB
                                  obtain ⟨o80, xs1, rfl, hl1⟩ := len_s hl0
                                  obtain ⟨o81, xs2, rfl, hl2⟩ := len_s hl1
                                  obtain ⟨o82, xs3, rfl, hl3⟩ := len_s hl2
                                  obtain ⟨o83, xs4, rfl, hl4⟩ := len_s hl3
                                  obtain ⟨o84, xs5, rfl, hl5⟩ := len_s hl4
                                  obtain rfl := len_z hl5
                                  clear hl0 hl1 hl2 hl3 hl4 hl5
                                  simp only [List.drop_succ_cons, List.drop_zero]
                                  simp only [over, List.cons_append, List.nil_append, Act.put, List.setIfInBounds_toArray, List.set_cons_zero, List.set_cons_succ, Nat.reduceAdd]
                                  clear hb
                                  obtain ⟨hb, hp⟩ := hPB; replace hD := hR.a6.below hb hs; replace hS := hR.a22.below hb hs; clear c0 c1 c2 c3 c4 c5 d0 d1 d2 d3 d4; obtain ⟨c0, c1, c2, c3, c4, c5, d0, d1, d2, d3, d4⟩ := HK.out _ hb
                                  refine cutB 5 86 4 (fun b W => Below X.heap.size X W ∧ S86 c b) ?_ ?_
                                  · simp only [List.take_succ_cons, List.take_zero]
                                    cases b with
                                    | true =>
                                      have hp := hp rfl
                                      by_cases hq : c.r.ma ≤ 1000000
                                      · go_wp2_with fail
                                        all_goals exact CutQ.normal ⟨by kernel_rfl, by kernel_rfl, _, rfl, hb, fun _ => ⟨hp, hq⟩⟩
                                      · go_wp2_with fail
                                        all_goals first | exact CutQ.normal ⟨by kernel_rfl, by kernel_rfl, _, rfl, hb, fun h => absurd h (by decide)⟩ | exact CutQ.normal ⟨by kernel_rfl, by kernel_rfl, _, rfl, hb, fun h => absurd h (by simp [hq])⟩
                                    | false =>
                                      go_wp2_with fail
                                      all_goals exact CutQ.normal ⟨by kernel_rfl, by kernel_rfl, _, rfl, hb, fun h => absurd h (by decide)⟩
                                  · intro xs0 b W hl0 hPB
                                    obtain ⟨p86, xs1, rfl, hl1⟩ := len_s hl0
                                    obtain ⟨p87, xs2, rfl, hl2⟩ := len_s hl1
                                    obtain ⟨p88, xs3, rfl, hl3⟩ := len_s hl2
                                    obtain ⟨p89, xs4, rfl, hl4⟩ := len_s hl3
                                    obtain rfl := len_z hl4
                                    clear hl0 hl1 hl2 hl3 hl4
                                    simp only [List.drop_succ_cons, List.drop_zero]
                                    simp only [over, List.cons_append, List.nil_append, Act.put, List.setIfInBounds_toArray, List.set_cons_zero, List.set_cons_succ, Nat.reduceAdd]
                                    clear hb
                                    obtain ⟨hb, hp⟩ := hPB; replace hD := hR.a6.below hb hs; replace hS := hR.a22.below hb hs; clear c0 c1 c2 c3 c4 c5 d0 d1 d2 d3 d4; obtain ⟨c0, c1, c2, c3, c4, c5, d0, d1, d2, d3, d4⟩ := HK.out _ hb
                                    refine cutB 6 91 5 (fun b W => Below X.heap.size X W ∧ S91 c b) ?_ ?_
                                    · simp only [List.take_succ_cons, List.take_zero]
                                      cases b with
                                      | true =>
                                        have hp := hp rfl
                                        go_wp2_with (go_at_call 47; refine (rin_is _ _ _ _).mono ?_; rintro e wn ⟨bn, rfl, hin, rfl⟩; cases bn)
                                        all_goals first | exact CutQ.normal ⟨by kernel_rfl, by kernel_rfl, _, rfl, hb, fun h => absurd h (by decide)⟩ | exact CutQ.normal ⟨by kernel_rfl, by kernel_rfl, _, rfl, hb, fun _ => ⟨hp, hin (by simp)⟩⟩
                                      | false =>
                                        go_wp2_with fail
                                        all_goals exact CutQ.normal ⟨by kernel_rfl, by kernel_rfl, _, rfl, hb, fun h => absurd h (by decide)⟩
                                    · intro xs0 b W hl0 hPB
                                      obtain ⟨q91, xs1, rfl, hl1⟩ := len_s hl0
                                      obtain ⟨q92, xs2, rfl, hl2⟩ := len_s hl1
                                      obtain ⟨q93, xs3, rfl, hl3⟩ := len_s hl2
                                      obtain ⟨q94, xs4, rfl, hl4⟩ := len_s hl3
                                      obtain ⟨q95, xs5, rfl, hl5⟩ := len_s hl4
                                      obtain rfl := len_z hl5
                                      clear hl0 hl1 hl2 hl3 hl4 hl5
                                      simp only [List.drop_succ_cons, List.drop_zero]
                                      simp only [over, List.cons_append, List.nil_append, Act.put, List.setIfInBounds_toArray, List.set_cons_zero, List.set_cons_succ, Nat.reduceAdd]
                                      clear hb
                                      obtain ⟨hb, hp⟩ := hPB; replace hD := hR.a6.below hb hs; replace hS := hR.a22.below hb hs; clear c0 c1 c2 c3 c4 c5 d0 d1 d2 d3 d4; obtain ⟨c0, c1, c2, c3, c4, c5, d0, d1, d2, d3, d4⟩ := HK.out _ hb
                                      cases b with
                                      | false =>
                                        go_wp2_with fail
                                        go_ret
                                        exact ⟨false, rfl, fun h => absurd h (by decide), bt hB hb⟩
                                      | true =>
                                        have hp := hp rfl
                                        go_wp2_with (first | (go_at_call 47; refine (rin_is _ _ _ _).mono ?_; rintro e wn ⟨bn, rfl, hin, rfl⟩; cases bn))
                                        all_goals
                                          go_ret
                                          first
                                            | exact ⟨false, rfl, fun h => absurd h (by decide), bt hB hb⟩
                                            | exact ⟨true, rfl, fun _ => ⟨f1.1.1, f1.1.2.1, f1.1.2.2, f1.2.1, f1.2.2, f2.1.1, f2.1.2, f2.2.1, f2.2.2, fun _ => ⟨hp.1.1.1.1, hp.1.1.2, hp.1.2, hp.2.1, hp.2.2, (hin (by simp)).1, (hin (by simp)).2⟩⟩, bt hB hb⟩
end Go.Proofs.Ytacadlbhgelncaa
