/-
  The document's Tick.
-/
import Derived.Test.YthofoocknmkdjaaM15
namespace Go.Proofs.Ythofoocknmkdjaa
open Go.RowKit Go.Maps Go.Shelf
set_option linter.unusedSimpArgs false
set_option linter.unusedVariables false
set_option maxRecDepth 20000
theorem grown_low {w0 w w' : World} {v : Value} {L : List Ro} (hb : Below w0.heap.size w0 w) (h : kN.Own w w0.heap.size v L) (hg : w.grownBy w' v.ownBlock) : Below w0.heap.size w0 w' :=
  below_keepO hb hg (fun g hlt e => by have := (own_lt h e).1; omega) hb.size
/-- Three rows of the call's own that lie apart. -/
structure TriI (w0 w : World) (v u z : Value) (L G H : List Ro) : Prop where
  be : Below w0.heap.size w0 w
  a : TwoT w0.heap.size w v u L G
  b : TwoT w0.heap.size w v z L H
  c : TwoT w0.heap.size w u z G H
theorem TriI.below {w0 w w' : World} {v u z : Value} {L G H : List Ro} (h : TriI w0 w v u z L G H) (hb : Below w.heap.size w w') : TriI w0 w' v u z L G H :=
  ⟨bt h.be hb, h.a.below hb, h.b.below hb, h.c.below hb⟩
theorem TriI.fst {w0 w w' : World} {v u z v' : Value} {L G H L' : List Ro} (h : TriI w0 w v u z L G H) (ho : kN.Own w' w0.heap.size v' L') (hg : w.grownBy w' v.ownBlock) (hv : v'.ownBlock = v.ownBlock ∨ v'.ownBlock = some w.heap.size) : TriI w0 w' v' u z L' G H :=
  ⟨grown_low h.be h.a.l hg, h.a.left ho hg hv, h.b.left ho hg hv, ⟨(h.a.left ho hg hv).g, (h.b.left ho hg hv).g, h.c.ne⟩⟩
theorem TriI.snd {w0 w w' : World} {v u z u' : Value} {L G H G' : List Ro} (h : TriI w0 w v u z L G H) (ho : kN.Own w' w0.heap.size u' G') (hg : w.grownBy w' u.ownBlock) (hv : u'.ownBlock = u.ownBlock ∨ u'.ownBlock = some w.heap.size) : TriI w0 w' v u' z L G' H :=
  ⟨grown_low h.be h.a.g hg, h.a.right ho hg hv, ⟨(h.a.right ho hg hv).l, (h.c.left ho hg hv).g, h.b.ne⟩, h.c.left ho hg hv⟩
theorem TriI.trd {w0 w w' : World} {v u z z' : Value} {L G H H' : List Ro} (h : TriI w0 w v u z L G H) (ho : kN.Own w' w0.heap.size z' H') (hg : w.grownBy w' z.ownBlock) (hv : z'.ownBlock = z.ownBlock ∨ z'.ownBlock = some w.heap.size) : TriI w0 w' v u z' L G H' :=
  ⟨grown_low h.be h.b.g hg, ⟨(h.b.right ho hg hv).l, (h.c.right ho hg hv).l, h.a.ne⟩, h.b.right ho hg hv, h.c.right ho hg hv⟩
/-- What is left behind Tick. -/
def stayT (now : Int) (n : Ro) : Bool := !(lateB now n && lateB now (expN n))
def upT (now : Int) (n : Ro) : Ro := if lateB now n = true then expN n else n
def leftT (now : Int) (K : List Ro) : List Ro := (K.filter (stayT now)).map (upT now)
def exT (now : Int) (K : List Ro) : List Ro := expR (K.filter (lateB now))
def goT (now : Int) (K : List Ro) : List Ro := goneR now (K.filter (lateB now))
theorem leftT_step {now : Int} {K : List Ro} {j : Nat} (hj : j < K.length) : leftT now (K.take (j + 1)) = if stayT now K[j] = true then leftT now (K.take j) ++ [upT now K[j]] else leftT now (K.take j) := by
  unfold leftT
  rw [List.take_succ_eq_append_getElem hj, List.filter_append, List.map_append]
  by_cases h : stayT now K[j] = true
  · rw [if_pos h]; simp [h]
  · rw [if_neg h]; simp [h]
theorem exT_step {now : Int} {K : List Ro} {j : Nat} (hj : j < K.length) : exT now (K.take (j + 1)) = if lateB now K[j] = true ∧ ¬ K[j].r = 65535 then exT now (K.take j) ++ [expN K[j]] else exT now (K.take j) := by
  unfold exT expR
  rw [List.take_succ_eq_append_getElem hj, List.filter_append, List.filter_append, List.map_append]
  by_cases h : lateB now K[j] = true
  · by_cases h4 : K[j].r = 65535
    · rw [if_neg (fun e => e.2 h4)]; simp [h, h4, liveB]
    · rw [if_pos ⟨h, h4⟩]; simp [h, h4, liveB]
  · rw [if_neg (fun e => h e.1)]; simp [h]
theorem goT_step {now : Int} {K : List Ro} {j : Nat} (hj : j < K.length) : goT now (K.take (j + 1)) = if lateB now K[j] = true ∧ lateB now (expN K[j]) = true then goT now (K.take j) ++ [expN K[j]] else goT now (K.take j) := by
  unfold goT goneR
  rw [List.take_succ_eq_append_getElem hj, List.filter_append, List.map_append, List.filter_append]
  by_cases h : lateB now K[j] = true
  · by_cases h4 : lateB now (expN K[j]) = true
    · rw [if_pos ⟨h, h4⟩]; simp [h, h4]
    · rw [if_neg (fun e => h4 e.2)]; simp [h, h4]
  · rw [if_neg (fun e => h e.1)]; simp [h]
theorem leftT_len (now : Int) (K : List Ro) : (leftT now K).length ≤ K.length := by
  unfold leftT
  rw [List.length_map]
  exact List.length_filter_le _ _
theorem exT_len (now : Int) (K : List Ro) : (exT now K).length ≤ K.length := Nat.le_trans (expR_len _) (List.length_filter_le _ _)
theorem goT_len (now : Int) (K : List Ro) : (goT now K).length ≤ K.length := Nat.le_trans (goneR_len _ _) (List.length_filter_le _ _)
theorem exp_is (n : Ro) (h : ¬ n.r = 65535) : (n.sR 65535).sU (n.u + n.d) = expN n := by unfold expN; rw [if_neg h]; rfl
set_option maxHeartbeats 16000000 in
theorem rtick_any {w : World} {B r : Nat} {most : Int} {K : List Ro} (h : Rb w B r most K) (now : Int) (hBw : B ≤ w.heap.size) (t0 : 0 ≤ now) (t1 : now ≤ 17592186044416) : Calls Try.prog 40 #[.pointer (some ⟨r, 0, none⟩), .int .i64 now] w fun e w' => ∃ a1 c1 a2 c2, e = .returned (.tuple #[.slice a1 (exT now K).length c1, .slice a2 (goT now K).length c2]) ∧ kN.Own w' w.heap.size (.slice a1 (exT now K).length c1) (exT now K) ∧ kN.Own w' w.heap.size (.slice a2 (goT now K).length c2) (goT now K) ∧ Rb w' B r most (leftT now K) ∧ RTurn w w' B r ∧ w.grownBy w' (some r) := by
  have hll := h.ll
  have hok := h.ok
  have hrl := h.lt
  obtain ⟨ad, c, L1, L0, L2⟩ := h.lies
  obtain ⟨ad', c', hrow, _⟩ := h.ex
  have HR : Hid (Row w r 30 [.int .i64 most, .slice ad' K.length c']) := hrow
  have HN : Hid (0 ≤ now ∧ now ≤ 17592186044416) := ⟨t0, t1⟩
  clear h L0 hrow t0 t1
  go_enter Try.func40, Try.ntmps40
  go_wp2_with fail
  go_loopw [6, 7, 8, 9] (fun v u y z wr => ∃ (j : Nat) (a1 : Option Addr) (n1 c1 : Nat) (a2 : Option Addr) (n2 c2 : Nat) (a3 : Option Addr) (n3 c3 : Nat), j ≤ K.length ∧ z = .int .i64 j ∧ v = .slice a1 n1 c1 ∧ u = .slice a2 n2 c2 ∧ y = .slice a3 n3 c3 ∧ TriI w wr (.slice a1 n1 c1) (.slice a2 n2 c2) (.slice a3 n3 c3) (leftT now (K.take j)) (exT now (K.take j)) (goT now (K.take j))) (fun _ _ _ v _ => K.length - (intOf v).toNat)
  case atStart => exact ⟨0, none, 0, 0, none, 0, 0, none, 0, 0, Nat.zero_le _, rfl, rfl, rfl, rfl, ⟨Below.refl _ _, ⟨World.ownsRow_nil _ _ _ _, World.ownsRow_nil _ _ _ _, .inl rfl⟩, ⟨World.ownsRow_nil _ _ _ _, World.ownsRow_nil _ _ _ _, .inl rfl⟩, ⟨World.ownsRow_nil _ _ _ _, World.ownsRow_nil _ _ _ _, .inl rfl⟩⟩⟩
  case round =>
    obtain ⟨j, a1, n1, c1, a2, n2, c2, a3, n3, c3, hj, rfl, rfl, rfl, rfl, I0⟩ := hrel
    have cL := L1 _ I0.be
    by_cases hlt : j < K.length
    · obtain ⟨g, rfl, hc⟩ := L2 (by intro e; rw [e] at hlt; simp at hlt)
      have hq : LS wr g (j * 81) K[j] := hc _ I0.be j _ (List.getElem?_eq_getElem hlt)
      have hji : (j : Int) < (K.length : Int) := by omega
      have hw64 : wrap64 ((j : Int) + 1) = (j : Int) + 1 := by unfold wrap64; omega
      have HJ : Hid (j + 1 ≤ K.length) := hlt
      have HM : Hid (K.length - ((j : Int) + 1).toNat < K.length - ((j : Int)).toNat) := meas hlt
      have ok := hok K[j] (List.getElem_mem hlt)
      have F1 : Hid (leftT now (K.take (j + 1)) = if stayT now K[j] = true then leftT now (K.take j) ++ [upT now K[j]] else leftT now (K.take j)) := leftT_step hlt
      have F2 : Hid (exT now (K.take (j + 1)) = if lateB now K[j] = true ∧ ¬ K[j].r = 65535 then exT now (K.take j) ++ [expN K[j]] else exT now (K.take j)) := exT_step hlt
      have F3 : Hid (goT now (K.take (j + 1)) = if lateB now K[j] = true ∧ lateB now (expN K[j]) = true then goT now (K.take j) ++ [expN K[j]] else goT now (K.take j)) := goT_step hlt
      have HL : Hid ((leftT now (K.take j)).length ≤ 10000000 ∧ (exT now (K.take j)).length ≤ 10000000 ∧ (goT now (K.take j)).length ≤ 10000000) := by
        have h1 := leftT_len now (K.take j)
        have h2 := exT_len now (K.take j)
        have h3 := goT_len now (K.take j)
        have h4 : (K.take j).length ≤ K.length := by rw [List.length_take]; omega
        exact ⟨by omega, by omega, by omega⟩
      clear hc L1 L2 hok hj
      generalize K[j] = n at *
      have hsz : w.heap.size ≤ wr.heap.size := I0.be.size
      by_cases hlate : n.u ≤ now
      · have hl : lateB now n = true := decide_eq_true hlate
        by_cases h4 : n.r = 65535
        · have hx : expN n = n := by unfold expN; rw [if_pos h4]
          have HF1 : Hid (leftT now (K.take (j + 1)) = leftT now (K.take j)) := by show _ = _; rw [F1.out]; unfold stayT; rw [hx, hl]; simp
          have HF2 : Hid (exT now (K.take (j + 1)) = exT now (K.take j)) := by show _ = _; rw [F2.out, if_neg (fun e => e.2 h4)]
          have HF3 : Hid (goT now (K.take (j + 1)) = goT now (K.take j) ++ [n]) := by show _ = _; rw [F3.out, hx, if_pos ⟨hl, hl⟩]
          have h4' : (n.r == 65535) = true := by simpa using h4
          have h4'' : (n.r != 65535) = false := by simpa using h4
          clear F1 F2 F3 hl ok h4 hx
          go_upto_region 6 with (first
            | (have kk := r1; (with_reducible refine stS (.tmp 10) (.tmp 26) ?_ ?_ g1 n zeroR ?_ ?_ ?_ ?_); (focus rfl); (focus rfl); (focus (repeat (first | with_reducible refine ev_ne ?_ rfl | with_reducible refine ev_no ?_ | (with_reducible refine ev_eq (n := 70) ?_ rfl; repeat (first | with_reducible refine sz_put ?_ | with_reducible refine sz_no ?_ | rfl)) | rfl))); (focus (repeat (first | with_reducible refine ev_ne ?_ rfl | with_reducible refine ev_no ?_ | (with_reducible refine ev_eq (n := 70) ?_ rfl; repeat (first | with_reducible refine sz_put ?_ | with_reducible refine sz_no ?_ | rfl)) | rfl))); (focus exact r1); intro W2 g2 r2; have b2 := grown_below g2 hB1 hge1 hB1.size; clear r1)
            | ((with_reducible refine alG infoRz ?_ ?_ ?_); (focus rfl); (focus rfl); intro g1 W1 hge1 hgl1 hB1 r1)
            | (refine ldS (.tmp 25) rfl rfl _ _ n rfl hq ?_))
          have c78 : W2.cell? ⟨g1, 78, none⟩ = some (.int .i64 n.u) := (r2.cell 78).trans (oc78 n)
          have c60 : W2.cell? ⟨g1, 60, none⟩ = some (.int .u16 n.r) := (r2.cell 60).trans (oc60 n)
          go_wp2_with (first
            | (have kk := r3; at_builtin; refine app_at (.tmp 56) (.tmp 58) rfl rfl w.heap.size (.slice a3 n3 c3) _ (by (repeat (first | with_reducible refine ev_ne ?_ rfl | with_reducible refine ev_no ?_ | (with_reducible refine ev_eq (n := 70) ?_ rfl; repeat (first | with_reducible refine sz_put ?_ | with_reducible refine sz_no ?_ | rfl)) | rfl))) I3.b.g _ 1 n (by (repeat (first | with_reducible refine ev_ne ?_ rfl | with_reducible refine ev_no ?_ | (with_reducible refine ev_eq (n := 70) ?_ rfl; repeat (first | with_reducible refine sz_put ?_ | with_reducible refine sz_no ?_ | rfl)) | rfl))) r3 HL.out.2.2 I3.be.size ?_; intro v4 W4 o4 g4 e4; obtain ⟨a4, c4, rfl, _⟩ := Kd.own_at o4; have I4 := I3.trd o4 g4 e4)
            | (have kk := r2; (with_reducible refine bsG (T := 28) (U := 41) (n := 1) [(0, .tmp 57)] (ocs n) ?_ ?_ ?_ ?_); (focus rfl); (focus rfl); (focus exact (fun w => bsN1 n w)); intro W3 r3 b3; have I3 := I0.below (bt b2 b3))
            | (have kk := r2; (with_reducible refine ldS (.tmp 10) ?_ ?_ g1 0 n ?_ ?_ ?_); (focus rfl); (focus rfl); (focus (repeat (first | with_reducible refine ev_ne ?_ rfl | with_reducible refine ev_no ?_ | (with_reducible refine ev_eq (n := 70) ?_ rfl; repeat (first | with_reducible refine sz_put ?_ | with_reducible refine sz_no ?_ | rfl)) | rfl))); (focus exact r2.ro)))
          go_roundw
          case rel => exact ⟨j + 1, a1, n1, c1, a2, n2, c2, a4, _, c4, HJ.out, by first | (rw [hw64]; rfl) | rfl | go_num, rfl, rfl, rfl, by rw [HF1.out, HF2.out, HF3.out]; rw [List.length_append] at I4; exact I4⟩
          case measure => first | (rw [hw64]; simp only [intOf]; exact HM.out) | (simp only [intOf]; exact HM.out)
        · have HX : Hid ((n.sR 65535).sU (n.u + n.d) = expN n) := exp_is n h4
          have HF2 : Hid (exT now (K.take (j + 1)) = exT now (K.take j) ++ [expN n]) := by show _ = _; rw [F2.out, if_pos ⟨hl, h4⟩]
          have hwt : wrap64 (n.u + n.d) = n.u + n.d := by have := ok.u0; have := ok.d0; have := ok.d1; have := HN.out; unfold wrap64; omega
          have h4' : (n.r == 65535) = false := by simpa using h4
          have h4'' : (n.r != 65535) = true := by simpa using h4
          have HU : Hid ((expN n).u = n.u + n.d) := by show _ = _; unfold expN; rw [if_neg h4]; rfl
          have HRr : Hid ((expN n).r = 65535) := by show _ = _; unfold expN; rw [if_neg h4]; rfl
          by_cases hl2 : n.u + n.d ≤ now
          · have hle : lateB now (expN n) = true := decide_eq_true (by rw [HU.out]; exact hl2)
            have HF1 : Hid (leftT now (K.take (j + 1)) = leftT now (K.take j)) := by show _ = _; rw [F1.out]; unfold stayT; rw [hl, hle]; simp
            have HF3 : Hid (goT now (K.take (j + 1)) = goT now (K.take j) ++ [expN n]) := by show _ = _; rw [F3.out, if_pos ⟨hl, hle⟩]
            clear F1 F2 F3 hl ok h4 hle
            obtain ⟨zz, hzz⟩ : ∃ z, n.u + n.d = z := ⟨_, rfl⟩
            replace hwt := hwt.trans hzz
            rw [hzz] at hl2 HU HX
            clear hzz
            generalize hxn : expN n = x at *
            clear hxn
            go_upto_region 6 with (first
              | (have kk := r1; (with_reducible refine stS (.tmp 10) (.tmp 26) ?_ ?_ g1 n zeroR ?_ ?_ ?_ ?_); (focus rfl); (focus rfl); (focus (repeat (first | with_reducible refine ev_ne ?_ rfl | with_reducible refine ev_no ?_ | (with_reducible refine ev_eq (n := 70) ?_ rfl; repeat (first | with_reducible refine sz_put ?_ | with_reducible refine sz_no ?_ | rfl)) | rfl))); (focus (repeat (first | with_reducible refine ev_ne ?_ rfl | with_reducible refine ev_no ?_ | (with_reducible refine ev_eq (n := 70) ?_ rfl; repeat (first | with_reducible refine sz_put ?_ | with_reducible refine sz_no ?_ | rfl)) | rfl))); (focus exact r1); intro W2 g2 r2; have b2 := grown_below g2 hB1 hge1 hB1.size; clear r1)
              | ((with_reducible refine alG infoRz ?_ ?_ ?_); (focus rfl); (focus rfl); intro g1 W1 hge1 hgl1 hB1 r1)
              | (refine ldS (.tmp 25) rfl rfl _ _ n rfl hq ?_))
            have c78 : W2.cell? ⟨g1, 78, none⟩ = some (.int .i64 n.u) := (r2.cell 78).trans (oc78 n)
            have c60 : W2.cell? ⟨g1, 60, none⟩ = some (.int .u16 n.r) := (r2.cell 60).trans (oc60 n)
            go_upto_region 10 with (first
              | (have kk := r5; at_builtin; refine app_at (.tmp 43) (.tmp 45) rfl rfl w.heap.size (.slice a2 n2 c2) _ (by (repeat (first | with_reducible refine ev_ne ?_ rfl | with_reducible refine ev_no ?_ | (with_reducible refine ev_eq (n := 70) ?_ rfl; repeat (first | with_reducible refine sz_put ?_ | with_reducible refine sz_no ?_ | rfl)) | rfl))) I5.a.g _ 1 x (by (repeat (first | with_reducible refine ev_ne ?_ rfl | with_reducible refine ev_no ?_ | (with_reducible refine ev_eq (n := 70) ?_ rfl; repeat (first | with_reducible refine sz_put ?_ | with_reducible refine sz_no ?_ | rfl)) | rfl))) r5 HL.out.2.1 I5.be.size ?_; intro v6 W6 o6 g6 e6; obtain ⟨a6, c6, rfl, _⟩ := Kd.own_at o6; have I6 := I5.snd o6 g6 e6; have r46 := r45.keepO g6 (fun e => by have := (own_lt I0.a.g e).2; omega); clear r5 r45 r4)
              | (have kk := r4; (with_reducible refine bsG (T := 28) (U := 41) (n := 1) [(0, .tmp 44)] (ocs x) ?_ ?_ ?_ ?_); (focus rfl); (focus rfl); (focus exact (fun w => bsN1 x w)); intro W5 r5 b5; have I5 := I0.below (bt b4 b5); have r45 := r4.below b5 r4.lt)
              | (have kk := r4; (with_reducible refine ldS (.tmp 10) ?_ ?_ g1 0 x ?_ ?_ ?_); (focus rfl); (focus rfl); (focus (repeat (first | with_reducible refine ev_ne ?_ rfl | with_reducible refine ev_no ?_ | (with_reducible refine ev_eq (n := 70) ?_ rfl; repeat (first | with_reducible refine sz_put ?_ | with_reducible refine sz_no ?_ | rfl)) | rfl))); (focus exact r4.ro))
              | (have kk := r3; (with_reducible refine inL ?_ fun K hK => ?_); (focus rfl); refine wp_stU (.tmp 42) (.tmp 41) rfl g1 zz (n.sR 65535) rfl (by first | exact congrArg (Value.int .i64) hwt | rfl) r3 ?_; intro W4 g4 r4'; refine hK _ _ ?_; have r4 : Row W4 g1 41 (ocs x) := (by rw [← HX.out]; exact r4'); have b4 := grown_below g4 b3 hge1 b3.size; clear r3 r4')
              | (have kk := r2; (with_reducible refine inL ?_ fun K hK => ?_); (focus rfl); refine wp_stRf (.tmp 36) (.const (.int .u16 65535)) rfl g1 65535 n rfl rfl r2 ?_; intro W3 g3 r3; refine hK _ _ ?_; have b3 := grown_below g3 b2 hge1 b2.size; have e78 : W3.cell? ⟨g1, 78, none⟩ = some (.int .i64 n.u) := (r3.cell 78).trans (oc78 (n.sR 65535)); have e79 : W3.cell? ⟨g1, 79, none⟩ = some (.int .i64 n.d) := (r3.cell 79).trans (oc79 (n.sR 65535)); clear r2))
            have d78 : W6.cell? ⟨g1, 78, none⟩ = some (.int .i64 zz) := (r46.cell 78).trans ((oc78 x).trans (by rw [HU.out]))
            have d60 : W6.cell? ⟨g1, 60, none⟩ = some (.int .u16 65535) := (r46.cell 60).trans ((oc60 x).trans (by rw [HRr.out]))
            go_wp2_with (first
              | (have kk := r7; at_builtin; refine app_at (.tmp 56) (.tmp 58) rfl rfl w.heap.size (.slice a3 n3 c3) _ (by (repeat (first | with_reducible refine ev_ne ?_ rfl | with_reducible refine ev_no ?_ | (with_reducible refine ev_eq (n := 70) ?_ rfl; repeat (first | with_reducible refine sz_put ?_ | with_reducible refine sz_no ?_ | rfl)) | rfl))) I7.b.g _ 1 x (by (repeat (first | with_reducible refine ev_ne ?_ rfl | with_reducible refine ev_no ?_ | (with_reducible refine ev_eq (n := 70) ?_ rfl; repeat (first | with_reducible refine sz_put ?_ | with_reducible refine sz_no ?_ | rfl)) | rfl))) r7 HL.out.2.2 I7.be.size ?_; intro v8 W8 o8 g8 e8; obtain ⟨a8, c8, rfl, _⟩ := Kd.own_at o8; have I8 := I7.trd o8 g8 e8)
              | (have kk := r46; (with_reducible refine bsG (T := 28) (U := 41) (n := 1) [(0, .tmp 57)] (ocs x) ?_ ?_ ?_ ?_); (focus rfl); (focus rfl); (focus exact (fun w => bsN1 x w)); intro W7 r7 b7; have I7 := I6.below b7)
              | (have kk := r46; (with_reducible refine ldS (.tmp 10) ?_ ?_ g1 0 x ?_ ?_ ?_); (focus rfl); (focus rfl); (focus (repeat (first | with_reducible refine ev_ne ?_ rfl | with_reducible refine ev_no ?_ | (with_reducible refine ev_eq (n := 70) ?_ rfl; repeat (first | with_reducible refine sz_put ?_ | with_reducible refine sz_no ?_ | rfl)) | rfl))); (focus exact r46.ro)))
            go_roundw
            case rel => exact ⟨j + 1, a1, n1, c1, a6, _, c6, a8, _, c8, HJ.out, by first | (rw [hw64]; rfl) | rfl | go_num, rfl, rfl, rfl, by rw [HF1.out, HF2.out, HF3.out]; rw [List.length_append] at I8; rw [List.length_append] at I8; exact I8⟩
            case measure => first | (rw [hw64]; simp only [intOf]; exact HM.out) | (simp only [intOf]; exact HM.out)
          · have hle : lateB now (expN n) = false := decide_eq_false (by rw [HU.out]; exact hl2)
            have HF1 : Hid (leftT now (K.take (j + 1)) = leftT now (K.take j) ++ [expN n]) := by show _ = _; rw [F1.out]; unfold stayT upT; rw [hl, hle]; simp
            have HF3 : Hid (goT now (K.take (j + 1)) = goT now (K.take j)) := by show _ = _; rw [F3.out, hle]; simp
            clear F1 F2 F3 hl ok h4 hle
            obtain ⟨zz, hzz⟩ : ∃ z, n.u + n.d = z := ⟨_, rfl⟩
            replace hwt := hwt.trans hzz
            rw [hzz] at hl2 HU HX
            clear hzz
            generalize hxn : expN n = x at *
            clear hxn
            go_upto_region 6 with (first
              | (have kk := r1; (with_reducible refine stS (.tmp 10) (.tmp 26) ?_ ?_ g1 n zeroR ?_ ?_ ?_ ?_); (focus rfl); (focus rfl); (focus (repeat (first | with_reducible refine ev_ne ?_ rfl | with_reducible refine ev_no ?_ | (with_reducible refine ev_eq (n := 70) ?_ rfl; repeat (first | with_reducible refine sz_put ?_ | with_reducible refine sz_no ?_ | rfl)) | rfl))); (focus (repeat (first | with_reducible refine ev_ne ?_ rfl | with_reducible refine ev_no ?_ | (with_reducible refine ev_eq (n := 70) ?_ rfl; repeat (first | with_reducible refine sz_put ?_ | with_reducible refine sz_no ?_ | rfl)) | rfl))); (focus exact r1); intro W2 g2 r2; have b2 := grown_below g2 hB1 hge1 hB1.size; clear r1)
              | ((with_reducible refine alG infoRz ?_ ?_ ?_); (focus rfl); (focus rfl); intro g1 W1 hge1 hgl1 hB1 r1)
              | (refine ldS (.tmp 25) rfl rfl _ _ n rfl hq ?_))
            have c78 : W2.cell? ⟨g1, 78, none⟩ = some (.int .i64 n.u) := (r2.cell 78).trans (oc78 n)
            have c60 : W2.cell? ⟨g1, 60, none⟩ = some (.int .u16 n.r) := (r2.cell 60).trans (oc60 n)
            go_upto_region 10 with (first
              | (have kk := r5; at_builtin; refine app_at (.tmp 43) (.tmp 45) rfl rfl w.heap.size (.slice a2 n2 c2) _ (by (repeat (first | with_reducible refine ev_ne ?_ rfl | with_reducible refine ev_no ?_ | (with_reducible refine ev_eq (n := 70) ?_ rfl; repeat (first | with_reducible refine sz_put ?_ | with_reducible refine sz_no ?_ | rfl)) | rfl))) I5.a.g _ 1 x (by (repeat (first | with_reducible refine ev_ne ?_ rfl | with_reducible refine ev_no ?_ | (with_reducible refine ev_eq (n := 70) ?_ rfl; repeat (first | with_reducible refine sz_put ?_ | with_reducible refine sz_no ?_ | rfl)) | rfl))) r5 HL.out.2.1 I5.be.size ?_; intro v6 W6 o6 g6 e6; obtain ⟨a6, c6, rfl, _⟩ := Kd.own_at o6; have I6 := I5.snd o6 g6 e6; have r46 := r45.keepO g6 (fun e => by have := (own_lt I0.a.g e).2; omega); clear r5 r45 r4)
              | (have kk := r4; (with_reducible refine bsG (T := 28) (U := 41) (n := 1) [(0, .tmp 44)] (ocs x) ?_ ?_ ?_ ?_); (focus rfl); (focus rfl); (focus exact (fun w => bsN1 x w)); intro W5 r5 b5; have I5 := I0.below (bt b4 b5); have r45 := r4.below b5 r4.lt)
              | (have kk := r4; (with_reducible refine ldS (.tmp 10) ?_ ?_ g1 0 x ?_ ?_ ?_); (focus rfl); (focus rfl); (focus (repeat (first | with_reducible refine ev_ne ?_ rfl | with_reducible refine ev_no ?_ | (with_reducible refine ev_eq (n := 70) ?_ rfl; repeat (first | with_reducible refine sz_put ?_ | with_reducible refine sz_no ?_ | rfl)) | rfl))); (focus exact r4.ro))
              | (have kk := r3; (with_reducible refine inL ?_ fun K hK => ?_); (focus rfl); refine wp_stU (.tmp 42) (.tmp 41) rfl g1 zz (n.sR 65535) rfl (by first | exact congrArg (Value.int .i64) hwt | rfl) r3 ?_; intro W4 g4 r4'; refine hK _ _ ?_; have r4 : Row W4 g1 41 (ocs x) := (by rw [← HX.out]; exact r4'); have b4 := grown_below g4 b3 hge1 b3.size; clear r3 r4')
              | (have kk := r2; (with_reducible refine inL ?_ fun K hK => ?_); (focus rfl); refine wp_stRf (.tmp 36) (.const (.int .u16 65535)) rfl g1 65535 n rfl rfl r2 ?_; intro W3 g3 r3; refine hK _ _ ?_; have b3 := grown_below g3 b2 hge1 b2.size; have e78 : W3.cell? ⟨g1, 78, none⟩ = some (.int .i64 n.u) := (r3.cell 78).trans (oc78 (n.sR 65535)); have e79 : W3.cell? ⟨g1, 79, none⟩ = some (.int .i64 n.d) := (r3.cell 79).trans (oc79 (n.sR 65535)); clear r2))
            have d78 : W6.cell? ⟨g1, 78, none⟩ = some (.int .i64 zz) := (r46.cell 78).trans ((oc78 x).trans (by rw [HU.out]))
            go_wp2_with (first
              | (have kk := r7; at_builtin; refine app_at (.tmp 60) (.tmp 62) rfl rfl w.heap.size (.slice a1 n1 c1) _ (by (repeat (first | with_reducible refine ev_ne ?_ rfl | with_reducible refine ev_no ?_ | (with_reducible refine ev_eq (n := 70) ?_ rfl; repeat (first | with_reducible refine sz_put ?_ | with_reducible refine sz_no ?_ | rfl)) | rfl))) I7.a.l _ 1 x (by (repeat (first | with_reducible refine ev_ne ?_ rfl | with_reducible refine ev_no ?_ | (with_reducible refine ev_eq (n := 70) ?_ rfl; repeat (first | with_reducible refine sz_put ?_ | with_reducible refine sz_no ?_ | rfl)) | rfl))) r7 HL.out.1 I7.be.size ?_; intro v8 W8 o8 g8 e8; obtain ⟨a8, c8, rfl, _⟩ := Kd.own_at o8; have I8 := I7.fst o8 g8 e8)
              | (have kk := r46; (with_reducible refine bsG (T := 28) (U := 41) (n := 1) [(0, .tmp 61)] (ocs x) ?_ ?_ ?_ ?_); (focus rfl); (focus rfl); (focus exact (fun w => bsN1 x w)); intro W7 r7 b7; have I7 := I6.below b7)
              | (have kk := r46; (with_reducible refine ldS (.tmp 10) ?_ ?_ g1 0 x ?_ ?_ ?_); (focus rfl); (focus rfl); (focus (repeat (first | with_reducible refine ev_ne ?_ rfl | with_reducible refine ev_no ?_ | (with_reducible refine ev_eq (n := 70) ?_ rfl; repeat (first | with_reducible refine sz_put ?_ | with_reducible refine sz_no ?_ | rfl)) | rfl))); (focus exact r46.ro)))
            go_roundw
            case rel => exact ⟨j + 1, a8, _, c8, a6, _, c6, a3, n3, c3, HJ.out, by first | (rw [hw64]; rfl) | rfl | go_num, rfl, rfl, rfl, by rw [HF1.out, HF2.out, HF3.out]; rw [List.length_append] at I8; rw [List.length_append] at I8; exact I8⟩
            case measure => first | (rw [hw64]; simp only [intOf]; exact HM.out) | (simp only [intOf]; exact HM.out)
      · have hl : lateB now n = false := decide_eq_false hlate
        have HF1 : Hid (leftT now (K.take (j + 1)) = leftT now (K.take j) ++ [n]) := by show _ = _; rw [F1.out]; unfold stayT upT; rw [hl]; rfl
        have HF2 : Hid (exT now (K.take (j + 1)) = exT now (K.take j)) := by show _ = _; rw [F2.out, hl]; simp
        have HF3 : Hid (goT now (K.take (j + 1)) = goT now (K.take j)) := by show _ = _; rw [F3.out, hl]; simp
        clear F1 F2 F3 hl ok
        go_upto_region 6 with (first
          | (have kk := r1; (with_reducible refine stS (.tmp 10) (.tmp 26) ?_ ?_ g1 n zeroR ?_ ?_ ?_ ?_); (focus rfl); (focus rfl); (focus (repeat (first | with_reducible refine ev_ne ?_ rfl | with_reducible refine ev_no ?_ | (with_reducible refine ev_eq (n := 70) ?_ rfl; repeat (first | with_reducible refine sz_put ?_ | with_reducible refine sz_no ?_ | rfl)) | rfl))); (focus (repeat (first | with_reducible refine ev_ne ?_ rfl | with_reducible refine ev_no ?_ | (with_reducible refine ev_eq (n := 70) ?_ rfl; repeat (first | with_reducible refine sz_put ?_ | with_reducible refine sz_no ?_ | rfl)) | rfl))); (focus exact r1); intro W2 g2 r2; have b2 := grown_below g2 hB1 hge1 hB1.size; clear r1)
          | ((with_reducible refine alG infoRz ?_ ?_ ?_); (focus rfl); (focus rfl); intro g1 W1 hge1 hgl1 hB1 r1)
          | (refine ldS (.tmp 25) rfl rfl _ _ n rfl hq ?_))
        have c78 : W2.cell? ⟨g1, 78, none⟩ = some (.int .i64 n.u) := (r2.cell 78).trans (oc78 n)
        go_wp2_with (first
          | (have kk := r3; at_builtin; refine app_at (.tmp 60) (.tmp 62) rfl rfl w.heap.size (.slice a1 n1 c1) _ (by (repeat (first | with_reducible refine ev_ne ?_ rfl | with_reducible refine ev_no ?_ | (with_reducible refine ev_eq (n := 70) ?_ rfl; repeat (first | with_reducible refine sz_put ?_ | with_reducible refine sz_no ?_ | rfl)) | rfl))) I3.a.l _ 1 n (by (repeat (first | with_reducible refine ev_ne ?_ rfl | with_reducible refine ev_no ?_ | (with_reducible refine ev_eq (n := 70) ?_ rfl; repeat (first | with_reducible refine sz_put ?_ | with_reducible refine sz_no ?_ | rfl)) | rfl))) r3 HL.out.1 I3.be.size ?_; intro v4 W4 o4 g4 e4; obtain ⟨a4, c4, rfl, _⟩ := Kd.own_at o4; have I4 := I3.fst o4 g4 e4)
          | (have kk := r2; (with_reducible refine bsG (T := 28) (U := 41) (n := 1) [(0, .tmp 61)] (ocs n) ?_ ?_ ?_ ?_); (focus rfl); (focus rfl); (focus exact (fun w => bsN1 n w)); intro W3 r3 b3; have I3 := I0.below (bt b2 b3))
          | (have kk := r2; (with_reducible refine ldS (.tmp 10) ?_ ?_ g1 0 n ?_ ?_ ?_); (focus rfl); (focus rfl); (focus (repeat (first | with_reducible refine ev_ne ?_ rfl | with_reducible refine ev_no ?_ | (with_reducible refine ev_eq (n := 70) ?_ rfl; repeat (first | with_reducible refine sz_put ?_ | with_reducible refine sz_no ?_ | rfl)) | rfl))); (focus exact r2.ro)))
        go_roundw
        case rel => exact ⟨j + 1, a4, _, c4, a2, n2, c2, a3, n3, c3, HJ.out, by first | (rw [hw64]; rfl) | rfl | go_num, rfl, rfl, rfl, by rw [HF1.out, HF2.out, HF3.out]; rw [List.length_append] at I4; exact I4⟩
        case measure => first | (rw [hw64]; simp only [intOf]; exact HM.out) | (simp only [intOf]; exact HM.out)
    · have hjl : j = K.length := by omega
      subst hjl
      rw [List.take_length] at I0
      have hrow := HR.out.below I0.be hrl
      have c0 := hrow.cell 1
      have f0 := hrow.frozen 1
      have HFin : Hid (∃ e2 e3, a2 = e2 ∧ n2 = (exT now K).length ∧ a3 = e3 ∧ n3 = (goT now K).length ∧ kN.Own (wr.setCell ⟨r, 1, none⟩ (.slice a1 n1 c1)) w.heap.size (.slice a2 n2 c2) (exT now K) ∧ kN.Own (wr.setCell ⟨r, 1, none⟩ (.slice a1 n1 c1)) w.heap.size (.slice a3 n3 c3) (goT now K) ∧ Rb (wr.setCell ⟨r, 1, none⟩ (.slice a1 n1 c1)) B r most (leftT now K) ∧ RTurn w (wr.setCell ⟨r, 1, none⟩ (.slice a1 n1 c1)) B r ∧ w.grownBy (wr.setCell ⟨r, 1, none⟩ (.slice a1 n1 c1)) (some r)) := by
        have hg := grownBy_setCell wr r 1 (.slice a1 n1 c1)
        refine ⟨a2, a3, rfl, own_get I0.a.g, rfl, own_get I0.b.g, World.ownsRow.kept I0.a.g hg (.inr (own_ne_lt I0.a.g hrl)), World.ownsRow.kept I0.b.g hg (.inr (own_ne_lt I0.b.g hrl)), ⟨?_, ?_, ?_⟩, RTurn.pre I0.be (RTurn.self hg), grown_pre I0.be hg⟩
        · obtain ⟨aa, cc, e, _⟩ := Kd.own_at I0.a.l
          obtain ⟨rfl, rfl, rfl⟩ : a1 = aa ∧ n1 = (leftT now K).length ∧ c1 = cc := by cases e; exact ⟨rfl, rfl, rfl⟩
          exact ⟨a1, c1, hrow.set 1 _, Kd.own_up (World.ownsRow.kept I0.a.l hg (.inr (own_ne_lt I0.a.l hrl))) hBw⟩
        · intro n hn
          unfold leftT at hn
          obtain ⟨m, hm, rfl⟩ := List.mem_map.1 hn
          obtain ⟨hm1, hm2⟩ := List.mem_filter.1 hm
          unfold upT
          split
          · rename_i hl
            exact expN_ok (hok m hm1) (of_decide_eq_true hl) HN.out.2
          · exact hok m hm1
        · have := leftT_len now K
          omega
      clear I0 hrow HR L1 L2 hok
      go_wp2_with fail
      go_ret2
      obtain ⟨e2, e3, rfl, rfl, rfl, rfl, h1, h2, h3, h4⟩ := HFin.out
      exact ⟨_, _, _, _, rfl, h1, h2, h3, h4⟩
end Go.Proofs.Ythofoocknmkdjaa
