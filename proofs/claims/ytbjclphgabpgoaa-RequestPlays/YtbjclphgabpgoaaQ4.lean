/-
  The document's Tick.
-/
import Derived.Test.YtbjclphgabpgoaaQ3
import Derived.Test.YtbjclphgabpgoaaRG
namespace Go.Proofs.Ytbjclphgabpgoaa
open Go.RowKit Go.Maps Go.Shelf
set_option linter.unusedSimpArgs false
set_option linter.unusedVariables false
set_option maxRecDepth 20000
theorem grown_low {w0 w w' : World} {v : Value} {L : List Sr} (hb : Below w0.heap.size w0 w) (h : kN.Own w w0.heap.size v L) (hg : w.grownBy w' v.ownBlock) : Below w0.heap.size w0 w' :=
  below_keepO hb hg (fun g hlt e => by have := (own_lt h e).1; omega) hb.size
/-- Three rows of the call's own that lie apart. -/
structure TriI (w0 w : World) (v u z : Value) (L G H : List Sr) : Prop where
  be : Below w0.heap.size w0 w
  a : TwoT w0.heap.size w v u L G
  b : TwoT w0.heap.size w v z L H
  c : TwoT w0.heap.size w u z G H
theorem TriI.below {w0 w w' : World} {v u z : Value} {L G H : List Sr} (h : TriI w0 w v u z L G H) (hb : Below w.heap.size w w') : TriI w0 w' v u z L G H :=
  ⟨bt h.be hb, h.a.below hb, h.b.below hb, h.c.below hb⟩
theorem TriI.fst {w0 w w' : World} {v u z v' : Value} {L G H L' : List Sr} (h : TriI w0 w v u z L G H) (ho : kN.Own w' w0.heap.size v' L') (hg : w.grownBy w' v.ownBlock) (hv : v'.ownBlock = v.ownBlock ∨ v'.ownBlock = some w.heap.size) : TriI w0 w' v' u z L' G H :=
  ⟨grown_low h.be h.a.l hg, h.a.left ho hg hv, h.b.left ho hg hv, ⟨(h.a.left ho hg hv).g, (h.b.left ho hg hv).g, h.c.ne⟩⟩
theorem TriI.snd {w0 w w' : World} {v u z u' : Value} {L G H G' : List Sr} (h : TriI w0 w v u z L G H) (ho : kN.Own w' w0.heap.size u' G') (hg : w.grownBy w' u.ownBlock) (hv : u'.ownBlock = u.ownBlock ∨ u'.ownBlock = some w.heap.size) : TriI w0 w' v u' z L G' H :=
  ⟨grown_low h.be h.a.g hg, h.a.right ho hg hv, ⟨(h.a.right ho hg hv).l, (h.c.left ho hg hv).g, h.b.ne⟩, h.c.left ho hg hv⟩
theorem TriI.trd {w0 w w' : World} {v u z z' : Value} {L G H H' : List Sr} (h : TriI w0 w v u z L G H) (ho : kN.Own w' w0.heap.size z' H') (hg : w.grownBy w' z.ownBlock) (hv : z'.ownBlock = z.ownBlock ∨ z'.ownBlock = some w.heap.size) : TriI w0 w' v u z' L G H' :=
  ⟨grown_low h.be h.b.g hg, ⟨(h.b.right ho hg hv).l, (h.c.right ho hg hv).l, h.a.ne⟩, h.b.right ho hg hv, h.c.right ho hg hv⟩
/-- What is left behind Tick. -/
def stayB (now : Int) (n : Sr) : Bool := !(lateB now n && decide (n.m = 4))
def upS (now : Int) (n : Sr) : Sr := if lateB now n = true then sentR n now else n
def leftR (now : Int) (K : List Sr) : List Sr := (K.filter (stayB now)).map (upS now)
theorem leftR_step {now : Int} {K : List Sr} {j : Nat} (hj : j < K.length) : leftR now (K.take (j + 1)) = if stayB now K[j] = true then leftR now (K.take j) ++ [upS now K[j]] else leftR now (K.take j) := by
  unfold leftR
  rw [List.take_succ_eq_append_getElem hj, List.filter_append, List.map_append]
  by_cases h : stayB now K[j] = true
  · rw [if_pos h]; simp [h]
  · rw [if_neg h]; simp [h]
theorem leftR_len (now : Int) (K : List Sr) : (leftR now K).length ≤ K.length := by
  unfold leftR
  rw [List.length_map]
  exact List.length_filter_le _ _
def agR (now : Int) (K : List Sr) : List Sr := againR now (K.filter (lateB now))
def goR (now : Int) (K : List Sr) : List Sr := goneR (K.filter (lateB now))
theorem agR_step {now : Int} {K : List Sr} {j : Nat} (hj : j < K.length) : agR now (K.take (j + 1)) = if lateB now K[j] = true ∧ ¬ K[j].m = 4 then agR now (K.take j) ++ [sentR K[j] now] else agR now (K.take j) := by
  unfold agR againR
  rw [List.take_succ_eq_append_getElem hj, List.filter_append, List.filter_append, List.map_append]
  by_cases h : lateB now K[j] = true
  · by_cases h4 : K[j].m = 4
    · rw [if_neg (fun e => e.2 h4)]; simp [h, h4, moreB]
    · rw [if_pos ⟨h, h4⟩]; simp [h, h4, moreB]
  · rw [if_neg (fun e => h e.1)]; simp [h]
theorem goR_step {now : Int} {K : List Sr} {j : Nat} (hj : j < K.length) : goR now (K.take (j + 1)) = if lateB now K[j] = true ∧ K[j].m = 4 then goR now (K.take j) ++ [K[j]] else goR now (K.take j) := by
  unfold goR goneR
  rw [List.take_succ_eq_append_getElem hj, List.filter_append, List.filter_append]
  by_cases h : lateB now K[j] = true
  · by_cases h4 : K[j].m = 4
    · rw [if_pos ⟨h, h4⟩]; simp [h, h4]
    · rw [if_neg (fun e => h4 e.2)]; simp [h, h4]
  · rw [if_neg (fun e => h e.1)]; simp [h]
theorem agR_len (now : Int) (K : List Sr) : (agR now K).length ≤ K.length := Nat.le_trans (againR_len _ _) (List.length_filter_le _ _)
theorem goR_len (now : Int) (K : List Sr) : (goR now K).length ≤ K.length := Nat.le_trans (goneR_len _) (List.length_filter_le _ _)
def wtZ (k : Nat) : Int := 2000 * 2 ^ k
theorem two_pow (k : Nat) (h : k ≤ 2) : wrap64 (2 * wtZ k) = wtZ (k + 1) := by
  unfold wtZ
  match k, h with
  | 0, _ => unfold wrap64; simp
  | 1, _ => unfold wrap64; simp
  | 2, _ => unfold wrap64; simp
theorem pow_le {m : Int} (h0 : 0 ≤ m) (h1 : m ≤ 3) : (0 : Int) ≤ wtZ m.toNat ∧ wtZ m.toNat ≤ 16000 := by
  unfold wtZ
  have hm : m = 0 ∨ m = 1 ∨ m = 2 ∨ m = 3 := by omega
  rcases hm with rfl | rfl | rfl | rfl <;> decide
theorem tick_in {k : Nat} {m : Int} (hm : 0 ≤ m ∧ m ≤ 3) (hk : (k : Int) < m) : k ≤ 2 ∧ ((k + 1 : Nat) : Int) ≤ m ∧ m.toNat - ((k : Int) + 1).toNat < m.toNat - ((k : Int)).toNat ∧ wrap64 ((k : Int) + 1) = (k : Int) + 1 := by
  refine ⟨by omega, by omega, by omega, ?_⟩
  unfold wrap64
  omega
theorem tick_out {k : Nat} {m : Int} (hm : 0 ≤ m ∧ m ≤ 3) (hk : (k : Int) ≤ m) (h : ¬ (k : Int) < m) : k = m.toNat ∧ ¬ ((m.toNat : Nat) : Int) < m := by omega
theorem sent_is2 (n : Sr) (now x y : Int) (h1 : x = n.m + 1) (h2 : y = now + wtZ n.m.toNat) : (n.sM x).sT y = sentR n now := by subst h1 h2; rfl
set_option maxHeartbeats 16000000 in
theorem rtick_any {w : World} {B r : Nat} {most : Int} {K : List Sr} (h : Rb w B r most K) (now : Int) (hBw : B ≤ w.heap.size) (t0 : 0 ≤ now) (t1 : now ≤ 562949953421312) : Calls Try.prog 21 #[.pointer (some ⟨r, 0, none⟩), .int .i64 now] w fun e w' => ∃ a1 c1 a2 c2, e = .returned (.tuple #[.slice a1 (agR now K).length c1, .slice a2 (goR now K).length c2]) ∧ kN.Own w' w.heap.size (.slice a1 (agR now K).length c1) (agR now K) ∧ kN.Own w' w.heap.size (.slice a2 (goR now K).length c2) (goR now K) ∧ Rb w' B r most (leftR now K) ∧ RTurn w w' B r ∧ w.grownBy w' (some r) := by
  have hll := h.ll
  have hok := h.ok
  have hrl := h.lt
  obtain ⟨ad, c, L1, L0, L2⟩ := h.lies
  obtain ⟨ad', c', hrow, _⟩ := h.ex
  have HR : Hid (Row w r 31 [.int .i64 most, .slice ad' K.length c']) := hrow
  have HN : Hid (0 ≤ now ∧ now ≤ 562949953421312) := ⟨t0, t1⟩
  clear h L0 hrow t0 t1
  go_enter Try.func21, Try.ntmps21
  go_wp2_with fail
  go_loopw [6, 7, 8, 9] (fun v u y z wr => ∃ (j : Nat) (a1 : Option Addr) (n1 c1 : Nat) (a2 : Option Addr) (n2 c2 : Nat) (a3 : Option Addr) (n3 c3 : Nat), j ≤ K.length ∧ z = .int .i64 j ∧ v = .slice a1 n1 c1 ∧ u = .slice a2 n2 c2 ∧ y = .slice a3 n3 c3 ∧ TriI w wr (.slice a1 n1 c1) (.slice a2 n2 c2) (.slice a3 n3 c3) (leftR now (K.take j)) (agR now (K.take j)) (goR now (K.take j))) (fun _ _ _ v _ => K.length - (intOf v).toNat)
  case atStart => exact ⟨0, none, 0, 0, none, 0, 0, none, 0, 0, Nat.zero_le _, rfl, rfl, rfl, rfl, ⟨Below.refl _ _, ⟨World.ownsRow_nil _ _ _ _, World.ownsRow_nil _ _ _ _, .inl rfl⟩, ⟨World.ownsRow_nil _ _ _ _, World.ownsRow_nil _ _ _ _, .inl rfl⟩, ⟨World.ownsRow_nil _ _ _ _, World.ownsRow_nil _ _ _ _, .inl rfl⟩⟩⟩
  case round =>
    obtain ⟨j, a1, n1, c1, a2, n2, c2, a3, n3, c3, hj, rfl, rfl, rfl, rfl, I0⟩ := hrel
    have cL := L1 _ I0.be
    by_cases hlt : j < K.length
    · obtain ⟨g, rfl, hc⟩ := L2 (by intro e; rw [e] at hlt; simp at hlt)
      have hq : LS wr g (j * 45) K[j] := hc _ I0.be j _ (List.getElem?_eq_getElem hlt)
      have hji : (j : Int) < (K.length : Int) := by omega
      have hw64 : wrap64 ((j : Int) + 1) = (j : Int) + 1 := by unfold wrap64; omega
      have HJ : Hid (j + 1 ≤ K.length) := hlt
      have HM : Hid (K.length - ((j : Int) + 1).toNat < K.length - ((j : Int)).toNat) := meas hlt
      have ok := hok K[j] (List.getElem_mem hlt)
      have F1 : Hid (leftR now (K.take (j + 1)) = if stayB now K[j] = true then leftR now (K.take j) ++ [upS now K[j]] else leftR now (K.take j)) := leftR_step hlt
      have F2 : Hid (agR now (K.take (j + 1)) = if lateB now K[j] = true ∧ ¬ K[j].m = 4 then agR now (K.take j) ++ [sentR K[j] now] else agR now (K.take j)) := agR_step hlt
      have F3 : Hid (goR now (K.take (j + 1)) = if lateB now K[j] = true ∧ K[j].m = 4 then goR now (K.take j) ++ [K[j]] else goR now (K.take j)) := goR_step hlt
      have HL : Hid ((leftR now (K.take j)).length ≤ 10000000 ∧ (agR now (K.take j)).length ≤ 10000000 ∧ (goR now (K.take j)).length ≤ 10000000) := by
        have h1 := leftR_len now (K.take j)
        have h2 := agR_len now (K.take j)
        have h3 := goR_len now (K.take j)
        have h4 : (K.take j).length ≤ K.length := by rw [List.length_take]; omega
        exact ⟨by omega, by omega, by omega⟩
      clear hc L1 L2 hok hj
      generalize K[j] = n at *
      have hsz : w.heap.size ≤ wr.heap.size := I0.be.size
      by_cases hlate : now < n.t
      · have hl : lateB now n = false := decide_eq_false (by omega)
        have HF1 : Hid (leftR now (K.take (j + 1)) = leftR now (K.take j) ++ [n]) := by show _ = _; rw [F1.out]; unfold stayB upS; rw [hl]; rfl
        have HF2 : Hid (agR now (K.take (j + 1)) = agR now (K.take j)) := by show _ = _; rw [F2.out, hl]; simp
        have HF3 : Hid (goR now (K.take (j + 1)) = goR now (K.take j)) := by show _ = _; rw [F3.out, hl]; simp
        clear F1 F2 F3 hl ok
        go_upto_region 6 with (first
          | (have kk := r1; (with_reducible refine stS (.tmp 10) (.tmp 28) ?_ ?_ g1 n zeroS ?_ ?_ ?_ ?_); (focus rfl); (focus rfl); (focus (repeat (first | with_reducible refine ev_ne ?_ rfl | with_reducible refine ev_no ?_ | (with_reducible refine ev_eq (n := 74) ?_ rfl; repeat (first | with_reducible refine sz_put ?_ | with_reducible refine sz_no ?_ | rfl)) | rfl))); (focus (repeat (first | with_reducible refine ev_ne ?_ rfl | with_reducible refine ev_no ?_ | (with_reducible refine ev_eq (n := 74) ?_ rfl; repeat (first | with_reducible refine sz_put ?_ | with_reducible refine sz_no ?_ | rfl)) | rfl))); (focus exact r1); intro W2 g2 r2; have b2 := grown_below g2 hB1 hge1 hB1.size; clear r1)
          | ((with_reducible refine alG infoSz ?_ ?_ ?_); (focus rfl); (focus rfl); intro g1 W1 hge1 hgl1 hB1 r1)
          | (refine ldS (.tmp 27) rfl rfl _ _ n rfl hq ?_))
        have c44 : W2.cell? ⟨g1, 44, none⟩ = some (.int .i64 n.t) := (r2.cell 44).trans (sc44 n)
        go_wp2_with (first
          | (have kk := r3; at_builtin; refine app_at (.tmp 33) (.tmp 35) rfl rfl w.heap.size (.slice a1 n1 c1) _ (by (repeat (first | with_reducible refine ev_ne ?_ rfl | with_reducible refine ev_no ?_ | (with_reducible refine ev_eq (n := 74) ?_ rfl; repeat (first | with_reducible refine sz_put ?_ | with_reducible refine sz_no ?_ | rfl)) | rfl))) I3.a.l _ 1 n (by (repeat (first | with_reducible refine ev_ne ?_ rfl | with_reducible refine ev_no ?_ | (with_reducible refine ev_eq (n := 74) ?_ rfl; repeat (first | with_reducible refine sz_put ?_ | with_reducible refine sz_no ?_ | rfl)) | rfl))) r3 HL.out.1 I3.be.size ?_; intro v4 W4 o4 g4 e4; obtain ⟨a4, c4, rfl, _⟩ := Kd.own_at o4; have I4 := I3.fst o4 g4 e4)
          | (have kk := r2; (with_reducible refine bsG (T := 29) (U := 67) (n := 1) [(0, .tmp 34)] (scs n) ?_ ?_ ?_ ?_); (focus rfl); (focus rfl); (focus exact (fun w => bsN1 n w)); intro W3 r3 b3; have I3 := I0.below (bt b2 b3))
          | (have kk := r2; (with_reducible refine ldS (.tmp 10) ?_ ?_ g1 0 n ?_ ?_ ?_); (focus rfl); (focus rfl); (focus (repeat (first | with_reducible refine ev_ne ?_ rfl | with_reducible refine ev_no ?_ | (with_reducible refine ev_eq (n := 74) ?_ rfl; repeat (first | with_reducible refine sz_put ?_ | with_reducible refine sz_no ?_ | rfl)) | rfl))); (focus exact r2.sr)))
        go_roundw
        case rel => exact ⟨j + 1, a4, _, c4, a2, n2, c2, a3, n3, c3, HJ.out, by first | rfl | go_num, rfl, rfl, rfl, by rw [HF1.out, HF2.out, HF3.out]; rw [List.length_append] at I4; exact I4⟩
        case measure => first | (rw [hw64]; simp only [intOf]; exact HM.out) | (simp only [intOf]; exact HM.out)
      · have hl : lateB now n = true := decide_eq_true (by omega)
        by_cases h4 : n.m = 4
        · have HF1 : Hid (leftR now (K.take (j + 1)) = leftR now (K.take j)) := by show _ = _; rw [F1.out]; unfold stayB; rw [hl]; simp [h4]
          have HF2 : Hid (agR now (K.take (j + 1)) = agR now (K.take j)) := by show _ = _; rw [F2.out, if_neg (fun e => e.2 h4)]
          have HF3 : Hid (goR now (K.take (j + 1)) = goR now (K.take j) ++ [n]) := by show _ = _; rw [F3.out, if_pos ⟨hl, h4⟩]
          have h4' : (n.m == 4) = true := by simpa using h4
          clear F1 F2 F3 hl ok h4
          go_upto_region 6 with (first
            | (have kk := r1; (with_reducible refine stS (.tmp 10) (.tmp 28) ?_ ?_ g1 n zeroS ?_ ?_ ?_ ?_); (focus rfl); (focus rfl); (focus (repeat (first | with_reducible refine ev_ne ?_ rfl | with_reducible refine ev_no ?_ | (with_reducible refine ev_eq (n := 74) ?_ rfl; repeat (first | with_reducible refine sz_put ?_ | with_reducible refine sz_no ?_ | rfl)) | rfl))); (focus (repeat (first | with_reducible refine ev_ne ?_ rfl | with_reducible refine ev_no ?_ | (with_reducible refine ev_eq (n := 74) ?_ rfl; repeat (first | with_reducible refine sz_put ?_ | with_reducible refine sz_no ?_ | rfl)) | rfl))); (focus exact r1); intro W2 g2 r2; have b2 := grown_below g2 hB1 hge1 hB1.size; clear r1)
            | ((with_reducible refine alG infoSz ?_ ?_ ?_); (focus rfl); (focus rfl); intro g1 W1 hge1 hgl1 hB1 r1)
            | (refine ldS (.tmp 27) rfl rfl _ _ n rfl hq ?_))
          have c44 : W2.cell? ⟨g1, 44, none⟩ = some (.int .i64 n.t) := (r2.cell 44).trans (sc44 n)
          have c43 : W2.cell? ⟨g1, 43, none⟩ = some (.int .i64 n.m) := (r2.cell 43).trans (sc43 n)
          go_wp2_with (first
            | (have kk := r3; at_builtin; refine app_at (.tmp 40) (.tmp 42) rfl rfl w.heap.size (.slice a3 n3 c3) _ (by (repeat (first | with_reducible refine ev_ne ?_ rfl | with_reducible refine ev_no ?_ | (with_reducible refine ev_eq (n := 74) ?_ rfl; repeat (first | with_reducible refine sz_put ?_ | with_reducible refine sz_no ?_ | rfl)) | rfl))) I3.b.g _ 1 n (by (repeat (first | with_reducible refine ev_ne ?_ rfl | with_reducible refine ev_no ?_ | (with_reducible refine ev_eq (n := 74) ?_ rfl; repeat (first | with_reducible refine sz_put ?_ | with_reducible refine sz_no ?_ | rfl)) | rfl))) r3 HL.out.2.2 I3.be.size ?_; intro v4 W4 o4 g4 e4; obtain ⟨a4, c4, rfl, _⟩ := Kd.own_at o4; have I4 := I3.trd o4 g4 e4)
            | (have kk := r2; (with_reducible refine bsG (T := 29) (U := 67) (n := 1) [(0, .tmp 41)] (scs n) ?_ ?_ ?_ ?_); (focus rfl); (focus rfl); (focus exact (fun w => bsN1 n w)); intro W3 r3 b3; have I3 := I0.below (bt b2 b3))
            | (have kk := r2; (with_reducible refine ldS (.tmp 10) ?_ ?_ g1 0 n ?_ ?_ ?_); (focus rfl); (focus rfl); (focus (repeat (first | with_reducible refine ev_ne ?_ rfl | with_reducible refine ev_no ?_ | (with_reducible refine ev_eq (n := 74) ?_ rfl; repeat (first | with_reducible refine sz_put ?_ | with_reducible refine sz_no ?_ | rfl)) | rfl))); (focus exact r2.sr)))
          go_roundw
          case rel => exact ⟨j + 1, a1, n1, c1, a2, n2, c2, a4, _, c4, HJ.out, by first | rfl | go_num, rfl, rfl, rfl, by rw [HF1.out, HF2.out, HF3.out]; rw [List.length_append] at I4; exact I4⟩
          case measure => first | (rw [hw64]; simp only [intOf]; exact HM.out) | (simp only [intOf]; exact HM.out)
        · have hm3 : 0 ≤ n.m ∧ n.m ≤ 3 := by have := ok.m0; have := ok.m1; omega
          have HF1 : Hid (leftR now (K.take (j + 1)) = leftR now (K.take j) ++ [sentR n now]) := by show _ = _; rw [F1.out]; unfold stayB upS; rw [hl]; simp [h4]
          have HF2 : Hid (agR now (K.take (j + 1)) = agR now (K.take j) ++ [sentR n now]) := by show _ = _; rw [F2.out, if_pos ⟨hl, h4⟩]
          have HF3 : Hid (goR now (K.take (j + 1)) = goR now (K.take j)) := by show _ = _; rw [F3.out, if_neg (fun e => h4 e.2)]
          have h4' : (n.m == 4) = false := by simpa using h4
          obtain ⟨p0, p1⟩ := pow_le hm3.1 hm3.2
          have hwt : wrap64 (now + wtZ n.m.toNat) = now + wtZ n.m.toNat := by have := HN.out; unfold wrap64; omega
          have hwm : wrap64 (n.m + 1) = n.m + 1 := by unfold wrap64; omega
          have HX : Hid ((n.sM (n.m + 1)).sT (now + wtZ n.m.toNat) = sentR n now) := sent_is2 n now _ _ rfl rfl
          have HM3 : Hid (0 ≤ n.m ∧ n.m ≤ 3) := hm3
          clear F1 F2 F3 hl ok h4 p0 p1 hm3
          go_upto_region 6 with (first
            | (have kk := r1; (with_reducible refine stS (.tmp 10) (.tmp 28) ?_ ?_ g1 n zeroS ?_ ?_ ?_ ?_); (focus rfl); (focus rfl); (focus (repeat (first | with_reducible refine ev_ne ?_ rfl | with_reducible refine ev_no ?_ | (with_reducible refine ev_eq (n := 74) ?_ rfl; repeat (first | with_reducible refine sz_put ?_ | with_reducible refine sz_no ?_ | rfl)) | rfl))); (focus (repeat (first | with_reducible refine ev_ne ?_ rfl | with_reducible refine ev_no ?_ | (with_reducible refine ev_eq (n := 74) ?_ rfl; repeat (first | with_reducible refine sz_put ?_ | with_reducible refine sz_no ?_ | rfl)) | rfl))); (focus exact r1); intro W2 g2 r2; have b2 := grown_below g2 hB1 hge1 hB1.size; clear r1)
            | ((with_reducible refine alG infoSz ?_ ?_ ?_); (focus rfl); (focus rfl); intro g1 W1 hge1 hgl1 hB1 r1)
            | (refine ldS (.tmp 27) rfl rfl _ _ n rfl hq ?_))
          have c44 : W2.cell? ⟨g1, 44, none⟩ = some (.int .i64 n.t) := (r2.cell 44).trans (sc44 n)
          have c43 : W2.cell? ⟨g1, 43, none⟩ = some (.int .i64 n.m) := (r2.cell 43).trans (sc43 n)
          go_wp2_with fail
          go_loopw [11, 12] (fun v u W => ∃ (k : Nat), u = .int .i64 k ∧ v = .int .i64 (wtZ k) ∧ (k : Int) ≤ n.m ∧ W2 = W) (fun _ u _ => n.m.toNat - (intOf u).toNat)
          case atStart => exact ⟨0, rfl, rfl, by have := HM3.out; simp; omega, rfl⟩
          case round =>
            obtain ⟨k, rfl, rfl, hk, rfl⟩ := hrel
            by_cases hkm : (k : Int) < n.m
            · obtain ⟨hk2, hk3, hk4, hw1⟩ := tick_in HM3.out hkm
              have hW2 : wrap64 (2 * wtZ k) = wtZ (k + 1) := two_pow k hk2
              have HK : Hid (((k + 1 : Nat) : Int) ≤ n.m) := hk3
              have HMM : Hid (n.m.toNat - ((k : Int) + 1).toNat < n.m.toNat - ((k : Int)).toNat) := hk4
              clear hk2 hk3 hk4
              have HZ2 : Hid (wtZ (k + 1) = wtZ (k + 1)) := rfl
              obtain ⟨zy, hzy⟩ : ∃ z, wtZ (k + 1) = z := ⟨_, rfl⟩
              have HZy : Hid (Value.int .i64 zy = Value.int .i64 (wtZ (k + 1))) := by show _ = _; rw [hzy]
              rw [hzy] at hW2
              clear hzy HZ2
              generalize wtZ k = zz at *
              go_wp2_with fail
              go_roundw
              case rel => exact ⟨k + 1, by rw [hw1]; rfl, by rw [hW2]; exact HZy.out, HK.out, trivial⟩
              case measure => first | (rw [hw1]; simp only [intOf]; exact HMM.out) | (simp only [intOf]; exact HMM.out)
            · obtain ⟨hke, hnl⟩ := tick_out HM3.out hk hkm
              subst hke
              clear hk hkm
              generalize hzz : wtZ n.m.toNat = zz at *
              go_wp2_with (first
                | (have kk := r7; at_builtin; refine app_at (.tmp 64) (.tmp 66) rfl rfl w.heap.size (.slice a1 n1 c1) _ (by (repeat (first | with_reducible refine ev_ne ?_ rfl | with_reducible refine ev_no ?_ | (with_reducible refine ev_eq (n := 74) ?_ rfl; repeat (first | with_reducible refine sz_put ?_ | with_reducible refine sz_no ?_ | rfl)) | rfl))) I7.a.l _ 1 (sentR n now) (by (repeat (first | with_reducible refine ev_ne ?_ rfl | with_reducible refine ev_no ?_ | (with_reducible refine ev_eq (n := 74) ?_ rfl; repeat (first | with_reducible refine sz_put ?_ | with_reducible refine sz_no ?_ | rfl)) | rfl))) r7 HL.out.1 I7.be.size ?_; intro v8 W8 o8 g8 e8; obtain ⟨a8, c8, rfl, _⟩ := Kd.own_at o8; have I8 := I7.fst o8 g8 e8)
                | (have kk := r46; (with_reducible refine bsG (T := 29) (U := 67) (n := 1) [(0, .tmp 65)] (scs (sentR n now)) ?_ ?_ ?_ ?_); (focus rfl); (focus rfl); (focus exact (fun w => bsN1 (sentR n now) w)); intro W7 r7 b7; have I7 := I6.below b7)
                | (have kk := r46; (with_reducible refine ldS (.tmp 10) ?_ ?_ g1 0 (sentR n now) ?_ ?_ ?_); (focus rfl); (focus rfl); (focus (repeat (first | with_reducible refine ev_ne ?_ rfl | with_reducible refine ev_no ?_ | (with_reducible refine ev_eq (n := 74) ?_ rfl; repeat (first | with_reducible refine sz_put ?_ | with_reducible refine sz_no ?_ | rfl)) | rfl))); (focus exact r46.sr))
                | (have kk := r5; at_builtin; refine app_at (.tmp 60) (.tmp 62) rfl rfl w.heap.size (.slice a2 n2 c2) _ (by (repeat (first | with_reducible refine ev_ne ?_ rfl | with_reducible refine ev_no ?_ | (with_reducible refine ev_eq (n := 74) ?_ rfl; repeat (first | with_reducible refine sz_put ?_ | with_reducible refine sz_no ?_ | rfl)) | rfl))) I5.a.g _ 1 (sentR n now) (by (repeat (first | with_reducible refine ev_ne ?_ rfl | with_reducible refine ev_no ?_ | (with_reducible refine ev_eq (n := 74) ?_ rfl; repeat (first | with_reducible refine sz_put ?_ | with_reducible refine sz_no ?_ | rfl)) | rfl))) r5 HL.out.2.1 I5.be.size ?_; intro v6 W6 o6 g6 e6; obtain ⟨a6, c6, rfl, _⟩ := Kd.own_at o6; have I6 := I5.snd o6 g6 e6; have r46 := r45.keepO g6 (fun e => by have := (own_lt I0.a.g e).2; omega); clear r5 r45 r4)
                | (have kk := r4; (with_reducible refine bsG (T := 29) (U := 67) (n := 1) [(0, .tmp 61)] (scs (sentR n now)) ?_ ?_ ?_ ?_); (focus rfl); (focus rfl); (focus exact (fun w => bsN1 (sentR n now) w)); intro W5 r5 b5; have I5 := I0.below (bt b4 b5); have r45 := r4.below b5 r4.lt)
                | (have kk := r4; (with_reducible refine ldS (.tmp 10) ?_ ?_ g1 0 (sentR n now) ?_ ?_ ?_); (focus rfl); (focus rfl); (focus (repeat (first | with_reducible refine ev_ne ?_ rfl | with_reducible refine ev_no ?_ | (with_reducible refine ev_eq (n := 74) ?_ rfl; repeat (first | with_reducible refine sz_put ?_ | with_reducible refine sz_no ?_ | rfl)) | rfl))); (focus exact r4.sr))
                | (have kk := r3; (with_reducible refine inL ?_ fun K hK => ?_); (focus rfl); refine wp_stT (.tmp 59) (.tmp 58) rfl g1 (now + zz) (n.sM (n.m + 1)) rfl (by first | exact congrArg (Value.int .i64) hwt | rfl) r3 ?_; intro W4 g4 r4'; refine hK _ _ ?_; have r4 : Row W4 g1 67 (scs (sentR n now)) := (by rw [← HX.out]; exact r4'); have b4 := grown_below g4 b3 hge1 b3.size; clear r3 r4')
                | (have kk := r2; (with_reducible refine inL ?_ fun K hK => ?_); (focus rfl); refine wp_stM (.tmp 55) (.tmp 54) rfl g1 (n.m + 1) n rfl (by first | exact congrArg (Value.int .i64) hwm | rfl) r2 ?_; intro W3 g3 r3; refine hK _ _ ?_; have b3 := grown_below g3 b2 hge1 b2.size; clear r2))
              go_roundw
              case rel => exact ⟨j + 1, a8, _, c8, a6, _, c6, a3, n3, c3, HJ.out, by first | rfl | go_num, rfl, rfl, rfl, by rw [HF1.out, HF2.out, HF3.out]; rw [List.length_append] at I8; rw [List.length_append] at I8; exact I8⟩
              case measure => first | (rw [hw64]; simp only [intOf]; exact HM.out) | (simp only [intOf]; exact HM.out)
    · have hjl : j = K.length := by omega
      subst hjl
      rw [List.take_length] at I0
      have hrow := HR.out.below I0.be hrl
      have c0 := hrow.cell 1
      have f0 := hrow.frozen 1
      have HFin : Hid (∃ e2 e3, a2 = e2 ∧ n2 = (agR now K).length ∧ a3 = e3 ∧ n3 = (goR now K).length ∧ kN.Own (wr.setCell ⟨r, 1, none⟩ (.slice a1 n1 c1)) w.heap.size (.slice a2 n2 c2) (agR now K) ∧ kN.Own (wr.setCell ⟨r, 1, none⟩ (.slice a1 n1 c1)) w.heap.size (.slice a3 n3 c3) (goR now K) ∧ Rb (wr.setCell ⟨r, 1, none⟩ (.slice a1 n1 c1)) B r most (leftR now K) ∧ RTurn w (wr.setCell ⟨r, 1, none⟩ (.slice a1 n1 c1)) B r ∧ w.grownBy (wr.setCell ⟨r, 1, none⟩ (.slice a1 n1 c1)) (some r)) := by
        have hg := grownBy_setCell wr r 1 (.slice a1 n1 c1)
        refine ⟨a2, a3, rfl, own_get I0.a.g, rfl, own_get I0.b.g, World.ownsRow.kept I0.a.g hg (.inr (own_ne_lt I0.a.g hrl)), World.ownsRow.kept I0.b.g hg (.inr (own_ne_lt I0.b.g hrl)), ⟨?_, ?_, ?_⟩, RTurn.pre I0.be (RTurn.self hg), grown_pre I0.be hg⟩
        · obtain ⟨aa, cc, e, _⟩ := Kd.own_at I0.a.l
          obtain ⟨rfl, rfl, rfl⟩ : a1 = aa ∧ n1 = (leftR now K).length ∧ c1 = cc := by cases e; exact ⟨rfl, rfl, rfl⟩
          exact ⟨a1, c1, hrow.set 1 _, Kd.own_up (World.ownsRow.kept I0.a.l hg (.inr (own_ne_lt I0.a.l hrl))) hBw⟩
        · intro n hn
          unfold leftR at hn
          obtain ⟨m, hm, rfl⟩ := List.mem_map.1 hn
          obtain ⟨hm1, hm2⟩ := List.mem_filter.1 hm
          unfold upS
          split
          · rename_i hl
            refine sentR_ok (hok m hm1) ?_ HN.out.1 HN.out.2
            intro h4
            unfold stayB at hm2
            rw [hl] at hm2
            simp [h4] at hm2
          · exact hok m hm1
        · have := leftR_len now K
          omega
      clear I0 hrow HR L1 L2 hok
      go_wp2_with fail
      go_ret2
      obtain ⟨e2, e3, rfl, rfl, rfl, rfl, h1, h2, h3, h4⟩ := HFin.out
      exact ⟨_, _, _, _, rfl, h1, h2, h3, h4⟩
end Go.Proofs.Ytbjclphgabpgoaa
