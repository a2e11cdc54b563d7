/-
  The walk of SourcePlays.
-/
import Derived.Test.YtdcbnibgckdkbaaP8
namespace Go.Proofs.Ytdcbnibgckdkbaa
open Go.RowKit Go.Maps Go.Shelf
set_option linter.unusedSimpArgs false
set_option linter.unusedVariables false
set_option maxRecDepth 20000
structure PgI (j : Nat) (x : Int × List Sr) : Prop where
  t0 : 0 ≤ x.1
  t1 : x.1 ≤ j * 1073741824
  ll : x.2.length ≤ j
theorem ss_at {w : World} {B : Nat} {ad : Option Addr} {c : Nat} {K : List Sr} {k : Nat} {n : Sr} (h : kN.Own w B (.slice ad K.length c) K) (hk : K[k]? = some n) : ∃ g, ad = some ⟨g, 0, none⟩ ∧ LS w g (k * 45) n := by
  obtain ⟨ad', c', e, hat⟩ := Kd.own_at h
  cases e
  obtain ⟨g, e2, _, _, _, hc⟩ := hat (by intro e; rw [e] at hk; simp at hk)
  exact ⟨g, e2, hc k n hk⟩
/-- What an act makes of what is kept. -/
def plS (most : Int) (x : Int × List Sr) (a : Ac) : Int × List Sr := (x.1 + a.g, if a.k = 0 then (keepR most x.2 (x.1 + a.g) a.p a.i a.s a.m).2 else if a.k = 2 then x.2.filter (fun n => !overB (x.1 + a.g) n) else if a.k = 3 then (touR x.2 (x.1 + a.g) a.p [a.i, a.i]).1 else x.2)
theorem touR_len (L : List Sr) (now : Int) (p : Pr) : ∀ l : List Id8, (touR L now p l).1.length = L.length := by
  intro l
  unfold touR
  suffices h : ∀ (l : List Id8) (x : List Sr × Int), (l.foldl (touS now p) x).1.length = x.1.length from h l (L, 0)
  intro l
  induction l with
  | nil => intro x; rfl
  | cons i l ih => intro x; rw [List.foldl_cons, ih, touS_len]
theorem PgI.step {most : Int} {j : Nat} {x : Int × List Sr} {a : Ac} (h : PgI j x) (ha : AcOk a) : PgI (j + 1) (plS most x a) := by
  obtain ⟨a0, a1⟩ := ha
  have t0 := h.t0
  have t1 := h.t1
  have ll := h.ll
  refine ⟨by show 0 ≤ x.1 + a.g; omega, by show x.1 + a.g ≤ _; omega, ?_⟩
  unfold plS
  dsimp only
  split
  · have := keepR_len (most := most) (L := x.2) (now := x.1 + a.g) (p := a.p) (i := a.i) (s := a.s) (m := a.m)
    omega
  · split
    · have := List.length_filter_le (fun n => !overB (x.1 + a.g) n) x.2
      omega
    · split
      · rw [touR_len]; omega
      · omega
set_option maxHeartbeats 64000000 in
theorem plays_walk (most : Int) (ad : Option Addr) (c : Nat) (l : List Ac) (w : World) (hl : AsW w ad l) (hf : ∀ x ∈ l, AcFit x) (hn : l.length ≤ maxLen) :
    Calls Try.prog 3 #[.int .i64 most, .slice ad l.length c] w (Gives w (.bool true)) := by
  have hR := right_any ad c l w hl hn
  have hNew := new_any most w
  by_cases hgo : most ≤ 200
  · go_enter Try.func3, Try.ntmps3
    go_upto_region 5 with (first
      | (have kk := hb; go_at_call 9; refine (live_any _).mono ?_; rintro e w9 ⟨rfl, k⟩)
      | (have kk := hb; go_at_call 10; refine hNew.mono ?_; rintro e w1 ⟨rfl, tb0, b0⟩)
      | (go_at_call 8; refine hR.mono ?_; rintro e w' ⟨b, rfl, rfl, hb⟩; cases b))
    · go_wp2_with (first
        | (go_at_call 9; refine (live_any _).mono ?_; rintro e w9 ⟨rfl, k⟩))
      go_ret
      exact ⟨rfl, k⟩
    obtain ⟨hl2, hok⟩ := hb trivial
    clear hR hNew hb hn
    have r0 := Row.new w1 30 [.int .i64 most, .slice none 0 0]
    have tb1 := tb0.below (ba w1 (.cells ([.int .i64 most, .slice none 0 0] : List Value).toArray 30))
    have hm0 := tb0.map.lt
    have hb0 := b0.size
    obtain ⟨mb, hmb⟩ : ∃ mb, w.heap.size = mb := ⟨_, rfl⟩
    obtain ⟨t, ht⟩ : ∃ t, w.heap.size + 1 = t := ⟨_, rfl⟩
    have ht0 := tb0.row.lt
    obtain ⟨r, hr⟩ : ∃ r, w1.heap.size = r := ⟨_, rfl⟩
    have HT : Hid (∀ (W W' : World) (L : List Sr), Below w.heap.size w W → Turn W W' t mb most L → Below w.heap.size w W') := fun W W' L h k => k.below h (by omega) h.size
    have HU : Hid (∀ (W W' : World), Below w.heap.size w W → RTurn W W' w.heap.size r → Below w.heap.size w W') := fun W W' h k => k.below h (Nat.le_refl _) (by omega) h.size
    have HNe : Hid (t ≠ r ∧ mb ≠ r) := ⟨by omega, by omega⟩
    have rb1 : Rb (w1.alloc (.cells ([.int .i64 most, .slice none 0 0] : List Value).toArray 30)) w.heap.size w1.heap.size most [] := ⟨⟨none, 0, r0, World.ownsRow_nil _ _ _ _⟩, by simp, by simp⟩
    refine name_world (R := fun W => Code.wp _ _ _ _ W) (P := fun W => Tb W t mb most [] ∧ Rb W w.heap.size r most [] ∧ Below w.heap.size w W) _ ⟨by rw [← ht, ← hmb]; exact tb1, by rw [← hr]; exact rb1, bt b0 (ba _ _)⟩ ?_
    rw [ht, hr]
    clear r0 tb1 rb1 hm0 hb0 ht0 hmb ht hr tb0 b0
    rintro X ⟨tb0, rb0, b0⟩
    go_wp2_with fail
    go_loopw [7, 8] (fun v z wr => ∃ (j : Nat) (x : Int × List Sr) (K : List Sr), j ≤ l.length ∧ z = .int .i64 j ∧ v = .int .i64 x.1 ∧ PgI j x ∧ Rel x.2 K ∧ Tb wr t mb most x.2 ∧ Rb wr w.heap.size r most K ∧ Below w.heap.size w wr) (fun _ u _ => l.length - (intOf u).toNat)
    case atStart => exact ⟨0, (0, []), [], Nat.zero_le _, rfl, rfl, ⟨by simp, by simp, by simp⟩, ⟨List.Perm.refl _, List.Pairwise.nil, by simp⟩, tb0, rb0, b0⟩
    case round =>
      clear tb0 rb0 b0
      obtain ⟨j, x, K, hj, rfl, rfl, hI, hrel1, tb, rb, bX⟩ := hrel
      by_cases hlt : j < l.length
      · have hlr := hl.below bX
        rcases hlr.lies with h0 | ⟨g, o, rfl, hg, hcs⟩
        · rw [h0] at hlt; simp at hlt
        have hq : LC wr g (o + j * 46) l[j] := hcs j l[j] (List.getElem?_eq_getElem hlt)
        have ha := hf l[j] (List.getElem_mem hlt)
        have hG := hok l[j] (List.getElem_mem hlt)
        have hji : (j : Int) < (l.length : Int) := by omega
        have hw64 : wrap64 ((j : Int) + 1) = (j : Int) + 1 := by unfold wrap64; omega
        have HJ : Hid (j + 1 ≤ l.length) := hlt
        have HM : Hid (l.length - ((j : Int) + 1).toNat < l.length - ((j : Int)).toNat) := meas hlt
        have hPI2 := hI.step (most := most) hG
        clear hcs hlr hok hf
        generalize l[j] = a at *
        have hw2 : wrap64 (x.1 + a.g) = (plS most x a).1 := by
          show wrap64 (x.1 + a.g) = x.1 + a.g
          have := hI.t0; have := hI.t1; have := hG.1; have := hG.2
          unfold wrap64; omega
        have hT0 : 0 ≤ x.1 + a.g ∧ x.1 + a.g ≤ 1125899906842624 := by
          have := hI.t0; have := hI.t1; have := hG.1; have := hG.2
          exact ⟨by omega, by omega⟩
        have hKl : K.length < 1000000 := by have := hrel1.pm.length_eq; have := hI.ll; omega
        have hLl : x.2.length < 1000000 := by have := hI.ll; omega
        have HK0 : Hid (a.k = 0 → ∀ g9 : Nat, ∃ zz : Int, (∀ W, Tb W t mb most x.2 → Rb W w.heap.size r most K → Below w.heap.size w W → Row W g9 43 (acs a) → Calls Try.prog 12 #[.pointer (some ⟨t, 0, none⟩), .int .i64 (plS most x a).1, (Value.agg (qcells a.p).toArray), idV a.i, dV a.s a.m] W fun e w' => e = .returned (.int .i64 zz) ∧ Tb w' t mb most (plS most x a).2 ∧ Rb w' w.heap.size r most K ∧ Below w.heap.size w w' ∧ Row w' g9 43 (acs a)) ∧
            ∀ W, Tb W t mb most (plS most x a).2 → Rb W w.heap.size r most K → Below w.heap.size w W → Row W g9 43 (acs a) → Calls Try.prog 13 #[.pointer (some ⟨r, 0, none⟩), .int .i64 (plS most x a).1, (Value.agg (qcells a.p).toArray), idV a.i, dV a.s a.m] W fun e w' => ∃ KK, e = .returned (.int .i64 zz) ∧ Tb w' t mb most (plS most x a).2 ∧ Rb w' w.heap.size r most KK ∧ Rel (plS most x a).2 KK ∧ Below w.heap.size w w' ∧ Row w' g9 43 (acs a)) := fun hk g9 => by
          have hy : (plS most x a).2 = (keepR most x.2 (x.1 + a.g) a.p a.i a.s a.m).2 := by unfold plS; rw [if_pos hk]
          rw [hy]
          refine ⟨(keepR most x.2 (x.1 + a.g) a.p a.i a.s a.m).1, fun W h1 h2 h3 h4 => ?_, fun W h1 h2 h3 h4 => ?_⟩
          · refine (keep_any h1 (x.1 + a.g) a.p a.i a.s a.m ha.q hT0.1 hT0.2 ha.s0 ha.s1 ha.m0 ha.m1 hLl).mono ?_
            rintro e w' ⟨rfl, hT⟩
            exact ⟨rfl, hT.tb, h2.turn hT h1.map, HT.out _ _ _ h3 hT, hT.row h4 (h1.map.ne_row h4)⟩
          · refine (rkeep_any h2 (x.1 + a.g) a.p a.i a.s a.m h3.size hT0.1 hT0.2 ha.s0 ha.s1 ha.m0 ha.m1 hKl).mono ?_
            rintro e w' ⟨z, K', rfl, hP, hR, hT⟩
            obtain ⟨e1, hr'⟩ := rel_keep hrel1 hP
            exact ⟨K', by rw [e1], hT.tb h1 HNe.out.1 HNe.out.2, hR, hr', HU.out _ _ h3 hT, hT.row h4 (fun e => by
              obtain ⟨_, _, h5, _⟩ := h2.ex
              unfold Row at h4 h5
              rw [e, h5] at h4
              injection h4 with h4
              injection h4 with _ h6 _
              exact absurd h6 (by decide)) (by decide)⟩
        have HKe : Hid (a.k ≠ 0 → a.k ≠ 2 → a.k ≠ 3 → (plS most x a).2 = x.2) := fun h0 h2 h3 => by unfold plS; rw [if_neg h0, if_neg h2, if_neg h3]
        have HK2 : Hid (a.k ≠ 0 → a.k = 2 → ∀ g9 : Nat, ∃ GG KK : List Sr, Rel (plS most x a).2 KK ∧ GG.length ≤ 1000000 ∧ (∀ W, Tb W t mb most x.2 → Rb W w.heap.size r most K → Below w.heap.size w W → Row W g9 43 (acs a) → Calls Try.prog 15 #[.pointer (some ⟨t, 0, none⟩), .int .i64 (plS most x a).1] W fun e w' => ∃ aG cG, e = .returned (.slice aG GG.length cG) ∧ Tb w' t mb most (plS most x a).2 ∧ Rb w' w.heap.size r most K ∧ Below w.heap.size w w' ∧ Row w' g9 43 (acs a) ∧ kN.Own w' w.heap.size (.slice aG GG.length cG) GG) ∧
            ∀ W aG cG, Tb W t mb most (plS most x a).2 → Rb W w.heap.size r most K → Below w.heap.size w W → Row W g9 43 (acs a) → kN.Own W w.heap.size (.slice aG GG.length cG) GG → Calls Try.prog 16 #[.pointer (some ⟨r, 0, none⟩), .int .i64 (plS most x a).1] W fun e w' => ∃ a2 c2, e = .returned (.slice a2 GG.length c2) ∧ Tb w' t mb most (plS most x a).2 ∧ Rb w' w.heap.size r most KK ∧ Below w.heap.size w w' ∧ Row w' g9 43 (acs a) ∧ SsW w' aG GG ∧ SsW w' a2 GG) := fun hk0 hk g9 => by
          have hy : (plS most x a).2 = x.2.filter (fun n => !overB (x.1 + a.g) n) := by unfold plS; rw [if_neg hk0, if_pos hk]
          obtain ⟨hr2, huq⟩ := rel_tick hrel1 (x.1 + a.g)
          rw [hy]
          refine ⟨K.filter (overB (x.1 + a.g)), K.filter (fun n => !overB (x.1 + a.g) n), hr2, by have := List.length_filter_le (overB (x.1 + a.g)) K; omega, fun W h1 h2 h3 h4 => ?_, fun W aG cG h1 h2 h3 h4 h5 => ?_⟩
          · refine (tick_any h1 (x.1 + a.g)).mono ?_
            rintro e w' ⟨v, G, rfl, g1, g2, hT, g4⟩
            obtain rfl := huq G g1 g2
            obtain ⟨aG, cG, rfl, _⟩ := Kd.own_at g4
            exact ⟨aG, cG, rfl, hT.tb, h2.turn hT h1.map, HT.out _ _ _ h3 hT, hT.row h4 (h1.map.ne_row h4), Kd.own_up g4 h3.size⟩
          · refine (rtick_gr h2 (x.1 + a.g) h3.size hT0.1 hT0.2).mono ?_
            rintro e w' ⟨v, rfl, g1, g2, g3⟩
            obtain ⟨a2, c2, rfl, s2⟩ := SsW.own g1
            have hne := act_ne h2 h4
            obtain ⟨_, _, hrow, _⟩ := h2.ex
            have o5 : kN.Own w' w.heap.size (.slice aG (K.filter (overB (x.1 + a.g))).length cG) (K.filter (overB (x.1 + a.g))) := World.ownsRow.kept h5 g3 (.inr (own_ne_row h5 hrow (by decide)))
            obtain ⟨a5, c5, e5, s5⟩ := SsW.own o5
            cases e5
            exact ⟨a2, c2, rfl, (grown_rt (B := w.heap.size) g3).tb h1 HNe.out.1 HNe.out.2, g2, HU.out _ _ h3 (grown_rt g3), h4.keep g3 hne, s5, s2⟩
        have HK3 : Hid (a.k ≠ 0 → a.k ≠ 2 → a.k = 3 → ∀ g9 : Nat, ∃ zt zr : Int, IntKind.i64.wrap (2 * zr) = zt ∧ (∀ W g, Tb W t mb most x.2 → Rb W w.heap.size r most K → Below w.heap.size w W → Row W g9 43 (acs a) → Row W g 38 (icells a.i ++ icells a.i) → Calls Try.prog 17 #[.pointer (some ⟨t, 0, none⟩), .int .i64 (plS most x a).1, (Value.agg (qcells a.p).toArray), .slice (some ⟨g, 0, none⟩) 2 2] W fun e w' => e = .returned (.int .i64 zt) ∧ Tb w' t mb most (plS most x a).2 ∧ Rb w' w.heap.size r most K ∧ Below w.heap.size w w' ∧ Row w' g9 43 (acs a)) ∧
            ∀ W, Tb W t mb most (plS most x a).2 → Rb W w.heap.size r most K → Below w.heap.size w W → Row W g9 43 (acs a) → Calls Try.prog 18 #[.pointer (some ⟨r, 0, none⟩), .int .i64 (plS most x a).1, (Value.agg (qcells a.p).toArray), idV a.i] W fun e w' => ∃ KK, e = .returned (.int .i64 zr) ∧ Tb w' t mb most (plS most x a).2 ∧ Rb w' w.heap.size r most KK ∧ Rel (plS most x a).2 KK ∧ Below w.heap.size w w' ∧ Row w' g9 43 (acs a)) := fun hk0 hk2 hk g9 => by
          have hy : (plS most x a).2 = (touR x.2 (x.1 + a.g) a.p [a.i, a.i]).1 := by unfold plS; rw [if_neg hk0, if_neg hk2, if_pos hk]
          obtain ⟨hz, hr2⟩ := rel_touch hrel1 (x.1 + a.g) a.p a.i
          rw [hy]
          refine ⟨(touR x.2 (x.1 + a.g) a.p [a.i, a.i]).2, (touK K (x.1 + a.g) a.p a.i).1, ?_, fun W g h1 h2 h3 h4 h5 => ?_, fun W h1 h2 h3 h4 => ?_⟩
          · rw [hz, IntKind.wrap_i64]
            unfold touK
            split <;> (dsimp only; omega)
          · refine (touch_any h1 (x.1 + a.g) a.p (some ⟨g, 0, none⟩) 2 [a.i, a.i] (idw_two h5) ha.q hT0.1 hT0.2 (by simp)).mono ?_
            rintro e w' ⟨rfl, hT⟩
            exact ⟨rfl, hT.tb, h2.turn hT h1.map, HT.out _ _ _ h3 hT, hT.row h4 (h1.map.ne_row h4)⟩
          · refine (rtouch_any h2 (x.1 + a.g) a.p a.i hT0.1 hT0.2).mono ?_
            rintro e w' ⟨rfl, hR, hT⟩
            exact ⟨_, rfl, hT.tb h1 HNe.out.1 HNe.out.2, hR, hr2, HU.out _ _ h3 hT, hT.row h4 (act_ne h2 h4) (by decide)⟩
        obtain ⟨y, hy⟩ : ∃ y, plS most x a = y := ⟨_, rfl⟩
        rw [hy] at hw2 HK0 HKe hPI2 HK2 HK3
        clear hy hT0 hKl hLl hI hG
        have ok9 : Hid (∀ g9 : Nat, True) := fun _ => trivial
        go_upto_region 15 with (first
          | (have kk := r2; refine stAc (.tmp 9) (.tmp 42) rfl rfl g9 a _ rfl rfl r2 ?_; intro W3 g3 q9; have k3 := grown_below g3 hB2 hge2 hB2.size; have c0 : _ = some (Value.int .i64 a.k) := q9.cell 0; have c1 : _ = some (Value.int .i64 a.g) := q9.cell 1; clear r2)
          | (refine alG infoAcz rfl rfl ?_; intro g9 W2 hge2 hgl2 hB2 r2)
          | (refine ldAc (.tmp 41) rfl rfl _ _ a rfl hq ?_))
        have tb3 := tb.below k3
        have rb3 := rb.below k3
        have b3 := bt bX k3
        clear tb rb bX hq k3 g3 hB2
        replace HK0 := fun hk => HK0.out hk g9
        replace HK2 := fun hk hk2 => HK2.out hk hk2 g9
        replace HK3 := fun hk hk2 hk3 => HK3.out hk hk2 hk3 g9
        rw [hw2]
        rename_i Q0 K2 a2 K1 a1 K0 a0
        suffices HJn : Hid (∀ (KK : List Sr) (W7 : World) (u49 u50 u51 u52 u53 u54 u55 u56 u57 u58 u59 u60 u61 u62 u63 u64 u65 u66 u67 u68 u69 u70 u71 u72 u73 u74 u75 u76 u77 u78 u79 u80 u81 u82 u83 u84 u85 u86 u87 u88 u89 u90 u91 u92 u93 u94 u95 u96 u97 u98 u99 u100 : Value), Tb W7 t mb most y.2 → Rb W7 w.heap.size r most KK → Rel y.2 KK → Below w.heap.size w W7 → Row W7 g9 43 (acs a) → K1 { tmps := #[Value.int IntKind.i64 most, Value.slice (some ⟨g, o, none⟩) l.length c, undef, undef, u4, Value.pointer (some ⟨t, 0, none⟩), Value.pointer (some ⟨r, 0, none⟩), Value.int IntKind.i64 y.1, Value.int IntKind.i64 (j : Int), Value.pointer (some ⟨g9, 0, none⟩), Value.bool true, u11, u12, u13, u14, u15, u16, u17, Value.slice (some ⟨g, o, none⟩) l.length c, Value.bool true, Value.bool false, Value.bool false, Value.int IntKind.i64 most, Value.bool (decide (200 < most)), Value.bool (decide (200 < most)), undef, Value.int IntKind.i64 most, Value.pointer (some ⟨t, 0, none⟩), Value.int IntKind.i64 most, Value.agg #[Value.int IntKind.i64 most, Value.slice none 0 0], Value.pointer (some ⟨r, 0, none⟩), Value.pointer (some ⟨t, 0, none⟩), Value.bool false, Value.int IntKind.i64 (j : Int), Value.slice (some ⟨g, o, none⟩) l.length c, Value.int IntKind.i64 (l.length : Int), Value.bool true, u37, u38, Value.slice (some ⟨g, o, none⟩) l.length c, Value.int IntKind.i64 (j : Int), Value.pointer (some ⟨g, o + j * 46, none⟩), Value.agg (acs a).toArray, Value.int IntKind.i64 x.1, Value.pointer (some ⟨g9, 1, none⟩), Value.int IntKind.i64 a.g, Value.int IntKind.i64 y.1, Value.pointer (some ⟨g9, 0, none⟩), Value.int IntKind.i64 a.k, u49, u50, u51, u52, u53, u54, u55, u56, u57, u58, u59, u60, u61, u62, u63, u64, u65, u66, u67, u68, u69, u70, u71, u72, u73, u74, u75, u76, u77, u78, u79, u80, u81, u82, u83, u84, u85, u86, u87, u88, u89, u90, u91, u92, u93, u94, u95, u96, u97, u98, u99, u100, u101, u102, u103, u104, u105, u106, u107, u108, u109, u110, u111, u112, u113, u114, u115, u116, u117, u118, u119, u120, u121, u122, u123, u124, u125, u126, u127, u128, u129, u130, u131, u132, u133, u134, u135, u136, u137, u138, u139, u140, u141, u142, u143, u144, u145, u146, u147, u148, u149, u150, u151, u152, u153, u154, u155, u156, u157, u158, u159, u160, u161, u162, u163, u164, u165, u166, u167, u168, u169, u170, u171, u172, u173, u174, u175, u176, u177, u178, u179, u180, u181, u182, u183, u184, u185, u186, u187, u188, u189, u190, u191, u192, u193, u194, u195, undef], defers := [] } W7) by
          clear a1 hPI2 ha
          have hd0 := 0
          have hd2 := 0
          have hd3 := 0
          by_cases hk : a.k = 0
          · have hk' : (a.k == 0) = true := by simpa using hk
            have hT := HK0 hk
            clear HK2 HK3 HKe HK0 hk hd0 hd2 hd3 c0 c1
            obtain ⟨zz, hKt, hKr⟩ := hT
            have hzz : (zz == zz) = true := by simp
            have tb6 := tb3.below (Below.refl _ _).drew
            have rb6 := rb3.below (Below.refl _ _).drew
            have b6 := b3.drew
            have q6 := q9.drew
            go_upto_region 16 with fail
            refine wp_region_noPanic ?_
            refine wp_region_held_drew (S := fun W => Row W g9 43 (acs a)) (by kernel_rfl) (q6) (fun hHeld => ?_)
            refine take_lit (i := 0) (v := ?_) rfl (by kernel_rfl) (by kernel_rfl) (by kernel_rfl) (fun _ _ _ h => h) (Or.inl ⟨by rfl, ?_⟩) (by assumption) ?_
            rotate_left
            · (intro w hSw; (try dsimp only at hSw); go_simp <;> with_reducible rfl)
            try simp only [Act.put, List.setIfInBounds_toArray, List.set_cons_zero, List.set_cons_succ]
            refine take_lit (i := 1) (v := ?_) rfl (by kernel_rfl) (by kernel_rfl) (by kernel_rfl) (fun _ _ _ h => h) (Or.inl ⟨by rfl, ?_⟩) (by assumption) ?_
            rotate_left
            · (intro w hSw; (try dsimp only at hSw); go_simp <;> with_reducible rfl)
            try simp only [Act.put, List.setIfInBounds_toArray, List.set_cons_zero, List.set_cons_succ]
            refine take_lit (i := 2) (v := ?_) rfl (by kernel_rfl) (by kernel_rfl) (by kernel_rfl) (fun _ _ _ h => h) (Or.inl ⟨by rfl, ?_⟩) (by assumption) ?_
            rotate_left
            · (intro w hSw; (try dsimp only at hSw); go_simp <;> with_reducible rfl)
            try simp only [Act.put, List.setIfInBounds_toArray, List.set_cons_zero, List.set_cons_succ]
            refine take_lit (i := 3) rfl (by kernel_rfl) (by kernel_rfl) (by kernel_rfl) (fun _ _ _ h => h) (yQ a.p (fun w h => LC.p h.range) (by rfl) rfl rfl) (by assumption) ?_
            try simp only [Act.put, List.setIfInBounds_toArray, List.set_cons_zero, List.set_cons_succ]
            refine take_lit (i := 4) (v := ?_) rfl (by kernel_rfl) (by kernel_rfl) (by kernel_rfl) (fun _ _ _ h => h) (Or.inl ⟨by rfl, ?_⟩) (by assumption) ?_
            rotate_left
            · (intro w hSw; (try dsimp only at hSw); go_simp <;> with_reducible rfl)
            try simp only [Act.put, List.setIfInBounds_toArray, List.set_cons_zero, List.set_cons_succ]
            refine take_lit (i := 5) rfl (by kernel_rfl) (by kernel_rfl) (by kernel_rfl) (fun _ _ _ h => h) (yI a.i (fun w h => LC.i h.range) (by rfl) rfl rfl) (by assumption) ?_
            try simp only [Act.put, List.setIfInBounds_toArray, List.set_cons_zero, List.set_cons_succ]
            refine take_lit (i := 6) (v := ?_) rfl (by kernel_rfl) (by kernel_rfl) (by kernel_rfl) (fun _ _ _ h => h) (Or.inl ⟨by rfl, ?_⟩) (by assumption) ?_
            rotate_left
            · (intro w hSw; (try dsimp only at hSw); go_simp <;> with_reducible rfl)
            try simp only [Act.put, List.setIfInBounds_toArray, List.set_cons_zero, List.set_cons_succ]
            refine take_lit (i := 7) rfl (by kernel_rfl) (by kernel_rfl) (by kernel_rfl) (fun _ _ _ h => h) (Sn.yD a.s a.m (fun w h => LC.d h.range) (by rfl) rfl rfl) (by assumption) ?_
            try simp only [Act.put, List.setIfInBounds_toArray, List.set_cons_zero, List.set_cons_succ]
            refine take_lit (i := 10) (v := ?_) rfl (by kernel_rfl) (by kernel_rfl) (by kernel_rfl) (fun _ _ _ h => h) (Or.inl ⟨by rfl, ?_⟩) (by assumption) ?_
            rotate_left
            · (intro w hSw; (try dsimp only at hSw); go_simp <;> with_reducible rfl)
            try simp only [Act.put, List.setIfInBounds_toArray, List.set_cons_zero, List.set_cons_succ]
            refine take_lit (i := 11) (v := ?_) rfl (by kernel_rfl) (by kernel_rfl) (by kernel_rfl) (fun _ _ _ h => h) (Or.inl ⟨by rfl, ?_⟩) (by assumption) ?_
            rotate_left
            · (intro w hSw; (try dsimp only at hSw); go_simp <;> with_reducible rfl)
            try simp only [Act.put, List.setIfInBounds_toArray, List.set_cons_zero, List.set_cons_succ]
            refine take_lit (i := 12) (v := ?_) rfl (by kernel_rfl) (by kernel_rfl) (by kernel_rfl) (fun _ _ _ h => h) (Or.inl ⟨by rfl, ?_⟩) (by assumption) ?_
            rotate_left
            · (intro w hSw; (try dsimp only at hSw); go_simp <;> with_reducible rfl)
            try simp only [Act.put, List.setIfInBounds_toArray, List.set_cons_zero, List.set_cons_succ]
            refine take_lit (i := 13) rfl (by kernel_rfl) (by kernel_rfl) (by kernel_rfl) (fun _ _ _ h => h) (yQ a.p (fun w h => LC.p h.range) (by rfl) rfl rfl) (by assumption) ?_
            try simp only [Act.put, List.setIfInBounds_toArray, List.set_cons_zero, List.set_cons_succ]
            refine take_lit (i := 14) (v := ?_) rfl (by kernel_rfl) (by kernel_rfl) (by kernel_rfl) (fun _ _ _ h => h) (Or.inl ⟨by rfl, ?_⟩) (by assumption) ?_
            rotate_left
            · (intro w hSw; (try dsimp only at hSw); go_simp <;> with_reducible rfl)
            try simp only [Act.put, List.setIfInBounds_toArray, List.set_cons_zero, List.set_cons_succ]
            refine take_lit (i := 15) rfl (by kernel_rfl) (by kernel_rfl) (by kernel_rfl) (fun _ _ _ h => h) (yI a.i (fun w h => LC.i h.range) (by rfl) rfl rfl) (by assumption) ?_
            try simp only [Act.put, List.setIfInBounds_toArray, List.set_cons_zero, List.set_cons_succ]
            refine take_lit (i := 16) (v := ?_) rfl (by kernel_rfl) (by kernel_rfl) (by kernel_rfl) (fun _ _ _ h => h) (Or.inl ⟨by rfl, ?_⟩) (by assumption) ?_
            rotate_left
            · (intro w hSw; (try dsimp only at hSw); go_simp <;> with_reducible rfl)
            try simp only [Act.put, List.setIfInBounds_toArray, List.set_cons_zero, List.set_cons_succ]
            refine take_lit (i := 17) rfl (by kernel_rfl) (by kernel_rfl) (by kernel_rfl) (fun _ _ _ h => h) (Sn.yD a.s a.m (fun w h => LC.d h.range) (by rfl) rfl rfl) (by assumption) ?_
            try simp only [Act.put, List.setIfInBounds_toArray, List.set_cons_zero, List.set_cons_succ]
            refine wpAnyH_ready (rs := [8]) (by kernel_rfl) (by simp) ?_
            refine cons_lit rfl (fun K hK => ?_) ?_
            · go_simp
              refine (hKt _ tb6 rb6 b6 q6).mono ?_
              rintro e wk ⟨rfl, tbk, rbk, bk, qk⟩
              refine hK.out _ _ ?_ (fun hHeld => ?_)
              · exact qk
              clear hK K
              try simp only [Act.put, List.setIfInBounds_toArray, List.set_cons_zero, List.set_cons_succ]
              refine wpAnyH_ready (rs := [9]) (by kernel_rfl) (by simp) ?_
              refine cons_lit rfl (fun K hK => ?_) ?_
              · go_simp
                refine (num_any _ _).mono ?_
                rintro e wk' ⟨rfl, rfl⟩
                refine hK.out _ _ ?_ (fun hHeld => ?_)
                · exact hHeld
                clear hK K
                try simp only [Act.put, List.setIfInBounds_toArray, List.set_cons_zero, List.set_cons_succ]
                refine wpAnyH_ready (rs := [18]) (by kernel_rfl) (by simp) ?_
                refine cons_lit rfl (fun K hK => ?_) ?_
                · go_simp
                  refine (hKr _ tbk rbk bk qk).mono ?_
                  rintro e w7 ⟨KK, rfl, tb7, rb7, hrel2, b7, q7⟩
                  refine hK.out _ _ ?_ (fun hHeld => ?_)
                  · exact q7
                  clear hK K
                  try simp only [Act.put, List.setIfInBounds_toArray, List.set_cons_zero, List.set_cons_succ]
                  refine take_lit (i := 19) (v := ?_) rfl (by kernel_rfl) (by kernel_rfl) (by kernel_rfl) (fun _ _ _ h => h) (Or.inl ⟨by rfl, ?_⟩) (by assumption) ?_
                  rotate_left
                  · (intro w hSw; (try dsimp only at hSw); go_simp <;> with_reducible rfl)
                  try simp only [Act.put, List.setIfInBounds_toArray, List.set_cons_zero, List.set_cons_succ]
                  refine take_lit (i := 20) (v := ?_) rfl (by kernel_rfl) (by kernel_rfl) (by kernel_rfl) (fun _ _ _ h => h) (Or.inl ⟨by rfl, ?_⟩) (by assumption) ?_
                  rotate_left
                  · (intro w hSw; (try dsimp only at hSw); go_simp <;> with_reducible rfl)
                  try simp only [Act.put, List.setIfInBounds_toArray, List.set_cons_zero, List.set_cons_succ]
                  refine wpAnyH_done (by kernel_rfl) ?_ _
                  refine NoPanic.normal ?_
                  clear q9 tb3 rb3 b3 tb6 rb6 b6 q6 tbk rbk bk qk hHeld hKt hKr hrel1
                  have q9 := q7
                  clear q7
                  go_wp2_with fail
                  exact HJn.out KK w7 _ _ _ _ _ _ _ _ _ _ _ _ _ _ _ _ _ _ _ _ _ _ _ _ _ _ _ _ _ _ _ _ _ _ _ _ _ _ _ _ _ _ _ _ _ _ _ _ _ _ _ _ tb7 rb7 hrel2 b7 q9
                exact AllReadyH.nil
              exact AllReadyH.nil
            exact AllReadyH.nil
          · have hk' : (a.k == 0) = false := by simpa using hk
            by_cases hk2 : a.k = 2
            · have hk2' : (a.k == 2) = true := by simpa using hk2
              have hT := HK2 hk hk2
              clear HK2 HK3 HKe HK0 hk hk2 hd0 hd2 hd3
              obtain ⟨GG, KK, hrel2, hGl, hT1, hT2⟩ := hT
              replace hT1 := hT1 _ tb3 rb3 b3 q9
              go_wp2_with (first
                | (have kk := sG2; go_at_call 14; refine (rsame_any _ _ _ _ sG1 sG2 hGl).mono ?_; rintro e w7 ⟨rfl, k7⟩; have tb7 := tbj.below k7; have rb7 := rbj.below k7; have b7 := bt bj k7; have q7 := qj.below k7 qj.lt)
                | (have kk := tbk; go_at_call 16; refine (hT2 _ aG cG tbk rbk bk qk oGk).mono ?_; rintro e wj ⟨a2, c2, rfl, tbj, rbj, bj, qj, sG1, sG2⟩)
                | (go_at_call 15; refine hT1.mono ?_; rintro e wk ⟨aG, cG, rfl, tbk, rbk, bk, qk, oGk⟩))
              clear q9 tb3 rb3 b3 tbk rbk bk qk tbj rbj bj qj sG1 sG2 oGk hT1 hT2 hrel1 c0 c1 hGl
              have q9 := q7
              clear q7
              go_wp2_with fail
              exact HJn.out KK w7 _ _ _ _ _ _ _ _ _ _ _ _ _ _ _ _ _ _ _ _ _ _ _ _ _ _ _ _ _ _ _ _ _ _ _ _ _ _ _ _ _ _ _ _ _ _ _ _ _ _ _ _ tb7 rb7 hrel2 b7 q9
            · have hk2' : (a.k == 2) = false := by simpa using hk2
              by_cases hk3 : a.k = 3
              · have hk3' : (a.k == 3) = true := by simpa using hk3
                have hT := HK3 hk hk2 hk3
                clear HK2 HK3 HKe HK0 hk hk2 hk3 hd0 hd2 hd3 c0 c1
                obtain ⟨zt, zr, hmul, hTt, hTr⟩ := hT
                have hzz : (zt == zt) = true := by simp
                have tb6 := tb3.below (Below.refl _ _).drew
                have rb6 := rb3.below (Below.refl _ _).drew
                have b6 := b3.drew
                have q6 := q9.drew
                go_upto_region 20 with fail
                refine wp_region_noPanic ?_
                refine wp_region_held_drew (S := fun W => Row W g9 43 (acs a)) (by kernel_rfl) (q6) (fun hHeld => ?_)
                refine take_lit (i := 0) (v := ?_) rfl (by kernel_rfl) (by kernel_rfl) (by kernel_rfl) (fun _ _ _ h => h) (Or.inl ⟨by rfl, ?_⟩) (by assumption) ?_
                rotate_left
                · (intro w hSw; (try dsimp only at hSw); go_simp <;> with_reducible rfl)
                try simp only [Act.put, List.setIfInBounds_toArray, List.set_cons_zero, List.set_cons_succ]
                refine take_lit (i := 1) (v := ?_) rfl (by kernel_rfl) (by kernel_rfl) (by kernel_rfl) (fun _ _ _ h => h) (Or.inl ⟨by rfl, ?_⟩) (by assumption) ?_
                rotate_left
                · (intro w hSw; (try dsimp only at hSw); go_simp <;> with_reducible rfl)
                try simp only [Act.put, List.setIfInBounds_toArray, List.set_cons_zero, List.set_cons_succ]
                refine take_lit (i := 2) (v := ?_) rfl (by kernel_rfl) (by kernel_rfl) (by kernel_rfl) (fun _ _ _ h => h) (Or.inl ⟨by rfl, ?_⟩) (by assumption) ?_
                rotate_left
                · (intro w hSw; (try dsimp only at hSw); go_simp <;> with_reducible rfl)
                try simp only [Act.put, List.setIfInBounds_toArray, List.set_cons_zero, List.set_cons_succ]
                refine take_lit (i := 3) rfl (by kernel_rfl) (by kernel_rfl) (by kernel_rfl) (fun _ _ _ h => h) (yQ a.p (fun w h => LC.p h.range) (by rfl) rfl rfl) (by assumption) ?_
                try simp only [Act.put, List.setIfInBounds_toArray, List.set_cons_zero, List.set_cons_succ]
                refine take_lit (i := 4) (v := ?_) rfl (by kernel_rfl) (by kernel_rfl) (by kernel_rfl) (fun _ _ _ h => h) (Or.inl ⟨by rfl, ?_⟩) (by assumption) ?_
                rotate_left
                · (intro w hSw; (try dsimp only at hSw); go_simp <;> with_reducible rfl)
                try simp only [Act.put, List.setIfInBounds_toArray, List.set_cons_zero, List.set_cons_succ]
                refine take_lit (i := 5) rfl (by kernel_rfl) (by kernel_rfl) (by kernel_rfl) (fun _ _ _ h => h) (yI a.i (fun w h => LC.i h.range) (by rfl) rfl rfl) (by assumption) ?_
                try simp only [Act.put, List.setIfInBounds_toArray, List.set_cons_zero, List.set_cons_succ]
                refine take_lit (i := 6) (v := ?_) rfl (by kernel_rfl) (by kernel_rfl) (by kernel_rfl) (fun _ _ _ h => h) (Or.inl ⟨by rfl, ?_⟩) (by assumption) ?_
                rotate_left
                · (intro w hSw; (try dsimp only at hSw); go_simp <;> with_reducible rfl)
                try simp only [Act.put, List.setIfInBounds_toArray, List.set_cons_zero, List.set_cons_succ]
                refine take_lit (i := 7) rfl (by kernel_rfl) (by kernel_rfl) (by kernel_rfl) (fun _ _ _ h => h) (yI a.i (fun w h => LC.i h.range) (by rfl) rfl rfl) (by assumption) ?_
                try simp only [Act.put, List.setIfInBounds_toArray, List.set_cons_zero, List.set_cons_succ]
                refine take_lit (i := 10) (v := ?_) rfl (by kernel_rfl) (by kernel_rfl) (by kernel_rfl) (fun _ _ _ h => h) (Or.inl ⟨by rfl, ?_⟩) (by assumption) ?_
                rotate_left
                · (intro w hSw; (try dsimp only at hSw); go_simp <;> with_reducible rfl)
                try simp only [Act.put, List.setIfInBounds_toArray, List.set_cons_zero, List.set_cons_succ]
                refine take_lit (i := 11) (v := ?_) rfl (by kernel_rfl) (by kernel_rfl) (by kernel_rfl) (fun _ _ _ h => h) (Or.inl ⟨by rfl, ?_⟩) (by assumption) ?_
                rotate_left
                · (intro w hSw; (try dsimp only at hSw); go_simp <;> with_reducible rfl)
                try simp only [Act.put, List.setIfInBounds_toArray, List.set_cons_zero, List.set_cons_succ]
                refine take_lit (i := 12) (v := ?_) rfl (by kernel_rfl) (by kernel_rfl) (by kernel_rfl) (fun _ _ _ h => h) (Or.inl ⟨by rfl, ?_⟩) (by assumption) ?_
                rotate_left
                · (intro w hSw; (try dsimp only at hSw); go_simp <;> with_reducible rfl)
                try simp only [Act.put, List.setIfInBounds_toArray, List.set_cons_zero, List.set_cons_succ]
                refine take_lit (i := 13) rfl (by kernel_rfl) (by kernel_rfl) (by kernel_rfl) (fun _ _ _ h => h) (yQ a.p (fun w h => LC.p h.range) (by rfl) rfl rfl) (by assumption) ?_
                try simp only [Act.put, List.setIfInBounds_toArray, List.set_cons_zero, List.set_cons_succ]
                refine take_lit (i := 14) (v := ?_) rfl (by kernel_rfl) (by kernel_rfl) (by kernel_rfl) (fun _ _ _ h => h) (Or.inl ⟨by rfl, ?_⟩) (by assumption) ?_
                rotate_left
                · (intro w hSw; (try dsimp only at hSw); go_simp <;> with_reducible rfl)
                try simp only [Act.put, List.setIfInBounds_toArray, List.set_cons_zero, List.set_cons_succ]
                refine take_lit (i := 15) rfl (by kernel_rfl) (by kernel_rfl) (by kernel_rfl) (fun _ _ _ h => h) (yI a.i (fun w h => LC.i h.range) (by rfl) rfl rfl) (by assumption) ?_
                try simp only [Act.put, List.setIfInBounds_toArray, List.set_cons_zero, List.set_cons_succ]
                refine wpAnyH_ready (rs := [8]) (by kernel_rfl) (by simp) ?_
                refine cons_lit rfl (fun K hK => ?_) ?_
                · skip
                  refine sBsG (T := 78) (U := 38) [(0, .tmp 87), (1, .tmp 89)] (icells a.i ++ icells a.i) (by rfl) rfl (fun w => bsI2 a.i a.i w) ?_
                  intro W8 r8 b8
                  refine hK.out _ _ ?_ (fun hHeld => ?_)
                  · exact hHeld.below b8 hHeld.lt
                  clear hK K
                  try simp only [Act.put, List.setIfInBounds_toArray, List.set_cons_zero, List.set_cons_succ]
                  refine wpAnyH_ready (rs := [9]) (by kernel_rfl) (by simp) ?_
                  refine cons_lit rfl (fun K hK => ?_) ?_
                  · go_simp
                    refine (hTt _ _ (tb6.below b8) (rb6.below b8) (bt b6 b8) hHeld r8).mono ?_
                    rintro e wk ⟨rfl, tbk, rbk, bk, qk⟩
                    refine hK.out _ _ ?_ (fun hHeld => ?_)
                    · exact qk
                    clear hK K
                    try simp only [Act.put, List.setIfInBounds_toArray, List.set_cons_zero, List.set_cons_succ]
                    refine wpAnyH_ready (rs := [16]) (by kernel_rfl) (by simp) ?_
                    refine cons_lit rfl (fun K hK => ?_) ?_
                    · go_simp
                      refine (hTr _ tbk rbk bk qk).mono ?_
                      rintro e w7 ⟨KK, rfl, tb7, rb7, hrel2, b7, q7⟩
                      refine hK.out _ _ ?_ (fun hHeld => ?_)
                      · exact q7
                      clear hK K
                      try simp only [Act.put, List.setIfInBounds_toArray, List.set_cons_zero, List.set_cons_succ]
                      refine take_lit (i := 17) (v := ?_) rfl (by kernel_rfl) (by kernel_rfl) (by kernel_rfl) (fun _ _ _ h => h) (Or.inl ⟨by rfl, ?_⟩) (by assumption) ?_
                      rotate_left
                      · (intro w hSw; (try dsimp only at hSw); go_simp <;> with_reducible rfl)
                      try simp only [Act.put, List.setIfInBounds_toArray, List.set_cons_zero, List.set_cons_succ]
                      refine take_lit (i := 18) (v := ?_) rfl (by kernel_rfl) (by kernel_rfl) (by kernel_rfl) (fun _ _ _ h => h) (Or.inl ⟨by rfl, ?_⟩) (by assumption) ?_
                      rotate_left
                      · (intro w hSw; (try dsimp only at hSw); go_simp <;> with_reducible rfl)
                      try simp only [Act.put, List.setIfInBounds_toArray, List.set_cons_zero, List.set_cons_succ]
                      refine take_lit (i := 19) (v := ?_) rfl (by kernel_rfl) (by kernel_rfl) (by kernel_rfl) (fun _ _ _ h => h) (Or.inl ⟨by rfl, ?_⟩) (by assumption) ?_
                      rotate_left
                      · (intro w hSw; (try dsimp only at hSw); go_simp <;> with_reducible rfl)
                      try simp only [Act.put, List.setIfInBounds_toArray, List.set_cons_zero, List.set_cons_succ]
                      refine wpAnyH_done (by kernel_rfl) ?_ _
                      refine NoPanic.normal ?_
                      clear q9 tb3 rb3 b3 tb6 rb6 b6 q6 tbk rbk bk qk hHeld hTt hTr hrel1
                      have q9 := q7
                      clear q7
                      go_wp2_with fail
                      exact HJn.out KK w7 _ _ _ _ _ _ _ _ _ _ _ _ _ _ _ _ _ _ _ _ _ _ _ _ _ _ _ _ _ _ _ _ _ _ _ _ _ _ _ _ _ _ _ _ _ _ _ _ _ _ _ _ tb7 rb7 hrel2 b7 q9
                    exact AllReadyH.nil
                  exact AllReadyH.nil
                exact AllReadyH.nil
              · have hk3' : (a.k == 3) = false := by simpa using hk3
                have hyx := HKe.out hk hk2 hk3
                have tb7 : Tb W3 t mb most y.2 := by rw [hyx]; exact tb3
                have rb7 := rb3
                have b7 := b3
                obtain ⟨KK, hKK⟩ : ∃ KK, K = KK := ⟨_, rfl⟩
                rw [hKK] at rb7
                have hrel2 : Rel y.2 KK := by rw [hyx, ← hKK]; exact hrel1
                clear hKK hyx tb3 rb3 b3 HK0 HK2 HK3 HKe hrel1 hk hk2 hk3 hd0 hd2 hd3
                go_wp2_with fail
                exact HJn.out KK W3 _ _ _ _ _ _ _ _ _ _ _ _ _ _ _ _ _ _ _ _ _ _ _ _ _ _ _ _ _ _ _ _ _ _ _ _ _ _ _ _ _ _ _ _ _ _ _ _ _ _ _ _ tb7 rb7 hrel2 b7 q9
        clear HK0 HK2 HK3 HKe hrel1 tb3 rb3 b3 q9 c0 c1 a0 K0
        intro KK W7 u49 u50 u51 u52 u53 u54 u55 u56 u57 u58 u59 u60 u61 u62 u63 u64 u65 u66 u67 u68 u69 u70 u71 u72 u73 u74 u75 u76 u77 u78 u79 u80 u81 u82 u83 u84 u85 u86 u87 u88 u89 u90 u91 u92 u93 u94 u95 u96 u97 u98 u99 u100 tb7 rb7 hrel2 b7 q9
        refine a1 _ _ ?_
        go_upto_region 21 with fail
        have hTb := fun W (hW : Below W7.heap.size W7 W) => tb7.below hW
        have hRb := fun W (hW : Below W7.heap.size W7 W) => rb7.below hW
        have HEnd : Hid (∀ W, Below W7.heap.size W7 W → Tb W t mb most y.2 ∧ Rb W w.heap.size r most KK ∧ Below w.heap.size w W) := fun W hW => ⟨tb7.below hW, rb7.below hW, bt b7 hW⟩
        have hGt := get_any tb7 a.p a.i ha.q
        have hFi := fun W (hW : Below W7.heap.size W7 W) => rfind_any (hRb W hW) a.p a.i
        have hNx := fun W (hW : Below W7.heap.size W7 W) => next_any (hTb W hW)
        have hNr := fun W (hW : Below W7.heap.size W7 W) => rnext_any (hRb W hW)
        have hFt := fun W (hW : Below W7.heap.size W7 W) => feas_any (hTb W hW) a.p a.i a.s a.m ha.q
        have hFr := fun W (hW : Below W7.heap.size W7 W) => rfeas_any (hRb W hW) a.p a.i a.s a.m ha.s0 ha.s1
        obtain ⟨kad, kc, hrow7, hown7⟩ := rb7.ex
        have hLi : ∀ W, Below W7.heap.size W7 W → Calls Try.prog 23 #[.pointer (some ⟨t, 0, none⟩)] W fun e w' => ∃ aL cL, e = .returned (.slice aL KK.length cL) ∧ SsW w' aL KK ∧ Below W.heap.size W w' := fun W hW => by
          refine (list_any (hTb W hW)).mono ?_
          rintro e w' ⟨v, G, rfl, g1, g2, g3, g4⟩
          obtain rfl := rel_list hrel2 g1 g2
          obtain ⟨aL, cL, rfl, hs⟩ := SsW.own g3
          exact ⟨aL, cL, rfl, hs, g4⟩
        have hSm : ∀ W, Below W7.heap.size W7 W → ∀ aL cL, SsW W aL KK → Calls Try.prog 14 #[.slice aL KK.length cL, .slice kad KK.length kc] W (Gives W (.bool true)) := fun W hW aL cL hs => by
          obtain ⟨a2, c2, e, hs2⟩ := SsW.own (own_below hown7 hW)
          cases e
          exact rsame_any aL kad cL kc hs hs2 rb7.ll
        have hrlt := hrow7.lt
        have hlies := fun (k : Nat) (n : Sr) (hk : KK[k]? = some n) W (hW : Below W7.heap.size W7 W) => ss_at (own_below hown7 hW) hk
        have hgp := getN_perm hrel2 a.p a.i
        rw [← hgp] at hGt hFt
        rw [show getV (getN KK a.p a.i) = .tuple #[sV ((getN KK a.p a.i).getD zeroS), .bool (getN KK a.p a.i).isSome] from rfl] at hGt
        have hfe : ∀ x : Bool, (x != x) = false := fun x => by simp
        have hbb : ∀ x : Int, (x != x) = false := fun x => by simp
        have bW := Below.refl W7.heap.size W7
        have HPI : Hid (PgI (j + 1) y) := hPI2
        clear tb7 rb7 hTb hRb hown7 hgp hPI2
        rcases fnd_some (K := KK) (p := a.p) (i := a.i) with ⟨e1, e2⟩ | ⟨k, sr, e1, e2, e3⟩
        · rw [e1] at hFi
          rw [e2] at hGt hFt hFr
          have hEq : ∀ W, (binOp .neq 53 (sV zeroS) (sV zeroS)).run Try.prog W = .ok (.bool false) W := fun W => by rw [run_neqS, eqSr_self]; rfl
          have gEq := fun op a b W => guardS op a b zeroS zeroS W
          dsimp only [Option.getD_none, Option.isSome_none] at hGt
          generalize feaO none a.s a.m = fe at *
          have hfe2 := hfe fe
          clear e1 e2 hlies
          go_upto_region 25 with (first
            | (have kk := q6; go_at_call 22; refine (hNr _ bW).mono ?_; rintro e w9 ⟨f2, c2, rfl, hN2, rfl⟩)
            | (have kk := q5; go_at_call 21; refine (hNx _ bW).mono ?_; rintro e w6 ⟨f1, c1, rfl, hN1, k6⟩; replace bW := bt bW k6; replace q9 := q9.below k6 q9.lt; replace s9 := s9.below k6 s9.lt; have q6 := k6)
            | (have kk := s9; go_at_call 20; refine (hFi _ bW).mono ?_; rintro e w5 ⟨rfl, k5⟩; replace bW := bt bW k5; replace q9 := q9.below k5 q9.lt; replace s9 := s9.below k5 s9.lt; have q5 := k5)
            | (have kk := r4; refine stS (.tmp 11) (.tmp 108) rfl rfl g4 zeroS _ rfl rfl r4 ?_; intro W5 g5 s9; have k4 := grown_below g5 hB4 hge4 hB4.size; replace bW := bt bW k4; replace q9 := q9.below k4 q9.lt; clear r4)
            | (have kk := k3; refine alG infoSz rfl rfl ?_; intro g4 W4 hge4 hgl4 hB4 r4)
            | (go_at_call 19; refine hGt.mono ?_; rintro e w3 ⟨rfl, k3⟩; replace bW := bt bW k3; replace q9 := q9.below k3 q9.lt)
            | (refine ldI (.tmp 105) rfl rfl _ _ a.i rfl (LC.i q9.range) ?_)
            | (refine ldQ (.tmp 103) rfl rfl _ _ a.p rfl (LC.p q9.range) ?_)
            | (refine ldI (.tmp 113) rfl rfl _ _ a.i rfl (LC.i q9.range) ?_)
            | (refine ldQ (.tmp 111) rfl rfl _ _ a.p rfl (LC.p q9.range) ?_))
          obtain ⟨rfl, rfl⟩ := rel_next hrel2 hN1 hN2
          have hff := hbb f1
          have hcc := hfe c1
          have hrow9 := hrow7.below bW hrlt
          have hs9 := q9.lt
          have hss := s9.lt
          have hrr := hrow9.lt
          refine wp_region_noPanic ?_
          refine wp_region_held_drew (S := fun W => Below w6.heap.size w6 W) (by kernel_rfl) ((Below.refl _ _).drew) (fun hHeld => ?_)
          refine take_lit (i := 0) (v := ?_) rfl (by kernel_rfl) (by kernel_rfl) (by kernel_rfl) (fun _ _ _ h => h) (Or.inl ⟨by rfl, ?_⟩) (by assumption) ?_
          rotate_left
          · (intro w hSw; (try dsimp only at hSw); go_simp <;> with_reducible rfl)
          try simp only [Act.put, List.setIfInBounds_toArray, List.set_cons_zero, List.set_cons_succ]
          refine take_lit (i := 1) (v := ?_) rfl (by kernel_rfl) (by kernel_rfl) (by kernel_rfl) (fun _ _ _ h => h) (Or.inl ⟨by rfl, ?_⟩) (by assumption) ?_
          rotate_left
          · (intro w hSw; (try dsimp only at hSw); go_simp <;> with_reducible rfl)
          try simp only [Act.put, List.setIfInBounds_toArray, List.set_cons_zero, List.set_cons_succ]
          refine take_lit (i := 2) (v := ?_) rfl (by kernel_rfl) (by kernel_rfl) (by kernel_rfl) (fun _ _ _ h => h) (Or.inl ⟨by rfl, ?_⟩) (by assumption) ?_
          rotate_left
          · (intro w hSw; (try dsimp only at hSw); go_simp <;> with_reducible rfl)
          try simp only [Act.put, List.setIfInBounds_toArray, List.set_cons_zero, List.set_cons_succ]
          refine take_lit (i := 3) (v := ?_) rfl (by kernel_rfl) (by kernel_rfl) (by kernel_rfl) (fun _ _ _ h => h) (Or.inl ⟨by rfl, ?_⟩) (by assumption) ?_
          rotate_left
          · (intro w hSw; (try dsimp only at hSw); go_simp <;> with_reducible rfl)
          try simp only [Act.put, List.setIfInBounds_toArray, List.set_cons_zero, List.set_cons_succ]
          refine take_lit (i := 5) (v := ?_) rfl (by kernel_rfl) (by kernel_rfl) (by kernel_rfl) (fun _ _ _ h => h) (Or.inl ⟨by rfl, ?_⟩) (by assumption) ?_
          rotate_left
          · (intro w hSw; (try dsimp only at hSw); go_simp <;> with_reducible rfl)
          try simp only [Act.put, List.setIfInBounds_toArray, List.set_cons_zero, List.set_cons_succ]
          refine take_lit (i := 6) (v := ?_) rfl (by kernel_rfl) (by kernel_rfl) (by kernel_rfl) (fun _ _ _ h => h) (Or.inl ⟨by rfl, ?_⟩) (by assumption) ?_
          rotate_left
          · (intro w hSw; (try dsimp only at hSw); go_simp <;> with_reducible rfl)
          try simp only [Act.put, List.setIfInBounds_toArray, List.set_cons_zero, List.set_cons_succ]
          refine take_lit (i := 7) (v := ?_) rfl (by kernel_rfl) (by kernel_rfl) (by kernel_rfl) (fun _ _ _ h => h) (Or.inl ⟨by rfl, ?_⟩) (by assumption) ?_
          rotate_left
          · (intro w hSw; (try dsimp only at hSw); go_simp <;> with_reducible rfl)
          try simp only [Act.put, List.setIfInBounds_toArray, List.set_cons_zero, List.set_cons_succ]
          refine take_lit (i := 8) (v := ?_) rfl (by kernel_rfl) (by kernel_rfl) (by kernel_rfl) (fun _ _ _ h => h) (Or.inl ⟨by rfl, ?_⟩) (by assumption) ?_
          rotate_left
          · (intro w hSw; (try dsimp only at hSw); have z := (hrow9.below hSw hrr).cell 1; go_simp <;> with_reducible rfl)
          try simp only [Act.put, List.setIfInBounds_toArray, List.set_cons_zero, List.set_cons_succ]
          refine wpAnyH_ready (rs := [4]) (by kernel_rfl) (by simp) ?_
          refine cons_lit rfl (fun K hK => ?_) ?_
          · go_simp
            refine (hLi _ (bt bW hHeld)).mono ?_
            rintro e wa ⟨aL, cL, rfl, sL, ka⟩
            refine hK.out _ _ ?_ (fun hHeld => ?_)
            · exact bt hHeld ka
            clear hK K
            try simp only [Act.put, List.setIfInBounds_toArray, List.set_cons_zero, List.set_cons_succ]
            refine wpAnyH_ready (rs := [9]) (by kernel_rfl) (by simp) ?_
            refine cons_lit rfl (fun K hK => ?_) ?_
            · go_simp
              refine (hSm _ (bt bW hHeld) aL cL sL).mono ?_
              rintro e wb ⟨rfl, kb⟩
              refine hK.out _ _ ?_ (fun hHeld => ?_)
              · exact bt hHeld kb
              clear hK K
              try simp only [Act.put, List.setIfInBounds_toArray, List.set_cons_zero, List.set_cons_succ]
              refine take_lit (i := 10) (v := ?_) rfl (by kernel_rfl) (by kernel_rfl) (by kernel_rfl) (fun _ _ _ h => h) (Or.inl ⟨by rfl, ?_⟩) (by assumption) ?_
              rotate_left
              · (intro w hSw; (try dsimp only at hSw); go_simp <;> with_reducible rfl)
              try simp only [Act.put, List.setIfInBounds_toArray, List.set_cons_zero, List.set_cons_succ]
              refine take_lit (i := 11) (v := ?_) rfl (by kernel_rfl) (by kernel_rfl) (by kernel_rfl) (fun _ _ _ h => h) (Or.inl ⟨by rfl, ?_⟩) (by assumption) ?_
              rotate_left
              · (intro w hSw; (try dsimp only at hSw); go_simp <;> with_reducible rfl)
              try simp only [Act.put, List.setIfInBounds_toArray, List.set_cons_zero, List.set_cons_succ]
              refine take_lit (i := 12) (v := ?_) rfl (by kernel_rfl) (by kernel_rfl) (by kernel_rfl) (fun _ _ _ h => h) (Or.inl ⟨by rfl, ?_⟩) (by assumption) ?_
              rotate_left
              · (intro w hSw; (try dsimp only at hSw); go_simp <;> with_reducible rfl)
              try simp only [Act.put, List.setIfInBounds_toArray, List.set_cons_zero, List.set_cons_succ]
              refine take_lit (i := 13) (v := ?_) rfl (by kernel_rfl) (by kernel_rfl) (by kernel_rfl) (fun _ _ _ h => h) (Or.inl ⟨by rfl, ?_⟩) (by assumption) ?_
              rotate_left
              · (intro w hSw; (try dsimp only at hSw); go_simp <;> with_reducible rfl)
              try simp only [Act.put, List.setIfInBounds_toArray, List.set_cons_zero, List.set_cons_succ]
              refine take_lit (i := 14) (v := ?_) rfl (by kernel_rfl) (by kernel_rfl) (by kernel_rfl) (fun _ _ _ h => h) (Or.inl ⟨by rfl, ?_⟩) (by assumption) ?_
              rotate_left
              · (intro w hSw; (try dsimp only at hSw); go_simp <;> with_reducible rfl)
              try simp only [Act.put, List.setIfInBounds_toArray, List.set_cons_zero, List.set_cons_succ]
              refine take_lit (i := 15) (v := ?_) rfl (by kernel_rfl) (by kernel_rfl) (by kernel_rfl) (fun _ _ _ h => h) (Or.inl ⟨by rfl, ?_⟩) (by assumption) ?_
              rotate_left
              · (intro w hSw; (try dsimp only at hSw); go_simp <;> with_reducible rfl)
              try simp only [Act.put, List.setIfInBounds_toArray, List.set_cons_zero, List.set_cons_succ]
              refine take_lit (i := 16) (v := ?_) rfl (by kernel_rfl) (by kernel_rfl) (by kernel_rfl) (fun _ _ _ h => h) (Or.inl ⟨by rfl, ?_⟩) (by assumption) ?_
              rotate_left
              · (intro w hSw; (try dsimp only at hSw); go_simp <;> with_reducible rfl)
              try simp only [Act.put, List.setIfInBounds_toArray, List.set_cons_zero, List.set_cons_succ]
              refine take_lit (i := 17) (v := ?_) rfl (by kernel_rfl) (by kernel_rfl) (by kernel_rfl) (fun _ _ _ h => h) (Or.inl ⟨by rfl, ?_⟩) (by assumption) ?_
              rotate_left
              · (intro w hSw; (try dsimp only at hSw); go_simp <;> with_reducible rfl)
              try simp only [Act.put, List.setIfInBounds_toArray, List.set_cons_zero, List.set_cons_succ]
              refine take_lit (i := 18) (v := ?_) rfl (by kernel_rfl) (by kernel_rfl) (by kernel_rfl) (fun _ _ _ h => h) (Or.inl ⟨by rfl, ?_⟩) (by assumption) ?_
              rotate_left
              · (intro w hSw; (try dsimp only at hSw); go_simp <;> with_reducible rfl)
              try simp only [Act.put, List.setIfInBounds_toArray, List.set_cons_zero, List.set_cons_succ]
              refine take_lit (i := 19) (v := ?_) rfl (by kernel_rfl) (by kernel_rfl) (by kernel_rfl) (fun _ _ _ h => h) (Or.inl ⟨by rfl, ?_⟩) (by assumption) ?_
              rotate_left
              · (intro w hSw; (try dsimp only at hSw); go_simp <;> with_reducible rfl)
              try simp only [Act.put, List.setIfInBounds_toArray, List.set_cons_zero, List.set_cons_succ]
              refine take_lit (i := 20) (v := ?_) rfl (by kernel_rfl) (by kernel_rfl) (by kernel_rfl) (fun _ _ _ h => h) (Or.inl ⟨by rfl, ?_⟩) (by assumption) ?_
              rotate_left
              · (intro w hSw; (try dsimp only at hSw); go_simp <;> with_reducible rfl)
              try simp only [Act.put, List.setIfInBounds_toArray, List.set_cons_zero, List.set_cons_succ]
              refine take_lit (i := 21) rfl (by kernel_rfl) (by kernel_rfl) (by kernel_rfl) (fun _ _ _ h => h) (Or.inr ⟨by rfl, rfl⟩) (by assumption) ?_
              try simp only [Act.put, List.setIfInBounds_toArray, List.set_cons_zero, List.set_cons_succ]
              refine take_lit (i := 22) rfl (by kernel_rfl) (by kernel_rfl) (by kernel_rfl) (fun _ _ _ h => h) (Or.inr ⟨by rfl, rfl⟩) (by assumption) ?_
              try simp only [Act.put, List.setIfInBounds_toArray, List.set_cons_zero, List.set_cons_succ]
              refine take_lit (i := 23) rfl (by kernel_rfl) (by kernel_rfl) (by kernel_rfl) (fun _ _ _ h => h) (Or.inr ⟨by rfl, rfl⟩) (by assumption) ?_
              try simp only [Act.put, List.setIfInBounds_toArray, List.set_cons_zero, List.set_cons_succ]
              refine take_lit (i := 24) rfl (by kernel_rfl) (by kernel_rfl) (by kernel_rfl) (fun _ _ _ h => h) (Or.inr ⟨by rfl, rfl⟩) (by assumption) ?_
              try simp only [Act.put, List.setIfInBounds_toArray, List.set_cons_zero, List.set_cons_succ]
              refine take_lit (i := 25) rfl (by kernel_rfl) (by kernel_rfl) (by kernel_rfl) (fun _ _ _ h => h) (Or.inr ⟨by rfl, rfl⟩) (by assumption) ?_
              try simp only [Act.put, List.setIfInBounds_toArray, List.set_cons_zero, List.set_cons_succ]
              refine take_lit (i := 26) rfl (by kernel_rfl) (by kernel_rfl) (by kernel_rfl) (fun _ _ _ h => h) (Or.inr ⟨by rfl, rfl⟩) (by assumption) ?_
              try simp only [Act.put, List.setIfInBounds_toArray, List.set_cons_zero, List.set_cons_succ]
              refine take_lit (i := 27) rfl (by kernel_rfl) (by kernel_rfl) (by kernel_rfl) (fun _ _ _ h => h) (Or.inr ⟨by rfl, rfl⟩) (by assumption) ?_
              try simp only [Act.put, List.setIfInBounds_toArray, List.set_cons_zero, List.set_cons_succ]
              refine take_lit (i := 28) rfl (by kernel_rfl) (by kernel_rfl) (by kernel_rfl) (fun _ _ _ h => h) (Or.inr ⟨by rfl, rfl⟩) (by assumption) ?_
              try simp only [Act.put, List.setIfInBounds_toArray, List.set_cons_zero, List.set_cons_succ]
              refine take_lit (i := 29) rfl (by kernel_rfl) (by kernel_rfl) (by kernel_rfl) (fun _ _ _ h => h) (Or.inr ⟨by rfl, rfl⟩) (by assumption) ?_
              try simp only [Act.put, List.setIfInBounds_toArray, List.set_cons_zero, List.set_cons_succ]
              refine take_lit (i := 30) (v := ?_) rfl (by kernel_rfl) (by kernel_rfl) (by kernel_rfl) (fun _ _ _ h => h) (Or.inl ⟨by rfl, ?_⟩) (by assumption) ?_
              rotate_left
              · (intro w hSw; (try dsimp only at hSw); go_simp <;> with_reducible rfl)
              try simp only [Act.put, List.setIfInBounds_toArray, List.set_cons_zero, List.set_cons_succ]
              refine take_lit (i := 31) (v := ?_) rfl (by kernel_rfl) (by kernel_rfl) (by kernel_rfl) (fun _ _ _ h => h) (Or.inl ⟨by rfl, ?_⟩) (by assumption) ?_
              rotate_left
              · (intro w hSw; (try dsimp only at hSw); go_simp <;> with_reducible rfl)
              try simp only [Act.put, List.setIfInBounds_toArray, List.set_cons_zero, List.set_cons_succ]
              refine take_lit (i := 32) (v := ?_) rfl (by kernel_rfl) (by kernel_rfl) (by kernel_rfl) (fun _ _ _ h => h) (Or.inl ⟨by rfl, ?_⟩) (by assumption) ?_
              rotate_left
              · (intro w hSw; (try dsimp only at hSw); go_simp <;> with_reducible rfl)
              try simp only [Act.put, List.setIfInBounds_toArray, List.set_cons_zero, List.set_cons_succ]
              refine take_lit (i := 33) (v := ?_) rfl (by kernel_rfl) (by kernel_rfl) (by kernel_rfl) (fun _ _ _ h => h) (Or.inl ⟨by rfl, ?_⟩) (by assumption) ?_
              rotate_left
              · (intro w hSw; (try dsimp only at hSw); go_simp <;> with_reducible rfl)
              try simp only [Act.put, List.setIfInBounds_toArray, List.set_cons_zero, List.set_cons_succ]
              refine take_lit (i := 34) (v := ?_) rfl (by kernel_rfl) (by kernel_rfl) (by kernel_rfl) (fun _ _ _ h => h) (Or.inl ⟨by rfl, ?_⟩) (by assumption) ?_
              rotate_left
              · (intro w hSw; (try dsimp only at hSw); go_simp <;> with_reducible rfl)
              try simp only [Act.put, List.setIfInBounds_toArray, List.set_cons_zero, List.set_cons_succ]
              refine take_lit (i := 35) (v := ?_) rfl (by kernel_rfl) (by kernel_rfl) (by kernel_rfl) (fun _ _ _ h => h) (Or.inl ⟨by rfl, ?_⟩) (by assumption) ?_
              rotate_left
              · (intro w hSw; (try dsimp only at hSw); go_simp <;> with_reducible rfl)
              try simp only [Act.put, List.setIfInBounds_toArray, List.set_cons_zero, List.set_cons_succ]
              refine take_lit (i := 36) rfl (by kernel_rfl) (by kernel_rfl) (by kernel_rfl) (fun _ _ _ h => h) (yS zeroS (fun w h => (s9.below h hss).sr) (by rfl) rfl rfl) (by assumption) ?_
              try simp only [Act.put, List.setIfInBounds_toArray, List.set_cons_zero, List.set_cons_succ]
              refine take_lit (i := 37) rfl (by kernel_rfl) (by kernel_rfl) (by kernel_rfl) (fun _ _ _ h => h) (yB (v := sV zeroS) [] (by rfl) rfl (fun w => bdS0 w)) (by assumption) ?_
              try simp only [Act.put, List.setIfInBounds_toArray, List.set_cons_zero, List.set_cons_succ]
              refine take_lit (i := 38) (v := ?_) rfl (by kernel_rfl) (by kernel_rfl) (by kernel_rfl) (fun _ _ _ h => h) (Or.inl ⟨by rfl, ?_⟩) (by assumption) ?_
              rotate_left
              · (intro w hSw; (try dsimp only at hSw); have z := hEq w; have z2 := fun op x y => gEq op x y w; go_simp <;> with_reducible rfl)
              try simp only [Act.put, List.setIfInBounds_toArray, List.set_cons_zero, List.set_cons_succ]
              refine take_lit (i := 39) (v := ?_) rfl (by kernel_rfl) (by kernel_rfl) (by kernel_rfl) (fun _ _ _ h => h) (Or.inl ⟨by rfl, ?_⟩) (by assumption) ?_
              rotate_left
              · (intro w hSw; (try dsimp only at hSw); go_simp <;> with_reducible rfl)
              try simp only [Act.put, List.setIfInBounds_toArray, List.set_cons_zero, List.set_cons_succ]
              refine take_lit (i := 40) (v := ?_) rfl (by kernel_rfl) (by kernel_rfl) (by kernel_rfl) (fun _ _ _ h => h) (Or.inl ⟨by rfl, ?_⟩) (by assumption) ?_
              rotate_left
              · (intro w hSw; (try dsimp only at hSw); go_simp <;> with_reducible rfl)
              try simp only [Act.put, List.setIfInBounds_toArray, List.set_cons_zero, List.set_cons_succ]
              refine take_lit (i := 41) (v := ?_) rfl (by kernel_rfl) (by kernel_rfl) (by kernel_rfl) (fun _ _ _ h => h) (Or.inl ⟨by rfl, ?_⟩) (by assumption) ?_
              rotate_left
              · (intro w hSw; (try dsimp only at hSw); go_simp <;> with_reducible rfl)
              try simp only [Act.put, List.setIfInBounds_toArray, List.set_cons_zero, List.set_cons_succ]
              refine take_lit (i := 42) (v := ?_) rfl (by kernel_rfl) (by kernel_rfl) (by kernel_rfl) (fun _ _ _ h => h) (Or.inl ⟨by rfl, ?_⟩) (by assumption) ?_
              rotate_left
              · (intro w hSw; (try dsimp only at hSw); go_simp <;> with_reducible rfl)
              try simp only [Act.put, List.setIfInBounds_toArray, List.set_cons_zero, List.set_cons_succ]
              refine take_lit (i := 43) (v := ?_) rfl (by kernel_rfl) (by kernel_rfl) (by kernel_rfl) (fun _ _ _ h => h) (Or.inl ⟨by rfl, ?_⟩) (by assumption) ?_
              rotate_left
              · (intro w hSw; (try dsimp only at hSw); go_simp <;> with_reducible rfl)
              try simp only [Act.put, List.setIfInBounds_toArray, List.set_cons_zero, List.set_cons_succ]
              refine take_lit (i := 44) (v := ?_) rfl (by kernel_rfl) (by kernel_rfl) (by kernel_rfl) (fun _ _ _ h => h) (Or.inl ⟨by rfl, ?_⟩) (by assumption) ?_
              rotate_left
              · (intro w hSw; (try dsimp only at hSw); go_simp <;> with_reducible rfl)
              try simp only [Act.put, List.setIfInBounds_toArray, List.set_cons_zero, List.set_cons_succ]
              refine take_lit (i := 45) (v := ?_) rfl (by kernel_rfl) (by kernel_rfl) (by kernel_rfl) (fun _ _ _ h => h) (Or.inl ⟨by rfl, ?_⟩) (by assumption) ?_
              rotate_left
              · (intro w hSw; (try dsimp only at hSw); go_simp <;> with_reducible rfl)
              try simp only [Act.put, List.setIfInBounds_toArray, List.set_cons_zero, List.set_cons_succ]
              refine take_lit (i := 46) (v := ?_) rfl (by kernel_rfl) (by kernel_rfl) (by kernel_rfl) (fun _ _ _ h => h) (Or.inl ⟨by rfl, ?_⟩) (by assumption) ?_
              rotate_left
              · (intro w hSw; (try dsimp only at hSw); go_simp <;> with_reducible rfl)
              try simp only [Act.put, List.setIfInBounds_toArray, List.set_cons_zero, List.set_cons_succ]
              refine take_lit (i := 47) (v := ?_) rfl (by kernel_rfl) (by kernel_rfl) (by kernel_rfl) (fun _ _ _ h => h) (Or.inl ⟨by rfl, ?_⟩) (by assumption) ?_
              rotate_left
              · (intro w hSw; (try dsimp only at hSw); go_simp <;> with_reducible rfl)
              try simp only [Act.put, List.setIfInBounds_toArray, List.set_cons_zero, List.set_cons_succ]
              refine take_lit (i := 48) (v := ?_) rfl (by kernel_rfl) (by kernel_rfl) (by kernel_rfl) (fun _ _ _ h => h) (Or.inl ⟨by rfl, ?_⟩) (by assumption) ?_
              rotate_left
              · (intro w hSw; (try dsimp only at hSw); go_simp <;> with_reducible rfl)
              try simp only [Act.put, List.setIfInBounds_toArray, List.set_cons_zero, List.set_cons_succ]
              refine take_lit (i := 49) (v := ?_) rfl (by kernel_rfl) (by kernel_rfl) (by kernel_rfl) (fun _ _ _ h => h) (Or.inl ⟨by rfl, ?_⟩) (by assumption) ?_
              rotate_left
              · (intro w hSw; (try dsimp only at hSw); go_simp <;> with_reducible rfl)
              try simp only [Act.put, List.setIfInBounds_toArray, List.set_cons_zero, List.set_cons_succ]
              refine take_lit (i := 50) (v := ?_) rfl (by kernel_rfl) (by kernel_rfl) (by kernel_rfl) (fun _ _ _ h => h) (Or.inl ⟨by rfl, ?_⟩) (by assumption) ?_
              rotate_left
              · (intro w hSw; (try dsimp only at hSw); go_simp <;> with_reducible rfl)
              try simp only [Act.put, List.setIfInBounds_toArray, List.set_cons_zero, List.set_cons_succ]
              refine take_lit (i := 51) (v := ?_) rfl (by kernel_rfl) (by kernel_rfl) (by kernel_rfl) (fun _ _ _ h => h) (Or.inl ⟨by rfl, ?_⟩) (by assumption) ?_
              rotate_left
              · (intro w hSw; (try dsimp only at hSw); go_simp <;> with_reducible rfl)
              try simp only [Act.put, List.setIfInBounds_toArray, List.set_cons_zero, List.set_cons_succ]
              refine take_lit (i := 52) (v := ?_) rfl (by kernel_rfl) (by kernel_rfl) (by kernel_rfl) (fun _ _ _ h => h) (Or.inl ⟨by rfl, ?_⟩) (by assumption) ?_
              rotate_left
              · (intro w hSw; (try dsimp only at hSw); go_simp <;> with_reducible rfl)
              try simp only [Act.put, List.setIfInBounds_toArray, List.set_cons_zero, List.set_cons_succ]
              refine take_lit (i := 53) (v := ?_) rfl (by kernel_rfl) (by kernel_rfl) (by kernel_rfl) (fun _ _ _ h => h) (Or.inl ⟨by rfl, ?_⟩) (by assumption) ?_
              rotate_left
              · (intro w hSw; (try dsimp only at hSw); go_simp <;> with_reducible rfl)
              try simp only [Act.put, List.setIfInBounds_toArray, List.set_cons_zero, List.set_cons_succ]
              refine take_lit (i := 54) rfl (by kernel_rfl) (by kernel_rfl) (by kernel_rfl) (fun _ _ _ h => h) (yQ a.p (fun w h => (LC.p (q9.below h hs9).range)) (by rfl) rfl rfl) (by assumption) ?_
              try simp only [Act.put, List.setIfInBounds_toArray, List.set_cons_zero, List.set_cons_succ]
              refine take_lit (i := 55) (v := ?_) rfl (by kernel_rfl) (by kernel_rfl) (by kernel_rfl) (fun _ _ _ h => h) (Or.inl ⟨by rfl, ?_⟩) (by assumption) ?_
              rotate_left
              · (intro w hSw; (try dsimp only at hSw); go_simp <;> with_reducible rfl)
              try simp only [Act.put, List.setIfInBounds_toArray, List.set_cons_zero, List.set_cons_succ]
              refine take_lit (i := 56) rfl (by kernel_rfl) (by kernel_rfl) (by kernel_rfl) (fun _ _ _ h => h) (yI a.i (fun w h => (LC.i (q9.below h hs9).range)) (by rfl) rfl rfl) (by assumption) ?_
              try simp only [Act.put, List.setIfInBounds_toArray, List.set_cons_zero, List.set_cons_succ]
              refine take_lit (i := 57) (v := ?_) rfl (by kernel_rfl) (by kernel_rfl) (by kernel_rfl) (fun _ _ _ h => h) (Or.inl ⟨by rfl, ?_⟩) (by assumption) ?_
              rotate_left
              · (intro w hSw; (try dsimp only at hSw); go_simp <;> with_reducible rfl)
              try simp only [Act.put, List.setIfInBounds_toArray, List.set_cons_zero, List.set_cons_succ]
              refine take_lit (i := 58) rfl (by kernel_rfl) (by kernel_rfl) (by kernel_rfl) (fun _ _ _ h => h) (Sn.yD a.s a.m (fun w h => (LC.d (q9.below h hs9).range)) (by rfl) rfl rfl) (by assumption) ?_
              try simp only [Act.put, List.setIfInBounds_toArray, List.set_cons_zero, List.set_cons_succ]
              refine take_lit (i := 60) (v := ?_) rfl (by kernel_rfl) (by kernel_rfl) (by kernel_rfl) (fun _ _ _ h => h) (Or.inl ⟨by rfl, ?_⟩) (by assumption) ?_
              rotate_left
              · (intro w hSw; (try dsimp only at hSw); go_simp <;> with_reducible rfl)
              try simp only [Act.put, List.setIfInBounds_toArray, List.set_cons_zero, List.set_cons_succ]
              refine take_lit (i := 61) (v := ?_) rfl (by kernel_rfl) (by kernel_rfl) (by kernel_rfl) (fun _ _ _ h => h) (Or.inl ⟨by rfl, ?_⟩) (by assumption) ?_
              rotate_left
              · (intro w hSw; (try dsimp only at hSw); go_simp <;> with_reducible rfl)
              try simp only [Act.put, List.setIfInBounds_toArray, List.set_cons_zero, List.set_cons_succ]
              refine take_lit (i := 62) rfl (by kernel_rfl) (by kernel_rfl) (by kernel_rfl) (fun _ _ _ h => h) (yQ a.p (fun w h => (LC.p (q9.below h hs9).range)) (by rfl) rfl rfl) (by assumption) ?_
              try simp only [Act.put, List.setIfInBounds_toArray, List.set_cons_zero, List.set_cons_succ]
              refine take_lit (i := 63) (v := ?_) rfl (by kernel_rfl) (by kernel_rfl) (by kernel_rfl) (fun _ _ _ h => h) (Or.inl ⟨by rfl, ?_⟩) (by assumption) ?_
              rotate_left
              · (intro w hSw; (try dsimp only at hSw); go_simp <;> with_reducible rfl)
              try simp only [Act.put, List.setIfInBounds_toArray, List.set_cons_zero, List.set_cons_succ]
              refine take_lit (i := 64) rfl (by kernel_rfl) (by kernel_rfl) (by kernel_rfl) (fun _ _ _ h => h) (yI a.i (fun w h => (LC.i (q9.below h hs9).range)) (by rfl) rfl rfl) (by assumption) ?_
              try simp only [Act.put, List.setIfInBounds_toArray, List.set_cons_zero, List.set_cons_succ]
              refine take_lit (i := 65) (v := ?_) rfl (by kernel_rfl) (by kernel_rfl) (by kernel_rfl) (fun _ _ _ h => h) (Or.inl ⟨by rfl, ?_⟩) (by assumption) ?_
              rotate_left
              · (intro w hSw; (try dsimp only at hSw); go_simp <;> with_reducible rfl)
              try simp only [Act.put, List.setIfInBounds_toArray, List.set_cons_zero, List.set_cons_succ]
              refine take_lit (i := 66) rfl (by kernel_rfl) (by kernel_rfl) (by kernel_rfl) (fun _ _ _ h => h) (Sn.yD a.s a.m (fun w h => (LC.d (q9.below h hs9).range)) (by rfl) rfl rfl) (by assumption) ?_
              try simp only [Act.put, List.setIfInBounds_toArray, List.set_cons_zero, List.set_cons_succ]
              refine wpAnyH_ready (rs := [59]) (by kernel_rfl) (by simp) ?_
              refine cons_lit rfl (fun K hK => ?_) ?_
              · go_simp
                refine (hFt _ (bt bW hHeld)).mono ?_
                rintro e wc ⟨rfl, kc⟩
                refine hK.out _ _ ?_ (fun hHeld => ?_)
                · exact bt hHeld kc
                clear hK K
                try simp only [Act.put, List.setIfInBounds_toArray, List.set_cons_zero, List.set_cons_succ]
                refine wpAnyH_ready (rs := [67]) (by kernel_rfl) (by simp) ?_
                refine cons_lit rfl (fun K hK => ?_) ?_
                · go_simp
                  refine (hFr _ (bt bW hHeld)).mono ?_
                  rintro e wd ⟨rfl, kd⟩
                  refine hK.out _ _ ?_ (fun hHeld => ?_)
                  · exact bt hHeld kd
                  clear hK K
                  try simp only [Act.put, List.setIfInBounds_toArray, List.set_cons_zero, List.set_cons_succ]
                  refine take_lit (i := 68) (v := ?_) rfl (by kernel_rfl) (by kernel_rfl) (by kernel_rfl) (fun _ _ _ h => h) (Or.inl ⟨by rfl, ?_⟩) (by assumption) ?_
                  rotate_left
                  · (intro w hSw; (try dsimp only at hSw); go_simp <;> with_reducible rfl)
                  try simp only [Act.put, List.setIfInBounds_toArray, List.set_cons_zero, List.set_cons_succ]
                  refine take_lit (i := 69) (v := ?_) rfl (by kernel_rfl) (by kernel_rfl) (by kernel_rfl) (fun _ _ _ h => h) (Or.inl ⟨by rfl, ?_⟩) (by assumption) ?_
                  rotate_left
                  · (intro w hSw; (try dsimp only at hSw); go_simp <;> with_reducible rfl)
                  try simp only [Act.put, List.setIfInBounds_toArray, List.set_cons_zero, List.set_cons_succ]
                  refine wpAnyH_done (by kernel_rfl) ?_ _
                  refine NoPanic.normal ?_
                  have bE := bt bW hHeld
                  clear hHeld hLi hSm hFt hFr q9 s9 hrow9 bW
                  go_wp2_with fail
                  go_roundw
                  case rel => exact ⟨j + 1, y, KK, HJ.out, by first | rfl | go_num, by first | rfl | exact congrArg (Value.int .i64) hw2, HPI.out, hrel2, HEnd.out _ bE⟩
                  case measure => first | (rw [hw64]; simp only [intOf]; exact HM.out) | (simp only [intOf]; exact HM.out)
                exact AllReadyH.nil
              exact AllReadyH.nil
            exact AllReadyH.nil
          exact AllReadyH.nil
        · rw [e1] at hFi
          rw [e3] at hGt hFt hFr
          have hEq : ∀ W, (binOp .neq 53 (sV sr) (sV sr)).run Try.prog W = .ok (.bool false) W := fun W => by rw [run_neqS, eqSr_self]; rfl
          have gEq := fun op a b W => guardS op a b sr sr W
          dsimp only [Option.getD_some, Option.isSome_some] at hGt
          generalize feaO (some sr) a.s a.m = fe at *
          have hfe2 := hfe fe
          have hkl : k < KK.length := (List.getElem?_eq_some_iff.1 e2).1
          have hki : (k : Int) < (KK.length : Int) := by omega
          have hk0 : (0 : Int) ≤ (k : Int) := by omega
          obtain ⟨gk, rfl, HLk0⟩ := hlies k sr e2 _ (Below.refl _ _)
          have HLk : Hid (∀ W, Below W7.heap.size W7 W → LS W gk (k * 45) sr) := fun W hW => by
            obtain ⟨g', e', h'⟩ := hlies k sr e2 W hW
            cases e'
            exact h'
          clear e1 e2 e3 hlies hkl HLk0
          go_upto_region 25 with (first
            | (have kk := q6; go_at_call 22; refine (hNr _ bW).mono ?_; rintro e w9 ⟨f2, c2, rfl, hN2, rfl⟩)
            | (have kk := q5; go_at_call 21; refine (hNx _ bW).mono ?_; rintro e w6 ⟨f1, c1, rfl, hN1, k6⟩; replace bW := bt bW k6; replace q9 := q9.below k6 q9.lt; replace s9 := s9.below k6 s9.lt; have q6 := k6)
            | (have kk := s9; go_at_call 20; refine (hFi _ bW).mono ?_; rintro e w5 ⟨rfl, k5⟩; replace bW := bt bW k5; replace q9 := q9.below k5 q9.lt; replace s9 := s9.below k5 s9.lt; have q5 := k5)
            | (have kk := r4; refine stS (.tmp 11) (.tmp 108) rfl rfl g4 sr _ rfl rfl r4 ?_; intro W5 g5 s9; have k4 := grown_below g5 hB4 hge4 hB4.size; replace bW := bt bW k4; replace q9 := q9.below k4 q9.lt; clear r4)
            | (have kk := k3; refine alG infoSz rfl rfl ?_; intro g4 W4 hge4 hgl4 hB4 r4)
            | (go_at_call 19; refine hGt.mono ?_; rintro e w3 ⟨rfl, k3⟩; replace bW := bt bW k3; replace q9 := q9.below k3 q9.lt)
            | (refine ldI (.tmp 105) rfl rfl _ _ a.i rfl (LC.i q9.range) ?_)
            | (refine ldQ (.tmp 103) rfl rfl _ _ a.p rfl (LC.p q9.range) ?_)
            | (refine ldI (.tmp 113) rfl rfl _ _ a.i rfl (LC.i q9.range) ?_)
            | (refine ldQ (.tmp 111) rfl rfl _ _ a.p rfl (LC.p q9.range) ?_))
          obtain ⟨rfl, rfl⟩ := rel_next hrel2 hN1 hN2
          have hff := hbb f1
          have hcc := hfe c1
          have hrow9 := hrow7.below bW hrlt
          have hs9 := q9.lt
          have hss := s9.lt
          have hrr := hrow9.lt
          refine wp_region_noPanic ?_
          refine wp_region_held_drew (S := fun W => Below w6.heap.size w6 W) (by kernel_rfl) ((Below.refl _ _).drew) (fun hHeld => ?_)
          refine take_lit (i := 0) (v := ?_) rfl (by kernel_rfl) (by kernel_rfl) (by kernel_rfl) (fun _ _ _ h => h) (Or.inl ⟨by rfl, ?_⟩) (by assumption) ?_
          rotate_left
          · (intro w hSw; (try dsimp only at hSw); go_simp <;> with_reducible rfl)
          try simp only [Act.put, List.setIfInBounds_toArray, List.set_cons_zero, List.set_cons_succ]
          refine take_lit (i := 1) (v := ?_) rfl (by kernel_rfl) (by kernel_rfl) (by kernel_rfl) (fun _ _ _ h => h) (Or.inl ⟨by rfl, ?_⟩) (by assumption) ?_
          rotate_left
          · (intro w hSw; (try dsimp only at hSw); go_simp <;> with_reducible rfl)
          try simp only [Act.put, List.setIfInBounds_toArray, List.set_cons_zero, List.set_cons_succ]
          refine take_lit (i := 2) (v := ?_) rfl (by kernel_rfl) (by kernel_rfl) (by kernel_rfl) (fun _ _ _ h => h) (Or.inl ⟨by rfl, ?_⟩) (by assumption) ?_
          rotate_left
          · (intro w hSw; (try dsimp only at hSw); go_simp <;> with_reducible rfl)
          try simp only [Act.put, List.setIfInBounds_toArray, List.set_cons_zero, List.set_cons_succ]
          refine take_lit (i := 3) (v := ?_) rfl (by kernel_rfl) (by kernel_rfl) (by kernel_rfl) (fun _ _ _ h => h) (Or.inl ⟨by rfl, ?_⟩) (by assumption) ?_
          rotate_left
          · (intro w hSw; (try dsimp only at hSw); go_simp <;> with_reducible rfl)
          try simp only [Act.put, List.setIfInBounds_toArray, List.set_cons_zero, List.set_cons_succ]
          refine take_lit (i := 5) (v := ?_) rfl (by kernel_rfl) (by kernel_rfl) (by kernel_rfl) (fun _ _ _ h => h) (Or.inl ⟨by rfl, ?_⟩) (by assumption) ?_
          rotate_left
          · (intro w hSw; (try dsimp only at hSw); go_simp <;> with_reducible rfl)
          try simp only [Act.put, List.setIfInBounds_toArray, List.set_cons_zero, List.set_cons_succ]
          refine take_lit (i := 6) (v := ?_) rfl (by kernel_rfl) (by kernel_rfl) (by kernel_rfl) (fun _ _ _ h => h) (Or.inl ⟨by rfl, ?_⟩) (by assumption) ?_
          rotate_left
          · (intro w hSw; (try dsimp only at hSw); go_simp <;> with_reducible rfl)
          try simp only [Act.put, List.setIfInBounds_toArray, List.set_cons_zero, List.set_cons_succ]
          refine take_lit (i := 7) (v := ?_) rfl (by kernel_rfl) (by kernel_rfl) (by kernel_rfl) (fun _ _ _ h => h) (Or.inl ⟨by rfl, ?_⟩) (by assumption) ?_
          rotate_left
          · (intro w hSw; (try dsimp only at hSw); go_simp <;> with_reducible rfl)
          try simp only [Act.put, List.setIfInBounds_toArray, List.set_cons_zero, List.set_cons_succ]
          refine take_lit (i := 8) (v := ?_) rfl (by kernel_rfl) (by kernel_rfl) (by kernel_rfl) (fun _ _ _ h => h) (Or.inl ⟨by rfl, ?_⟩) (by assumption) ?_
          rotate_left
          · (intro w hSw; (try dsimp only at hSw); have z := (hrow9.below hSw hrr).cell 1; go_simp <;> with_reducible rfl)
          try simp only [Act.put, List.setIfInBounds_toArray, List.set_cons_zero, List.set_cons_succ]
          refine wpAnyH_ready (rs := [4]) (by kernel_rfl) (by simp) ?_
          refine cons_lit rfl (fun K hK => ?_) ?_
          · go_simp
            refine (hLi _ (bt bW hHeld)).mono ?_
            rintro e wa ⟨aL, cL, rfl, sL, ka⟩
            refine hK.out _ _ ?_ (fun hHeld => ?_)
            · exact bt hHeld ka
            clear hK K
            try simp only [Act.put, List.setIfInBounds_toArray, List.set_cons_zero, List.set_cons_succ]
            refine wpAnyH_ready (rs := [9]) (by kernel_rfl) (by simp) ?_
            refine cons_lit rfl (fun K hK => ?_) ?_
            · go_simp
              refine (hSm _ (bt bW hHeld) aL cL sL).mono ?_
              rintro e wb ⟨rfl, kb⟩
              refine hK.out _ _ ?_ (fun hHeld => ?_)
              · exact bt hHeld kb
              clear hK K
              try simp only [Act.put, List.setIfInBounds_toArray, List.set_cons_zero, List.set_cons_succ]
              refine take_lit (i := 10) (v := ?_) rfl (by kernel_rfl) (by kernel_rfl) (by kernel_rfl) (fun _ _ _ h => h) (Or.inl ⟨by rfl, ?_⟩) (by assumption) ?_
              rotate_left
              · (intro w hSw; (try dsimp only at hSw); go_simp <;> with_reducible rfl)
              try simp only [Act.put, List.setIfInBounds_toArray, List.set_cons_zero, List.set_cons_succ]
              refine take_lit (i := 11) (v := ?_) rfl (by kernel_rfl) (by kernel_rfl) (by kernel_rfl) (fun _ _ _ h => h) (Or.inl ⟨by rfl, ?_⟩) (by assumption) ?_
              rotate_left
              · (intro w hSw; (try dsimp only at hSw); go_simp <;> with_reducible rfl)
              try simp only [Act.put, List.setIfInBounds_toArray, List.set_cons_zero, List.set_cons_succ]
              refine take_lit (i := 12) (v := ?_) rfl (by kernel_rfl) (by kernel_rfl) (by kernel_rfl) (fun _ _ _ h => h) (Or.inl ⟨by rfl, ?_⟩) (by assumption) ?_
              rotate_left
              · (intro w hSw; (try dsimp only at hSw); go_simp <;> with_reducible rfl)
              try simp only [Act.put, List.setIfInBounds_toArray, List.set_cons_zero, List.set_cons_succ]
              refine take_lit (i := 13) (v := ?_) rfl (by kernel_rfl) (by kernel_rfl) (by kernel_rfl) (fun _ _ _ h => h) (Or.inl ⟨by rfl, ?_⟩) (by assumption) ?_
              rotate_left
              · (intro w hSw; (try dsimp only at hSw); go_simp <;> with_reducible rfl)
              try simp only [Act.put, List.setIfInBounds_toArray, List.set_cons_zero, List.set_cons_succ]
              refine take_lit (i := 14) (v := ?_) rfl (by kernel_rfl) (by kernel_rfl) (by kernel_rfl) (fun _ _ _ h => h) (Or.inl ⟨by rfl, ?_⟩) (by assumption) ?_
              rotate_left
              · (intro w hSw; (try dsimp only at hSw); go_simp <;> with_reducible rfl)
              try simp only [Act.put, List.setIfInBounds_toArray, List.set_cons_zero, List.set_cons_succ]
              refine take_lit (i := 15) (v := ?_) rfl (by kernel_rfl) (by kernel_rfl) (by kernel_rfl) (fun _ _ _ h => h) (Or.inl ⟨by rfl, ?_⟩) (by assumption) ?_
              rotate_left
              · (intro w hSw; (try dsimp only at hSw); go_simp <;> with_reducible rfl)
              try simp only [Act.put, List.setIfInBounds_toArray, List.set_cons_zero, List.set_cons_succ]
              refine take_lit (i := 16) (v := ?_) rfl (by kernel_rfl) (by kernel_rfl) (by kernel_rfl) (fun _ _ _ h => h) (Or.inl ⟨by rfl, ?_⟩) (by assumption) ?_
              rotate_left
              · (intro w hSw; (try dsimp only at hSw); go_simp <;> with_reducible rfl)
              try simp only [Act.put, List.setIfInBounds_toArray, List.set_cons_zero, List.set_cons_succ]
              refine take_lit (i := 17) (v := ?_) rfl (by kernel_rfl) (by kernel_rfl) (by kernel_rfl) (fun _ _ _ h => h) (Or.inl ⟨by rfl, ?_⟩) (by assumption) ?_
              rotate_left
              · (intro w hSw; (try dsimp only at hSw); go_simp <;> with_reducible rfl)
              try simp only [Act.put, List.setIfInBounds_toArray, List.set_cons_zero, List.set_cons_succ]
              refine take_lit (i := 18) (v := ?_) rfl (by kernel_rfl) (by kernel_rfl) (by kernel_rfl) (fun _ _ _ h => h) (Or.inl ⟨by rfl, ?_⟩) (by assumption) ?_
              rotate_left
              · (intro w hSw; (try dsimp only at hSw); go_simp <;> with_reducible rfl)
              try simp only [Act.put, List.setIfInBounds_toArray, List.set_cons_zero, List.set_cons_succ]
              refine take_lit (i := 19) (v := ?_) rfl (by kernel_rfl) (by kernel_rfl) (by kernel_rfl) (fun _ _ _ h => h) (Or.inl ⟨by rfl, ?_⟩) (by assumption) ?_
              rotate_left
              · (intro w hSw; (try dsimp only at hSw); go_simp <;> with_reducible rfl)
              try simp only [Act.put, List.setIfInBounds_toArray, List.set_cons_zero, List.set_cons_succ]
              refine take_lit (i := 20) (v := ?_) rfl (by kernel_rfl) (by kernel_rfl) (by kernel_rfl) (fun _ _ _ h => h) (Or.inl ⟨by rfl, ?_⟩) (by assumption) ?_
              rotate_left
              · (intro w hSw; (try dsimp only at hSw); go_simp <;> with_reducible rfl)
              try simp only [Act.put, List.setIfInBounds_toArray, List.set_cons_zero, List.set_cons_succ]
              refine take_lit (i := 21) rfl (by kernel_rfl) (by kernel_rfl) (by kernel_rfl) (fun _ _ _ h => h) (yS sr (fun w h => (s9.below h hss).sr) (by rfl) rfl rfl) (by assumption) ?_
              try simp only [Act.put, List.setIfInBounds_toArray, List.set_cons_zero, List.set_cons_succ]
              refine take_lit (i := 22) (v := ?_) rfl (by kernel_rfl) (by kernel_rfl) (by kernel_rfl) (fun _ _ _ h => h) (Or.inl ⟨by rfl, ?_⟩) (by assumption) ?_
              rotate_left
              · (intro w hSw; (try dsimp only at hSw); go_simp <;> with_reducible rfl)
              try simp only [Act.put, List.setIfInBounds_toArray, List.set_cons_zero, List.set_cons_succ]
              refine take_lit (i := 23) (v := ?_) rfl (by kernel_rfl) (by kernel_rfl) (by kernel_rfl) (fun _ _ _ h => h) (Or.inl ⟨by rfl, ?_⟩) (by assumption) ?_
              rotate_left
              · (intro w hSw; (try dsimp only at hSw); go_simp <;> with_reducible rfl)
              try simp only [Act.put, List.setIfInBounds_toArray, List.set_cons_zero, List.set_cons_succ]
              refine take_lit (i := 24) (v := ?_) rfl (by kernel_rfl) (by kernel_rfl) (by kernel_rfl) (fun _ _ _ h => h) (Or.inl ⟨by rfl, ?_⟩) (by assumption) ?_
              rotate_left
              · (intro w hSw; (try dsimp only at hSw); go_simp <;> with_reducible rfl)
              try simp only [Act.put, List.setIfInBounds_toArray, List.set_cons_zero, List.set_cons_succ]
              refine take_lit (i := 25) (v := ?_) rfl (by kernel_rfl) (by kernel_rfl) (by kernel_rfl) (fun _ _ _ h => h) (Or.inl ⟨by rfl, ?_⟩) (by assumption) ?_
              rotate_left
              · (intro w hSw; (try dsimp only at hSw); have z := (hrow9.below hSw hrr).cell 1; go_simp <;> with_reducible rfl)
              try simp only [Act.put, List.setIfInBounds_toArray, List.set_cons_zero, List.set_cons_succ]
              refine take_lit (i := 26) (v := ?_) rfl (by kernel_rfl) (by kernel_rfl) (by kernel_rfl) (fun _ _ _ h => h) (Or.inl ⟨by rfl, ?_⟩) (by assumption) ?_
              rotate_left
              · (intro w hSw; (try dsimp only at hSw); go_simp <;> with_reducible rfl)
              try simp only [Act.put, List.setIfInBounds_toArray, List.set_cons_zero, List.set_cons_succ]
              refine take_lit (i := 27) (v := ?_) rfl (by kernel_rfl) (by kernel_rfl) (by kernel_rfl) (fun _ _ _ h => h) (Or.inl ⟨by rfl, ?_⟩) (by assumption) ?_
              rotate_left
              · (intro w hSw; (try dsimp only at hSw); go_simp <;> with_reducible rfl)
              try simp only [Act.put, List.setIfInBounds_toArray, List.set_cons_zero, List.set_cons_succ]
              refine take_lit (i := 28) rfl (by kernel_rfl) (by kernel_rfl) (by kernel_rfl) (fun _ _ _ h => h) (yS sr (fun w h => HLk.out _ (bt bW h)) (by rfl) rfl rfl) (by assumption) ?_
              try simp only [Act.put, List.setIfInBounds_toArray, List.set_cons_zero, List.set_cons_succ]
              refine take_lit (i := 29) (v := ?_) rfl (by kernel_rfl) (by kernel_rfl) (by kernel_rfl) (fun _ _ _ h => h) (Or.inl ⟨by rfl, ?_⟩) (by assumption) ?_
              rotate_left
              · (intro w hSw; (try dsimp only at hSw); have z := hEq w; have z2 := fun op x y => gEq op x y w; go_simp <;> with_reducible rfl)
              try simp only [Act.put, List.setIfInBounds_toArray, List.set_cons_zero, List.set_cons_succ]
              refine take_lit (i := 30) (v := ?_) rfl (by kernel_rfl) (by kernel_rfl) (by kernel_rfl) (fun _ _ _ h => h) (Or.inl ⟨by rfl, ?_⟩) (by assumption) ?_
              rotate_left
              · (intro w hSw; (try dsimp only at hSw); go_simp <;> with_reducible rfl)
              try simp only [Act.put, List.setIfInBounds_toArray, List.set_cons_zero, List.set_cons_succ]
              refine take_lit (i := 31) (v := ?_) rfl (by kernel_rfl) (by kernel_rfl) (by kernel_rfl) (fun _ _ _ h => h) (Or.inl ⟨by rfl, ?_⟩) (by assumption) ?_
              rotate_left
              · (intro w hSw; (try dsimp only at hSw); go_simp <;> with_reducible rfl)
              try simp only [Act.put, List.setIfInBounds_toArray, List.set_cons_zero, List.set_cons_succ]
              refine take_lit (i := 32) (v := ?_) rfl (by kernel_rfl) (by kernel_rfl) (by kernel_rfl) (fun _ _ _ h => h) (Or.inl ⟨by rfl, ?_⟩) (by assumption) ?_
              rotate_left
              · (intro w hSw; (try dsimp only at hSw); go_simp <;> with_reducible rfl)
              try simp only [Act.put, List.setIfInBounds_toArray, List.set_cons_zero, List.set_cons_succ]
              refine take_lit (i := 33) (v := ?_) rfl (by kernel_rfl) (by kernel_rfl) (by kernel_rfl) (fun _ _ _ h => h) (Or.inl ⟨by rfl, ?_⟩) (by assumption) ?_
              rotate_left
              · (intro w hSw; (try dsimp only at hSw); go_simp <;> with_reducible rfl)
              try simp only [Act.put, List.setIfInBounds_toArray, List.set_cons_zero, List.set_cons_succ]
              refine take_lit (i := 34) (v := ?_) rfl (by kernel_rfl) (by kernel_rfl) (by kernel_rfl) (fun _ _ _ h => h) (Or.inl ⟨by rfl, ?_⟩) (by assumption) ?_
              rotate_left
              · (intro w hSw; (try dsimp only at hSw); go_simp <;> with_reducible rfl)
              try simp only [Act.put, List.setIfInBounds_toArray, List.set_cons_zero, List.set_cons_succ]
              refine take_lit (i := 35) (v := ?_) rfl (by kernel_rfl) (by kernel_rfl) (by kernel_rfl) (fun _ _ _ h => h) (Or.inl ⟨by rfl, ?_⟩) (by assumption) ?_
              rotate_left
              · (intro w hSw; (try dsimp only at hSw); go_simp <;> with_reducible rfl)
              try simp only [Act.put, List.setIfInBounds_toArray, List.set_cons_zero, List.set_cons_succ]
              refine take_lit (i := 36) rfl (by kernel_rfl) (by kernel_rfl) (by kernel_rfl) (fun _ _ _ h => h) (Or.inr ⟨by rfl, rfl⟩) (by assumption) ?_
              try simp only [Act.put, List.setIfInBounds_toArray, List.set_cons_zero, List.set_cons_succ]
              refine take_lit (i := 37) rfl (by kernel_rfl) (by kernel_rfl) (by kernel_rfl) (fun _ _ _ h => h) (Or.inr ⟨by rfl, rfl⟩) (by assumption) ?_
              try simp only [Act.put, List.setIfInBounds_toArray, List.set_cons_zero, List.set_cons_succ]
              refine take_lit (i := 38) rfl (by kernel_rfl) (by kernel_rfl) (by kernel_rfl) (fun _ _ _ h => h) (Or.inr ⟨by rfl, rfl⟩) (by assumption) ?_
              try simp only [Act.put, List.setIfInBounds_toArray, List.set_cons_zero, List.set_cons_succ]
              refine take_lit (i := 39) (v := ?_) rfl (by kernel_rfl) (by kernel_rfl) (by kernel_rfl) (fun _ _ _ h => h) (Or.inl ⟨by rfl, ?_⟩) (by assumption) ?_
              rotate_left
              · (intro w hSw; (try dsimp only at hSw); go_simp <;> with_reducible rfl)
              try simp only [Act.put, List.setIfInBounds_toArray, List.set_cons_zero, List.set_cons_succ]
              refine take_lit (i := 40) (v := ?_) rfl (by kernel_rfl) (by kernel_rfl) (by kernel_rfl) (fun _ _ _ h => h) (Or.inl ⟨by rfl, ?_⟩) (by assumption) ?_
              rotate_left
              · (intro w hSw; (try dsimp only at hSw); go_simp <;> with_reducible rfl)
              try simp only [Act.put, List.setIfInBounds_toArray, List.set_cons_zero, List.set_cons_succ]
              refine take_lit (i := 41) (v := ?_) rfl (by kernel_rfl) (by kernel_rfl) (by kernel_rfl) (fun _ _ _ h => h) (Or.inl ⟨by rfl, ?_⟩) (by assumption) ?_
              rotate_left
              · (intro w hSw; (try dsimp only at hSw); go_simp <;> with_reducible rfl)
              try simp only [Act.put, List.setIfInBounds_toArray, List.set_cons_zero, List.set_cons_succ]
              refine take_lit (i := 42) (v := ?_) rfl (by kernel_rfl) (by kernel_rfl) (by kernel_rfl) (fun _ _ _ h => h) (Or.inl ⟨by rfl, ?_⟩) (by assumption) ?_
              rotate_left
              · (intro w hSw; (try dsimp only at hSw); go_simp <;> with_reducible rfl)
              try simp only [Act.put, List.setIfInBounds_toArray, List.set_cons_zero, List.set_cons_succ]
              refine take_lit (i := 43) (v := ?_) rfl (by kernel_rfl) (by kernel_rfl) (by kernel_rfl) (fun _ _ _ h => h) (Or.inl ⟨by rfl, ?_⟩) (by assumption) ?_
              rotate_left
              · (intro w hSw; (try dsimp only at hSw); go_simp <;> with_reducible rfl)
              try simp only [Act.put, List.setIfInBounds_toArray, List.set_cons_zero, List.set_cons_succ]
              refine take_lit (i := 44) (v := ?_) rfl (by kernel_rfl) (by kernel_rfl) (by kernel_rfl) (fun _ _ _ h => h) (Or.inl ⟨by rfl, ?_⟩) (by assumption) ?_
              rotate_left
              · (intro w hSw; (try dsimp only at hSw); go_simp <;> with_reducible rfl)
              try simp only [Act.put, List.setIfInBounds_toArray, List.set_cons_zero, List.set_cons_succ]
              refine take_lit (i := 45) (v := ?_) rfl (by kernel_rfl) (by kernel_rfl) (by kernel_rfl) (fun _ _ _ h => h) (Or.inl ⟨by rfl, ?_⟩) (by assumption) ?_
              rotate_left
              · (intro w hSw; (try dsimp only at hSw); go_simp <;> with_reducible rfl)
              try simp only [Act.put, List.setIfInBounds_toArray, List.set_cons_zero, List.set_cons_succ]
              refine take_lit (i := 46) (v := ?_) rfl (by kernel_rfl) (by kernel_rfl) (by kernel_rfl) (fun _ _ _ h => h) (Or.inl ⟨by rfl, ?_⟩) (by assumption) ?_
              rotate_left
              · (intro w hSw; (try dsimp only at hSw); go_simp <;> with_reducible rfl)
              try simp only [Act.put, List.setIfInBounds_toArray, List.set_cons_zero, List.set_cons_succ]
              refine take_lit (i := 47) (v := ?_) rfl (by kernel_rfl) (by kernel_rfl) (by kernel_rfl) (fun _ _ _ h => h) (Or.inl ⟨by rfl, ?_⟩) (by assumption) ?_
              rotate_left
              · (intro w hSw; (try dsimp only at hSw); go_simp <;> with_reducible rfl)
              try simp only [Act.put, List.setIfInBounds_toArray, List.set_cons_zero, List.set_cons_succ]
              refine take_lit (i := 48) (v := ?_) rfl (by kernel_rfl) (by kernel_rfl) (by kernel_rfl) (fun _ _ _ h => h) (Or.inl ⟨by rfl, ?_⟩) (by assumption) ?_
              rotate_left
              · (intro w hSw; (try dsimp only at hSw); go_simp <;> with_reducible rfl)
              try simp only [Act.put, List.setIfInBounds_toArray, List.set_cons_zero, List.set_cons_succ]
              refine take_lit (i := 49) (v := ?_) rfl (by kernel_rfl) (by kernel_rfl) (by kernel_rfl) (fun _ _ _ h => h) (Or.inl ⟨by rfl, ?_⟩) (by assumption) ?_
              rotate_left
              · (intro w hSw; (try dsimp only at hSw); go_simp <;> with_reducible rfl)
              try simp only [Act.put, List.setIfInBounds_toArray, List.set_cons_zero, List.set_cons_succ]
              refine take_lit (i := 50) (v := ?_) rfl (by kernel_rfl) (by kernel_rfl) (by kernel_rfl) (fun _ _ _ h => h) (Or.inl ⟨by rfl, ?_⟩) (by assumption) ?_
              rotate_left
              · (intro w hSw; (try dsimp only at hSw); go_simp <;> with_reducible rfl)
              try simp only [Act.put, List.setIfInBounds_toArray, List.set_cons_zero, List.set_cons_succ]
              refine take_lit (i := 51) (v := ?_) rfl (by kernel_rfl) (by kernel_rfl) (by kernel_rfl) (fun _ _ _ h => h) (Or.inl ⟨by rfl, ?_⟩) (by assumption) ?_
              rotate_left
              · (intro w hSw; (try dsimp only at hSw); go_simp <;> with_reducible rfl)
              try simp only [Act.put, List.setIfInBounds_toArray, List.set_cons_zero, List.set_cons_succ]
              refine take_lit (i := 52) (v := ?_) rfl (by kernel_rfl) (by kernel_rfl) (by kernel_rfl) (fun _ _ _ h => h) (Or.inl ⟨by rfl, ?_⟩) (by assumption) ?_
              rotate_left
              · (intro w hSw; (try dsimp only at hSw); go_simp <;> with_reducible rfl)
              try simp only [Act.put, List.setIfInBounds_toArray, List.set_cons_zero, List.set_cons_succ]
              refine take_lit (i := 53) (v := ?_) rfl (by kernel_rfl) (by kernel_rfl) (by kernel_rfl) (fun _ _ _ h => h) (Or.inl ⟨by rfl, ?_⟩) (by assumption) ?_
              rotate_left
              · (intro w hSw; (try dsimp only at hSw); go_simp <;> with_reducible rfl)
              try simp only [Act.put, List.setIfInBounds_toArray, List.set_cons_zero, List.set_cons_succ]
              refine take_lit (i := 54) rfl (by kernel_rfl) (by kernel_rfl) (by kernel_rfl) (fun _ _ _ h => h) (yQ a.p (fun w h => (LC.p (q9.below h hs9).range)) (by rfl) rfl rfl) (by assumption) ?_
              try simp only [Act.put, List.setIfInBounds_toArray, List.set_cons_zero, List.set_cons_succ]
              refine take_lit (i := 55) (v := ?_) rfl (by kernel_rfl) (by kernel_rfl) (by kernel_rfl) (fun _ _ _ h => h) (Or.inl ⟨by rfl, ?_⟩) (by assumption) ?_
              rotate_left
              · (intro w hSw; (try dsimp only at hSw); go_simp <;> with_reducible rfl)
              try simp only [Act.put, List.setIfInBounds_toArray, List.set_cons_zero, List.set_cons_succ]
              refine take_lit (i := 56) rfl (by kernel_rfl) (by kernel_rfl) (by kernel_rfl) (fun _ _ _ h => h) (yI a.i (fun w h => (LC.i (q9.below h hs9).range)) (by rfl) rfl rfl) (by assumption) ?_
              try simp only [Act.put, List.setIfInBounds_toArray, List.set_cons_zero, List.set_cons_succ]
              refine take_lit (i := 57) (v := ?_) rfl (by kernel_rfl) (by kernel_rfl) (by kernel_rfl) (fun _ _ _ h => h) (Or.inl ⟨by rfl, ?_⟩) (by assumption) ?_
              rotate_left
              · (intro w hSw; (try dsimp only at hSw); go_simp <;> with_reducible rfl)
              try simp only [Act.put, List.setIfInBounds_toArray, List.set_cons_zero, List.set_cons_succ]
              refine take_lit (i := 58) rfl (by kernel_rfl) (by kernel_rfl) (by kernel_rfl) (fun _ _ _ h => h) (Sn.yD a.s a.m (fun w h => (LC.d (q9.below h hs9).range)) (by rfl) rfl rfl) (by assumption) ?_
              try simp only [Act.put, List.setIfInBounds_toArray, List.set_cons_zero, List.set_cons_succ]
              refine take_lit (i := 60) (v := ?_) rfl (by kernel_rfl) (by kernel_rfl) (by kernel_rfl) (fun _ _ _ h => h) (Or.inl ⟨by rfl, ?_⟩) (by assumption) ?_
              rotate_left
              · (intro w hSw; (try dsimp only at hSw); go_simp <;> with_reducible rfl)
              try simp only [Act.put, List.setIfInBounds_toArray, List.set_cons_zero, List.set_cons_succ]
              refine take_lit (i := 61) (v := ?_) rfl (by kernel_rfl) (by kernel_rfl) (by kernel_rfl) (fun _ _ _ h => h) (Or.inl ⟨by rfl, ?_⟩) (by assumption) ?_
              rotate_left
              · (intro w hSw; (try dsimp only at hSw); go_simp <;> with_reducible rfl)
              try simp only [Act.put, List.setIfInBounds_toArray, List.set_cons_zero, List.set_cons_succ]
              refine take_lit (i := 62) rfl (by kernel_rfl) (by kernel_rfl) (by kernel_rfl) (fun _ _ _ h => h) (yQ a.p (fun w h => (LC.p (q9.below h hs9).range)) (by rfl) rfl rfl) (by assumption) ?_
              try simp only [Act.put, List.setIfInBounds_toArray, List.set_cons_zero, List.set_cons_succ]
              refine take_lit (i := 63) (v := ?_) rfl (by kernel_rfl) (by kernel_rfl) (by kernel_rfl) (fun _ _ _ h => h) (Or.inl ⟨by rfl, ?_⟩) (by assumption) ?_
              rotate_left
              · (intro w hSw; (try dsimp only at hSw); go_simp <;> with_reducible rfl)
              try simp only [Act.put, List.setIfInBounds_toArray, List.set_cons_zero, List.set_cons_succ]
              refine take_lit (i := 64) rfl (by kernel_rfl) (by kernel_rfl) (by kernel_rfl) (fun _ _ _ h => h) (yI a.i (fun w h => (LC.i (q9.below h hs9).range)) (by rfl) rfl rfl) (by assumption) ?_
              try simp only [Act.put, List.setIfInBounds_toArray, List.set_cons_zero, List.set_cons_succ]
              refine take_lit (i := 65) (v := ?_) rfl (by kernel_rfl) (by kernel_rfl) (by kernel_rfl) (fun _ _ _ h => h) (Or.inl ⟨by rfl, ?_⟩) (by assumption) ?_
              rotate_left
              · (intro w hSw; (try dsimp only at hSw); go_simp <;> with_reducible rfl)
              try simp only [Act.put, List.setIfInBounds_toArray, List.set_cons_zero, List.set_cons_succ]
              refine take_lit (i := 66) rfl (by kernel_rfl) (by kernel_rfl) (by kernel_rfl) (fun _ _ _ h => h) (Sn.yD a.s a.m (fun w h => (LC.d (q9.below h hs9).range)) (by rfl) rfl rfl) (by assumption) ?_
              try simp only [Act.put, List.setIfInBounds_toArray, List.set_cons_zero, List.set_cons_succ]
              refine wpAnyH_ready (rs := [59]) (by kernel_rfl) (by simp) ?_
              refine cons_lit rfl (fun K hK => ?_) ?_
              · go_simp
                refine (hFt _ (bt bW hHeld)).mono ?_
                rintro e wc ⟨rfl, kc⟩
                refine hK.out _ _ ?_ (fun hHeld => ?_)
                · exact bt hHeld kc
                clear hK K
                try simp only [Act.put, List.setIfInBounds_toArray, List.set_cons_zero, List.set_cons_succ]
                refine wpAnyH_ready (rs := [67]) (by kernel_rfl) (by simp) ?_
                refine cons_lit rfl (fun K hK => ?_) ?_
                · go_simp
                  refine (hFr _ (bt bW hHeld)).mono ?_
                  rintro e wd ⟨rfl, kd⟩
                  refine hK.out _ _ ?_ (fun hHeld => ?_)
                  · exact bt hHeld kd
                  clear hK K
                  try simp only [Act.put, List.setIfInBounds_toArray, List.set_cons_zero, List.set_cons_succ]
                  refine take_lit (i := 68) (v := ?_) rfl (by kernel_rfl) (by kernel_rfl) (by kernel_rfl) (fun _ _ _ h => h) (Or.inl ⟨by rfl, ?_⟩) (by assumption) ?_
                  rotate_left
                  · (intro w hSw; (try dsimp only at hSw); go_simp <;> with_reducible rfl)
                  try simp only [Act.put, List.setIfInBounds_toArray, List.set_cons_zero, List.set_cons_succ]
                  refine take_lit (i := 69) (v := ?_) rfl (by kernel_rfl) (by kernel_rfl) (by kernel_rfl) (fun _ _ _ h => h) (Or.inl ⟨by rfl, ?_⟩) (by assumption) ?_
                  rotate_left
                  · (intro w hSw; (try dsimp only at hSw); go_simp <;> with_reducible rfl)
                  try simp only [Act.put, List.setIfInBounds_toArray, List.set_cons_zero, List.set_cons_succ]
                  refine wpAnyH_done (by kernel_rfl) ?_ _
                  refine NoPanic.normal ?_
                  have bE := bt bW hHeld
                  clear hHeld hLi hSm hFt hFr q9 s9 hrow9 bW
                  go_wp2_with fail
                  go_roundw
                  case rel => exact ⟨j + 1, y, KK, HJ.out, by first | rfl | go_num, by first | rfl | exact congrArg (Value.int .i64) hw2, HPI.out, hrel2, HEnd.out _ bE⟩
                  case measure => first | (rw [hw64]; simp only [intOf]; exact HM.out) | (simp only [intOf]; exact HM.out)
                exact AllReadyH.nil
              exact AllReadyH.nil
            exact AllReadyH.nil
          exact AllReadyH.nil
      · have hjl : j = l.length := by omega
        subst hjl
        clear hI hrel1 hok hf hl2 hl tb rb
        go_wp2_with (first
          | (go_at_call 9; refine (live_any _).mono ?_; rintro e w9 ⟨rfl, k⟩))
        go_ret
        exact ⟨rfl, bt bX k⟩
  · go_enter Try.func3, Try.ntmps3
    go_wp2_with (first
      | (have kk := hb; go_at_call 9; refine (live_any _).mono ?_; rintro e w9 ⟨rfl, k⟩)
      | (go_at_call 8; refine hR.mono ?_; rintro e w' ⟨b, rfl, rfl, hb⟩; cases b))
    all_goals
      go_ret
      exact ⟨rfl, k⟩
end Go.Proofs.Ytdcbnibgckdkbaa
