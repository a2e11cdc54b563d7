/-
  Next: when the first hold is over. Touch: holds begin anew.
-/
import Derived.Test.YtdcbnibgckdkbaaV7
import Derived.Maps.RangeWalk
namespace Go.Proofs.Ytdcbnibgckdkbaa
open Go.RowKit Go.Maps Go.Shelf
set_option linter.unusedSimpArgs false
set_option linter.unusedVariables false
set_option maxRecDepth 20000
/-- The first time at which the hold of one is over, if there is one. -/
def NextIs (L : List Sr) (f : Int) (b : Bool) : Prop := (L = [] ∧ f = 0 ∧ b = false) ∨ (b = true ∧ (∃ n ∈ L, f = n.t + 180000) ∧ ∀ m ∈ L, f ≤ m.t + 180000)
theorem NextIs.perm {L K : List Sr} {f : Int} {b : Bool} (h : NextIs L f b) (hp : L.Perm K) : NextIs K f b := by
  rcases h with ⟨rfl, h1, h2⟩ | ⟨h1, ⟨n, hn, h2⟩, h3⟩
  · exact .inl ⟨hp.nil_eq.symm, h1, h2⟩
  · exact .inr ⟨h1, ⟨n, hp.mem_iff.1 hn, h2⟩, fun m hm => h3 m (hp.mem_iff.2 hm)⟩
theorem NextIs.uniq {L : List Sr} {f g : Int} {b c : Bool} (h : NextIs L f b) (k : NextIs L g c) : f = g ∧ b = c := by
  rcases h with ⟨rfl, h1, h2⟩ | ⟨h1, ⟨n, hn, h2⟩, h3⟩
  · rcases k with ⟨_, k1, k2⟩ | ⟨_, ⟨n, hn, _⟩, _⟩
    · exact ⟨by omega, by rw [h2, k2]⟩
    · cases hn
  · rcases k with ⟨rfl, _⟩ | ⟨k1, ⟨m, hm, k2⟩, k3⟩
    · cases hn
    · have := h3 m hm
      have := k3 n hn
      exact ⟨by omega, by rw [h1, k1]⟩
theorem NextIs.first {n : Sr} {ss : List Sr} (h : ss = []) : NextIs (ss ++ [n]) (n.t + 180000) true := by
  subst h
  exact .inr ⟨rfl, ⟨n, by simp, rfl⟩, by simp⟩
theorem NextIs.less {n : Sr} {ss : List Sr} {f : Int} (h : NextIs ss f true) (hl : n.t + 180000 < f) : NextIs (ss ++ [n]) (n.t + 180000) true := by
  rcases h with ⟨_, _, h⟩ | ⟨_, _, h3⟩
  · cases h
  · refine .inr ⟨rfl, ⟨n, by simp, rfl⟩, fun m hm => ?_⟩
    rcases List.mem_append.1 hm with h | h
    · have := h3 m h; omega
    · simp at h; subst h; omega
theorem NextIs.more {n : Sr} {ss : List Sr} {f : Int} (h : NextIs ss f true) (hl : f ≤ n.t + 180000) : NextIs (ss ++ [n]) f true := by
  rcases h with ⟨_, _, h⟩ | ⟨_, ⟨x, hx, h2⟩, h3⟩
  · cases h
  · refine .inr ⟨rfl, ⟨x, by simp [hx], h2⟩, fun m hm => ?_⟩
    rcases List.mem_append.1 hm with h | h
    · exact h3 m h
    · simp at h; subst h; omega
theorem next_nil (w : World) : Calls Try.prog 21 #[.pointer none] w fun e w' => e = .returned (.tuple #[.int .i64 0, .bool false]) ∧ w = w' := by
  go_enter Try.func21, Try.ntmps21
  go_wp2
  go_ret2
  exact ⟨rfl, rfl⟩
set_option maxHeartbeats 8000000 in
theorem next_any {w : World} {t mb : Nat} {most : Int} {L : List Sr} (h : Tb w t mb most L) : Calls Try.prog 21 #[.pointer (some ⟨t, 0, none⟩)] w fun e w' => ∃ f b, e = .returned (.tuple #[.int .i64 f, .bool b]) ∧ NextIs L f b ∧ Below w.heap.size w w' := by
  have hm := h.map
  obtain ⟨D, hown, hsz, hhas, hat⟩ := hm.ex
  have hwf := hm.wf
  have hnd := hm.nd
  have hok := h.nok
  have c2 : w.cell? ⟨t, 1, none⟩ = some (.map (some mb)) := h.row.cell 1
  clear hm h
  go_enter Try.func21, Try.ntmps21
  go_wp2_with (first
    | (at_range; refine wpList_range_own _ rfl _ 64 rfl 74 53 keyLaw Try.underlying64 elV mb L.length D rfl hown ?_; intro w0 hrg0 hg0 hs0))
  go_frame
  go_loopw [4, 5] (fun v u wr => ∃ (f : Int) (b : Bool) (left : Lit → Bool) (cnt : Nat) (ss : List Sr), v = .int .i64 f ∧ u = .bool b ∧ wr.ranges Try.prog 74 elV mb w.heap.size L.length D left cnt ∧ Coll L left ss ∧ NextIs ss f b ∧ Below w.heap.size w wr)
    (fun _ _ wr => wr.rangeLeft mb w.heap.size)
  case atStart => exact ⟨0, false, _, _, [], rfl, rfl, hrg0, ⟨L, by simp, hhas⟩, .inl ⟨rfl, rfl, rfl⟩, below_keepO (Below.refl _ _) hg0 (by simp) (Nat.le_refl _)⟩
  case round =>
    clear hrg0 hg0 hown hhas hsz c2
    obtain ⟨f, b, left, cnt, ss, rfl, rfl, hrg, hC, hN, hB⟩ := hrel
    go_wp2_with (first
      | (at_next; refine wpList_next_ranges _ rfl _ rfl 74 keyLaw elV id id (fun key _ _ => ⟨key, rfl⟩) (fun v _ _ => ⟨v, rfl⟩) mb w.heap.size L.length _ _ _ rfl hrg ?_ ?_))
    · intro _ hl0
      have hN2 := hN.perm (hC.done hl0)
      clear hat hwf hnd hok hC hN
      go_wp2_with fail
      go_ret2
      exact ⟨f, b, rfl, hN2, hB⟩
    · intro x c lk yd yp w1 cnt1 hkey hlk hv hat1 hrg1 hlt hg1 hs1 hen
      obtain ⟨n, hnL, rfl, hC2⟩ := hC.step hwf hnd hlk
      have hc : c = sV n := by
        have e := hat1 (.held (sV n))
        rw [hat n hnL] at e
        have hv' : some (DataW.held c, ([] : List MemPlace)) = some (yd, yp) := hv
        cases hv'
        injection e with e
        exact e.symm
      subst hc
      have hB1 : Below w.heap.size w w1 := below_keepO hB hg1 (fun g hg e => by cases e; omega) hB.size
      have hE := fun W => end_any n W (hok n hnL)
      have HC : Hid (Coll L (fun z => left z && !z.sameKey (kl n.p n.id)) (ss ++ [n])) := hC2
      have HCN : Hid (wr.rangeLeft mb w.heap.size = cnt) := hrg.left_eq
      have HLT : Hid (cnt1 < cnt) := hlt
      have HN : Hid (NextIs ss f b) := hN
      have HGo : Hid (∀ W, Below w1.heap.size w1 W → W.ranges Try.prog 74 elV mb w.heap.size L.length D (fun z => left z && !z.sameKey (kl n.p n.id)) cnt1 ∧ Below w.heap.size w W) := fun W hW => by
        have hg : w1.grownBy W none := ⟨hW.os, hW.tape, hW.output, hW.size, fun i hi _ => hW.block i hi⟩
        exact ⟨hrg1.kept hg (by simp) (by simp), hB1.trans (hW.mono hB1.size)⟩
      clear hC hC2 hN hrg hlt hrg1 hB hB1 hg1 hs1 hat hat1 hv hkey hlk hwf hnd hok
      cases b with
      | false =>
        have HS : Hid (ss = []) := by
          rcases HN.out with ⟨h, _⟩ | ⟨h, _⟩
          · exact h
          · cases h
        go_wp2_with (first
          | (have kk := r3; go_at_call 32; refine (hE _).mono ?_; rintro e w4 ⟨rfl, b4⟩; replace b3 := bt b3 b4; clear r3)
          | (have kk := r3; refine ldS (.tmp 7) rfl rfl _ _ n rfl r3.sr ?_)
          | (have kk := r2; refine stS (.tmp 7) (.tmp 18) rfl rfl g2 n _ rfl rfl r2 ?_; intro W3 g3 r3; have b3 := grown_below g3 hB2 hge2 hB2.size; clear r2)
          | (refine alG infoSz rfl rfl ?_; intro g2 W2 hge2 hgl2 hB2 r2))
        obtain ⟨hrg6, hB6⟩ := HGo.out _ b3
        go_roundw
        case rel => exact ⟨_, _, _, cnt1, ss ++ [n], rfl, rfl, hrg6, HC.out, NextIs.first HS.out, hB6⟩
        case measure => rw [hrg6.left_eq, HCN.out]; exact HLT.out
      | true =>
        by_cases hl : n.t + 180000 < f
        · go_wp2_with (first
            | (have kk := r3; have kj := r3b; go_at_call 32; refine (hE _).mono ?_; rintro e w5 ⟨rfl, b5⟩; replace b3 := bt b3 b5; clear r3)
            | (have kk := r3; go_at_call 32; refine (hE _).mono ?_; rintro e w4 ⟨rfl, b4⟩; replace b3 := bt b3 b4; have r3b := r3.below b4 r3.lt; replace r3 := r3b)
            | (have kk := r3; refine ldS (.tmp 7) rfl rfl _ _ n rfl r3.sr ?_)
            | (have kk := r2; refine stS (.tmp 7) (.tmp 18) rfl rfl g2 n _ rfl rfl r2 ?_; intro W3 g3 r3; have b3 := grown_below g3 hB2 hge2 hB2.size; clear r2)
            | (refine alG infoSz rfl rfl ?_; intro g2 W2 hge2 hgl2 hB2 r2))
          obtain ⟨hrg6, hB6⟩ := HGo.out _ b3
          go_roundw
          case rel => exact ⟨_, _, _, cnt1, ss ++ [n], rfl, rfl, hrg6, HC.out, HN.out.less hl, hB6⟩
          case measure => rw [hrg6.left_eq, HCN.out]; exact HLT.out
        · go_wp2_with (first
            | (have kk := r3; go_at_call 32; refine (hE _).mono ?_; rintro e w4 ⟨rfl, b4⟩; replace b3 := bt b3 b4; clear r3)
            | (have kk := r3; refine ldS (.tmp 7) rfl rfl _ _ n rfl r3.sr ?_)
            | (have kk := r2; refine stS (.tmp 7) (.tmp 18) rfl rfl g2 n _ rfl rfl r2 ?_; intro W3 g3 r3; have b3 := grown_below g3 hB2 hge2 hB2.size; clear r2)
            | (refine alG infoSz rfl rfl ?_; intro g2 W2 hge2 hgl2 hB2 r2))
          obtain ⟨hrg6, hB6⟩ := HGo.out _ b3
          go_roundw
          case rel => exact ⟨_, _, _, cnt1, ss ++ [n], rfl, rfl, hrg6, HC.out, HN.out.more hl, hB6⟩
          case measure => rw [hrg6.left_eq, HCN.out]; exact HLT.out
/-! ### Touch -/
/-- Routers in memory. -/
structure IdW (w : World) (ad : Option Addr) (l : List Id8) : Prop where
  lies : l = [] ∨ ∃ g o, ad = some ⟨g, o, none⟩ ∧ (∃ cs T f, w.heap[g]? = some (.cells cs T f)) ∧ ∀ (j : Nat) (i : Id8), l[j]? = some i → w.rangeAt g (o + j * 8) (icells i)
theorem IdW.below {w w' : World} {ad : Option Addr} {l : List Id8} (h : IdW w ad l) (hb : Below w.heap.size w w') : IdW w' ad l :=
  ⟨h.lies.imp id fun ⟨g, o, e, ⟨cs, T, f, hg⟩, hl⟩ => ⟨g, o, e, ⟨cs, T, f, (hb.block g (Array.getElem?_eq_some_iff.1 hg).1).trans hg⟩, fun j p hp => rangeAt_below (hl j p hp) hb (Array.getElem?_eq_some_iff.1 hg).1⟩⟩
theorem IdW.turn {w w' : World} {ad : Option Addr} {l : List Id8} {t mb : Nat} {most : Int} {L L' : List Sr} (h : IdW w ad l) (hm : Mp w mb L) (ht : Turn w w' t mb most L') : IdW w' ad l :=
  ⟨h.lies.imp id fun ⟨g, o, e, ⟨cs, T, f, hg⟩, hl⟩ => by
    have hne : g ≠ mb := fun e => by
      obtain ⟨es, cl, h2⟩ := hm.obj
      rw [e, h2] at hg
      cases hg
    have hlt := (Array.getElem?_eq_some_iff.1 hg).1
    exact ⟨g, o, e, ⟨cs, T, f, (ht.gr.block g hlt (fun e => hne (by cases e; rfl))).trans hg⟩, fun j p hp => rangeAt_keep (hl j p hp) ht.gr hne hlt⟩⟩
def atS (n : Sr) (now : Int) : Sr := { n with t := now }
def touS (now : Int) (p : Pr) (x : List Sr × Int) (i : Id8) : List Sr × Int := match getN x.1 p i with | none => x | some n => (putN x.1 (atS n now), x.2 + 1)
def touR (L : List Sr) (now : Int) (p : Pr) (l : List Id8) : List Sr × Int := l.foldl (touS now p) (L, 0)
theorem touS_none {now : Int} {p : Pr} {x : List Sr × Int} {i : Id8} (h : getN x.1 p i = none) : touS now p x i = x := by
  unfold touS
  rw [h]
theorem touS_some {now : Int} {p : Pr} {x : List Sr × Int} {i : Id8} {n : Sr} (h : getN x.1 p i = some n) : touS now p x i = (putN x.1 (atS n now), x.2 + 1) := by
  unfold touS
  rw [h]
theorem touS_len {now : Int} {p : Pr} {x : List Sr × Int} {i : Id8} : (touS now p x i).1.length = x.1.length := by
  unfold touS
  split
  · rfl
  · rename_i n hn
    obtain ⟨h1, h2, h3⟩ := getN_some hn
    rw [putN_len]
    exact if_pos (List.any_eq_true.2 ⟨n, h1, keyB_iff.2 ⟨rfl, rfl⟩⟩)
theorem touS_num {now : Int} {p : Pr} {x : List Sr × Int} {i : Id8} : x.2 ≤ (touS now p x i).2 ∧ (touS now p x i).2 ≤ x.2 + 1 := by
  unfold touS
  split
  · omega
  · exact ⟨by omega, by simp⟩
theorem touR_take {L : List Sr} {now : Int} {p : Pr} {l : List Id8} {j : Nat} (hj : j < l.length) : touR L now p (l.take (j + 1)) = touS now p (touR L now p (l.take j)) l[j] := by
  unfold touR
  rw [List.take_succ_eq_append_getElem hj, List.foldl_append]
  rfl
theorem touR_num (L : List Sr) (now : Int) (p : Pr) (l : List Id8) : ∀ j, j ≤ l.length → 0 ≤ (touR L now p (l.take j)).2 ∧ (touR L now p (l.take j)).2 ≤ j
  | 0, _ => by simp [touR]
  | j + 1, h => by
    have ih := touR_num L now p l j (by omega)
    rw [touR_take (by omega)]
    have := touS_num (now := now) (p := p) (x := touR L now p (l.take j)) (i := l[j])
    omega
theorem meas {n j : Nat} (h : j < n) : n - ((j : Int) + 1).toNat < n - ((j : Int)).toNat := by omega
theorem Turn.trans {w w1 w2 : World} {t mb : Nat} {most : Int} {L L' : List Sr} (h : Turn w w1 t mb most L) (k : Turn w1 w2 t mb most L') : Turn w w2 t mb most L' := ⟨k.tb, grownBy_trans h.gr k.gr⟩
set_option maxHeartbeats 8000000 in
theorem touch_any {w : World} {t mb : Nat} {most : Int} {L : List Sr} (h : Tb w t mb most L) (now : Int) (p : Pr) (ad : Option Addr) (c : Nat) (l : List Id8) (hW : IdW w ad l) (hi : wfQ p) (t0 : 0 ≤ now) (t1 : now ≤ 1125899906842624) (hl : l.length ≤ 1000000) :
    Calls Try.prog 17 #[.pointer (some ⟨t, 0, none⟩), .int .i64 now, (Value.agg (qcells p).toArray), .slice ad l.length c] w fun e w' => e = .returned (.int .i64 (touR L now p l).2) ∧ Turn w w' t mb most (touR L now p l).1 := by
  have hl0 := h.ll
  have r0 := Row.new w 36 (qcells p)
  go_enter Try.func17, Try.ntmps17
  go_upto_region 1 with fail
  refine name_world (R := fun W => Code.wp _ _ _ _ W) (P := fun W => Below w.heap.size w W ∧ Row W w.heap.size 36 (qcells p)) _ ⟨ba _ _, r0⟩ ?_
  clear r0
  rintro X ⟨hB, r0⟩
  have hT0 := Turn.of h hB
  have hW0 := hW.below hB
  have hne0 : w.heap.size ≠ mb := fun e => by have := h.map.lt; omega
  clear hW h
  go_wp2_with fail
  go_loopw [9, 16] (fun v u wr => ∃ (j : Nat), j ≤ l.length ∧ u = .int .i64 j ∧ v = .int .i64 (touR L now p (l.take j)).2 ∧ Turn w wr t mb most (touR L now p (l.take j)).1 ∧ IdW wr ad l ∧ Row wr w.heap.size 36 (qcells p)) (fun _ u _ => l.length - (intOf u).toNat)
  case atStart => exact ⟨0, Nat.zero_le _, rfl, rfl, hT0, hW0, r0⟩
  case round =>
    clear hT0 hW0 r0 hB
    obtain ⟨j, hj, rfl, rfl, hT, hW, r0⟩ := hrel
    have hnum := touR_num L now p l j hj
    by_cases hlt : j < l.length
    · rcases hW.lies with h0 | ⟨g, o, rfl, ⟨cs, T, f, hg⟩, hc⟩
      · rw [h0] at hlt; simp at hlt
      have hq : LI wr g (o + j * 8) l[j] := hc j l[j] (List.getElem?_eq_getElem hlt)
      have hgl := (Array.getElem?_eq_some_iff.1 hg).1
      have hji : (j : Int) < (l.length : Int) := by omega
      have HS : Hid (touR L now p (l.take (j + 1)) = touS now p (touR L now p (l.take j)) l[j]) := touR_take hlt
      have hw64 : wrap64 ((j : Int) + 1) = (j : Int) + 1 := by unfold wrap64; omega
      have HJ : Hid (j + 1 ≤ l.length) := hlt
      have HM : Hid (l.length - ((j : Int) + 1).toNat < l.length - ((j : Int)).toNat) := meas hlt
      have hGet := fun W (hb : Below wr.heap.size wr W) => get_any (hT.tb.below hb) p l[j] hi
      have HStay : Hid (∀ W, Below wr.heap.size wr W → Turn w W t mb most (touR L now p (l.take j)).1 ∧ IdW W (some ⟨g, o, none⟩) l ∧ Row W w.heap.size 36 (qcells p)) := fun W hb => ⟨hT.post hb, hW.below hb, r0.below hb r0.lt⟩
      have HPut : Hid (∀ n, getN (touR L now p (l.take j)).1 p l[j] = some n → ∀ W, Below wr.heap.size wr W → Calls Try.prog 27 #[.pointer (some ⟨t, 0, none⟩), sV (atS n now)] W fun e w' => e = .returned (.tuple #[]) ∧ Turn w w' t mb most (touR L now p (l.take (j + 1))).1 ∧ IdW w' (some ⟨g, o, none⟩) l ∧ Row w' w.heap.size 36 (qcells p)) := fun n hn W hb => by
        obtain ⟨h1, h2, h3⟩ := getN_some hn
        have ok := hT.tb.nok n h1
        have hS : touR L now p (l.take (j + 1)) = (putN (touR L now p (l.take j)).1 (atS n now), (touR L now p (l.take j)).2 + 1) := HS.out.trans (touS_some hn)
        have hlen : (touR L now p (l.take (j + 1))).1.length ≤ 1000000 := by
          rw [HS.out, touS_len]
          exact hT.tb.ll
        rw [hS] at hlen ⊢
        refine (put_any (hT.tb.below hb) (atS n now) (by show wfQ n.p; rw [h2]; exact hi) ⟨ok.s0, ok.s1, ok.m0, ok.m1, t0, t1⟩ hlen).mono ?_
        rintro e w' ⟨rfl, hT2⟩
        refine ⟨rfl, (hT.post hb).trans hT2, (hW.below hb).turn (hT.tb.below hb).map hT2, hT2.row (r0.below hb r0.lt) hne0⟩
      generalize hG : getN (touR L now p (l.take j)).1 p l[j] = G at *
      cases G with
      | none =>
        have hS : touR L now p (l.take (j + 1)) = touR L now p (l.take j) := HS.out.trans (touS_none hG)
        rw [show getV (none : Option Sr) = .tuple #[sV zeroS, .bool false] from rfl] at hGet
        clear HPut HS hG hT hW hc hg hj hl hl0 t0 t1 hnum
        generalize l[j] = i at *
        have HY : Hid (touR L now p (l.take (j + 1)) = touR L now p (l.take j)) := hS
        clear hS
        generalize touR L now p (l.take j) = x at *
        go_wp2_with (first
          | (have kk := r6; refine stS (.tmp 12) (.tmp 25) rfl rfl g6 zeroS _ rfl rfl r6 ?_; intro W7 g7 r7; have b7 := grown_below g7 b6 (Nat.le_trans b5.size hge6) b6.size; clear r6)
          | (have kk := b5; refine alG infoSz rfl rfl ?_; intro g6 W6 hge6 hgl6 hB6 r6; have b6 := bt b5 hB6)
          | (have kk := r3; go_at_call 19; refine (hGet _ b3).mono ?_; rintro e w5 ⟨rfl, b5⟩; replace b5 := bt b3 b5)
          | (have kk := r3; refine ldI (.tmp 11) rfl rfl _ _ i rfl r3.range ?_)
          | (have kk := r3; refine ldQ (.tmp 6) rfl rfl _ _ p rfl (r0.below b3 r0.lt).range ?_)
          | (have kk := r2; refine stI (.tmp 11) (.tmp 19) rfl rfl g2 i _ rfl rfl r2 ?_; intro W3 g3 r3; have b3 := grown_below g3 hB2 hge2 hB2.size; clear r2)
          | (refine alG infoIz rfl rfl ?_; intro g2 W2 hge2 hgl2 hB2 r2)
          | (refine ldI (.tmp 18) rfl rfl _ _ i rfl hq ?_))
        obtain ⟨s1, s2, s3⟩ := HStay.out _ b7
        go_roundw
        case rel => exact ⟨j + 1, HJ.out, by first | rfl | go_num, by rw [HY.out], by rw [HY.out]; exact s1, s2, s3⟩
        case measure => rw [hw64]; simp only [intOf]; exact HM.out
      | some n =>
        have hS : (touR L now p (l.take (j + 1))).2 = (touR L now p (l.take j)).2 + 1 := by
          rw [HS.out.trans (touS_some hG)]
        have hw2 : wrap64 ((touR L now p (l.take j)).2 + 1) = (touR L now p (l.take (j + 1))).2 := by rw [hS]; unfold wrap64; omega
        rw [show getV (some n) = .tuple #[sV n, .bool true] from rfl] at hGet
        have hPut := HPut.out n rfl
        clear HPut HS hG hT hW hc hg hj hl hl0 t0 t1 hnum hS HStay
        generalize l[j] = i at *
        obtain ⟨y, hy⟩ : ∃ y, touR L now p (l.take (j + 1)) = y := ⟨_, rfl⟩
        have HY : Hid (touR L now p (l.take (j + 1)) = y) := hy
        rw [hy] at hw2 hPut
        clear hy
        generalize touR L now p (l.take j) = x at *
        go_wp2_with (first
          | (have kk := r7; go_at_call 27; refine (hPut _ (b7.setCell (p := ⟨g6, 44, none⟩) hge6' _)).mono ?_; rintro e w8 ⟨rfl, s1, s2, s3⟩)
          | (have kk := r7; refine ldS (.tmp 12) rfl rfl _ _ (atS n now) rfl (r7.srt now).sr ?_)
          | (have kk := r6; refine stS (.tmp 12) (.tmp 25) rfl rfl g6 n _ rfl rfl r6 ?_; intro W7 g7 r7; have b7 := grown_below g7 b6 (Nat.le_trans b5.size hge6) b6.size; have hge6' : wr.heap.size ≤ g6 := (Nat.le_trans b5.size hge6); have c44 := (r7.cell 44).trans (sc44 n); have f44 := r7.frozen 44; clear r6)
          | (have kk := b5; refine alG infoSz rfl rfl ?_; intro g6 W6 hge6 hgl6 hB6 r6; have b6 := bt b5 hB6)
          | (have kk := r3; go_at_call 19; refine (hGet _ b3).mono ?_; rintro e w5 ⟨rfl, b5⟩; replace b5 := bt b3 b5)
          | (have kk := r3; refine ldI (.tmp 11) rfl rfl _ _ i rfl r3.range ?_)
          | (have kk := r3; refine ldQ (.tmp 6) rfl rfl _ _ p rfl (r0.below b3 r0.lt).range ?_)
          | (have kk := r2; refine stI (.tmp 11) (.tmp 19) rfl rfl g2 i _ rfl rfl r2 ?_; intro W3 g3 r3; have b3 := grown_below g3 hB2 hge2 hB2.size; clear r2)
          | (refine alG infoIz rfl rfl ?_; intro g2 W2 hge2 hgl2 hB2 r2)
          | (refine ldI (.tmp 18) rfl rfl _ _ i rfl hq ?_))
        go_roundw
        case rel => exact ⟨j + 1, HJ.out, by first | rfl | go_num, by rw [HY.out, hw2], by rw [HY.out]; exact s1, s2, s3⟩
        case measure => rw [hw64]; simp only [intOf]; exact HM.out
    · have hjl : j = l.length := by omega
      subst hjl
      rw [List.take_length] at *
      clear hW r0
      go_wp2_with fail
      go_ret
      exact ⟨rfl, hT⟩
theorem touch_nil1 (p : Pr) (i : Id8) (now : Int) (g c : Nat) (w : World) (hr : Row w g 38 (icells i)) : Calls Try.prog 17 #[.pointer none, .int .i64 now, (Value.agg (qcells p).toArray), .slice (some ⟨g, 0, none⟩) 1 c] w (Gives w (.int .i64 0)) := by
  have r0 := Row.new w 36 (qcells p)
  have hr2 := hr.alloc (.cells (qcells p).toArray 36)
  go_enter Try.func17, Try.ntmps17
  go_upto_region 1 with fail
  refine name_world (R := fun W => Code.wp _ _ _ _ W) (P := fun W => Below w.heap.size w W ∧ Row W w.heap.size 36 (qcells p) ∧ Row W g 38 (icells i)) _ ⟨ba _ _, r0, hr2⟩ ?_
  clear r0 hr hr2
  rintro X ⟨hB, r0, hr⟩
  have hGet := get_nil p i
  rw [show getV (none : Option Sr) = .tuple #[sV zeroS, .bool false] from rfl] at hGet
  go_wp2_with fail
  go_loopw [9, 16] (fun v u wr => v = .int .i64 0 ∧ (u = .int .i64 0 ∧ wr = X ∨ u = .int .i64 1 ∧ Below w.heap.size w wr)) (fun _ u _ => 1 - (intOf u).toNat)
  case atStart => exact ⟨rfl, .inl ⟨rfl, rfl⟩⟩
  case round =>
    obtain ⟨rfl, ⟨rfl, rfl⟩ | ⟨rfl, hb⟩⟩ := hrel
    · go_wp2_with (first
        | (have kk := r6; refine stS (.tmp 12) (.tmp 25) rfl rfl g6 zeroS _ rfl rfl r6 ?_; intro W7 g7 r7; have b7 := grown_below g7 b6 (Nat.le_trans b5.size hge6) b6.size; clear r6)
        | (have kk := b5; refine alG infoSz rfl rfl ?_; intro g6 W6 hge6 hgl6 hB6 r6; have b6 := bt b5 hB6)
        | (have kk := r3; go_at_call 19; refine (hGet _).mono ?_; rintro e w5 ⟨rfl, b5⟩; replace b5 := bt b3 b5)
        | (have kk := r3; refine ldI (.tmp 11) rfl rfl _ _ i rfl r3.range ?_)
        | (have kk := r3; refine ldQ (.tmp 6) rfl rfl _ _ p rfl (r0.below b3 r0.lt).range ?_)
        | (have kk := r2; refine stI (.tmp 11) (.tmp 19) rfl rfl g2 i _ rfl rfl r2 ?_; intro W3 g3 r3; have b3 := grown_below g3 hB2 hge2 hB2.size; clear r2)
        | (refine alG infoIz rfl rfl ?_; intro g2 W2 hge2 hgl2 hB2 r2)
        | (refine ldI (.tmp 18) rfl rfl _ _ i rfl hr.range ?_))
      go_roundw
      case rel => exact ⟨rfl, .inr ⟨by first | rfl | go_num, bt hB b7⟩⟩
      case measure => simp [intOf]
    · go_wp2_with fail
      go_ret
      exact ⟨rfl, hb⟩
end Go.Proofs.Ytdcbnibgckdkbaa
