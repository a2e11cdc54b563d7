/-
  Tick: requests are sent again, or are there no more.
-/
import Derived.Test.YtbjclphgabpgoaaRA
import Derived.Test.YtbjclphgabpgoaaRD
namespace Go.Proofs.Ytbjclphgabpgoaa
open Go.RowKit Go.Maps Go.Shelf
set_option linter.unusedSimpArgs false
set_option linter.unusedVariables false
set_option maxRecDepth 20000
/-- What Tick answers. -/
structure Ticked (w : World) (t mb : Nat) (most now : Int) (L : List Sr) (e : Ending) (w' : World) : Prop where
  ex : ∃ a1 c1 a2 c2 K, K.Perm (L.filter (lateB now)) ∧ Asc K ∧ e = .returned (.tuple #[.slice a1 (againR now K).length c1, .slice a2 (goneR K).length c2]) ∧ Turn w w' t mb most (tickR now L K) ∧ TwoT w.heap.size w' (.slice a1 (againR now K).length c1) (.slice a2 (goneR K).length c2) (againR now K) (goneR K)
set_option maxHeartbeats 16000000 in
theorem tick_any {w : World} {t mb : Nat} {most : Int} {L : List Sr} (h : Tb w t mb most L) (now : Int) (ha : 0 ≤ now) (hb : now ≤ 562949953421312) (hl : L.length ≤ 100000) :
    Calls Try.prog 20 #[.pointer (some ⟨t, 0, none⟩), .int .i64 now] w (Ticked w t mb most now L) := by
  have hmf : ∀ (fn : Fn) (first cap : Array Value) (w : World), (Instr.makeFunc fn first cap).run Try.prog w = .ok (.func fn first cap) w := fun _ _ _ _ => rfl
  have hok := h.nok
  have hwf := h.map.wf
  have HT : Hid (Tb w t mb most L) := h
  have HTM : Hid (t < w.heap.size ∧ mb < w.heap.size) := ⟨h.lt, h.map.lt⟩
  clear h
  go_enter Try.func20, Try.ntmps20
  go_upto_region 1 with fail
  refine name_world (R := fun W => Code.wp _ _ _ _ W) (P := fun W => Below w.heap.size w W ∧ Row W w.heap.size 3 [.int .i64 now]) _ ⟨ba _ _, Row.new _ _ _⟩ ?_
  rintro X ⟨hB, r0⟩
  have hX0 := r0.lt
  have hW := where_any (HT.out.below hB) (lateB now) 39 #[.pointer (some ⟨w.heap.size, 0, none⟩)] (enters_of Try.func39 (by kernel_rfl) rfl) (fun n _ W hW => tickC_any n now w.heap.size W (r0.below hW r0.lt))
  go_wp2_with (go_at_call 37; refine hW.mono ?_; clear hW; rintro e w1 ⟨va, vc, K, rfl, hp, hasc, hO, b1⟩)
  have hKL : ∀ n ∈ K, n ∈ L ∧ n.t ≤ now := fun n hn => by
    have := List.mem_filter.1 (hp.mem_iff.1 hn)
    exact ⟨this.1, of_decide_eq_true this.2⟩
  have hKn : K.length ≤ 100000 := by
    rw [hp.length_eq]
    exact Nat.le_trans (List.length_filter_le _ _) hl
  have hsz1 : w.heap.size < w1.heap.size := Nat.lt_of_lt_of_le hX0 b1.size
  have HPa : Hid (K.Perm (L.filter (lateB now)) ∧ Asc K ∧ w.heap.size ≤ w1.heap.size) := ⟨hp, hasc, Nat.le_of_lt hsz1⟩
  have HgK : Hid (K ≠ [] → ∃ g, va = some ⟨g, 0, none⟩ ∧ g < w1.heap.size) := fun hne => by
    obtain ⟨g, e, _, h2, _⟩ := own_elem hO hne
    exact ⟨g, e, h2⟩
  have HU : TkI w w1 t mb most now X.heap.size (.slice va K.length vc) (.slice none 0 0) (.slice none 0 0) K (tickR now L (K.take 0)) (againR now (K.take 0)) (goneR (K.take 0)) w1 := ⟨r0.below b1 r0.lt, Turn.of HT.out (bt hB b1), hO, ⟨World.ownsRow_nil _ _ _ _, World.ownsRow_nil _ _ _ _, .inl rfl⟩, Nat.le_refl _⟩
  have HOk : Hid (∀ (j : Nat) (hj : j < K.length), K[j].ok ∧ wfQ K[j].p ∧ (K[j].m ≠ 4 → (sentR K[j] now).ok ∧ ∀ W, Calls Try.prog 30 #[sV K[j], .int .i64 now] W (Gives W (sV (sentR K[j] now))))) := fun j hj => by
    obtain ⟨m1, m2⟩ := hKL _ (List.getElem_mem hj)
    refine ⟨hok _ m1, hwf _ m1, fun hm => ⟨sentR_ok (hok _ m1) hm ha hb, fun W => sent_any _ now W ha (by omega) (hok _ m1).m0 ?_⟩⟩
    have := (hok _ m1).m1
    omega
  have HLe : Hid (∀ j, (putN (tickR now L (K.take j)) (sentR (K.getD j zeroS) now)).length ≤ 1000000 ∧ ∀ n, (putN (tickR now L (K.take j)) n).length ≤ 1000000) := fun j => by
    have h1 := tickR_le now (K.take j) L
    have h2 : (K.take j).length ≤ K.length := by rw [List.length_take]; omega
    exact ⟨by have := putN_le (L := tickR now L (K.take j)) (n := sentR (K.getD j zeroS) now); omega, fun n => by have := putN_le (L := tickR now L (K.take j)) (n := n); omega⟩
  clear hok hwf hp hasc hKL hO b1 hB HT r0 ha hX0 hl hb
  go_loopw [4, 5, 12] (fun v u z wr => ∃ (j : Nat) (a1 : Option Addr) (n1 c1 : Nat) (a2 : Option Addr) (n2 c2 : Nat), z = .int .i64 j ∧ v = .slice a1 n1 c1 ∧ u = .slice a2 n2 c2 ∧ j ≤ K.length ∧ TkI w w1 t mb most now X.heap.size (.slice va K.length vc) (.slice a1 n1 c1) (.slice a2 n2 c2) K (tickR now L (K.take j)) (againR now (K.take j)) (goneR (K.take j)) wr) (fun _ _ z _ => K.length - (intOf z).toNat)
  case atStart => exact ⟨0, none, 0, 0, none, 0, 0, rfl, rfl, rfl, Nat.zero_le _, HU⟩
  case round =>
    clear HU
    obtain ⟨j, a1, n1, c1, a2, n2, c2, rfl, rfl, rfl, hj, hI⟩ := hrel
    by_cases hlt : j < K.length
    · have hKne : K ≠ [] := fun e => by rw [e] at hlt; simp at hlt
      obtain ⟨g, rfl, hg1, hg2, hel⟩ := own_elem hI.ow hKne
      have HgL : Hid (g < w1.heap.size) := by
        obtain ⟨g', e, h2⟩ := HgK.out hKne
        cases e
        exact h2
      have hq := hel j hlt
      have hji : (j : Int) < (K.length : Int) := by omega
      have hw64 : wrap64 ((j : Int) + 1) = (j : Int) + 1 := by unfold wrap64; omega
      have HM : Hid (K.length - ((j : Int) + 1).toNat < K.length - ((j : Int)).toNat) := meas hlt
      have HJ : Hid (j + 1 ≤ K.length) := hlt
      have hT1 := tickR_take (now := now) (L := L) hlt
      have hE1 := againR_take (now := now) hlt
      have hG1 := goneR_take hlt
      have hOk := HOk.out j hlt
      obtain ⟨n, hn⟩ : ∃ n, n = K[j]'hlt := ⟨_, rfl⟩
      rw [← hn] at hq hT1 hE1 hG1 hOk
      have HEl : Hid ((againR now (K.take j)).length ≤ 10000000 ∧ (goneR (K.take j)).length ≤ 10000000) := by
        have h1 := againR_len now (K.take j)
        have h2 := goneR_len (K.take j)
        rw [List.length_take] at h1 h2
        exact ⟨by omega, by omega⟩
      have hszr := hI.sz
      have HLj : Hid (∀ n, (putN (tickR now L (K.take j)) n).length ≤ 1000000) := (HLe.out j).2
      clear HOk HPa HgK hel hg1 hj hn hlt hKn hKne HLe
      have HIS : Hid (∀ W, Below wr.heap.size wr W → TkI w w1 t mb most now X.heap.size (.slice (some ⟨g, 0, none⟩) K.length vc) (.slice a1 n1 c1) (.slice a2 n2 c2) K (tickR now L (K.take j)) (againR now (K.take j)) (goneR (K.take j)) W) := fun W hW => hI.below hW
      clear hI
      have hTM := HTM.out.2
      generalize hC : tickR now L (K.take j) = C at *
      clear hC
      by_cases hm : n.m = 4
      · rw [if_pos hm] at hE1 hG1
        have HS : Hid (tickR now L (K.take (j + 1)) = delN C n.p n.id ∧ againR now (K.take (j + 1)) = againR now (K.take j) ∧ goneR (K.take (j + 1)) = goneR (K.take j) ++ [n]) := ⟨by rw [hT1]; unfold tickS; rw [if_pos hm], hE1, hG1⟩
        have HC : Hid (∀ W g, Row W g 67 (scs n) → W.cell? ⟨g, 43, none⟩ = some (.int .i64 4)) := fun W g h => by rw [← hm]; exact (h.cell 43).trans (sc43 n)
        have HP : Hid (∀ W, Below wr.heap.size wr W → Calls Try.prog 35 #[.pointer (some ⟨t, 0, none⟩), sV n] W fun e w' => e = .returned (.tuple #[]) ∧ Turn W w' t mb most (delN C n.p n.id) ∧ TkI w w1 t mb most now X.heap.size (.slice (some ⟨g, 0, none⟩) K.length vc) (.slice a1 n1 c1) (.slice a2 n2 c2) K (delN C n.p n.id) (againR now (K.take j)) (goneR (K.take j)) w') := fun W hW => by
          have hI := HIS.out W hW
          refine (remove_any hI.tn.tb n hOk.2.1).mono ?_
          rintro e w' ⟨rfl, hT⟩
          exact ⟨rfl, hT, hI.turn hT HTM.out.2⟩
        clear hT1 hE1 hG1 hOk HIS HLj
        go_wp2_with (first
          | (have kk := r6; at_builtin; refine app_at (.tmp 22) (.tmp 24) rfl rfl w1.heap.size (.slice a2 n2 c2) _ rfl hI6.tw.g _ 1 n rfl r6 HEl.out.2 hI6.sz ?_; intro v11 W11 o11 g11 e11; obtain ⟨a11, c11, rfl, _⟩ := Kd.own_at o11; have hI11 := hI6.right HgL.out hsz1 HTM.out.1 HTM.out.2 o11 g11 e11)
          | (have kk := q5; (with_reducible refine bsG (T := 29) (U := 67) (n := 1) [(0, .tmp 23)] (scs n) ?_ ?_ ?_ ?_); (focus rfl); (focus rfl); (focus exact (fun w => bsN1 n w)); intro W6 r6 b6; have hI6 := hI5.below b6; clear q5)
          | (have kk := q5; refine ldS (.tmp 7) rfl rfl _ _ n rfl q5.sr ?_)
          | (have kk := r3; go_at_call 35; refine (HP.out _ b3).mono ?_; rintro e w5 ⟨rfl, hT5, hI5⟩; have q5 := r3.keep hT5.gr hgm; clear r3)
          | (have kk := r3; refine ldS (.tmp 7) rfl rfl _ _ n rfl r3.sr ?_)
          | (have kk := r2; refine stS (.tmp 7) (.tmp 15) rfl rfl g2 n _ rfl rfl r2 ?_; intro W3 g3 r3; have c43' := HC.out _ _ r3; have b3 := grown_below g3 hB2 hge2 hB2.size; clear r2)
          | (refine alG infoSz rfl rfl ?_; intro g2 W2 hge2 hgl2 hB2 r2; have hgm : g2 ≠ mb := (by omega))
          | (refine ldS (.tmp 14) rfl rfl _ _ n rfl hq ?_))
        go_roundw
        case rel => exact ⟨j + 1, a1, n1, c1, a11, _, c11, by first | rfl | go_num, rfl, rfl, HJ.out, by rw [HS.out.1, HS.out.2.1, HS.out.2.2]; have i12 := hI11; rw [List.length_append] at i12; exact i12⟩
        case measure => (try rw [hw64]); simp only [intOf]; exact HM.out
      · rw [if_neg hm] at hE1 hG1
        have hm' : (n.m == 4) = false := by simpa using hm
        obtain ⟨x, hxe⟩ : ∃ x, sentR n now = x := ⟨_, rfl⟩
        obtain ⟨hx1, hx2⟩ := hOk.2.2 hm
        rw [hxe] at hE1 hx1 hx2
        obtain ⟨C1, hC1⟩ : ∃ C1, putN C x = C1 := ⟨_, rfl⟩
        have HS : Hid (tickR now L (K.take (j + 1)) = C1 ∧ againR now (K.take (j + 1)) = againR now (K.take j) ++ [x] ∧ goneR (K.take (j + 1)) = goneR (K.take j)) := ⟨by rw [hT1]; unfold tickS; rw [if_neg hm, hxe, hC1], hE1, hG1⟩
        have HP : Hid (∀ W, Below wr.heap.size wr W → Calls Try.prog 29 #[.pointer (some ⟨t, 0, none⟩), sV x] W fun e w' => e = .returned (.tuple #[]) ∧ Turn W w' t mb most C1 ∧ TkI w w1 t mb most now X.heap.size (.slice (some ⟨g, 0, none⟩) K.length vc) (.slice a1 n1 c1) (.slice a2 n2 c2) K C1 (againR now (K.take j)) (goneR (K.take j)) w') := fun W hW => by
          have hI := HIS.out W hW
          refine (put_any hI.tn.tb x (by rw [← hxe]; exact hOk.2.1) hx1 (HLj.out x)).mono ?_
          rintro e w' ⟨rfl, hT⟩
          rw [hC1] at hT
          exact ⟨rfl, hT, hI.turn hT HTM.out.2⟩
        have HNw : Hid (∀ W, Below wr.heap.size wr W → Row W w.heap.size 3 [.int .i64 now]) := fun W hW => (HIS.out W hW).nw
        clear hT1 hE1 hG1 hOk HIS HLj hxe hC1 hx1
        go_wp2_with (first
          | (have kk := r6; at_builtin; refine app_at (.tmp 32) (.tmp 34) rfl rfl w1.heap.size (.slice a1 n1 c1) _ rfl hI6.tw.l _ 1 x rfl r6 HEl.out.1 hI6.sz ?_; intro v7 W7 o7 g7 e7; obtain ⟨a7, c7, rfl, _⟩ := Kd.own_at o7; have hI7 := hI6.left HgL.out hsz1 HTM.out.1 HTM.out.2 o7 g7 e7)
          | (have kk := q5; (with_reducible refine bsG (T := 29) (U := 67) (n := 1) [(0, .tmp 33)] (scs x) ?_ ?_ ?_ ?_); (focus rfl); (focus rfl); (focus exact (fun w => bsN1 x w)); intro W6 r6 b6; have hI6 := hI5.below b6; clear q5)
          | (have kk := q5; refine ldS (.tmp 7) rfl rfl _ _ x rfl q5.sr ?_)
          | (have kk := q4; go_at_call 29; refine (HP.out _ b4).mono ?_; rintro e w5 ⟨rfl, hT5, hI5⟩; have q5 := q4.keep hT5.gr hgm; clear q4)
          | (have kk := q4; refine ldS (.tmp 7) rfl rfl _ _ x rfl q4.sr ?_)
          | (have kk := r4; refine stS (.tmp 7) (.tmp 28) rfl rfl g2 x n rfl rfl r4 ?_; intro W4 g4 q4; have b4 := grown_below g4 b3 hge2 b3.size; clear r4)
          | (have kk := r3; go_at_call 30; refine (hx2 _).mono ?_; rintro e w4 ⟨rfl, k4⟩; replace b3 := bt b3 k4; have r4 := r3.below k4 r3.lt; clear r3 c43')
          | (have kk := r3; refine ldS (.tmp 7) rfl rfl _ _ n rfl r3.sr ?_)
          | (have kk := r2; refine stS (.tmp 7) (.tmp 15) rfl rfl g2 n _ rfl rfl r2 ?_; intro W3 g3 r3; have c43' := (r3.cell 43).trans (sc43 n); have b3 := grown_below g3 hB2 hge2 hB2.size; have cn := (HNw.out _ b3).cell 0; clear r2)
          | (refine alG infoSz rfl rfl ?_; intro g2 W2 hge2 hgl2 hB2 r2; have hgm : g2 ≠ mb := (by omega))
          | (refine ldS (.tmp 14) rfl rfl _ _ n rfl hq ?_))
        go_roundw
        case rel => exact ⟨j + 1, a7, _, c7, a2, n2, c2, by first | rfl | go_num, rfl, rfl, HJ.out, by rw [HS.out.1, HS.out.2.1, HS.out.2.2]; have i12 := hI7; rw [List.length_append] at i12; exact i12⟩
        case measure => (try rw [hw64]); simp only [intOf]; exact HM.out
    · have hje : j = K.length := by omega
      subst hje
      rw [List.take_length] at hI
      obtain rfl := own_get hI.tw.l
      obtain rfl := own_get hI.tw.g
      clear HOk HgK hlt hj HLe
      go_wp2_with fail
      go_ret2
      exact ⟨a1, c1, a2, c2, K, HPa.out.1, HPa.out.2.1, rfl, hI.tn, Kd.own_up hI.tw.l HPa.out.2.2, Kd.own_up hI.tw.g HPa.out.2.2, hI.tw.ne⟩
end Go.Proofs.Ytbjclphgabpgoaa
