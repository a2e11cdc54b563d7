/-
  where: the routes that are so, in their order.
-/
import Derived.Test.YtbjclphgabpgoaaR8
import Derived.Test.YtbjclphgabpgoaaRD
import Derived.Maps.RangeWalk
namespace Go.Proofs.Ytbjclphgabpgoaa
open Go.RowKit Go.Maps Go.Shelf
set_option linter.unusedSimpArgs false
set_option linter.unusedVariables false
set_option maxRecDepth 20000
/-- What is answered of some routes: these, in their order, in memory of the call's own. -/
def Told (w : World) (G : List Sr) (e : Ending) (w' : World) : Prop := ∃ a c K, e = .returned (.slice a K.length c) ∧ K.Perm G ∧ Asc K ∧ kN.Own w' w.heap.size (.slice a K.length c) K ∧ Below w.heap.size w w'
set_option maxHeartbeats 16000000 in
theorem where_any {w : World} {t mb : Nat} {most : Int} {L : List Sr} (h : Tb w t mb most L) (so : Sr → Bool) (k : Nat) (caps : Array Value) (HE : ∀ args w, (callFunc k args).run Try.prog w = .ok (.enter k args) w)
    (hso : ∀ n ∈ L, ∀ W, Below w.heap.size w W → Calls Try.prog k (#[sV n] ++ caps) W (Gives W (.bool (so n)))) :
    Calls Try.prog 37 #[.pointer (some ⟨t, 0, none⟩), .func (.func k) #[] caps] w (Told w (L.filter so)) := by
  obtain ⟨D, hown, hsz, hhas, hat⟩ := h.map.ex
  have hwf := h.map.wf
  have hnd := h.map.nd
  have hmb := h.map.lt
  have hll := h.ll
  have c2 : w.cell? ⟨t, 1, none⟩ = some (.map (some mb)) := h.row.cell 1
  clear h
  go_enter Try.func37, Try.ntmps37
  go_wp2_with (first
    | (at_range; refine wpList_range_own _ rfl _ 68 rfl 75 67 keyLaw Try.underlying68 elV mb L.length D rfl hown ?_; intro w0 hrg0 hg0 hs0))
  go_frame
  go_loopw [5] (fun v wr => ∃ (left : Lit → Bool) (cnt : Nat) (ss : List Sr) (ga : Option Addr) (gl gc : Nat), v = .slice ga gl gc ∧ wr.ranges Try.prog 75 elV mb w.heap.size L.length D left cnt ∧ Coll L left ss ∧ Below w.heap.size w wr ∧ kN.Own wr (w.heap.size + 1) (.slice ga gl gc) (ss.filter so))
    (fun _ wr => wr.rangeLeft mb w.heap.size)
  case atStart => exact ⟨_, _, [], none, 0, 0, rfl, hrg0, ⟨L, by simp, hhas⟩, below_keepO (Below.refl _ _) hg0 (by simp) (Nat.le_refl _), World.ownsRow_nil _ _ _ _⟩
  case round =>
    clear hrg0 hg0 hown hhas hsz c2
    obtain ⟨left, cnt, ss, ga, gl, gc, rfl, hrg, hC, hB, hO⟩ := hrel
    have hsz1 : w.heap.size + 1 ≤ wr.heap.size := hrg.lt
    go_wp2_with (first
      | (at_next; refine wpList_next_ranges _ rfl _ rfl 75 keyLaw elV id id (fun key _ _ => ⟨key, rfl⟩) (fun v _ _ => ⟨v, rfl⟩) mb w.heap.size L.length _ _ _ rfl hrg ?_ ?_))
    · intro _ hl0
      have hp := hC.done hl0
      have HP : Hid ((ss.filter so).Perm (L.filter so)) := hp.filter _
      have hnd2 : ((ss.filter so).map keyN).Nodup := List.Nodup.sublist (List.Sublist.map _ List.filter_sublist) ((hp.map _).nodup_iff.2 hnd)
      have hlen : (ss.filter so).length ≤ 1000000 := by
        have := List.length_filter_le so ss
        have := hp.length_eq
        omega
      clear hat hwf hnd hC hrg hp hso HE
      generalize ss.filter so = G at *
      obtain ⟨ga', gc', e, _⟩ := Kd.own_at hO
      obtain ⟨rfl, rfl, rfl⟩ : ga = ga' ∧ gl = G.length ∧ gc = gc' := by cases e; exact ⟨rfl, rfl, rfl⟩
      clear e
      have hS := sortr_any G hO hlen hnd2 hsz1
      go_wp2_with (go_at_call 42; refine hS.mono ?_; rintro e w2 ⟨rfl, K, hp2, ha, hO2, b2⟩)
      go_ret
      have hl : K.length = G.length := hp2.length_eq
      exact ⟨_, _, K, by rw [hl]; rfl, hp2.trans HP.out, ha, Kd.own_up hO2 (by omega), below_more hB b2⟩
    · intro x c lk yd yp w1 cnt1 hkey hlk hv hat1 hrg1 hlt hg1 hs1 hen
      obtain ⟨n, hnL, rfl, hC2⟩ := hC.step hwf hnd hlk
      have hc : c = sV n := by
        have e := hat1 (.held (sV n))
        rw [hat n hnL] at e
        have hv' : some (DataW.held c, ([] : List MemPlace)) = some (yd, yp) := hv
        cases hv'
        injection e with e
        exact e.symm
      subst hc
      have hB1 : Below w.heap.size w w1 := below_keepO hB hg1 (fun g hg e => by cases e; omega) hB.size
      have hO1 : kN.Own w1 (w.heap.size + 1) (.slice ga gl gc) (ss.filter so) := World.ownsRow.kept hO hg1 (.inr (own_ne_lt hO (by omega)))
      have hsz2 : w.heap.size + 1 ≤ w1.heap.size := hrg1.lt
      have HSo : Hid (∀ W, Below w1.heap.size w1 W → Calls Try.prog k (#[sV n] ++ caps) W (Gives W (.bool (so n)))) := fun W hW => hso n hnL W (hB1.trans (hW.mono hB1.size))
      have hlen : Hid ((ss.filter so).length ≤ 10000000) := by
        have h1 := List.length_filter_le so ss
        obtain ⟨rs, h2, _⟩ := hC
        have h2 := h2.length_eq
        rw [List.length_append] at h2
        show _ ≤ _
        omega
      have HC : Hid (Coll L (fun z => left z && !z.sameKey (kl n.p n.id)) (ss ++ [n])) := hC2
      have HCN : Hid (wr.rangeLeft mb w.heap.size = cnt) := hrg.left_eq
      have HLT : Hid (cnt1 < cnt) := hlt
      have HGo : Hid (∀ W, Below w1.heap.size w1 W → W.ranges Try.prog 75 elV mb w.heap.size L.length D (fun z => left z && !z.sameKey (kl n.p n.id)) cnt1 ∧ Below w.heap.size w W ∧ kN.Own W (w.heap.size + 1) (.slice ga gl gc) (ss.filter so)) := fun W hW => by
        have hg : w1.grownBy W none := ⟨hW.os, hW.tape, hW.output, hW.size, fun i hi _ => hW.block i hi⟩
        exact ⟨hrg1.kept hg (by simp) (by simp), hB1.trans (hW.mono hB1.size), own_below hO1 hW⟩
      clear hC hC2 hrg hlt hrg1 hB hB1 hg1 hs1 hat hat1 hv hkey hlk hwf hnd hso hO hO1
      cases hs : so n with
      | true =>
        have hfl : Hid ((ss ++ [n]).filter so = ss.filter so ++ [n]) := by
          show _ = _
          rw [List.filter_append]
          simp [hs]
        rw [hs] at HSo
        clear hs
        generalize ss.filter so = G at *
        go_wp2_with (first
          | (have kk := r6; at_builtin; refine kN.append (.tmp 22) (.tmp 24) rfl rfl (w.heap.size + 1) (.slice ga gl gc) G rfl hO6 _ 1 n rfl r6 hlen.out hz6 ?_; intro v7 W7 o7 g7; obtain ⟨a7, c7, rfl, _⟩ := Kd.own_at o7)
          | (have kk := b4; (with_reducible refine bsG (T := 29) (U := 67) (n := 1) [(0, .tmp 23)] (scs n) ?_ ?_ ?_ ?_); (focus rfl); (focus rfl); (focus exact (fun w => bsN1 n w)); intro W6 r6 b6; replace b3 := bt b3 b6; obtain ⟨hrg6, hB6, hO6⟩ := HGo.out _ b3; have hz6 : w.heap.size + 1 ≤ W6.heap.size := (Nat.le_trans hsz2 b3.size); clear b4)
          | (have kk := b4; refine ldS (.tmp 7) rfl rfl _ _ n rfl r3.sr ?_)
          | (have kk := HSo'; refine HSo'.mono ?_; clear HSo' kk; rintro e w4 ⟨rfl, b4⟩; replace b3 := bt b3 b4; replace r3 := r3.below b4 r3.lt)
          | (have kk := r3; refine ldS (.tmp 7) rfl rfl _ _ n rfl r3.sr ?_; have HSo' := HSo.out _ b3)
          | (have kk := r2; refine stS (.tmp 7) (.tmp 18) rfl rfl g2 n _ rfl rfl r2 ?_; intro W3 g3 r3; have b3 := grown_below g3 hB2 hge2 hB2.size; clear r2)
          | (refine alG infoSz rfl rfl ?_; intro g2 W2 hge2 hgl2 hB2 r2))
        have hrg7 := hrg6.kept g7 (Ne.symm (own_ne_lt (g := mb) hO6 (by omega))) (Ne.symm (own_ne_lt (g := w.heap.size) hO6 (by omega)))
        have hB7 := below_keepO hB6 g7 (fun g hg => own_ne_lt hO6 (by omega)) hB6.size
        go_roundw
        case rel => exact ⟨_, cnt1, ss ++ [n], a7, _, c7, rfl, hrg7, HC.out, hB7, by rw [hfl.out]; have o8 := o7; rw [List.length_append] at o8; exact o8⟩
        case measure => rw [hrg7.left_eq, HCN.out]; exact HLT.out
      | false =>
        have hfl : Hid ((ss ++ [n]).filter so = ss.filter so) := by
          show _ = _
          rw [List.filter_append]
          simp [hs]
        rw [hs] at HSo
        clear hs
        go_wp2_with (first
          | (have kk := HSo'; refine HSo'.mono ?_; clear HSo' kk; rintro e w4 ⟨rfl, b4⟩; replace b3 := bt b3 b4)
          | (have kk := r3; refine ldS (.tmp 7) rfl rfl _ _ n rfl r3.sr ?_; have HSo' := HSo.out _ b3; clear r3)
          | (have kk := r2; refine stS (.tmp 7) (.tmp 18) rfl rfl g2 n _ rfl rfl r2 ?_; intro W3 g3 r3; have b3 := grown_below g3 hB2 hge2 hB2.size; clear r2)
          | (refine alG infoSz rfl rfl ?_; intro g2 W2 hge2 hgl2 hB2 r2))
        obtain ⟨hrg6, hB6, hO6⟩ := HGo.out _ b3
        go_roundw
        case rel => exact ⟨_, cnt1, ss ++ [n], ga, gl, gc, rfl, hrg6, HC.out, hB6, by rw [hfl.out]; exact hO6⟩
        case measure => rw [hrg6.left_eq, HCN.out]; exact HLT.out
end Go.Proofs.Ytbjclphgabpgoaa
