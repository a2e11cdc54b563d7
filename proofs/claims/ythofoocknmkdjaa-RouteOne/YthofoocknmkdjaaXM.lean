/-
  Next; Selected: of a table that is there.
-/
import Derived.Test.YthofoocknmkdjaaXV
import Derived.Maps.RangeWalk
namespace Go.Proofs.Ythofoocknmkdjaa
open Go.RowKit Go.Maps Go.Shelf
set_option linter.unusedSimpArgs false
set_option linter.unusedVariables false
set_option maxRecDepth 20000
/-- The first time at which something is due, if there is one. -/
def NextIs (L : List Ro) (f : Int) (b : Bool) : Prop := (L = [] ∧ f = 0 ∧ b = false) ∨ (b = true ∧ (∃ n ∈ L, f = n.u) ∧ ∀ m ∈ L, f ≤ m.u)
theorem NextIs.perm {L K : List Ro} {f : Int} {b : Bool} (h : NextIs L f b) (hp : L.Perm K) : NextIs K f b := by
  rcases h with ⟨rfl, h1, h2⟩ | ⟨h1, ⟨n, hn, h2⟩, h3⟩
  · exact .inl ⟨hp.nil_eq.symm, h1, h2⟩
  · exact .inr ⟨h1, ⟨n, hp.mem_iff.1 hn, h2⟩, fun m hm => h3 m (hp.mem_iff.2 hm)⟩
theorem NextIs.uniq {L : List Ro} {f g : Int} {b c : Bool} (h : NextIs L f b) (k : NextIs L g c) : f = g ∧ b = c := by
  rcases h with ⟨rfl, h1, h2⟩ | ⟨h1, ⟨n, hn, h2⟩, h3⟩
  · rcases k with ⟨_, k1, k2⟩ | ⟨_, ⟨n, hn, _⟩, _⟩
    · exact ⟨by omega, by rw [h2, k2]⟩
    · cases hn
  · rcases k with ⟨rfl, _⟩ | ⟨k1, ⟨m, hm, k2⟩, k3⟩
    · cases hn
    · have := h3 m hm
      have := k3 n hn
      exact ⟨by omega, by rw [h1, k1]⟩
theorem NextIs.first {n : Ro} {ss : List Ro} (h : ss = []) : NextIs (ss ++ [n]) (n.u) true := by
  subst h
  exact .inr ⟨rfl, ⟨n, by simp, rfl⟩, by simp⟩
theorem NextIs.less {n : Ro} {ss : List Ro} {f : Int} (h : NextIs ss f true) (hl : n.u < f) : NextIs (ss ++ [n]) (n.u) true := by
  rcases h with ⟨_, _, h⟩ | ⟨_, _, h3⟩
  · cases h
  · refine .inr ⟨rfl, ⟨n, by simp, rfl⟩, fun m hm => ?_⟩
    rcases List.mem_append.1 hm with h | h
    · have := h3 m h; omega
    · simp at h; subst h; omega
theorem NextIs.more {n : Ro} {ss : List Ro} {f : Int} (h : NextIs ss f true) (hl : f ≤ n.u) : NextIs (ss ++ [n]) f true := by
  rcases h with ⟨_, _, h⟩ | ⟨_, ⟨x, hx, h2⟩, h3⟩
  · cases h
  · refine .inr ⟨rfl, ⟨x, by simp [hx], h2⟩, fun m hm => ?_⟩
    rcases List.mem_append.1 hm with h | h
    · exact h3 m h
    · simp at h; subst h; omega
def selB (p : Pr) (n : Ro) : Bool := n.s && qB n.p p
/-- What Selected tells: one that is selected; or there is none. -/
def SelIs (L : List Ro) (p : Pr) (w : World) (e : Ending) (w' : World) : Prop := Below w.heap.size w w' ∧ ((∃ n ∈ L, selB p n = true ∧ e = .returned (.tuple #[rV n, .bool true])) ∨ ((∀ n ∈ L, selB p n = false) ∧ e = .returned (.tuple #[rV zeroR, .bool false])))
set_option maxHeartbeats 8000000 in
theorem selected_any {w : World} {t mb : Nat} {most : Int} {L : List Ro} (h : Tb w t mb most L) (p : Pr) : Calls Try.prog 17 #[.pointer (some ⟨t, 0, none⟩), (Value.agg (qcells p).toArray)] w (SelIs L p w) := by
  go_enter Try.func17, Try.ntmps17
  go_upto_region 1 with (first
    | (refine alG infoRz rfl rfl ?_; intro g1 W1 hge hgl hB1 hr1))
  obtain ⟨hB, r0, hs⟩ := stepRow hB1
  have hg : w.heap.size < g1 := by simp at hge; omega
  have h1 := h.below hB
  have HPr : Hid (∀ W, Below W1.heap.size W1 W → LQ W w.heap.size 0 p) := fun W k => (r0.below k r0.lt).range
  have HBB : Hid (∀ W, Below W1.heap.size W1 W → Below w.heap.size w W) := fun W k => bt hB k
  have HZ : Hid (∀ W, Below W1.heap.size W1 W → Row W g1 41 (ocs zeroR)) := fun W k => hr1.below k hgl
  have HG : Hid (∀ W W', Below W1.heap.size W1 W → W.grownBy W' (some g1) → Below w.heap.size w W') := fun W W' k g => grown_below g (bt hB k) (by omega) (by have := hB.size; have := k.size; omega)
  obtain ⟨D, hown, hsz, hhas, hat⟩ := h1.map.ex
  have hwf := h1.map.wf
  have hnd := h1.map.nd
  have hmb := h1.map.lt
  have c2 : W1.cell? ⟨t, 1, none⟩ = some (.map (some mb)) := h1.row.cell 1
  clear h h1 hB hB1 hr1 r0 hg hge
  go_wp2_with (first
    | (at_range; refine wpList_range_own _ rfl _ 74 rfl 84 41 keyLaw Try.underlying74 elV mb L.length D rfl hown ?_; intro w0 hrg0 hg0 hs0))
  go_frame
  go_loopw [5] (fun v wr => v = .bool false ∧ ∃ (left : Lit → Bool) (cnt : Nat) (ss : List Ro), wr.ranges Try.prog 84 elV mb W1.heap.size L.length D left cnt ∧ Coll L left ss ∧ (∀ n ∈ ss, selB p n = false) ∧ Below W1.heap.size W1 wr)
    (fun _ wr => wr.rangeLeft mb W1.heap.size)
  case atStart => exact ⟨rfl, _, _, [], hrg0, ⟨L, by simp, hhas⟩, (fun n hn => by cases hn), below_keepO (Below.refl _ _) hg0 (by simp) (Nat.le_refl _)⟩
  case round =>
    clear hrg0 hg0 hown hhas hsz c2
    obtain ⟨rfl, left, cnt, ss, hrg, hC, hN, hB⟩ := hrel
    go_wp2_with (first
      | (at_next; refine wpList_next_ranges _ rfl _ rfl 84 keyLaw elV id id (fun key _ _ => ⟨key, rfl⟩) (fun v _ _ => ⟨v, rfl⟩) mb W1.heap.size L.length _ _ _ rfl hrg ?_ ?_))
    · intro _ hl0
      have hp := hC.done hl0
      have HNo : Hid (∀ n ∈ L, selB p n = false) := fun n hn => hN n (hp.mem_iff.2 hn)
      have hz := HZ.out _ hB
      clear hat hwf hnd hC hN hp hrg
      go_wp2_with (first
        | ((with_reducible refine bdG (T := 41) (v := rV zeroR) [] ?_ ?_ ?_ ?_); (focus rfl); (focus rfl); (focus exact bdR0 _))
        | (refine stS (.tmp 4) (.tmp 30) rfl rfl g1 zeroR _ rfl rfl hz ?_; intro W2 hg2 hr2))
      exact bodyPost_ret (retCT rfl _ _ 0 rfl (lvS hr2)) rfl ⟨HG.out _ _ hB hg2, .inr ⟨HNo.out, rfl⟩⟩
    · intro x c lk yd yp w1 cnt1 hkey hlk hv hat1 hrg1 hlt hg1 hs1 hen
      obtain ⟨n, hnL, rfl, hC2⟩ := hC.step hwf hnd hlk
      have hc : c = rV n := by
        have e := hat1 (.held (rV n))
        rw [hat n hnL] at e
        have hv' : some (DataW.held c, ([] : List MemPlace)) = some (yd, yp) := hv
        cases hv'
        injection e with e
        exact e.symm
      subst hc
      obtain rfl : x = kV n.k := keyLaw.inj hkey (key_some n.k (hwf n hnL))
      have hB1 : Below W1.heap.size W1 w1 := below_keepO hB hg1 (fun g hg e => by cases e; omega) hB.size
      have HC : Hid (Coll L (fun z => left z && !z.sameKey (kl n.k)) (ss ++ [n])) := hC2
      have HCN : Hid (wr.rangeLeft mb W1.heap.size = cnt) := hrg.left_eq
      have HLT : Hid (cnt1 < cnt) := hlt
      have HNo : Hid (selB p n = false → ∀ m ∈ ss ++ [n], selB p m = false) := fun h m hm => by
        rcases List.mem_append.1 hm with e | e
        · exact hN m e
        · simp at e; subst e; exact h
      have HYes : Hid (selB p n = true → ∃ m ∈ L, selB p m = true ∧ m = n) := fun h => ⟨n, hnL, h, rfl⟩
      have HDef : Hid (selB p n = (n.s && qB n.p p)) := rfl
      have HGo : Hid (∀ W, Below w1.heap.size w1 W → W.ranges Try.prog 84 elV mb W1.heap.size L.length D (fun z => left z && !z.sameKey (kl n.k)) cnt1 ∧ Below W1.heap.size W1 W) := fun W hW => by
        have hg : w1.grownBy W none := ⟨hW.os, hW.tape, hW.output, hW.size, fun i hi _ => hW.block i hi⟩
        exact ⟨hrg1.kept hg (by simp) (by simp), hB1.trans (hW.mono hB1.size)⟩
      have hq : ∀ W, (binOp .eql 36 (Value.agg (qcells n.p).toArray) (Value.agg (qcells p).toArray)).run Try.prog W = .ok (.bool (qB n.p p)) W := run_eqlQ n.p p
      have hnk : Hid (n.k.p = n.p) := rfl
      clear hC hC2 hN hrg hlt hrg1 hB hB1 hg1 hs1 hat hat1 hv hkey hlk hwf hnd hnL
      generalize qB n.p p = b at *
      generalize selB p n = sb at *
      go_upto_region 6 with (first
        | (have kk := r5; refine stS (.tmp 7) (.tmp 20) rfl rfl g3 n zeroR rfl rfl r5 ?_; intro W6 g6 r6; have b6 := grown_below g6 b5 hge13 b5.size; have k6 := k5.keep g6 hne; have c80 := (r6.cell 80).trans (oc80 n); clear r5 k5)
        | (have kk := k3; refine stK (.tmp 6) (.tmp 19) rfl rfl g2 n.k zeroK rfl rfl k3 ?_; intro W5 g5 k5; have b5 := grown_below g5 b3 hge2 b3.size; have r5 := r3.keep g5 (Ne.symm hne); clear k3 r3)
        | (have kk := k2; refine alG infoRz rfl rfl ?_; intro g3 W3 hge3 hgl3 hB3 r3; have k3 := k2.below hB3 k2.lt; have hne : g2 ≠ g3 := (by have := k2.lt; omega); have hge13 : w1.heap.size ≤ g3 := (by have := b2.size; omega); have b3 := bt b2 hB3; clear k2)
        | (refine alG infoKz rfl rfl ?_; intro g2 W2 hge2 hgl2 b2 k2))
      have qk : LQ W6 g2 0 n.p := rangeAt_left (show W6.rangeAt g2 0 (qcells n.k.p ++ (.int .i64 n.k.i :: acells n.k.a)) from k6.range)
      obtain ⟨hrg6, hB6⟩ := HGo.out _ b6
      have qp := HPr.out _ hB6
      have hz := HZ.out _ hB6
      clear k6
      cases hns : n.s with
      | false =>
        rw [hns] at c80
        obtain rfl : sb = false := by rw [HDef.out, hns]; rfl
        go_wp2_with fail
        go_roundw
        case rel => exact ⟨rfl, _, cnt1, ss ++ [n], hrg6, HC.out, HNo.out rfl, hB6⟩
        case measure => rw [hrg6.left_eq, HCN.out]; exact HLT.out
      | true =>
        rw [hns] at c80
        cases b with
        | false =>
          obtain rfl : sb = false := by rw [HDef.out, hns]; rfl
          go_wp2_with (first
            | (refine ldQ (.tmp 3) rfl rfl _ _ p rfl qp ?_)
            | (refine ldQ (.tmp 24) rfl rfl _ _ n.p rfl qk ?_))
          go_roundw
          case rel => exact ⟨rfl, _, cnt1, ss ++ [n], hrg6, HC.out, HNo.out rfl, hB6⟩
          case measure => rw [hrg6.left_eq, HCN.out]; exact HLT.out
        | true =>
          obtain rfl : sb = true := by rw [HDef.out, hns]; rfl
          have hr6 := r6.ro
          go_wp2_with (first
            | (refine ldQ (.tmp 3) rfl rfl _ _ p rfl qp ?_)
            | (refine ldQ (.tmp 24) rfl rfl _ _ n.p rfl qk ?_)
            | (refine ldS (.tmp 7) rfl rfl _ _ n rfl hr6 ?_)
            | (refine stS (.tmp 4) (.tmp 29) rfl rfl g1 n _ rfl rfl hz ?_; intro W9 hg9 hr9))
          obtain ⟨m, hm, hsm, rfl⟩ := HYes.out (by first | rfl | trivial)
          exact bodyPost_ret (retCT rfl _ _ 0 rfl (lvS hr9)) rfl ⟨HG.out _ _ hB6 hg9, .inl ⟨m, hm, hsm, rfl⟩⟩
end Go.Proofs.Ythofoocknmkdjaa
