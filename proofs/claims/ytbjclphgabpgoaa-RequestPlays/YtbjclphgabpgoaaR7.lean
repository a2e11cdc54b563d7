/-
  Next: when the first is to be sent again.
-/
import Derived.Test.YtbjclphgabpgoaaRC
namespace Go.Proofs.Ytbjclphgabpgoaa
open Go.RowKit Go.Maps
set_option linter.unusedSimpArgs false
set_option linter.unusedVariables false
set_option maxRecDepth 20000
/-- The first time at which the hold of one is over, if there is one. -/
def NextIs (L : List Sr) (f : Int) (b : Bool) : Prop := (L = [] ∧ f = 0 ∧ b = false) ∨ (b = true ∧ (∃ n ∈ L, f = n.t) ∧ ∀ m ∈ L, f ≤ m.t)
theorem NextIs.perm {L K : List Sr} {f : Int} {b : Bool} (h : NextIs L f b) (hp : L.Perm K) : NextIs K f b := by
  rcases h with ⟨rfl, h1, h2⟩ | ⟨h1, ⟨n, hn, h2⟩, h3⟩
  · exact .inl ⟨hp.nil_eq.symm, h1, h2⟩
  · exact .inr ⟨h1, ⟨n, hp.mem_iff.1 hn, h2⟩, fun m hm => h3 m (hp.mem_iff.2 hm)⟩
theorem NextIs.uniq {L : List Sr} {f g : Int} {b c : Bool} (h : NextIs L f b) (k : NextIs L g c) : f = g ∧ b = c := by
  rcases h with ⟨rfl, h1, h2⟩ | ⟨h1, ⟨n, hn, h2⟩, h3⟩
  · rcases k with ⟨_, k1, k2⟩ | ⟨_, ⟨n, hn, _⟩, _⟩
    · exact ⟨by omega, by rw [h2, k2]⟩
    · cases hn
  · rcases k with ⟨rfl, _⟩ | ⟨k1, ⟨m, hm, k2⟩, k3⟩
    · cases hn
    · have := h3 m hm
      have := k3 n hn
      exact ⟨by omega, by rw [h1, k1]⟩
theorem NextIs.first {n : Sr} {ss : List Sr} (h : ss = []) : NextIs (ss ++ [n]) (n.t) true := by
  subst h
  exact .inr ⟨rfl, ⟨n, by simp, rfl⟩, by simp⟩
theorem NextIs.less {n : Sr} {ss : List Sr} {f : Int} (h : NextIs ss f true) (hl : n.t < f) : NextIs (ss ++ [n]) (n.t) true := by
  rcases h with ⟨_, _, h⟩ | ⟨_, _, h3⟩
  · cases h
  · refine .inr ⟨rfl, ⟨n, by simp, rfl⟩, fun m hm => ?_⟩
    rcases List.mem_append.1 hm with h | h
    · have := h3 m h; omega
    · simp at h; subst h; omega
theorem NextIs.more {n : Sr} {ss : List Sr} {f : Int} (h : NextIs ss f true) (hl : f ≤ n.t) : NextIs (ss ++ [n]) f true := by
  rcases h with ⟨_, _, h⟩ | ⟨_, ⟨x, hx, h2⟩, h3⟩
  · cases h
  · refine .inr ⟨rfl, ⟨x, by simp [hx], h2⟩, fun m hm => ?_⟩
    rcases List.mem_append.1 hm with h | h
    · exact h3 m h
    · simp at h; subst h; omega
theorem next_nil (w : World) : Calls Try.prog 23 #[.pointer none] w fun e w' => e = .returned (.tuple #[.int .i64 0, .bool false]) ∧ w = w' := by
  go_enter Try.func23, Try.ntmps23
  go_wp2
  go_ret2
  exact ⟨rfl, rfl⟩
set_option maxHeartbeats 8000000 in
theorem next_any {w : World} {t mb : Nat} {most : Int} {L : List Sr} (h : Tb w t mb most L) : Calls Try.prog 23 #[.pointer (some ⟨t, 0, none⟩)] w fun e w' => ∃ f b, e = .returned (.tuple #[.int .i64 f, .bool b]) ∧ NextIs L f b ∧ Below w.heap.size w w' := by
  have hm := h.map
  obtain ⟨D, hown, hsz, hhas, hat⟩ := hm.ex
  have hwf := hm.wf
  have hnd := hm.nd
  have hok := h.nok
  have c2 : w.cell? ⟨t, 1, none⟩ = some (.map (some mb)) := h.row.cell 1
  clear hm h
  go_enter Try.func23, Try.ntmps23
  go_wp2_with (first
    | (at_range; refine wpList_range_own _ rfl _ 68 rfl 75 67 keyLaw Try.underlying68 elV mb L.length D rfl hown ?_; intro w0 hrg0 hg0 hs0))
  go_frame
  go_loopw [4, 5] (fun v u wr => ∃ (f : Int) (b : Bool) (left : Lit → Bool) (cnt : Nat) (ss : List Sr), v = .int .i64 f ∧ u = .bool b ∧ wr.ranges Try.prog 75 elV mb w.heap.size L.length D left cnt ∧ Coll L left ss ∧ NextIs ss f b ∧ Below w.heap.size w wr)
    (fun _ _ wr => wr.rangeLeft mb w.heap.size)
  case atStart => exact ⟨0, false, _, _, [], rfl, rfl, hrg0, ⟨L, by simp, hhas⟩, .inl ⟨rfl, rfl, rfl⟩, below_keepO (Below.refl _ _) hg0 (by simp) (Nat.le_refl _)⟩
  case round =>
    clear hrg0 hg0 hown hhas hsz c2
    obtain ⟨f, b, left, cnt, ss, rfl, rfl, hrg, hC, hN, hB⟩ := hrel
    go_wp2_with (first
      | (at_next; refine wpList_next_ranges _ rfl _ rfl 75 keyLaw elV id id (fun key _ _ => ⟨key, rfl⟩) (fun v _ _ => ⟨v, rfl⟩) mb w.heap.size L.length _ _ _ rfl hrg ?_ ?_))
    · intro _ hl0
      have hN2 := hN.perm (hC.done hl0)
      clear hat hwf hnd hok hC hN
      go_wp2_with fail
      go_ret2
      exact ⟨f, b, rfl, hN2, hB⟩
    · intro x c lk yd yp w1 cnt1 hkey hlk hv hat1 hrg1 hlt hg1 hs1 hen
      obtain ⟨n, hnL, rfl, hC2⟩ := hC.step hwf hnd hlk
      have hc : c = sV n := by
        have e := hat1 (.held (sV n))
        rw [hat n hnL] at e
        have hv' : some (DataW.held c, ([] : List MemPlace)) = some (yd, yp) := hv
        cases hv'
        injection e with e
        exact e.symm
      subst hc
      have hB1 : Below w.heap.size w w1 := below_keepO hB hg1 (fun g hg e => by cases e; omega) hB.size
      have HC : Hid (Coll L (fun z => left z && !z.sameKey (kl n.p n.id)) (ss ++ [n])) := hC2
      have HCN : Hid (wr.rangeLeft mb w.heap.size = cnt) := hrg.left_eq
      have HLT : Hid (cnt1 < cnt) := hlt
      have HN : Hid (NextIs ss f b) := hN
      have HGo : Hid (∀ W, Below w1.heap.size w1 W → W.ranges Try.prog 75 elV mb w.heap.size L.length D (fun z => left z && !z.sameKey (kl n.p n.id)) cnt1 ∧ Below w.heap.size w W) := fun W hW => by
        have hg : w1.grownBy W none := ⟨hW.os, hW.tape, hW.output, hW.size, fun i hi _ => hW.block i hi⟩
        exact ⟨hrg1.kept hg (by simp) (by simp), hB1.trans (hW.mono hB1.size)⟩
      clear hC hC2 hN hrg hlt hrg1 hB hB1 hg1 hs1 hat hat1 hv hkey hlk hwf hnd hok
      cases b with
      | false =>
        have HS : Hid (ss = []) := by
          rcases HN.out with ⟨h, _⟩ | ⟨h, _⟩
          · exact h
          · cases h
        go_wp2_with (first
          | (have kk := r2; refine stS (.tmp 7) (.tmp 18) rfl rfl g2 n _ rfl rfl r2 ?_; intro W3 g3 r3; have b3 := grown_below g3 hB2 hge2 hB2.size; have k44 := (r3.cell 44).trans (sc44 n); clear r2)
          | (refine alG infoSz rfl rfl ?_; intro g2 W2 hge2 hgl2 hB2 r2))
        obtain ⟨hrg6, hB6⟩ := HGo.out _ b3
        go_roundw
        case rel => exact ⟨_, _, _, cnt1, ss ++ [n], rfl, rfl, hrg6, HC.out, NextIs.first HS.out, hB6⟩
        case measure => rw [hrg6.left_eq, HCN.out]; exact HLT.out
      | true =>
        by_cases hl : n.t < f
        · go_wp2_with (first
            | (have kk := r2; refine stS (.tmp 7) (.tmp 18) rfl rfl g2 n _ rfl rfl r2 ?_; intro W3 g3 r3; have b3 := grown_below g3 hB2 hge2 hB2.size; have k44 := (r3.cell 44).trans (sc44 n); clear r2)
            | (refine alG infoSz rfl rfl ?_; intro g2 W2 hge2 hgl2 hB2 r2))
          obtain ⟨hrg6, hB6⟩ := HGo.out _ b3
          go_roundw
          case rel => exact ⟨_, _, _, cnt1, ss ++ [n], rfl, rfl, hrg6, HC.out, HN.out.less hl, hB6⟩
          case measure => rw [hrg6.left_eq, HCN.out]; exact HLT.out
        · go_wp2_with (first
            | (have kk := r2; refine stS (.tmp 7) (.tmp 18) rfl rfl g2 n _ rfl rfl r2 ?_; intro W3 g3 r3; have b3 := grown_below g3 hB2 hge2 hB2.size; have k44 := (r3.cell 44).trans (sc44 n); clear r2)
            | (refine alG infoSz rfl rfl ?_; intro g2 W2 hge2 hgl2 hB2 r2))
          obtain ⟨hrg6, hB6⟩ := HGo.out _ b3
          go_roundw
          case rel => exact ⟨_, _, _, cnt1, ss ++ [n], rfl, rfl, hrg6, HC.out, HN.out.more (by omega), hB6⟩
          case measure => rw [hrg6.left_eq, HCN.out]; exact HLT.out
end Go.Proofs.Ytbjclphgabpgoaa
