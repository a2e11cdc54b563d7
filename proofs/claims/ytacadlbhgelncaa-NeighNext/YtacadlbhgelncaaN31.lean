/-
  Next of the table: the first time at which something changes.
-/
import Derived.Test.YtacadlbhgelncaaN30
import Derived.Test.YtacadlbhgelncaaN27
namespace Go.Proofs.Ytacadlbhgelncaa
open Lk (Hi hcs hcs_one)
open Rk (Rt rcs rtV)
open Go.RowKit Go.Maps Go.Shelf
set_option linter.unusedSimpArgs false
set_option linter.unusedVariables false
set_option maxRecDepth 20000
/-- The least of these times, if there is one. -/
def NxP (ts : List Int) (v : Int) (b : Bool) : Prop := (b = false ∧ v = 0 ∧ ts = []) ∨ (b = true ∧ v ∈ ts ∧ ∀ a ∈ ts, v ≤ a)
theorem NxP.step {ts : List Int} {v : Int} {b : Bool} (h : NxP ts v b) (a : Int) : ((b = false ∨ a < v) → NxP (ts ++ [a]) a true) ∧ ((b = true ∧ ¬ a < v) → NxP (ts ++ [a]) v true) := by
  constructor
  · intro hc
    refine .inr ⟨rfl, by simp, fun x hx => ?_⟩
    rcases List.mem_append.1 hx with hx | hx
    · rcases h with ⟨_, _, h3⟩ | ⟨h1, _, h3⟩
      · rw [h3] at hx; cases hx
      · have := h3 x hx
        rcases hc with hc | hc
        · rw [h1] at hc; cases hc
        · omega
    · simp at hx; omega
  · rintro ⟨h1, h2⟩
    rcases h with ⟨h3, _⟩ | ⟨_, h4, h5⟩
    · rw [h3] at h1; cases h1
    · refine .inr ⟨rfl, by simp [h4], fun x hx => ?_⟩
      rcases List.mem_append.1 hx with hx | hx
      · exact h5 x hx
      · simp at hx; omega
theorem NxP.perm {ts us : List Int} {v : Int} {b : Bool} (h : NxP ts v b) (hp : us.Perm ts) : NxP us v b := by
  rcases h with ⟨h1, h2, h3⟩ | ⟨h1, h2, h3⟩
  · exact .inl ⟨h1, h2, by rw [h3] at hp; exact hp.eq_nil⟩
  · exact .inr ⟨h1, hp.mem_iff.2 h2, fun a ha => h3 a (hp.mem_iff.1 ha)⟩
set_option maxHeartbeats 16000000 in
theorem next_any {w : World} {t mb : Nat} {most : Int} {F : List Fc} {L : List Ng} (h : Tb w t mb most F L) : Calls Try.prog 15 #[.pointer (some ⟨t, 0, none⟩)] w fun e w' => ∃ v b, e = .returned (.tuple #[.int .i64 v, .bool b]) ∧ NxP (L.flatMap chgL) v b ∧ Below w.heap.size w w' := by
  obtain ⟨fa, fc, hr, _⟩ := h.ex
  have c2 : w.cell? ⟨t, 2, none⟩ = some (.map (some mb)) := hr.cell 2
  obtain ⟨D, hown, hmd⟩ := h.map.d
  have hwf := h.map.wf
  have hnd := h.map.nd
  have hmb := h.map.lt
  clear h hr
  go_enter Try.func15, Try.ntmps15
  go_wp2_with (first
    | (at_range; refine wpList_range_own _ rfl _ 74 rfl 85 55 keyLaw Try.underlying74 elV mb L.length D rfl hown ?_; intro w0 hrg0 hg0 hs0))
  go_frame
  go_loopw [4, 5] (fun fv bv wr => ∃ (v : Int) (b : Bool) (left : Lit → Bool) (cnt : Nat) (ss : List Ng), fv = .int .i64 v ∧ bv = .bool b ∧ wr.ranges Try.prog 85 elV mb w.heap.size L.length D left cnt ∧ Coll L left ss ∧ NxP (ss.flatMap chgL) v b ∧ Below w.heap.size w wr)
    (fun _ _ wr => wr.rangeLeft mb w.heap.size)
  case atStart => exact ⟨0, false, _, _, [], rfl, rfl, hrg0, ⟨L, by simp, hmd.hs⟩, .inl ⟨rfl, rfl, rfl⟩, ⟨hg0.os, hg0.tape, hg0.output, hg0.size, fun i hi => hg0.block i hi (by simp)⟩⟩
  case round =>
    clear hrg0 hg0 hown
    obtain ⟨v, b, left, cnt, ss, rfl, rfl, hrg, hC, hN, hgw⟩ := hrel
    go_wp2_with (first
      | (at_next; refine wpList_next_ranges _ rfl _ rfl 85 keyLaw elV id id (fun key _ _ => ⟨key, rfl⟩) (fun v _ _ => ⟨v, rfl⟩) mb w.heap.size L.length _ _ _ rfl hrg ?_ ?_))
    · intro _ hl0
      have hp := hC.done hl0
      clear hC hrg
      go_wp2_with fail
      go_ret2
      exact ⟨v, b, rfl, hN.perm (List.Perm.flatMap_right chgL hp.symm), hgw⟩
    · intro x c lk yd yp w1 cnt1 hkey hlk hv hat hrg1 hlt hg1 hs1 hen
      obtain ⟨n, hnL, rfl, hC2⟩ := hC.step hwf hnd hlk
      have hc : c = nV n := by
        have e := hat (.held (nV n))
        rw [hmd.at_ n hnL] at e
        have hv' : some (DataW.held c, ([] : List MemPlace)) = some (yd, yp) := hv
        cases hv'
        injection e with e
        exact e.symm
      subst hc
      have hgw1 : Below w.heap.size w w1 := grown_below hg1 hgw (Nat.le_refl _) hgw.size
      have HCN : Hid (wr.rangeLeft mb w.heap.size = cnt) := hrg.left_eq
      have HLT : Hid (cnt1 < cnt) := hlt
      have HR0 : Hid (∀ W, Below w1.heap.size w1 W → W.ranges Try.prog 85 elV mb w.heap.size L.length D (fun z => left z && !z.sameKey (kl n.i n.a)) cnt1 ∧ Below w.heap.size w W) := fun W hW => by
        have hg : w1.grownBy W none := ⟨hW.os, hW.tape, hW.output, hW.size, fun i hi _ => hW.block i hi⟩
        exact ⟨hrg1.kept hg (by simp) (by simp), hgw1.trans (hW.mono hgw1.size)⟩
      have HC2 : Hid (Coll L (fun z => left z && !z.sameKey (kl n.i n.a)) (ss ++ [n])) := hC2
      have hCh := changes_any n
      clear hat hv hkey hlk hC hg1 hs1 hrg hlt hrg1 hgw1 hC2
      go_upto_region 8 with (first
        | (have kk := q5; go_at_call 36; refine (hCh _).mono ?_; rintro e w6 ⟨r6, rfl, o6, b6⟩; replace b5 := bt b5 b6; clear q5 kk; obtain ⟨ca, cc, rfl, hcat⟩ := OwnI.at_ o6)
        | (have kk := q5; refine ldN (.tmp 7) rfl rfl _ _ n rfl q5.range ?_)
        | (have kk := r3; refine stN (.tmp 7) (.tmp 20) rfl rfl g3 n _ rfl rfl r3 ?_; intro W5 g5 q5; have b5 := grown_below g5 hB3 hge3 hB3.size; clear r3)
        | (refine alG infoNz rfl rfl ?_; intro g3 W3 hge3 hgl3 hB3 r3))
      clear hCh hen
      have hcl : (chgL n).length ≤ 3 := by unfold chgL; split <;> split <;> split <;> simp
      generalize hcs : chgL n = cs at *
      have HCS : Hid (chgL n = cs) := hcs
      clear hcs
      go_loopw [4, 5, 24] (fun fv bv iv wr2 => ∃ (v2 : Int) (b2 : Bool) (q : Nat), fv = .int .i64 v2 ∧ bv = .bool b2 ∧ q ≤ cs.length ∧ iv = .int .i64 q ∧ NxP (ss.flatMap chgL ++ cs.take q) v2 b2 ∧ w6 = wr2) (fun _ _ iv _ => cs.length - (intOf iv).toNat)
      case atStart => exact ⟨v, b, 0, rfl, rfl, Nat.zero_le _, rfl, by simpa using hN, rfl⟩
      case round =>
        clear hN
        obtain ⟨v2, b2, q, rfl, rfl, hq, rfl, hN2, rfl⟩ := hrel
        by_cases hlq : q < cs.length
        · rcases hcat with h0 | ⟨cg, rfl, hcg, hcc⟩
          · rw [h0] at hlq; simp at hlq
          have hx := hcc q cs[q] (List.getElem?_eq_getElem hlq)
          have hst := hN2.step cs[q]
          have HS : Hid (ss.flatMap chgL ++ cs.take (q + 1) = (ss.flatMap chgL ++ cs.take q) ++ [cs[q]]) := by
            show _ = _
            rw [List.take_succ_eq_append_getElem hlq, List.append_assoc]
          have hqi : (q : Int) < (cs.length : Int) := by omega
          have hw64 : wrap64 ((q : Int) + 1) = (q : Int) + 1 := by unfold wrap64; omega
          have HJ : Hid (q + 1 ≤ cs.length) := hlq
          have HM : Hid (cs.length - ((q : Int) + 1).toNat < cs.length - ((q : Int)).toNat) := meas hlq
          generalize cs[q] = a at *
          have HT : Hid ((b2 = false ∨ a < v2) → NxP (ss.flatMap chgL ++ cs.take (q + 1)) a true) := fun hc => by rw [HS.out]; exact hst.1 hc
          have HF : Hid ((b2 = true ∧ ¬ a < v2) → NxP (ss.flatMap chgL ++ cs.take (q + 1)) v2 true) := fun hc => by rw [HS.out]; exact hst.2 hc
          clear hst HS hcc hlq hq hN2 hcl hs0 o6 hgw hB3 b6 g5
          cases b2 with
          | false =>
            have HN3 : Hid _ := HT.out (.inl rfl)
            go_wp2_with fail
            go_roundw
            case rel => exact ⟨a, true, q + 1, rfl, rfl, HJ.out, by first | rfl | go_num, HN3.out, trivial⟩
            case measure => (try rw [hw64]); simp only [intOf]; exact HM.out
          | true =>
            by_cases hlt2 : a < v2
            · have HN3 : Hid _ := HT.out (.inr hlt2)
              go_wp2_with fail
              go_roundw
              case rel => exact ⟨a, true, q + 1, rfl, rfl, HJ.out, by first | rfl | go_num, HN3.out, trivial⟩
              case measure => (try rw [hw64]); simp only [intOf]; exact HM.out
            · have HN3 : Hid _ := HF.out ⟨rfl, hlt2⟩
              go_wp2_with fail
              go_roundw
              case rel => exact ⟨v2, true, q + 1, rfl, rfl, HJ.out, by first | rfl | go_num, HN3.out, trivial⟩
              case measure => (try rw [hw64]); simp only [intOf]; exact HM.out
        · have hqi : ¬ (q : Int) < (cs.length : Int) := by omega
          have hql : q = cs.length := by omega
          have hN3 : NxP ((ss ++ [n]).flatMap chgL) v2 b2 := by
            rw [hql, List.take_length, ← HCS.out] at hN2
            rw [List.flatMap_append]
            simpa using hN2
          obtain ⟨hrg6, hb6⟩ := HR0.out _ b5
          clear hN2 hql hlq hq hcat o6
          go_wp2_with fail
          go_roundw
          case rel => exact ⟨v2, b2, _, cnt1, ss ++ [n], rfl, rfl, hrg6, HC2.out, hN3, hb6⟩
          case measure => rw [hrg6.left_eq, HCN.out]; exact HLT.out
end Go.Proofs.Ytacadlbhgelncaa
