/-
  Retract: all routes of a neighbour are told with Infinity.
-/
import Derived.Test.YthofoocknmkdjaaXC
import Derived.Test.YthofoocknmkdjaaXB
namespace Go.Proofs.Ythofoocknmkdjaa
open Go.RowKit Go.Maps Go.Shelf
set_option linter.unusedSimpArgs false
set_option linter.unusedVariables false
set_option maxRecDepth 20000
theorem retr_k (now : Int) (n : Ro) : (retr n now).k = n.k := rfl
theorem retr_ok {n : Ro} {now : Int} (h : n.ok) (ha : 0 ≤ now) (hb : now ≤ 17592186044416) : (retr n now).ok := by
  have e0 := h.d0
  have e1 := h.d1
  exact ⟨h.q0, h.q1, by show (0 : Int) ≤ 65535; omega, by show (65535 : Int) < 65536; omega, h.m0, h.m1, by show 0 ≤ now + n.d; omega, by show now + n.d ≤ 35184372088832; omega, h.d0, h.d1⟩
/-- A row's element, where it lies. -/
theorem own_elem {w : World} {B : Nat} {a : Option Addr} {n c : Nat} {G : List Ro} (ho : kN.Own w B (.slice a n c) G) (hne : G ≠ []) : ∃ g, a = some ⟨g, 0, none⟩ ∧ B ≤ g ∧ g < w.heap.size ∧ ∀ (j : Nat) (hj : j < G.length), LS w g (j * 81) G[j] := by
  obtain ⟨a', c', e, h⟩ := Kd.own_at ho
  cases e
  obtain ⟨g, e, h1, h2, _, h3⟩ := h hne
  exact ⟨g, e, h1, h2, fun j hj => h3 j G[j] (List.getElem?_eq_getElem hj)⟩
theorem mem_any {L : List Ro} {n : Ro} (h : n ∈ L) : L.any (keyB n.k) = true := List.any_eq_true.2 ⟨n, h, keyB_self n⟩
/-- What a loop over rows that keeps routes anew holds. -/
structure UpI (w : World) (t mb : Nat) (most : Int) (f : Ro → Ro) (L K : List Ro) (B : Nat) (v : Value) (j : Nat) (wr : World) : Prop where
  le : j ≤ K.length
  tn : Turn w wr t mb most (updR f L (K.take j))
  ow : kN.Own wr B v K
  sz : B ≤ wr.heap.size
theorem UpI.put {w : World} {t mb : Nat} {most : Int} {f : Ro → Ro} {L K : List Ro} {B : Nat} {v : Value} {j : Nat} {wr : World} (h : UpI w t mb most f L K B v j wr) (hj : j < K.length) (hf : ∀ n, (f n).k = n.k) (hK : ∀ n ∈ K, n ∈ L) (hL : L.length ≤ 1000000) (hok : ∀ n ∈ K, (f n).ok) (hwf : ∀ n ∈ K, wfK n.k) :
    ∀ W, Below wr.heap.size wr W → Calls Try.prog 47 #[.pointer (some ⟨t, 0, none⟩), rV (f K[j])] W fun e w' => e = .returned (.tuple #[]) ∧ UpI w t mb most f L K B v (j + 1) w' := fun W hb => by
  have hmem := List.getElem_mem hj
  have hlen : (putN (updR f L (K.take j)) (f K[j])).length ≤ 1000000 := by
    rw [← updR_take hj, updR_len hf (fun n hn => mem_any (hK n (List.mem_of_mem_take hn)))]
    exact hL
  have hT := h.tn.post hb
  refine (put_any (h.tn.tb.below hb) (f K[j]) (by rw [hf]; exact hwf _ hmem) (hok _ hmem) hlen).mono ?_
  rintro e w' ⟨rfl, hT2⟩
  refine ⟨rfl, hj, ?_, ?_, ?_⟩
  · rw [updR_take hj]
    exact hT.trans hT2
  · exact hT2.own (h.tn.tb.below hb) (own_below h.ow hb)
  · exact Nat.le_trans h.sz (Nat.le_trans hb.size hT2.gr.size)
set_option maxHeartbeats 8000000 in
theorem retract_any {w : World} {t mb : Nat} {most : Int} {L : List Ro} (h : Tb w t mb most L) (now i : Int) (a : Ad) (ha : 0 ≤ now) (hb : now ≤ 17592186044416) :
    Calls Try.prog 27 #[.pointer (some ⟨t, 0, none⟩), .int .i64 now, .int .i64 i, (Value.agg (acells a).toArray)] w fun e w' => e = .returned (.int .i64 ((L.filter (mineB i a)).length : Nat)) ∧ Turn w w' t mb most (mapR (fun n => retr n now) (mineB i a) L) := by
  have hmf : ∀ (fn : Fn) (first cap : Array Value) (w : World), (Instr.makeFunc fn first cap).run Try.prog w = .ok (.func fn first cap) w := fun _ _ _ _ => rfl
  have hok := h.nok
  have hwf := h.map.wf
  have hnd := h.map.nd
  have hll := h.ll
  have HT : Hid (Tb w t mb most L) := h
  obtain ⟨hB, r0, r1⟩ := low_rows w [.int .i64 i] (acells a) 3 32
  clear h
  go_enter Try.func27, Try.ntmps27
  go_upto_region 1 with fail
  refine name_world (R := fun W => Code.wp _ _ _ _ W) (P := fun W => Below w.heap.size w W ∧ Row W w.heap.size 3 [.int .i64 i] ∧ Row W (w.heap.size + 1) 32 (acells a)) _ ⟨hB, r0, r1⟩ ?_
  clear hB r0 r1
  rintro X ⟨hB, r0, r1⟩
  have hW := where_any (HT.out.below hB) (mineB i a) 49 #[.pointer (some ⟨w.heap.size, 0, none⟩), .pointer (some ⟨w.heap.size + 1, 0, none⟩)] (enters_of Try.func49 (by kernel_rfl) rfl) (fun n _ W hW => retrC_any n i a w.heap.size (w.heap.size + 1) W (r0.below hW r0.lt) (r1.below hW r1.lt))
  clear r0 r1
  go_upto_region 2 with (go_at_call 42; refine hW.mono ?_; rintro e w1 ⟨va, vc, K, rfl, hp, hasc, hO, b1⟩)
  have hKL : ∀ n ∈ K, n ∈ L := fun n hn => (List.mem_filter.1 (hp.mem_iff.1 hn)).1
  have hKn : K.length ≤ 1000000 := by
    rw [hp.length_eq]
    exact Nat.le_trans (List.length_filter_le _ _) hll
  have HF : Hid (updR (fun n => retr n now) L K = mapR (fun n => retr n now) (mineB i a) L ∧ (L.filter (mineB i a)).length = K.length) := ⟨updR_eq (f := fun n => retr n now) (fun _ => rfl) hnd hp, hp.length_eq.symm⟩
  have HU : UpI w t mb most (fun n => retr n now) L K X.heap.size (.slice va K.length vc) 0 w1 := ⟨Nat.zero_le _, Turn.of HT.out (bt hB b1), hO, b1.size⟩
  have HPut : Hid (∀ (j : Nat) (wr : World) (hj : j < K.length), UpI w t mb most (fun n => retr n now) L K X.heap.size (.slice va K.length vc) j wr → ∀ W, Below wr.heap.size wr W → Calls Try.prog 47 #[.pointer (some ⟨t, 0, none⟩), rV (retr K[j] now)] W fun e w' => e = .returned (.tuple #[]) ∧ UpI w t mb most (fun n => retr n now) L K X.heap.size (.slice va K.length vc) (j + 1) w') :=
    fun j wr hj hu => hu.put hj (fun _ => rfl) hKL hll (fun n hn => retr_ok (hok n (hKL n hn)) ha hb) (fun n hn => hwf n (hKL n hn))
  have HRt : Hid (∀ (j : Nat) (hj : j < K.length) (W : World), Calls Try.prog 50 #[rV K[j], .int .i64 now] W (Gives W (rV (retr K[j] now)))) := fun j hj W => retr_any K[j] now W ha hb (hok _ (hKL _ (List.getElem_mem hj))).d0 (hok _ (hKL _ (List.getElem_mem hj))).d1
  clear hok hwf hnd hll hp hasc hKL hO b1 hB hW ha hb HT
  go_wp2_with fail
  go_loopw [17] (fun u wr => ∃ (j : Nat), u = .int .i64 j ∧ UpI w t mb most (fun n => retr n now) L K X.heap.size (.slice va K.length vc) j wr) (fun u _ => K.length - (intOf u).toNat)
  case atStart => exact ⟨0, rfl, HU⟩
  case round =>
    clear HU
    obtain ⟨j, rfl, hu⟩ := hrel
    have hj := hu.le
    by_cases hlt : j < K.length
    · obtain ⟨g, rfl, hg1, hg2, hel⟩ := own_elem hu.ow (fun e => by rw [e] at hlt; simp at hlt)
      have hq := hel j hlt
      have hji : (j : Int) < (K.length : Int) := by omega
      have hw64 : wrap64 ((j : Int) + 1) = (j : Int) + 1 := by unfold wrap64; omega
      have HM : Hid (K.length - ((j : Int) + 1).toNat < K.length - ((j : Int)).toNat) := meas hlt
      have hP := HPut.out j wr hlt hu
      have hR := HRt.out j hlt
      obtain ⟨n, hn⟩ : ∃ n, K[j] = n := ⟨_, rfl⟩
      rw [hn] at hq hP hR
      clear HPut HRt HF hel hu hg1 hj hn hlt hKn
      go_wp2_with (first
        | (have kk := b5; go_at_call 47; refine (hP _ b5).mono ?_; rintro e w6 ⟨rfl, hu⟩)
        | (have kk := b3; go_at_call 50; refine (hR _).mono ?_; rintro e w5 ⟨rfl, b5⟩; replace b5 := bt b3 b5)
        | (have kk := b3; refine ldS (.tmp 11) rfl rfl _ _ n rfl r3.ro ?_)
        | (have kk := r2; refine stS (.tmp 11) (.tmp 20) rfl rfl g2 n _ rfl rfl r2 ?_; intro W3 g3 r3; have b3 := grown_below g3 hB2 hge2 hB2.size; clear r2)
        | (refine alG infoRz rfl rfl ?_; intro g2 W2 hge2 hgl2 hB2 r2)
        | (refine ldS (.tmp 19) rfl rfl _ _ n rfl hq ?_))
      go_roundw
      case rel => exact ⟨j + 1, by first | rfl | go_num, hu⟩
      case measure => rw [hw64]; simp only [intOf]; exact HM.out
    · have hje : j = K.length := by omega
      subst hje
      have hT := hu.tn
      rw [List.take_length] at hT
      rw [HF.out.1] at hT
      clear HPut HRt hu hlt hj
      go_wp2_with fail
      go_ret
      exact ⟨by rw [HF.out.2]; rfl, hT⟩
end Go.Proofs.Ythofoocknmkdjaa
