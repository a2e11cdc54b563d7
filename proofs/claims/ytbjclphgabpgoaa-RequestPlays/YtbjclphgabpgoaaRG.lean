/-
  Forget: the requests of some pairs are taken away.
-/
import Derived.Test.YtbjclphgabpgoaaRA
import Derived.Test.YtbjclphgabpgoaaRD
import Derived.Test.YtbjclphgabpgoaaRF
namespace Go.Proofs.Ytbjclphgabpgoaa
open Go.RowKit Go.Maps Go.Shelf
set_option linter.unusedSimpArgs false
set_option linter.unusedVariables false
set_option maxRecDepth 20000
theorem keyB_self (n : Sr) : keyB n.p n.id n = true := keyB_iff.2 ⟨rfl, rfl⟩
theorem nd_inj {L : List Sr} (h : (L.map keyN).Nodup) {x y : Sr} (hx : x ∈ L) (hy : y ∈ L) (e : keyN x = keyN y) : x = y := by
  induction L with
  | nil => cases hx
  | cons a L ih =>
    rw [List.map_cons, List.nodup_cons] at h
    rcases List.mem_cons.1 hx with rfl | hx
    · rcases List.mem_cons.1 hy with rfl | hy
      · rfl
      · exact absurd (List.mem_map.2 ⟨y, hy, e.symm⟩) h.1
    · rcases List.mem_cons.1 hy with e2 | hy
      · exact absurd (List.mem_map.2 ⟨x, hx, by rw [e, e2]⟩) h.1
      · exact ih h.2 hx hy
/-- What is left behind the deletes of the first j. -/
def lfR (K : List Sr) (L : List Sr) (j : Nat) : List Sr := L.filter fun m => !(K.take j).any fun n => keyB n.p n.id m
theorem lfR_0 (K L : List Sr) : lfR K L 0 = L := by unfold lfR; simp
theorem lfR_step {K L : List Sr} {j : Nat} (hj : j < K.length) : delN (lfR K L j) K[j].p K[j].id = lfR K L (j + 1) := by
  unfold delN lfR
  rw [List.filter_filter, List.take_succ_eq_append_getElem hj]
  refine List.filter_congr fun m _ => ?_
  rw [List.any_append]
  simp only [List.any_cons, List.any_nil, Bool.or_false, Bool.not_or]
  exact Bool.and_comm _ _
theorem lfR_end {K L : List Sr} {so : Sr → Bool} (hnd : (L.map keyN).Nodup) (hp : K.Perm (L.filter so)) : lfR K L K.length = L.filter fun m => !so m := by
  unfold lfR
  rw [List.take_length]
  refine List.filter_congr fun m hm => ?_
  congr 1
  cases h : so m with
  | true =>
    rw [List.any_eq_true]
    exact ⟨m, hp.mem_iff.2 (List.mem_filter.2 ⟨hm, h⟩), keyB_self m⟩
  | false =>
    rw [List.any_eq_false]
    intro n hn hk
    have hn2 := List.mem_filter.1 (hp.mem_iff.1 hn)
    have e : m = n := nd_inj hnd hm hn2.1 (by rw [keyB_iff] at hk; unfold keyN; rw [hk.1, hk.2])
    rw [e, hn2.2] at h
    cases h
/-- What the first loop of Forget holds. -/
structure FgI (w : World) (bm mq : Nat) (ad : Option Addr) (l : List Pr) (j : Nat) (wr : World) : Prop where
  row : Row wr bm 83 [.map (some mq)]
  mp : Mq wr mq (l.take j)
  qs : QsW wr ad l
  be : Below w.heap.size w wr
theorem FgI.below {w : World} {bm mq : Nat} {ad : Option Addr} {l : List Pr} {j : Nat} {wr W : World} (h : FgI w bm mq ad l j wr) (hb : Below wr.heap.size wr W) : FgI w bm mq ad l j W :=
  ⟨h.row.below hb h.row.lt, h.mp.below hb h.mp.lt, h.qs.below hb, bt h.be hb⟩
theorem FgI.ne {w : World} {bm mq : Nat} {ad : Option Addr} {l : List Pr} {j : Nat} {wr : World} (h : FgI w bm mq ad l j wr) : bm ≠ mq := fun e => by
  obtain ⟨es, cl, h2⟩ := h.mp.obj
  have h3 := h.row
  unfold Row at h3
  rw [e, h2] at h3
  cases h3
theorem FgI.put {w : World} {bm mq : Nat} {ad : Option Addr} {l : List Pr} {j : Nat} {wr : World} (h : FgI w bm mq ad l j wr) (hj : j < l.length) (hi : wfQ l[j]) (hl : l.length ≤ 1000000) (hm : w.heap.size ≤ mq) : ∃ w', (Instr.mapUpdate 83 (.map (some mq)) (Value.agg (qcells (l[j])).toArray) eV).run Try.prog wr = .ok () w' ∧ FgI w bm mq ad l (j + 1) w' := by
  obtain ⟨w', h1, h2, h3⟩ := h.mp.put l[j] hi (by rw [List.length_take]; unfold maxLen; omega)
  refine ⟨w', h1, h.row.keep h3 h.ne, by rw [List.take_succ_eq_append_getElem hj]; exact h2, h.qs.mapq h.mp h3, grown_below h3 h.be hm h.be.size⟩
theorem map_zero (w : World) : (zeroValue 83).run Try.prog w = .ok (.map none) w := by kernel_rfl
theorem run_mkQ (w : World) : (Instr.makeMap 83 none).run Try.prog w = .ok (.map (some w.heap.size)) (w.alloc (.map #[] 0)) := by kernel_rfl
theorem bdE (w : World) : (Instr.build 84 #[]).run Try.prog w = .ok eV w := by kernel_rfl
section
variable {ops : Array Oper} {rest : List Oper} {op : Oper} {a : Act} {w w' : World} {Q : Exit → Act → World → Prop}
theorem lMu {T : TypeId} (m k v : Operand) {mv kv vv : Value} (hw : Region.wanted op (yielded ops a.tmps) = true) (ho : op.op = .mapUpdate T m k v) (hm : a.eval m = mv) (hk : a.eval k = kv) (hv : a.eval v = vv)
    (hr : (Instr.mapUpdate T mv kv vv).run Try.prog w = .ok () w') (h : wpList Try.prog ops Q rest (a.put op.dst undef) w') : wpList Try.prog ops Q (op :: rest) a w :=
  wpList_step fun K hK => by
    rw [if_pos hw]
    unfold Oper.wp
    simp [execOp, ho, hm, hk, hv, hr, Result.andThen]
    exact hK _ _ h
end
/-- What is left behind Forget. -/
def fgL (L : List Sr) (P : List Pr) : List Sr := L.filter fun m => !inQ P m.p
def fgN (L : List Sr) (P : List Pr) : Nat := (L.filter fun m => inQ P m.p).length
set_option maxHeartbeats 16000000 in
theorem forget_any {w : World} {t mb : Nat} {most : Int} {L : List Sr} (h : Tb w t mb most L) (ad : Option Addr) (c : Nat) (l : List Pr) (hq : QsW w ad l) (hi : ∀ p ∈ l, wfQ p) (hl : l.length ≤ 1000000) :
    Calls Try.prog 18 #[.pointer (some ⟨t, 0, none⟩), .slice ad l.length c] w fun e w' => e = .returned (.int .i64 (fgN L l : Nat)) ∧ Turn w w' t mb most (fgL L l) := by
  have hmf : ∀ (fn : Fn) (first cap : Array Value) (w : World), (Instr.makeFunc fn first cap).run Try.prog w = .ok (.func fn first cap) w := fun _ _ _ _ => rfl
  have hmk := run_mkQ w
  have hzm := map_zero
  have hwf := h.map.wf
  have hnd := h.map.nd
  have hll := h.ll
  have HT : Hid (Tb w t mb most L) := h
  have HTM : Hid (t < w.heap.size ∧ mb < w.heap.size) := ⟨h.lt, h.map.lt⟩
  have HI0 : FgI w (w.heap.size + 1) w.heap.size ad l 0 ((w.alloc (.map #[] 0)).alloc (.cells #[.map (some w.heap.size)] 83)) := by
    have hb : Below w.heap.size w ((w.alloc (.map #[] 0)).alloc (.cells #[.map (some w.heap.size)] 83)) := bt (ba _ _) (ba _ _)
    refine ⟨?_, ?_, hq.below hb, hb⟩
    · have := Row.new (w.alloc (.map #[] 0)) 83 [.map (some w.heap.size)]
      simpa using this
    · rw [List.take_zero]
      exact (Mq.new w).below (ba _ _) (by simp)
  clear h hq
  go_enter Try.func18, Try.ntmps18
  go_upto_region 2 with fail
  refine name_world (R := fun W => Code.wp _ _ _ _ W) (P := fun W => FgI w (w.heap.size + 1) w.heap.size ad l 0 W) _ HI0 ?_
  clear HI0 hmk
  intro X HI0
  go_wp2_with fail
  go_loopw [14] (fun u wr => ∃ (j : Nat), u = .int .i64 j ∧ j ≤ l.length ∧ FgI w (w.heap.size + 1) w.heap.size ad l j wr) (fun u _ => l.length - (intOf u).toNat)
  case atStart => exact ⟨0, rfl, Nat.zero_le _, HI0⟩
  case round =>
    clear HI0
    obtain ⟨j, rfl, hj, hI⟩ := hrel
    by_cases hlt : j < l.length
    · rcases hI.qs.lies with h0 | ⟨g, o, rfl, ⟨cs, T, f, hg⟩, hc⟩
      · rw [h0] at hlt; simp at hlt
      have hq : LQ wr g (o + j * 34) l[j] := hc j l[j] (List.getElem?_eq_getElem hlt)
      have hji : (j : Int) < (l.length : Int) := by omega
      have hw64 : wrap64 ((j : Int) + 1) = (j : Int) + 1 := by unfold wrap64; omega
      have HM : Hid (l.length - ((j : Int) + 1).toNat < l.length - ((j : Int)).toNat) := meas hlt
      have HJ : Hid (j + 1 ≤ l.length) := hlt
      have HP : Hid (∀ W, Below wr.heap.size wr W → ∃ w', (Instr.mapUpdate 83 (.map (some w.heap.size)) (Value.agg (qcells (l[j])).toArray) eV).run Try.prog W = .ok () w' ∧ FgI w (w.heap.size + 1) w.heap.size (some ⟨g, o, none⟩) l (j + 1) w') := fun W hW => (hI.below hW).put hlt (hi _ (List.getElem_mem hlt)) hl (Nat.le_refl _)
      have HR : Hid (∀ W, Below wr.heap.size wr W → W.cell? ⟨w.heap.size + 1, 0, none⟩ = some (.map (some w.heap.size))) := fun W hW => (hI.below hW).row.cell 0
      clear hI hc hg hj hwf hnd hll HT HTM
      generalize l[j] = p at *
      clear hlt
      go_wp2_with (first
        | (have kk := hrun; refine lMu (.tmp 18) (.tmp 19) (.tmp 20) rfl rfl rfl rfl rfl hrun ?_; clear hrun)
        | ((with_reducible refine bdG (T := 84) (v := eV) [] ?_ ?_ ?_ ?_); (focus rfl); (focus rfl); (focus exact bdE _))
        | (have kk := r3; obtain ⟨W4, hrun, hI4⟩ := HP.out _ b3; refine ldQ (.tmp 7) rfl rfl _ _ p rfl r3.range ?_; clear r3)
        | (have kk := r2; refine stQp (.tmp 7) (.tmp 17) rfl rfl g2 p _ rfl rfl r2 ?_; intro W3 g3 r3; have b3 := grown_below g3 hB2 hge2 hB2.size; have c0 := HR.out _ b3; clear r2)
        | (refine alG infoQz rfl rfl ?_; intro g2 W2 hge2 hgl2 hB2 r2)
        | (refine ldQ (.tmp 16) rfl rfl _ _ p rfl hq ?_))
      go_roundw
      case rel => exact ⟨j + 1, by first | rfl | go_num, HJ.out, hI4⟩
      case measure => (try rw [hw64]); simp only [intOf]; exact HM.out
    · have hje : j = l.length := by omega
      subst hje
      have hMp := hI.mp
      rw [List.take_length] at hMp
      have hW := where_any (HT.out.below hI.be) (fun n => inQ l n.p) 38 #[.pointer (some ⟨w.heap.size + 1, 0, none⟩)] (enters_of Try.func38 (by kernel_rfl) rfl) (fun n hn W hW => forgetC_any n l (w.heap.size + 1) w.heap.size W (hwf n hn) (hI.row.below hW hI.row.lt) (hMp.below hW hMp.lt))
      have hBe := hI.be
      clear hI hMp hlt hj
      go_upto_region 8 with (go_at_call 37; refine hW.mono ?_; clear hW; rintro e w1 ⟨va, vc, K, rfl, hp, hasc, hO, b1⟩)
      have hKL : ∀ n ∈ K, n ∈ L := fun n hn => (List.mem_filter.1 (hp.mem_iff.1 hn)).1
      have hKn : K.length ≤ 1000000 := by
        rw [hp.length_eq]
        exact Nat.le_trans (List.length_filter_le _ _) hll
      have HF : Hid (lfR K L K.length = fgL L l ∧ K.length = fgN L l) := ⟨lfR_end hnd hp, hp.length_eq⟩
      have HS : Hid (∀ j (hj : j < K.length), delN (lfR K L j) (K[j]'hj).p (K[j]'hj).id = lfR K L (j + 1) ∧ wfQ (K[j]'hj).p) := fun j hj => ⟨lfR_step hj, hwf _ (hKL _ (List.getElem_mem hj))⟩
      have hT0 : Turn w w1 t mb most (lfR K L 0) := by rw [lfR_0]; exact Turn.of HT.out (bt hBe b1)
      have hs1 : wr.heap.size ≤ w1.heap.size := b1.size
      clear hwf hnd hll hp hasc hKL b1 HT hBe hi hl
      generalize wr.heap.size = B at hO hs1
      go_wp2_with fail
      go_loopw [27] (fun u V => ∃ (j : Nat), u = .int .i64 j ∧ j ≤ K.length ∧ Turn w V t mb most (lfR K L j) ∧ kN.Own V B (.slice va K.length vc) K ∧ B ≤ V.heap.size) (fun u _ => K.length - (intOf u).toNat)
      case atStart => exact ⟨0, rfl, Nat.zero_le _, hT0, hO, hs1⟩
      case round =>
        clear hT0 hO hs1
        obtain ⟨j, rfl, hj, hT, hO, hsz⟩ := hrel
        by_cases hlt : j < K.length
        · obtain ⟨g, rfl, hg1, hg2, hel⟩ := own_elem hO (fun e => by rw [e] at hlt; simp at hlt)
          have hq := hel j hlt
          have hji : (j : Int) < (K.length : Int) := by omega
          have hw64 : wrap64 ((j : Int) + 1) = (j : Int) + 1 := by unfold wrap64; omega
          have HM : Hid (K.length - ((j : Int) + 1).toNat < K.length - ((j : Int)).toNat) := meas hlt
          have HJ : Hid (j + 1 ≤ K.length) := hlt
          obtain ⟨hS1, hS2⟩ := HS.out j hlt
          have HE : Hid (delN (lfR K L j) (K[j]'hlt).p (K[j]'hlt).id = lfR K L (j + 1)) := hS1
          have HR : Hid (∀ W, Below wr.heap.size wr W → Calls Try.prog 35 #[.pointer (some ⟨t, 0, none⟩), sV (K[j]'hlt)] W fun e w' => e = .returned (.tuple #[]) ∧ Turn w w' t mb most (lfR K L (j + 1)) ∧ kN.Own w' B (.slice (some ⟨g, 0, none⟩) K.length vc) K ∧ B ≤ w'.heap.size) := fun W hW => by
            have hTW := hT.post hW
            refine (remove_any hTW.tb (K[j]'hlt) hS2).mono ?_
            rintro e w' ⟨rfl, hT2⟩
            rw [hS1] at hT2
            exact ⟨rfl, hTW.trans hT2, own_map hTW.tb.map hT2.gr (own_below hO hW), Nat.le_trans hsz (Nat.le_trans hW.size hT2.gr.size)⟩
          clear HF hel hg1 hj hKn HS hS1 hS2 hT hO hsz HE
          generalize (K[j]'hlt) = n at *
          clear hlt
          go_wp2_with (first
            | (have kk := r3; go_at_call 35; refine (HR.out _ b3).mono ?_; rintro e w4 ⟨rfl, hT4, hO4, hs4⟩)
            | (have kk := r3; refine ldS (.tmp 10) rfl rfl _ _ n rfl r3.sr ?_)
            | (have kk := r2; refine stS (.tmp 10) (.tmp 30) rfl rfl g2 n _ rfl rfl r2 ?_; intro W3 g3 r3; have b3 := grown_below g3 hB2 hge2 hB2.size; clear r2)
            | (refine alG infoSz rfl rfl ?_; intro g2 W2 hge2 hgl2 hB2 r2)
            | (refine ldS (.tmp 29) rfl rfl _ _ n rfl hq ?_))
          go_roundw
          case rel => exact ⟨j + 1, by first | rfl | go_num, HJ.out, hT4, hO4, hs4⟩
          case measure => (try rw [hw64]); simp only [intOf]; exact HM.out
        · have hje : j = K.length := by omega
          subst hje
          obtain ⟨hF1, hF2⟩ := HF.out
          rw [hF1] at hT
          clear HS hO hsz hlt hj
          go_wp2_with fail
          go_ret
          exact ⟨by rw [← hF2]; rfl, hT⟩
end Go.Proofs.Ytbjclphgabpgoaa
