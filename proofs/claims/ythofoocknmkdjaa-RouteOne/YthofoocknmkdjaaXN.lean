/-
  Unselect and Select of a table that is there.
-/
import Derived.Test.YthofoocknmkdjaaXM
namespace Go.Proofs.Ythofoocknmkdjaa
open Go.RowKit Go.Maps Go.Shelf
set_option linter.unusedSimpArgs false
set_option linter.unusedVariables false
set_option maxRecDepth 20000
/-- Of a pair at most one route is selected. -/
def OneS (L : List Ro) : Prop := ∀ m ∈ L, ∀ n ∈ L, m.s = true → n.s = true → m.p = n.p → m = n
def offN (n : Ro) : Ro := n.sS false
def unR (p : Pr) (L : List Ro) : List Ro := mapR offN (selB p) L
theorem selB_iff {p : Pr} {n : Ro} : selB p n = true ↔ n.s = true ∧ n.p = p := by
  unfold selB
  rw [Bool.and_eq_true, qB_iff]
theorem unR_none {p : Pr} {L : List Ro} (h : ∀ n ∈ L, selB p n = false) : unR p L = L := by
  unfold unR mapR
  have : ∀ n ∈ L, (if selB p n = true then offN n else n) = n := fun n hn => by rw [h n hn]; simp
  rw [List.map_congr_left this]
  simp
theorem unR_put {p : Pr} {L : List Ro} {n : Ro} (hnd : (L.map keyN).Nodup) (h1 : OneS L) (hn : n ∈ L) (hs : selB p n = true) : putN L (offN n) = unR p L := by
  unfold putN unR mapR
  rw [if_pos (show L.any (keyB (offN n).k) = true from List.any_eq_true.2 ⟨n, hn, keyB_self n⟩)]
  refine List.map_congr_left fun m hm => ?_
  by_cases hk : keyB (offN n).k m = true
  · have e : m = n := nd_inj hnd hm hn (by rw [keyB_iff] at hk; unfold keyN; rw [hk]; rfl)
    subst e
    rw [if_pos hk, if_pos hs]
  · rw [if_neg hk]
    by_cases hm2 : selB p m = true
    · exfalso
      rw [selB_iff] at hs hm2
      have e : m = n := h1 m hm n hn hm2.1 hs.1 (by rw [hm2.2, hs.2])
      subst e
      exact hk (keyB_self m)
    · rw [if_neg hm2]
theorem unR_one {p : Pr} {L : List Ro} (h : OneS L) : OneS (unR p L) := by
  intro m hm n hn hs ht hp
  obtain ⟨m', hm', rfl⟩ := List.mem_map.1 hm
  obtain ⟨n', hn', rfl⟩ := List.mem_map.1 hn
  by_cases a : selB p m' = true
  · rw [if_pos a] at hs; cases hs
  · by_cases b : selB p n' = true
    · rw [if_pos b] at ht; cases ht
    · rw [if_neg a] at hs hp ⊢
      rw [if_neg b] at ht hp ⊢
      exact h m' hm' n' hn' hs ht hp
theorem unR_off {p : Pr} {L : List Ro} : ∀ n ∈ unR p L, selB p n = false := by
  intro n hn
  obtain ⟨m, hm, rfl⟩ := List.mem_map.1 hn
  by_cases a : selB p m = true
  · rw [if_pos a]; rfl
  · rw [if_neg a]; simpa using a
theorem offN_ok {n : Ro} (h : n.ok) : (offN n).ok := ⟨h.q0, h.q1, h.r0, h.r1, h.m0, h.m1, h.u0, h.u1, h.d0, h.d1⟩
def cntR (p : Pr) (L : List Ro) : Int := if L.any (selB p) = true then 1 else 0
/-- Behind some pairs: what is there, and how many were selected. -/
def unS (x : List Ro × Int) (p : Pr) : List Ro × Int := (unR p x.1, x.2 + cntR p x.1)
def unL (ps : List Pr) (L : List Ro) : List Ro × Int := ps.foldl unS (L, 0)
theorem unL_take {ps : List Pr} {L : List Ro} {j : Nat} (hj : j < ps.length) : unL (ps.take (j + 1)) L = unS (unL (ps.take j) L) ps[j] := by
  unfold unL
  rw [List.take_succ_eq_append_getElem hj, List.foldl_append]
  rfl
theorem unL_one (ps : List Pr) : ∀ {L : List Ro}, OneS L → OneS (unL ps L).1 := by
  have : ∀ (ps : List Pr) (x : List Ro × Int), OneS x.1 → OneS (ps.foldl unS x).1 := by
    intro ps
    induction ps with
    | nil => intro x h; exact h
    | cons p ps ih => intro x h; exact ih _ (unR_one h)
  intro L h
  exact this ps (L, 0) h
theorem unL_cnt (ps : List Pr) (L : List Ro) : 0 ≤ (unL ps L).2 ∧ (unL ps L).2 ≤ ps.length := by
  have : ∀ (ps : List Pr) (x : List Ro × Int), x.2 ≤ (ps.foldl unS x).2 ∧ (ps.foldl unS x).2 ≤ x.2 + ps.length := by
    intro ps
    induction ps with
    | nil => intro x; simp
    | cons p ps ih =>
      intro x
      have h := ih (unS x p)
      have c : 0 ≤ cntR p x.1 ∧ cntR p x.1 ≤ 1 := by unfold cntR; split <;> omega
      have e : (unS x p).2 = x.2 + cntR p x.1 := rfl
      rw [List.foldl_cons, List.length_cons]
      omega
  have h := this ps (L, 0)
  have e : ((L, (0 : Int)) : List Ro × Int).2 = 0 := rfl
  unfold unL
  omega
/-- Pairs in memory. -/
structure PsW (w : World) (ad : Option Addr) (ps : List Pr) : Prop where
  lies : ps = [] ∨ ∃ g o, ad = some ⟨g, o, none⟩ ∧ g < w.heap.size ∧ ∀ (j : Nat) (p : Pr), ps[j]? = some p → w.rangeAt g (o + j * 34) (qcells p)
theorem PsW.below {w w' : World} {ad : Option Addr} {ps : List Pr} (h : PsW w ad ps) (hb : Below w.heap.size w w') : PsW w' ad ps :=
  ⟨h.lies.imp id fun ⟨g, o, e, hg, hl⟩ => ⟨g, o, e, Nat.lt_of_lt_of_le hg hb.size, fun j p hp => rangeAt_below (hl j p hp) hb hg⟩⟩
/-- One round of Unselect. -/
theorem put_off {w : World} {t mb : Nat} {most : Int} {L : List Ro} (h : Tb w t mb most L) (h1 : OneS L) {p : Pr} {n : Ro} (hn : n ∈ L) (hs : selB p n = true) :
    Calls Try.prog 47 #[.pointer (some ⟨t, 0, none⟩), rV (offN n)] w fun e w' => e = .returned (.tuple #[]) ∧ Turn w w' t mb most (unR p L) := by
  have e := unR_put h.map.nd h1 hn hs
  have hl : (putN L (offN n)).length ≤ 1000000 := by rw [e]; unfold unR; rw [mapR_len]; exact h.ll
  have q := put_any h (offN n) (h.map.wf n hn) (offN_ok (h.nok n hn)) hl
  rwa [e] at q
theorem PsW.turn {w w' : World} {ad : Option Addr} {ps : List Pr} {t mb : Nat} {most : Int} {L L' : List Ro} (h : PsW w ad ps) (ht : Turn w w' t mb most L') (hm : Tb w t mb most L) : PsW w' ad ps :=
  ⟨h.lies.imp id fun ⟨g, o, e, hg, hl⟩ => ⟨g, o, e, Nat.lt_of_lt_of_le hg ht.gr.size, fun j p hp => rangeAt_keep (hl j p hp) ht.gr (by
    intro e2
    have hlen : 0 < (qcells p).length := by rw [qcells_len]; omega
    have c := hl j p hp 0 _ (List.getElem?_eq_getElem hlen)
    obtain ⟨es, cl, hh⟩ := hm.map.obj
    rw [e2] at c
    simp [World.cell?, hh] at c) hg⟩⟩
theorem cnt_yes {p : Pr} {L : List Ro} {n : Ro} (hn : n ∈ L) (hs : selB p n = true) : cntR p L = 1 := by
  unfold cntR
  rw [if_pos (List.any_eq_true.2 ⟨n, hn, hs⟩)]
theorem cnt_no {p : Pr} {L : List Ro} (h : ∀ n ∈ L, selB p n = false) : cntR p L = 0 := by
  unfold cntR
  rw [if_neg]
  intro e
  obtain ⟨n, hn, hs⟩ := List.any_eq_true.1 e
  rw [h n hn] at hs
  cases hs
set_option maxHeartbeats 8000000 in
theorem unselect_any {w : World} {t mb : Nat} {most : Int} {L : List Ro} (h : Tb w t mb most L) (h1 : OneS L) (ad : Option Addr) (c : Nat) (ps : List Pr) (hps : PsW w ad ps) (hl : ps.length ≤ 100) :
    Calls Try.prog 33 #[.pointer (some ⟨t, 0, none⟩), .slice ad ps.length c] w fun e w' => e = .returned (.int .i64 (unL ps L).2) ∧ Turn w w' t mb most (unL ps L).1 := by
  have HC0 := fun j => unL_cnt (ps.take j) L
  have htm : mb < w.heap.size := h.map.lt
  go_enter Try.func33, Try.ntmps33
  go_wp2_with fail
  go_loopw [5, 12] (fun v u wr => ∃ j : Nat, j ≤ ps.length ∧ u = .int .i64 j ∧ v = .int .i64 (unL (ps.take j) L).2 ∧ Turn w wr t mb most (unL (ps.take j) L).1 ∧ PsW wr ad ps) (fun _ u _ => ps.length - (intOf u).toNat)
  case atStart => exact ⟨0, Nat.zero_le _, rfl, rfl, ⟨h, World.grownBy.refl _ _⟩, hps⟩
  case round =>
    obtain ⟨j, hj, rfl, rfl, hT, hP⟩ := hrel
    clear hps h
    by_cases hlt : j < ps.length
    · rcases hP.lies with h0 | ⟨g, o, rfl, hg, hc⟩
      · rw [h0] at hlt; simp at hlt
      have q := hc j _ (List.getElem?_eq_getElem hlt)
      have HS : Hid (unL (ps.take (j + 1)) L = unS (unL (ps.take j) L) ps[j]) := unL_take hlt
      have h1' := unL_one (ps.take j) h1
      have hcn := HC0 j
      rw [List.length_take] at hcn
      have hji : (j : Int) < (ps.length : Int) := by omega
      have hw64 : wrap64 ((j : Int) + 1) = (j : Int) + 1 := by unfold wrap64; omega
      have hcn2 : 0 ≤ (unL (ps.take j) L).2 ∧ (unL (ps.take j) L).2 ≤ 100 := by omega
      have HJ : Hid (j + 1 ≤ ps.length) := hlt
      have HM : Hid (ps.length - ((j : Int) + 1).toNat < ps.length - ((j : Int)).toNat) := meas hlt
      clear hc hcn HC0 hl
      generalize (ps[j]'hlt) = p at *
      generalize hX : unL (ps.take j) L = X at *
      obtain ⟨L1, n1⟩ := X
      dsimp only at *
      have hwn : wrap64 (n1 + 1) = n1 + 1 := by unfold wrap64; omega
      have tb := hT.tb
      have HB : Hid (∀ W, Below wr.heap.size wr W → Turn w W t mb most L1 ∧ Tb W t mb most L1 ∧ PsW W (some ⟨g, o, none⟩) ps) := fun W hW => ⟨hT.post hW, tb.below hW, hP.below hW⟩
      have hS := fun W (h : Tb W t mb most L1) => selected_any h p
      clear hcn2 hX hj
      go_wp2_with (first
        | (have kk := q2; go_at_call 17; refine (hS _ (HB.out _ b2).2.1).mono ?_; rintro e w3 ⟨k3, ⟨n, hn, hs, rfl⟩ | ⟨hno, rfl⟩⟩ <;> (have b3 := bt b2 k3; clear q2; refine Hid.out ?_))
        | (have kk := q2; refine ldQ (.tmp 7) rfl rfl _ _ p rfl q2.range ?_)
        | (have kk := r1; refine inL rfl fun KK hKK => ?_; refine wp_store_mid _ (.tmp 7) (.tmp 15) rfl g1 0 (qcells p).toArray rfl rfl (by simpa [qcells_len] using r1.there (n := 34) (by rw [qcells_len]; omega)) (by rw [infoQ]; simp [qcells_len]) (all_oneCell_toArray (qcells_one p)) ?_; refine hKK _ _ ?_; have q2 := Row.setCells (qcells p) [] _ (qcells zeroQ) r1 (by rw [qcells_len, qcells_len]); have b2 := grown_below (grownBy_setCells g1 (qcells p) 0 _) hB1 hge1 hB1.size; clear r1)
        | (refine alG infoQz rfl rfl ?_; intro g1 W1 hge1 hgl1 hB1 r1)
        | (refine ldQ (.tmp 14) rfl rfl _ _ p rfl q ?_))
      · clear q hS
        have HE : Hid (unL (ps.take (j + 1)) L = (unR p L1, n1 + 1)) := by show _ = _; rw [HS.out]; unfold unS; rw [cnt_yes hn hs]
        have hPut := fun W (h : Tb W t mb most L1) => put_off h h1' hn hs
        clear HS h1' hn hs
        unfold Hid
        go_wp2_with (first
          | (have kk := q6; go_at_call 47; refine (hPut _ (HB.out _ b6).2.1).mono ?_; rintro e w7 ⟨rfl, hT7⟩; have p7 := (HB.out _ b6).2.2.turn hT7 (HB.out _ b6).2.1; have t7 := (Turn.trans (HB.out _ b6).1 hT7); clear q6)
          | (have kk := q6; refine ldS (.tmp 8) rfl rfl _ _ (offN n) rfl q6.ro ?_)
          | (have kk := r5; (with_reducible refine inL ?_ fun K hK => ?_); (focus rfl); refine wp_stSe (.tmp 23) (.const (.bool false)) rfl g4 false n rfl rfl r5 ?_; intro W6 g6 q6; refine hK _ _ ?_; have b6 := grown_below g6 b5 (Nat.le_trans b3.size hge4) b5.size; clear r5)
          | (have kk := r4; refine stS (.tmp 8) (.tmp 20) rfl rfl g4 n _ rfl rfl r4 ?_; intro W5 g5 r5; have b5 := grown_below g5 b4 (Nat.le_trans b3.size hge4) b4.size; clear r4)
          | (refine alG infoRz rfl rfl ?_; intro g4 W4 hge4 hgl4 hB4 r4; have b4 := bt b3 hB4))
        go_roundw
        case rel => exact ⟨j + 1, HJ.out, by first | rfl | go_num, by rw [HE.out] <;> first | rfl | exact congrArg (Value.int .i64) hwn, by rw [HE.out]; exact t7, p7⟩
        case measure => first | (rw [hw64]; simp only [intOf]; exact HM.out) | (simp only [intOf]; exact HM.out)
      · clear q hS
        have HE : Hid (unL (ps.take (j + 1)) L = (L1, n1)) := by
          show _ = _
          rw [HS.out]
          unfold unS
          rw [cnt_no hno, unR_none hno, Int.add_zero]
        clear HS h1' hno
        unfold Hid
        go_wp2_with (first
          | (have kk := r4; refine stS (.tmp 8) (.tmp 20) rfl rfl g4 zeroR _ rfl rfl r4 ?_; intro W5 g5 r5; have b5 := grown_below g5 b4 (Nat.le_trans b3.size hge4) b4.size; clear r4)
          | (refine alG infoRz rfl rfl ?_; intro g4 W4 hge4 hgl4 hB4 r4; have b4 := bt b3 hB4))
        obtain ⟨t5, _, p5⟩ := HB.out _ b5
        go_roundw
        case rel => exact ⟨j + 1, HJ.out, by first | rfl | go_num, by rw [HE.out], by rw [HE.out]; exact t5, p5⟩
        case measure => first | (rw [hw64]; simp only [intOf]; exact HM.out) | (simp only [intOf]; exact HM.out)
    · have hjl : j = ps.length := by omega
      subst hjl
      rw [List.take_length] at *
      clear hlt hj
      go_wp2_with fail
      go_ret
      exact ⟨rfl, hT⟩
end Go.Proofs.Ythofoocknmkdjaa
