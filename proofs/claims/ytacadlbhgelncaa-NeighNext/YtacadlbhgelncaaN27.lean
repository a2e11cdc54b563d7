/-
  maps.DeleteFunc of the neighbours, and Drop.
-/
import Derived.Test.YtacadlbhgelncaaN24
import Derived.Maps.RangeWalk
namespace Go.Proofs.Ytacadlbhgelncaa
open Lk (Hi hcs hcs_one)
open Rk (Rt rcs rtV)
open Go.RowKit Go.Maps Go.Shelf
set_option linter.unusedSimpArgs false
set_option linter.unusedVariables false
set_option maxRecDepth 20000
/-- What a map's reading leads to. -/
structure MpD (D : DataW Value) (L : List Ng) : Prop where
  sz : size D = L.length
  hs : ∀ l : Lit, has D l = true ↔ ∃ n ∈ L, kl n.i n.a = l
  at_ : ∀ n ∈ L, ∀ z, D.atKey (kl n.i n.a) z = .held (.agg (ncs n).toArray)
theorem Mp.of {w : World} {mb n : Nat} {D : DataW Value} {L : List Ng} (h : w.ownsMap Try.prog 85 elV mb n D) (d : MpD D L) (nd : (L.map keyN).Nodup) (wf : ∀ n ∈ L, wfI n.i) : Mp w mb L :=
  ⟨nd, wf, D, by rw [← d.sz]; exact tight h, d.sz, d.hs, d.at_⟩
theorem MpD.del {w : World} {mb n : Nat} {D : DataW Value} {L : List Ng} (h1 : w.ownsMap Try.prog 85 elV mb n D) (d : MpD D L) (nd : (L.map keyN).Nodup) (wf : ∀ n ∈ L, wfI n.i) {i : Int} (c : Ad) (hi : wfI i) : MpD (D.del (kl i c)) (delN L i c) := by
  obtain ⟨h2, h3, h4⟩ := d
  have ti := h1.tidy keyLaw
  have hh : has D (kl i c) = L.any (keyB i c) := by
    rw [Bool.eq_iff_iff, h3, List.any_eq_true]
    constructor
    · rintro ⟨m, hm, e⟩
      exact ⟨m, hm, keyB_iff.2 (kl_inj (wf m hm) hi e)⟩
    · rintro ⟨m, hm, e⟩
      obtain ⟨e1, e2⟩ := keyB_iff.1 e
      exact ⟨m, hm, by rw [e1, e2]⟩
  have hsz : size (D.del (kl i c)) = (delN L i c).length := by
    have a1 := size_del (k := kl i c) ti
    have a2 := delN_len i c nd
    rw [hh, h2] at a1
    omega
  have hm' : ∀ {x : Ng}, x ∈ delN L i c ↔ x ∈ L ∧ keyB i c x = false := by
    intro x
    unfold delN
    rw [List.mem_filter]
    simp
  refine ⟨hsz, ?_, ?_⟩
  · intro l
    by_cases e : l = kl i c
    · subst e
      rw [has_del_same]
      refine ⟨fun h => (by cases h), ?_⟩
      rintro ⟨m, hm, e⟩
      have := (hm'.1 hm).2
      rw [keyB_iff.2 (kl_inj (wf m (hm'.1 hm).1) hi e)] at this
      cases this
    · rw [has_del_other e, h3]
      constructor
      · rintro ⟨m, hm, rfl⟩
        refine ⟨m, hm'.2 ⟨hm, ?_⟩, rfl⟩
        cases hb : keyB i c m
        · rfl
        · obtain ⟨e1, e2⟩ := keyB_iff.1 hb
          exact absurd (by rw [e1, e2]) e
      · rintro ⟨m, hm, rfl⟩
        exact ⟨m, (hm'.1 hm).1, rfl⟩
  · intro m hm z
    obtain ⟨hm1, hb⟩ := hm'.1 hm
    rw [atKey_del_other]
    · exact h4 m hm1 z
    · intro e
      rw [keyB_iff.2 (kl_inj (wf m hm1) hi e)] at hb
      cases hb
theorem Mp.d {w : World} {mb : Nat} {L : List Ng} (h : Mp w mb L) : ∃ D : DataW Value, w.ownsMap Try.prog 85 elV mb L.length D ∧ MpD D L := by
  obtain ⟨D, h1, h2, h3, h4⟩ := h.ex
  exact ⟨D, h1, h2, h3, h4⟩
section
variable {ops : Array Oper} {rest : List Oper} {op : Oper} {a : Act} {w : World} {Q : Exit → Act → World → Prop}
theorem ldK (x : Operand) (hw : Region.wanted op (yielded ops a.tmps) = true) (ho : op.op = .load 85 x) (b : Nat) (i : Int) (c : Ad) (hx : a.eval x = .pointer (some ⟨b, 0, none⟩)) (hc : Row w b 85 (kcs i c))
    (h : wpList Try.prog ops Q rest (a.put op.dst (.agg (kcs i c).toArray)) w) : wpList Try.prog ops Q (op :: rest) a w :=
  wpList_step fun K hK => by
    rw [if_pos hw]
    exact wp_load_mid _ x ho b 0 hx (kcs i c) _ hc.range Try.underlying85 rfl (by rw [infoKs, kcs_len]) (hK _ _ h)
end
/-- The bools of Drop in memory. -/
structure BlW (w : World) (p g : Nat) (bs : List Bool) : Prop where
  var : Row w p 101 [.slice (some ⟨g, 0, none⟩) bs.length bs.length]
  row : Row w g 4 (bs.map Value.bool)
theorem BlW.below {w w' : World} {p g : Nat} {bs : List Bool} (h : BlW w p g bs) (hb : Below w.heap.size w w') : BlW w' p g bs := ⟨h.var.below hb h.var.lt, h.row.below hb h.row.lt⟩
theorem drop1_any (i : Int) (c : Ad) (n : Ng) (p g : Nat) (bs : List Bool) (b : Bool) (w : World) (h : BlW w p g bs) (i0 : 0 ≤ i) (hb : bs[i.toNat]? = some b) : Calls Try.prog 42 #[.agg (kcs i c).toArray, nV n, .pointer (some ⟨p, 0, none⟩)] w (Gives w (.bool b)) := by
  obtain ⟨j, rfl⟩ : ∃ j : Nat, i = j := ⟨i.toNat, by omega⟩
  rw [Int.toNat_natCast] at hb
  have hj : j < bs.length := (List.getElem?_eq_some_iff.1 hb).1
  have hji : (j : Int) < (bs.length : Int) := by omega
  obtain ⟨hB, r0, r1⟩ := low_rows w (kcs j c) (ncs n) 85 55
  have hX := h.below hB
  have c1 := hX.var.cell 0
  have c2 : _ = some (Value.bool b) := (hX.row.cell j).trans (by rw [List.getElem?_map, hb]; rfl)
  have c3 : _ = some (Value.int .i64 (j : Int)) := r0.cell 0
  simp only [List.getElem?_cons_zero] at c1
  go_enter Try.func42, Try.ntmps42
  go_upto_region 1 with fail
  refine name_world (R := fun W => Code.wp _ _ _ _ W) (P := fun W => Below w.heap.size w W ∧ W.cell? ⟨p, 0, none⟩ = some (.slice (some ⟨g, 0, none⟩) bs.length bs.length) ∧ W.cell? ⟨g, j, none⟩ = some (.bool b) ∧ W.cell? ⟨w.heap.size, 0, none⟩ = some (.int .i64 (j : Int))) _ ⟨hB, c1, c2, c3⟩ ?_
  clear hB r0 r1 hX c1 c2 c3 h hb hj
  rintro X ⟨hB, c1, c2, c3⟩
  go_wp2_with fail
  go_ret
  exact ⟨rfl, hB⟩
theorem MpD.perm {D : DataW Value} {L L' : List Ng} (h : MpD D L) (hp : L'.Perm L) : MpD D L' :=
  ⟨by rw [hp.length_eq]; exact h.sz, fun l => by rw [h.hs]; exact ⟨fun ⟨n, hn, e⟩ => ⟨n, hp.mem_iff.2 hn, e⟩, fun ⟨n, hn, e⟩ => ⟨n, hp.mem_iff.1 hn, e⟩⟩, fun n hn => h.at_ n (hp.mem_iff.1 hn)⟩
/-- Who has come up, who is left to come, and who is still there. -/
structure DfI (L : List Ng) (q : Ng → Bool) (D : DataW Value) (left : Lit → Bool) (ss rs : List Ng) : Prop where
  pm : (ss ++ rs).Perm L
  lf : ∀ l, left l = true ↔ ∃ n ∈ rs, kl n.i n.a = l
  md : MpD D (ss.filter q ++ rs)
theorem DfI.step {L : List Ng} {q : Ng → Bool} {D : DataW Value} {left : Lit → Bool} {ss rs : List Ng} (h : DfI L q D left ss rs) (hw : ∀ n ∈ L, wfI n.i) (hd : (L.map keyN).Nodup) {l : Lit} (hl : left l = true) :
    ∃ n rs', n ∈ L ∧ kl n.i n.a = l ∧ (∀ z, D.atKey l z = .held (nV n)) ∧ (q n = true → DfI L q D (fun z => left z && !z.sameKey l) (ss ++ [n]) rs') ∧
      (q n = false → ∀ (w : World) (mb k : Nat), w.ownsMap Try.prog 85 elV mb k D → DfI L q (D.del l) (fun z => (left z && !z.sameKey l) && !z.sameKey l) (ss ++ [n]) rs') := by
  obtain ⟨n, hn, rfl⟩ := (h.lf l).1 hl
  obtain ⟨r1, r2, rfl⟩ := List.append_of_mem hn
  have hL : ∀ m, m ∈ ss ++ (r1 ++ n :: r2) ↔ m ∈ L := fun m => h.pm.mem_iff
  have hnL : n ∈ L := (hL n).1 (by simp)
  have hnd : ((ss ++ (r1 ++ n :: r2)).map keyN).Nodup := (h.pm.map _).nodup_iff.2 hd
  have hp : ((ss ++ [n]) ++ (r1 ++ r2)).Perm L := by
    refine List.Perm.trans ?_ h.pm
    rw [List.append_assoc]
    exact List.Perm.append_left ss (by simpa using (List.perm_middle (a := n) (l₁ := r1) (l₂ := r2)).symm)
  have hsplit : ∀ m ∈ ss ++ (r1 ++ r2), keyN m ≠ keyN n := by
    have h1 : ((n :: (ss ++ (r1 ++ r2))).map keyN).Nodup := by
      refine (List.Perm.nodup_iff (List.Perm.map keyN ?_)).1 hnd
      have : (ss ++ r1 ++ n :: r2).Perm (n :: (ss ++ r1 ++ r2)) := List.perm_middle
      simpa [List.append_assoc] using this
    rw [List.map_cons, List.nodup_cons] at h1
    intro m hm e
    exact h1.1 (e ▸ List.mem_map_of_mem hm)
  have hne : ∀ m ∈ r1 ++ r2, kl m.i m.a ≠ kl n.i n.a := fun m hm e => by
    have hmL : m ∈ L := (hL m).1 (by simp at hm ⊢; rcases hm with h | h <;> simp [h])
    obtain ⟨e1, e2⟩ := kl_inj (hw m hmL) (hw n hnL) e
    exact hsplit m (List.mem_append_right _ hm) (by unfold keyN; rw [e1, e2])
  have hleft : ∀ z, (left z && !z.sameKey (kl n.i n.a)) = true ↔ ∃ m ∈ r1 ++ r2, kl m.i m.a = z := by
    intro z
    rw [Bool.and_eq_true, h.lf]
    constructor
    · rintro ⟨⟨m, hm, rfl⟩, hs⟩
      refine ⟨m, ?_, rfl⟩
      rcases List.mem_append.1 hm with h | h
      · exact List.mem_append_left _ h
      · rcases List.mem_cons.1 h with rfl | h
        · rw [WideAt.sameKey_self (kl_key _ (hw m hnL))] at hs
          cases hs
        · exact List.mem_append_right _ h
    · rintro ⟨m, hm, rfl⟩
      refine ⟨⟨m, ?_, rfl⟩, ?_⟩
      · rcases List.mem_append.1 hm with h | h
        · exact List.mem_append_left _ h
        · exact List.mem_append_right _ (List.mem_cons_of_mem _ h)
      · rw [sameKey_ne (hne m hm)]; rfl
  refine ⟨n, r1 ++ r2, hnL, rfl, h.md.at_ n (by simp), fun hq => ⟨hp, hleft, h.md.perm ?_⟩, fun hq w mb k ho => ⟨hp, fun z => ?_, ?_⟩⟩
  · rw [List.filter_append]
    simp only [List.filter_cons, hq, if_true, List.filter_nil]
    rw [List.append_assoc]
    exact List.Perm.append_left _ (by simpa using (List.perm_middle (a := n) (l₁ := r1) (l₂ := r2)).symm)
  · rw [Bool.and_eq_true, hleft]
    constructor
    · exact fun h => h.1
    · rintro ⟨m, hm, rfl⟩
      exact ⟨⟨m, hm, rfl⟩, by rw [sameKey_ne (hne m hm)]; rfl⟩
  · have hsub : ((ss.filter q ++ (r1 ++ n :: r2)).map keyN).Nodup := List.Nodup.sublist (List.Sublist.map _ (List.Sublist.append_right List.filter_sublist _)) hnd
    have hwf : ∀ m ∈ ss.filter q ++ (r1 ++ n :: r2), wfI m.i := fun m hm => hw m ((hL m).1 (by
      rcases List.mem_append.1 hm with h | h
      · exact List.mem_append_left _ (List.mem_filter.1 h).1
      · exact List.mem_append_right _ h))
    have hdel := MpD.del ho h.md hsub hwf n.a (hw n hnL)
    have e1 : delN (ss.filter q ++ (r1 ++ n :: r2)) n.i n.a = (ss.filter q ++ r1) ++ r2 := by
      rw [← List.append_assoc]
      refine delN_mid (n := n) (n' := n) (keyB_iff.2 ⟨rfl, rfl⟩) (fun x hx => ?_) (fun x hx => ?_)
      · cases hb : keyB n.i n.a x
        · rfl
        · exact absurd (keyN_iff.2 hb) (hsplit x (by
            rcases List.mem_append.1 hx with h | h
            · exact List.mem_append_left _ (List.mem_filter.1 h).1
            · exact List.mem_append_right _ (List.mem_append_left _ h)))
      · cases hb : keyB n.i n.a x
        · rfl
        · exact absurd (keyN_iff.2 hb) (hsplit x (List.mem_append_right _ (List.mem_append_right _ hx)))
    rw [e1] at hdel
    have e2 : (ss ++ [n]).filter q ++ (r1 ++ r2) = (ss.filter q ++ r1) ++ r2 := by
      rw [List.filter_append]
      simp [List.filter_cons, hq]
    rw [e2]
    exact hdel
theorem DfI.done {L : List Ng} {q : Ng → Bool} {D : DataW Value} {left : Lit → Bool} {ss rs : List Ng} (h : DfI L q D left ss rs) (hl : ∀ l, left l = false) : rs = [] := by
  cases rs with
  | nil => rfl
  | cons n r =>
    have := (h.lf (kl n.i n.a)).2 ⟨n, by simp, rfl⟩
    rw [hl] at this
    cases this
set_option maxHeartbeats 8000000 in
theorem deleteF_any (mb p g : Nat) (bs : List Bool) (L : List Ng) (w : World) (hm : Mp w mb L) (hb : BlW w p g bs) (hL : ∀ n ∈ L, 0 ≤ n.i ∧ n.i.toNat < bs.length) :
    Calls Try.prog 41 #[.map (some mb), .func (.func 42) #[] #[.pointer (some ⟨p, 0, none⟩)]] w fun e w' => e = .returned (.tuple #[]) ∧ w.grownBy w' (some mb) ∧ ∃ L', L'.Perm (L.filter (fun n => !bs.getD n.i.toNat false)) ∧ Mp w' mb L' := by
  obtain ⟨D, hown, hmd⟩ := hm.d
  have hwf := hm.wf
  have hnd := hm.nd
  have hmb := hm.lt
  have hpm : p ≠ mb := hm.ne_row hb.var
  have hgm : g ≠ mb := hm.ne_row hb.row
  have hpl := hb.var.lt
  have hgl := hb.row.lt
  have HB : Hid (∀ W, w.grownBy W (some mb) → BlW W p g bs) := fun W hW => ⟨(hW.block p hpl (fun e => hpm (by cases e; rfl))).trans hb.var, (hW.block g hgl (fun e => hgm (by cases e; rfl))).trans hb.row⟩
  clear hm hb
  go_enter Try.func41, Try.ntmps41
  go_wp2_with (first
    | (at_range; refine wpList_range_own _ rfl _ 74 rfl 85 55 keyLaw Try.underlying74 elV mb L.length D rfl hown ?_; intro w0 hrg0 hg0 hs0))
  go_frame
  go_loopw [4, 5] (fun _ _ wr => ∃ (D' : DataW Value) (left : Lit → Bool) (cnt : Nat) (ss rs : List Ng), wr.ranges Try.prog 85 elV mb w.heap.size L.length D' left cnt ∧ DfI L (fun n => !bs.getD n.i.toNat false) D' left ss rs ∧ w.grownBy wr (some mb))
    (fun _ _ wr => wr.rangeLeft mb w.heap.size)
  case atStart => exact ⟨D, _, _, [], L, hrg0, ⟨by simp, hmd.hs, by simpa using hmd⟩, hg0.but _⟩
  case round =>
    clear hrg0 hg0 hown hmd
    obtain ⟨D', left, cnt, ss, rs, hrg, hI, hgw⟩ := hrel
    go_wp2_with (first
      | (at_next; refine wpList_next_ranges _ rfl _ rfl 85 keyLaw elV id id (fun key _ _ => ⟨key, rfl⟩) (fun v _ _ => ⟨v, rfl⟩) mb w.heap.size L.length _ _ _ rfl hrg ?_ ?_))
    · intro _ hl0
      go_wp2_with fail
      go_end0
      obtain rfl := hI.done hl0
      refine ⟨rfl, hgw, ss.filter (fun n => !bs.getD n.i.toNat false), ?_, ?_⟩
      · have := hI.pm
        rw [List.append_nil] at this
        exact this.filter _
      · have hp : ss.Perm L := by have := hI.pm; rwa [List.append_nil] at this
        refine Mp.of hrg.owns (by have := hI.md; rwa [List.append_nil] at this) ?_ ?_
        · exact List.Nodup.sublist (List.Sublist.map _ List.filter_sublist) ((hp.map _).nodup_iff.2 hnd)
        · intro n hn
          exact hwf n (hp.mem_iff.1 (List.mem_filter.1 hn).1)
    · intro x c lk yd yp w1 cnt1 hkey hlk hv hat hrg1 hlt hg1 hs1 hen
      obtain ⟨n, rs', hnL, rfl, hatn, hk1, hk2⟩ := hI.step hwf hnd hlk
      have hx : x = .agg (kcs n.i n.a).toArray := keyLaw.inj hkey (kl_of n.a (hwf n hnL))
      have hc : c = nV n := by
        have e := hat (.held (nV n))
        rw [hatn] at e
        have hv' : some (DataW.held c, ([] : List MemPlace)) = some (yd, yp) := hv
        cases hv'
        injection e with e
        exact e.symm
      subst hx hc
      have hgw1 : w.grownBy w1 (some mb) := hgw.andThen hg1 (fun j hj => by cases hj; exact Or.inl (Nat.le_refl _))
      obtain ⟨b, hbn⟩ : ∃ b, bs[n.i.toNat]? = some b := ⟨_, List.getElem?_eq_getElem (hL n hnL).2⟩
      have hqn : (!bs.getD n.i.toNat false) = !b := by simp [List.getD, hbn]
      rw [hqn] at hk1 hk2
      have i0 := (hL n hnL).1
      have hkn := kl_of n.a (hwf n hnL)
      have hD1 : ∀ W, w.grownBy W (some mb) → Calls Try.prog 42 #[.agg (kcs n.i n.a).toArray, nV n, .pointer (some ⟨p, 0, none⟩)] W (Gives W (.bool b)) := fun W hW => drop1_any n.i n.a n p g bs b W (HB.out W hW) i0 hbn
      have hsz1 : w.heap.size < w1.heap.size := hrg1.lt
      have HI1 : Hid ((!b) = true → DfI L (fun n => !bs.getD n.i.toNat false) D' (fun z => left z && !z.sameKey (kl n.i n.a)) (ss ++ [n]) rs') := hk1
      have HI2 : Hid ((!b) = false → DfI L (fun n => !bs.getD n.i.toNat false) (D'.del (kl n.i n.a)) (fun z => (left z && !z.sameKey (kl n.i n.a)) && !z.sameKey (kl n.i n.a)) (ss ++ [n]) rs') := fun hq => hk2 hq _ _ _ hrg1.owns
      have HCN : Hid (wr.rangeLeft mb w.heap.size = cnt) := hrg.left_eq
      have HLT : Hid (cnt1 < cnt) := hlt
      clear hk1 hk2 hqn hbn hat hatn hv hkey hlk hI hg1 hs1 hL hwf hnd HB hrg hlt
      have HR0 : Hid (w1.ranges Try.prog 85 elV mb w.heap.size L.length D' (fun z => left z && !z.sameKey (kl n.i n.a)) cnt1 ∧ w.grownBy w1 (some mb)) := ⟨hrg1, hgw1⟩
      have HGo : Hid (∀ W, Below w1.heap.size w1 W → W.ranges Try.prog 85 elV mb w.heap.size L.length D' (fun z => left z && !z.sameKey (kl n.i n.a)) cnt1 ∧ w.grownBy W (some mb)) := fun W hW => by
        have hg : w1.grownBy W none := ⟨hW.os, hW.tape, hW.output, hW.size, fun i hi _ => hW.block i hi⟩
        exact ⟨HR0.out.1.kept hg (by simp) (by simp), grown_below2 HR0.out.2 hW⟩
      clear hrg1 hgw1
      cases b with
      | false =>
        go_wp2_with (first
          | (have kk := q5; go_at_call 42; refine (hD1 _ (HGo.out _ b5).2).mono ?_; rintro e w6 ⟨rfl, b6⟩; replace b5 := bt b5 b6; clear q4 q5)
          | (have kk := q5; refine ldN (.tmp 5) rfl rfl _ _ n rfl q5.range ?_)
          | (have kk := q5; refine ldK (.tmp 4) rfl rfl _ n.i n.a rfl q4 ?_)
          | (have kk := q4; refine stN (.tmp 5) (.tmp 12) rfl rfl g3 n _ rfl rfl r3 ?_; intro W5 g5 q5; replace b5 := grown_below g5 b5 hge3' b5.size; replace q4 := q4.keep g5 hne43; clear r3)
          | (have kk := r3; refine stK (.tmp 4) (.tmp 11) rfl rfl g2 n.i n.a _ _ rfl rfl r2 ?_; intro W4 g4 q4; have b5 := grown_below g4 b3 hge2 b3.size; replace r3 := r3.keep g4 (Ne.symm hne43); clear r2)
          | (have kk := r2; refine alG infoNz rfl rfl ?_; intro g3 W3 hge3 hgl3 hB3 r3; replace r2 := r2.below hB3 hgl2; have b3 := bt hB2 hB3; have hge3' : w1.heap.size ≤ g3 := (Nat.le_trans hB2.size hge3); have hne43 : g2 ≠ g3 := (by omega))
          | (refine alG infoKz rfl rfl ?_; intro g2 W2 hge2 hgl2 hB2 r2))
        obtain ⟨hrg6, hgw6⟩ := HGo.out _ b5
        go_roundw
        case rel => exact ⟨_, _, cnt1, ss ++ [n], rs', hrg6, HI1.out rfl, hgw6⟩
        case measure => rw [hrg6.left_eq, HCN.out]; exact HLT.out
      | true =>
        go_wp2_with (first
          | (have kk := hrg6; at_delete; refine wpList_delete_ranges _ rfl _ _ 74 85 rfl 55 keyLaw Try.underlying74 elV mb w.heap.size L.length _ _ _ rfl hrg6 _ _ rfl hkn ?_; intro w7 cnt7 hrg7 hle hturn; go_frame)
          | (have kk := hrg6; refine ldK (.tmp 4) rfl rfl _ n.i n.a rfl q4 ?_)
          | (have kk := q5; go_at_call 42; refine (hD1 _ (HGo.out _ b5).2).mono ?_; rintro e w6 ⟨rfl, b6⟩; replace q4 := q4.below b6 q4.lt; replace b5 := bt b5 b6; clear q5; obtain ⟨hrg6, hgw6⟩ := HGo.out _ b5)
          | (have kk := q5; refine ldN (.tmp 5) rfl rfl _ _ n rfl q5.range ?_)
          | (have kk := q5; refine ldK (.tmp 4) rfl rfl _ n.i n.a rfl q4 ?_)
          | (have kk := q4; refine stN (.tmp 5) (.tmp 12) rfl rfl g3 n _ rfl rfl r3 ?_; intro W5 g5 q5; replace b5 := grown_below g5 b5 hge3' b5.size; replace q4 := q4.keep g5 hne43; clear r3)
          | (have kk := r3; refine stK (.tmp 4) (.tmp 11) rfl rfl g2 n.i n.a _ _ rfl rfl r2 ?_; intro W4 g4 q4; have b5 := grown_below g4 b3 hge2 b3.size; replace r3 := r3.keep g4 (Ne.symm hne43); clear r2)
          | (have kk := r2; refine alG infoNz rfl rfl ?_; intro g3 W3 hge3 hgl3 hB3 r3; replace r2 := r2.below hB3 hgl2; have b3 := bt hB2 hB3; have hge3' : w1.heap.size ≤ g3 := (Nat.le_trans hB2.size hge3); have hne43 : g2 ≠ g3 := (by omega))
          | (refine alG infoKz rfl rfl ?_; intro g2 W2 hge2 hgl2 hB2 r2))
        go_roundw
        case rel => exact ⟨_, _, cnt7, ss ++ [n], rs', hrg7, HI2.out rfl, grownBy_trans hgw6 hturn.grown⟩
        case measure => rw [hrg7.left_eq, HCN.out]; have := HLT.out; omega
end Go.Proofs.Ytacadlbhgelncaa
