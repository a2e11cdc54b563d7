/-
  The method packet, check and Size of package pack.
-/
import Derived.Test.YtdibjgcokebfbaaGreatM16
import Derived.Test.YtdibjgcokebfbaaGreatM20
namespace Go.Proofs.YtdibjgcokebfbaaGreat
open Go.RowKit
set_option linter.unusedSimpArgs false
set_option maxRecDepth 20000

/-- Pieces that can be joined. -/
def PkOk (l : List PK) : Prop := ∀ p ∈ l, p.1 ≠ 0 ∧ p.2.length ≤ 255
theorem encK_len (l : List PK) (h : PkOk l) : (l.flatMap encK).length = lenP l := by
  induction l with
  | nil => rfl
  | cons p l ih =>
    have h1 := (h p (by simp)).1
    have h2 := ih (fun q hq => h q (by simp [hq]))
    rw [List.flatMap_cons, List.length_append, h2]
    unfold encK lenP
    rw [if_neg h1]
    simp
    omega
theorem joinL_keys (ps : List Pc) (W : World) (B : Nat) (h : Bods B W ps) : joinL ps = (keys ps).flatMap encK := by
  unfold joinL keys
  rw [List.flatMap_map]
  have : ∀ p ∈ ps, encP p = encK (p.t, p.l) := fun p hp => by
    unfold encP encK
    rw [(own_srcP (h p hp)).blen]
  clear h
  induction ps with
  | nil => rfl
  | cons p ps ih => rw [List.flatMap_cons, List.flatMap_cons, this p (by simp), ih (fun q hq => this q (by simp [hq]))]
theorem chkE_keys (ps : List Pc) (W : World) (B : Nat) (h : Bods B W ps) (hk : PkOk (keys ps)) : chkE ps = 0 := by
  have hb : ∀ p ∈ ps, badP p = false ∧ longP p = false := fun p hp => by
    have h1 := hk (p.t, p.l) (List.mem_map.2 ⟨p, hp, rfl⟩)
    have h2 := (own_srcP (h p hp)).blen
    unfold badP longP
    simp only at h1
    refine ⟨?_, ?_⟩
    · simp [h1.1]
    · simp; omega
  unfold chkE
  rw [if_neg, if_neg]
  · rw [List.any_eq_true]; rintro ⟨p, hp, h1⟩; rw [(hb p hp).2] at h1; cases h1
  · rw [List.any_eq_true]; rintro ⟨p, hp, h1⟩; rw [(hb p hp).1] at h1; cases h1
theorem pkt_any (B : Nat) (w : World) (P : Nat) (d : DS) (a : Option Addr) (n c : Nat) (ps : List Pc) (hd : Dr B w P d a n c ps) (hk : PkOk d.ps) (hl : lenP d.ps ≤ 65535) (hn : n ≤ 1000000) :
    Calls Tryz.prog 23 #[.pointer (some ⟨P, 0, none⟩)] w (LaidN w (pktD d)) := by
  have hkp := hd.keys
  have e1 : joinL ps = d.ps.flatMap encK := by rw [joinL_keys ps w B hd.bods, hkp]
  have e2 : (d.ps.flatMap encK).length = lenP d.ps := encK_len d.ps hk
  obtain ⟨L, hL⟩ : ∃ L, d.ps.flatMap encK = L := ⟨_, rfl⟩
  have HJ : Hid (Calls Tryz.prog 50 #[.slice a n c] w fun e w' => ∃ a m c, e = .returned (.tuple #[.slice a m c, .int .i64 0]) ∧ Src w' a m c (bcells L) ∧ Hid (m ≤ 65535) ∧ Below w.heap.size w w') := by
    refine (join_ok a n c ps w (own_rws hd.own hd.bods) (by omega) (chkE_keys ps w B hd.bods (by rw [hkp]; exact hk)) (by rw [e1, e2]; omega)).mono ?_
    rintro e w' ⟨a1, c1, rfl, o1, b1⟩
    rw [e1, hL] at o1 ⊢
    exact ⟨a1, _, c1, rfl, own_srcP o1, (by show _ ≤ _; rw [← hL, e2]; exact hl), b1⟩
  have HE : Hid (pktD d = pkL L) := by show _ = _; unfold pktD; rw [hL]
  rw [HE.out]
  have HK : Hid (∀ W a m c, Src W a m c (bcells L) → Hid (m ≤ 65535) → Calls Tryz.prog 51 #[.slice a m c] W fun e w' => ∃ a m c, e = .returned (.tuple #[.slice a m c, .int .i64 0]) ∧ w'.ownsRow W.heap.size 5 1 (.slice a m c) m (bcells (pkL L)) ∧ Below W.heap.size W w') := fun W a m c hs hm => by
    refine (packet_ok a m c L W hs hm).mono ?_
    rintro e w' ⟨a1, c1, rfl, o1, b1⟩
    exact ⟨a1, _, c1, rfl, o1, b1⟩
  have c43 := (d42 hd.row).2
  generalize pkL L = M at *
  clear hd hk hl hkp e1 e2 hL HE
  go_enter Tryz.func23, Tryz.ntmps23
  go_wp2_with (first
    | (go_at_call 51; have kk := b1; refine (HK.out _ _ _ _ s1 hm1).mono ?_; rintro e w2 ⟨a2, m2, c2, rfl, o2, b2⟩)
    | (go_at_call 50; refine HJ.out.mono ?_; rintro e w1 ⟨a1, m1, c1, rfl, s1, hm1, b1⟩))
  go_ret
  exact ⟨a2, m2, c2, rfl, own_le o2 b1.size, bt b1 b2⟩
/-! ### check and Size -/
theorem pcheck_any (t : Tl) (w : World) (ht : TSrc w t) (hn : t.sn ≤ 100000) : Calls Tryz.prog 21 #[.agg (tcells t).toArray] w (Gives w (.int .i64 (ckP t.key))) := by
  have HC : Hid (∀ W, Below w.heap.size w W → Calls Tryz.prog 37 #[.agg (tcells t).toArray] W fun e w' => e = .returned (.int .i64 (chkT t.key)) ∧ Below W.heap.size W w') := fun W hW => checkT_any t W (Src.below ht hW (Src.lt ht)) hn
  have HW := isWay_any t
  have HF := fam_any t.ad
  have HP := pfam_any t.pr.d
  have RT := Row.new w 45 (tcells t)
  have HE : Hid (ckP t.key = if chkT t.key ≠ 0 then chkT t.key else if wayB t.key = true ∧ famA t.ad ≠ famP t.pr.d then 2 else 0) := (rfl : _ = _)
  rw [HE.out]
  clear HE ht hn
  generalize chkT t.key = z at *
  generalize wayB t.key = b at *
  generalize famA t.ad = f at *
  generalize famP t.pr.d = g at *
  have B0 := ba w (.cells (tcells t).toArray 45)
  by_cases hz : z = 0
  · subst hz
    rw [if_neg (by simp)]
    cases b
    · rw [if_neg (by simp)]
      go_enter Tryz.func21, Tryz.ntmps21
      go_wp2_with (first
        | (go_at_call 37; refine (HC.out _ B0).mono ?_; rintro e w1 ⟨rfl, b1⟩; have rq1 := RT.below b1 RT.lt)
        | (refine ldT (.tmp 1) (by rfl) rfl w.heap.size t rfl RT ?_))
      have rX := rq1.below (bd w1) rq1.lt
      have bX := bt (bt B0 b1) (bd w1)
      refine wp_region_noPanic ?_
      refine wp_region_held_drew (S := fun W => Row W w.heap.size 45 (tcells t)) (by kernel_rfl) (rX) (fun hHeld => ?_)
      refine tL 0 rfl (yT t (fun W hW => hW) (by rfl) rfl rfl) ?_
      refine r1 1 fun K hK => ?_
      go_simp
      refine (HW _).mono ?_
      rintro e w2 ⟨rfl, d1⟩
      replace bX := bt bX d1
      replace rX := rX.below d1 rX.lt
      refine oK hK (by exact rX) fun hHeld => ?_
      clear hK K
      refine tA 2 ?_
      refine tN 3 ?_
      refine tN 4 ?_
      refine tN 5 ?_
      refine tN 6 ?_
      refine tN 7 ?_
      refine tN 8 ?_
      refine tN 9 ?_
      refine tN 10 ?_
      refine tA 11 ?_
      refine dN ?_
      refine NoPanic.normal ?_
      go_wp2
      go_ret
      exact ⟨rfl, bX⟩
    · by_cases hfg : f = g
      · subst hfg
        rw [if_neg (by simp)]
        go_enter Tryz.func21, Tryz.ntmps21
        go_wp2_with (first
          | (go_at_call 37; refine (HC.out _ B0).mono ?_; rintro e w1 ⟨rfl, b1⟩; have rq1 := RT.below b1 RT.lt)
          | (refine ldT (.tmp 1) (by rfl) rfl w.heap.size t rfl RT ?_))
        have rX := rq1.below (bd w1) rq1.lt
        have bX := bt (bt B0 b1) (bd w1)
        refine wp_region_noPanic ?_
        refine wp_region_held_drew (S := fun W => Row W w.heap.size 45 (tcells t)) (by kernel_rfl) (rX) (fun hHeld => ?_)
        refine tL 0 rfl (yT t (fun W hW => hW) (by rfl) rfl rfl) ?_
        refine r1 1 fun K hK => ?_
        go_simp
        refine (HW _).mono ?_
        rintro e w2 ⟨rfl, d1⟩
        replace bX := bt bX d1
        replace rX := rX.below d1 rX.lt
        refine oK hK (by exact rX) fun hHeld => ?_
        clear hK K
        refine tA 2 ?_
        refine tA 3 ?_
        refine tL 4 rfl (yA t.ad (fun W hW => hW.rAd) (by rfl) rfl rfl) ?_
        refine tA 6 ?_
        refine tA 7 ?_
        refine tL 8 rfl (yP t.pr.d (fun W hW => hW.rPr.d) (by rfl) rfl rfl) ?_
        refine r1 5 fun K hK => ?_
        go_simp
        refine (HF _).mono ?_
        rintro e w2 ⟨rfl, d1⟩
        replace bX := bt bX d1
        replace rX := rX.below d1 rX.lt
        refine oK hK (by exact rX) fun hHeld => ?_
        clear hK K
        refine r1 9 fun K hK => ?_
        go_simp
        refine (HP _).mono ?_
        rintro e w2 ⟨rfl, d1⟩
        replace bX := bt bX d1
        replace rX := rX.below d1 rX.lt
        refine oK hK (by exact rX) fun hHeld => ?_
        clear hK K
        refine tA 10 ?_
        refine tA 11 ?_
        refine dN ?_
        refine NoPanic.normal ?_
        go_wp2
        go_ret
        exact ⟨rfl, bX⟩
      · rw [if_pos ⟨rfl, hfg⟩]
        have hne : (f != g) = true := by simpa using hfg
        have hne' : (f == g) = false := by simpa using hfg
        clear hfg
        go_enter Tryz.func21, Tryz.ntmps21
        go_wp2_with (first
          | (go_at_call 37; refine (HC.out _ B0).mono ?_; rintro e w1 ⟨rfl, b1⟩; have rq1 := RT.below b1 RT.lt)
          | (refine ldT (.tmp 1) (by rfl) rfl w.heap.size t rfl RT ?_))
        have rX := rq1.below (bd w1) rq1.lt
        have bX := bt (bt B0 b1) (bd w1)
        refine wp_region_noPanic ?_
        refine wp_region_held_drew (S := fun W => Row W w.heap.size 45 (tcells t)) (by kernel_rfl) (rX) (fun hHeld => ?_)
        refine tL 0 rfl (yT t (fun W hW => hW) (by rfl) rfl rfl) ?_
        refine r1 1 fun K hK => ?_
        go_simp
        refine (HW _).mono ?_
        rintro e w2 ⟨rfl, d1⟩
        replace bX := bt bX d1
        replace rX := rX.below d1 rX.lt
        refine oK hK (by exact rX) fun hHeld => ?_
        clear hK K
        refine tA 2 ?_
        refine tA 3 ?_
        refine tL 4 rfl (yA t.ad (fun W hW => hW.rAd) (by rfl) rfl rfl) ?_
        refine tA 6 ?_
        refine tA 7 ?_
        refine tL 8 rfl (yP t.pr.d (fun W hW => hW.rPr.d) (by rfl) rfl rfl) ?_
        refine r1 5 fun K hK => ?_
        go_simp
        refine (HF _).mono ?_
        rintro e w2 ⟨rfl, d1⟩
        replace bX := bt bX d1
        replace rX := rX.below d1 rX.lt
        refine oK hK (by exact rX) fun hHeld => ?_
        clear hK K
        refine r1 9 fun K hK => ?_
        go_simp
        refine (HP _).mono ?_
        rintro e w2 ⟨rfl, d1⟩
        replace bX := bt bX d1
        replace rX := rX.below d1 rX.lt
        refine oK hK (by exact rX) fun hHeld => ?_
        clear hK K
        refine tA 10 ?_
        refine tA 11 ?_
        refine dN ?_
        refine NoPanic.normal ?_
        go_wp2
        go_ret
        exact ⟨rfl, bX⟩
  · rw [if_pos hz]
    have hne : (z != 0) = true := by simpa using hz
    clear hz
    go_enter Tryz.func21, Tryz.ntmps21
    go_wp2_with (first
      | (go_at_call 37; refine (HC.out _ B0).mono ?_; rintro e w1 ⟨rfl, b1⟩)
      | (refine ldT (.tmp 1) (by rfl) rfl w.heap.size t rfl RT ?_))
    go_ret
    exact ⟨rfl, bt B0 b1⟩
theorem chkQ_fit {q : Pr} (h : chkQ q = 0) : 0 ≤ q.d.n ∧ q.d.n ≤ 128 ∧ 0 ≤ q.s.n ∧ q.s.n ≤ 128 := by
  unfold chkQ orI at h
  have h1 := chk_or q.d
  have h2 := chk_or q.s
  rcases h1 with ⟨e1, a1, a2, _⟩ | e1
  · rcases h2 with ⟨e2, b1, b2, _⟩ | e2
    · exact ⟨a1, a2, b1, b2⟩
    · rw [e1, e2] at h; simp at h
  · rw [e1] at h; simp at h
theorem chkT_zero {k : TK} (h : chkT k = 0) : namB k.ty = true ∧ unK k = { zeroK with ty := k.ty } ∧ fitB k = true ∧ chkQ k.pr = 0 := by
  unfold chkT at h
  split at h
  · rename_i h1
    simp only [Bool.and_eq_true] at h1
    exact ⟨h1.1, (sameB_iff _ _).1 h1.2.1, h1.2.2, h⟩
  · cases h
theorem TOk.of {k : TK} (hf : TFit k) (h : chkT k = 0) : TOk k := by
  obtain ⟨h1, h2, h3, h4⟩ := chkT_zero h
  obtain ⟨q1, q2, q3, q4⟩ := chkQ_fit h4
  refine ⟨hf, h1, ?_, q1, q2, q3, q4⟩
  unfold fitB at h3
  have hst := congrArg TK.st h2
  unfold unK at hst
  have hz : zeroK.st = [] := rfl
  rcases namB_cases h1 with e | e | e | e | e | e | e
  all_goals simp only [e] at h3 hst
  all_goals simp at h3 hst
  all_goals first | omega | (rw [hst, hz]; simp; done) | (rcases h3.1 with q | q; rw [q]; simp; omega)
theorem bodL_len {k : TK} (h : TOk k) : (bodL k).length ≤ 255 := by
  have a1 := timL_len k.st h.st
  have a2 := whmL_len k
  have a3 := whrL_len k
  have a4 := srcL_len k.pr
  have a5 := k.id.len
  rcases namB_cases h.nam with e | e | e | e | e | e | e
  · rw [bodL_2 k e]; simp [hw_len]
  · rw [bodL_3 k e]; simp [hw_len]
  · rw [bodL_4 k e]; simp [hw_len]; omega
  · rw [bodL_5 k e]; simp [hw_len]; omega
  · rw [bodL_8 k e]; simp [hw_len]; omega
  · rw [bodL_9 k e]; simp [hw_len]; omega
  · rw [bodL_10 k e]; simp [hw_len]; omega
theorem size_any (t : Tl) (w : World) (ht : TSrc w t) (hn : t.sn ≤ 100000) (hf : TFit t.key) : Calls Tryz.prog 13 #[.agg (tcells t).toArray] w (Gives w (.int .i64 ((if chkT t.key = 0 then 2 + (bodL t.key).length else 0 : Nat) : Int))) := by
  have HC : Hid (∀ W, Below w.heap.size w W → Calls Tryz.prog 37 #[.agg (tcells t).toArray] W fun e w' => e = .returned (.int .i64 (chkT t.key)) ∧ Below W.heap.size W w') := fun W hW => checkT_any t W (Src.below ht hW (Src.lt ht)) hn
  have RT := Row.new w 45 (tcells t)
  have B0 := ba w (.cells (tcells t).toArray 45)
  by_cases hz : chkT t.key = 0
  · have hok := TOk.of hf hz
    have HP : Hid (∀ W, Below w.heap.size w W → Calls Tryz.prog 39 #[.agg (tcells t).toArray] W (Pcd W (pieK t.key))) := fun W hW => piece_any t W (Src.below ht hW (Src.lt ht)) hok
    rw [hz] at HC
    rw [if_pos hz]
    have HL : Hid ((pieK t.key).2.length = (bodL t.key).length) := (rfl : _ = _)
    obtain ⟨pk, hpk⟩ : ∃ p, pieK t.key = p := ⟨_, rfl⟩
    rw [hpk] at HP HL
    obtain ⟨M, hM⟩ : ∃ m, (bodL t.key).length = m := ⟨_, rfl⟩
    rw [hM] at HL ⊢
    have hMl : M ≤ 255 := by rw [← hM]; exact bodL_len hok
    have HX : Hid (∀ W g a n c, Row W g 94 (rc ⟨pk.1, a, n, c, pk.2⟩) → Src W a n c (bcells pk.2) → Calls Tryz.prog 38 #[.slice (some ⟨g, 0, none⟩) 1 1] W fun e w' => e = .returned (.int .i64 ((2 + M : Nat) : Int)) ∧ Below W.heap.size W w') := fun W g a n c hr hs => by
      have hnn : n = M := by rw [hs.blen]; exact HL.out
      subst hnn
      have := length_any (some ⟨g, 0, none⟩) 1 1 [⟨pk.1, a, n, c, pk.2⟩] W (Rws.one hr hs) (by omega) (by simp [lenQ]; omega)
      simpa [lenQ] using this
    clear hz hpk hM ht hn hf hok
    go_enter Tryz.func13, Tryz.ntmps13
    go_wp2_with (first
      | (go_at_call 38; have kk := r3; refine (HX.out _ _ _ _ _ r3 s3).mono ?_; rintro e w4 ⟨rfl, b4⟩)
      | (have kk := b2; refine bR (.tmp 7) (by rfl) rfl ⟨pk.1, pa, pn, pc, pk.2⟩ rfl ?_; intro g3 w3 r3 d3; have s3 := s2.below d3 s2.lt)
      | (go_at_call 39; have kk := b1; refine (HP.out _ (bt B0 b1)).mono ?_; rintro e w2 ⟨pa, pn, pc, rfl, o2, b2⟩; have s2 := own_srcP o2)
      | (have kk := b1; refine ldT (.tmp 1) (by rfl) rfl w.heap.size t rfl rq1 ?_)
      | (go_at_call 37; refine (HC.out _ B0).mono ?_; rintro e w1 ⟨rfl, b1⟩; have rq1 := RT.below b1 RT.lt)
      | (refine ldT (.tmp 1) (by rfl) rfl w.heap.size t rfl RT ?_))
    go_ret
    exact ⟨rfl, bt (bt (bt (bt B0 b1) b2) d3) b4⟩
  · rw [if_neg hz]
    have hne : (chkT t.key != 0) = true := by simpa using hz
    generalize chkT t.key = z at *
    clear hz
    go_enter Tryz.func13, Tryz.ntmps13
    go_wp2_with (first
      | (go_at_call 37; refine (HC.out _ B0).mono ?_; rintro e w1 ⟨rfl, b1⟩)
      | (refine ldT (.tmp 1) (by rfl) rfl w.heap.size t rfl RT ?_))
    go_ret
    exact ⟨rfl, bt B0 b1⟩
end Go.Proofs.YtdibjgcokebfbaaGreat

namespace Go.Proofs.YtdibjgcokebfbaaGreat
open Go.RowKit
set_option linter.unusedSimpArgs false
set_option maxRecDepth 20000

theorem infoS3 : (Tryz.prog.info? 46).map (fun i => (i.zero, i.size, i.bytes)) = some (some (.slice none 0 0), 1, 24) := by kernel_rfl
theorem svcells_one (qs : List Part) : ∀ u ∈ svcells qs, u.oneCell' = true := by
  intro u hu
  simp only [svcells, List.mem_map] at hu
  obtain ⟨q, _, rfl⟩ := hu
  rfl
section
variable {ops : Array Oper} {rest : List Oper} {op : Oper} {a : Act} {w : World} {Q : Exit → Act → World → Prop} {K : Act → World → Prop} {E : Prop}
theorem wp_appS (s x : Operand) (ho : op.op = .call { callee := .builtin .append, args := #[s, x], argTypes := #[27, 27] })
    (base : Nat) (v : Value) (n : Nat) (qs : List Part) (hs : a.eval s = v) (hown : w.ownsRow base 46 1 v n (svcells qs))
    (ad : Addr) (c : Nat) (q : Part) (hx : a.eval x = .slice (some ad) 1 c) (hq : Src w (some ad) 1 c (svcells [q]))
    (hbytes : n + 1 ≤ 1000000000) (hbase : base ≤ w.heap.size)
    (h : ∀ v' w', w'.ownsRow base 46 1 v' (n + 1) (svcells (qs ++ [q])) → w.grownBy w' v.ownBlock → K (a.put op.dst v') w') : Oper.wp Tryz.prog op a w K Q := by
  obtain ⟨i0, hi, hz0, hz1, hz2⟩ := info_parts infoS3
  refine wp_append_own w s x 27 ho base 46 i0 (.slice none 0 0) 1 24 Tryz.underlying27 hi hz0 hz1 hz2 rfl (by decide) v n (svcells qs) hs hown ad 1 c (svcells [q]) hx rfl (fun j u hu => hq.cell ad rfl j u hu) (svcells_one [q]) (by unfold maxLen; omega) (by omega) hbase (fun v' w' h1 h2 _ => h v' w' ?_ h2)
  have e : svcells (qs ++ [q]) = svcells qs ++ svcells [q] := by simp [svcells]
  rw [e]
  exact h1
theorem appS (hgd : op.guard = none) (s x : Operand) (ho : op.op = .call { callee := .builtin .append, args := #[s, x], argTypes := #[27, 27] })
    (base : Nat) (v : Value) (n : Nat) (qs : List Part) (hs : a.eval s = v) (hown : w.ownsRow base 46 1 v n (svcells qs))
    (ad : Addr) (c : Nat) (q : Part) (hx : a.eval x = .slice (some ad) 1 c) (hq : Src w (some ad) 1 c (svcells [q]))
    (hbytes : n + 1 ≤ 1000000000) (hbase : base ≤ w.heap.size)
    (h : ∀ v' w', w'.ownsRow base 46 1 v' (n + 1) (svcells (qs ++ [q])) → w.grownBy w' v.ownBlock → wpList Tryz.prog ops Q rest (a.put op.dst v') w') : wpList Tryz.prog ops Q (op :: rest) a w :=
  wpList_plain hgd fun _ hK => wp_appS s x ho base v n qs hs hown ad c q hx hq hbytes hbase fun v' w' h2 h3 => hK _ _ (h v' w' h2 h3)
theorem sAppS (s x : Operand) (hw : Region.wanted op (yielded ops a.tmps) = true) (ho : op.op = .call { callee := .builtin .append, args := #[s, x], argTypes := #[27, 27] })
    (base : Nat) (v : Value) (n : Nat) (qs : List Part) (hs : a.eval s = v) (hown : w.ownsRow base 46 1 v n (svcells qs))
    (ad : Addr) (c : Nat) (q : Part) (hx : a.eval x = .slice (some ad) 1 c) (hq : Src w (some ad) 1 c (svcells [q]))
    (hbytes : n + 1 ≤ 1000000000) (hbase : base ≤ w.heap.size)
    (h : ∀ v' w', w'.ownsRow base 46 1 v' (n + 1) (svcells (qs ++ [q])) → w.grownBy w' v.ownBlock → K (a.put op.dst v') w') : if Region.wanted op (yielded ops a.tmps) = true then Oper.wp Tryz.prog op a w K Q else E := by
  rw [if_pos hw]
  exact wp_appS s x ho base v n qs hs hown ad c q hx hq hbytes hbase h
end
/-- Packets in memory of the call's own. -/
structure Ac (B : Nat) (W : World) (v : Value) (qs : List Part) : Prop where
  own : W.ownsRow B 46 1 v qs.length (svcells qs)
  bods : ∀ q ∈ qs, W.ownsRow B 5 1 (.slice q.a q.n q.c) q.n (bcells q.l)
theorem Ac.nil (B : Nat) (W : World) : Ac B W (.slice none 0 0) [] := ⟨World.ownsRow_nil _ _ _ _, fun q hq => by cases hq⟩
theorem Ac.below {B : Nat} {W W' : World} {v : Value} {qs : List Part} (h : Ac B W v qs) (hb : Below W.heap.size W W') : Ac B W' v qs :=
  ⟨own_keep h.own (grownBy_below none hb) (.inr rfl), fun q hq => own_keep (h.bods q hq) (grownBy_below none hb) (.inr rfl)⟩
theorem Ac.app {B : Nat} {W W' : World} {v v' : Value} {qs : List Part} {q : Part} (h : Ac B W v qs) (hq : W.ownsRow B 5 1 (.slice q.a q.n q.c) q.n (bcells q.l)) (own' : W'.ownsRow B 46 1 v' (qs.length + 1) (svcells (qs ++ [q]))) (hg : W.grownBy W' v.ownBlock) : Ac B W' v' (qs ++ [q]) := by
  refine ⟨by simpa using own', fun p hp => ?_⟩
  have k : W.ownsRow B 5 1 (.slice p.a p.n p.c) p.n (bcells p.l) := by
    rcases List.mem_append.1 hp with h1 | h1
    · exact h.bods p h1
    · obtain rfl : p = q := by simpa using h1
      exact hq
  exact own_keep k hg (own_apart k h.own (by decide))
theorem Dr.outer {B B' m s : Nat} {W W' : World} {P : Nat} {d : DS} {a : Option Addr} {n c : Nat} {ps : List Pc} {v : Value} {xs : List Value} (h : Dr B W P d a n c ps) (ho : W.ownsRow B' 46 s v m xs) (hg : W.grownBy W' v.ownBlock) : Dr B W' P d a n c ps :=
  ⟨h.row.grown hg (own_ne ho h.row (by decide)), h.ge, own_keep h.own hg (own_apart h.own ho (by decide)), h.bods.keep hg (fun p hp => own_apart (h.bods p hp) ho (by decide)), h.keys⟩
/-- A packet under way is as long as may be. -/
structure DOk (d : DS) (mtu : Int) : Prop where
  ok : PkOk d.ps
  room : 0 ≤ d.room
  sum : (lenP d.ps : Int) + d.room = mtu - 4
theorem lenP_append (l m : List PK) : lenP (l ++ m) = lenP l + lenP m := by simp [lenP]
theorem lenP_ge (l : List PK) : 2 * l.length ≤ lenP l := by
  induction l with
  | nil => simp [lenP]
  | cons p l ih => simp [lenP] at *; omega
theorem adrE_len (a : Ad) : (hopK a).2.length ≤ 18 := by
  unfold hopK
  have := adrL_len a
  simp; omega
theorem witP_ok (o : TS) (k : TK) (h : TOk k) : PkOk (witP o k) ∧ lenP (witP o k) ≤ 1000 := by
  have hb := bodL_len h
  have hpz : ∀ p ∈ [pieK k], p.1 ≠ 0 ∧ p.2.length ≤ 255 := fun p hp => by
    simp at hp; subst hp
    refine ⟨?_, hb⟩
    unfold pieK
    rcases namB_cases h.nam with e | e | e | e | e | e | e <;> simp [e]
  have hr : ∀ p ∈ rtrP o k, p.1 ≠ 0 ∧ p.2.length ≤ 255 := fun p hp => by
    unfold rtrP at hp
    split at hp
    · simp at hp
    · simp at hp; subst hp; unfold rtrK; simp [k.id.len]
  have hh : ∀ p ∈ hopP o k, p.1 ≠ 0 ∧ p.2.length ≤ 255 := fun p hp => by
    unfold hopP at hp
    split at hp
    · simp at hp
    · simp at hp; subst hp; have := adrE_len k.ad; refine ⟨?_, by omega⟩; simp [hopK]
  have l1 : (rtrP o k).length ≤ 1 := by unfold rtrP; split <;> simp
  have l2 : (hopP o k).length ≤ 1 := by unfold hopP; split <;> simp
  have hall : PkOk (witP o k) := fun p hp => by
    unfold witP at hp
    rcases List.mem_append.1 hp with h1 | h1
    · split at h1
      · rcases List.mem_append.1 h1 with h2 | h2
        · exact hr p h2
        · exact hh p h2
      · simp at h1
    · exact hpz p h1
  refine ⟨hall, ?_⟩
  have len : ∀ l : List PK, PkOk l → lenP l ≤ 257 * l.length := fun l hl => by
    induction l with
    | nil => simp [lenP]
    | cons p l ih =>
      have := ih (fun q hq => hl q (by simp [hq]))
      have := (hl p (by simp)).2
      simp [lenP] at *
      omega
  have := len _ hall
  have : (witP o k).length ≤ 3 := by
    unfold witP
    split <;> simp <;> omega
  omega
theorem DOk.beg (src : Ad) {mtu : Int} (h : 64 ≤ mtu) : DOk (begD src mtu) mtu := ⟨(fun p hp => absurd hp List.not_mem_nil), (by show 0 ≤ mtu - 4; omega), (by show ((0 : Nat) : Int) + (mtu - 4) = mtu - 4; omega)⟩
theorem DOk.tak {d : DS} {mtu : Int} {k : TK} (h : DOk d mtu) (hk : TOk k) (hb : takB d k = true) : DOk (takD d k) mtu := by
  unfold takB at hb
  have hb' := of_decide_eq_true hb
  refine ⟨fun p hp => ?_, by show 0 ≤ d.room - _; omega, ?_⟩
  · rcases List.mem_append.1 hp with h1 | h1
    · exact h.ok p h1
    · exact (witP_ok d.o k hk).1 p h1
  · show ((lenP (d.ps ++ witP d.o k) : Nat) : Int) + (d.room - _) = _
    rw [lenP_append]
    have := h.sum
    omega
/-- What holds in a round. -/
structure Lp (w W : World) (src : Ad) (P : Nat) (d : DS) (a : Option Addr) (n c : Nat) (ps : List Pc) (v : Value) (qs : List Part) : Prop where
  bel : Below w.heap.size w W
  rS : Row W w.heap.size 23 (acells src)
  dr : Dr w.heap.size W P d a n c ps
  ac : Ac w.heap.size W v qs
section
variable {w W W' : World} {src : Ad} {P : Nat} {d : DS} {a : Option Addr} {n c : Nat} {ps : List Pc} {v : Value} {qs : List Part}
theorem Lp.below (h : Lp w W src P d a n c ps v qs) (hb : Below W.heap.size W W') : Lp w W' src P d a n c ps v qs := ⟨bt h.bel hb, h.rS.below hb h.rS.lt, h.dr.below hb, h.ac.below hb⟩
theorem Lp.taken {d' : DS} {a' : Option Addr} {n' c' : Nat} {ps' : List Pc} (h : Lp w W src P d a n c ps v qs) (hd : Dr w.heap.size W' P d' a' n' c' ps') (hf : Fr W W' P (Value.slice a n c).ownBlock) : Lp w W' src P d' a' n' c' ps' v qs :=
  ⟨hf.bel h.dr h.bel, hf.row h.dr h.rS (by decide) (by decide), hd, ⟨hf.own h.dr h.ac.own (by decide) (by decide), fun q hq => hf.own h.dr (h.ac.bods q hq) (by decide) (by decide)⟩⟩
theorem Lp.app {v' : Value} {q : Part} (h : Lp w W src P d a n c ps v qs) (hq : W.ownsRow w.heap.size 5 1 (.slice q.a q.n q.c) q.n (bcells q.l)) (own' : W'.ownsRow w.heap.size 46 1 v' (qs.length + 1) (svcells (qs ++ [q]))) (hg : W.grownBy W' v.ownBlock) : Lp w W' src P d a n c ps v' (qs ++ [q]) :=
  ⟨h.bel.grown hg h.bel.size (fun k hk => (h.ac.own.lt k hk).1), h.rS.grown hg (own_ne h.ac.own h.rS (by decide)), h.dr.outer h.ac.own hg, h.ac.app hq own' hg⟩
/-- A store into a block of Tlv that is the call's own. -/
theorem Lp.other {g' : Nat} {cs : List Value} (h : Lp w W src P d a n c ps v qs) (hg : W.grownBy W' (some g')) (hr : Row W g' 45 cs) (hge : w.heap.size ≤ g') : Lp w W' src P d a n c ps v qs :=
  ⟨h.bel.grown hg h.bel.size (fun k hk => by cases hk; exact hge), h.rS.grown hg (fun e => (h.rS.ne hr (by decide)) (Option.some.inj e)), ⟨h.dr.row.grown hg (fun e => (h.dr.row.ne hr (by decide)) (Option.some.inj e)), h.dr.ge, own_keep h.dr.own hg (.inl fun e => own_ne h.dr.own hr (by decide) e.symm), h.dr.bods.told hg hr (by decide), h.dr.keys⟩, ⟨own_keep h.ac.own hg (.inl fun e => own_ne h.ac.own hr (by decide) e.symm), fun q hq => own_keep (h.ac.bods q hq) hg (.inl fun e => own_ne (h.ac.bods q hq) hr (by decide) e.symm)⟩⟩
end
/-- What Pack answers. -/
def Packd (w : World) (r : List (List UInt8) × Int) (e : Ending) (w' : World) : Prop := ∃ a n c qs, e = .returned (.tuple #[.slice a n c, .int .i64 r.2]) ∧ qs.map Part.l = r.1 ∧ n = qs.length ∧ Ac w.heap.size w' (.slice a n c) qs ∧ Below w.heap.size w w'
theorem Packd.no {w w' : World} {z : Int} {r : List (List UInt8) × Int} (hr : r = ([], z)) (hb : Below w.heap.size w w') : Packd w r (.returned (.tuple #[.slice none 0 0, .int .i64 z])) w'   := ⟨Option.none, 0, 0, [], by rw [hr], by rw [hr]; rfl, rfl, Ac.nil _ _, hb⟩
end Go.Proofs.YtdibjgcokebfbaaGreat
