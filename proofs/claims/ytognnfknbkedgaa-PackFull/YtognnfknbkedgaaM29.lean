/-
  What a packet tells of the pieces of Tlvs (plain facts): updates and requests for a seqno.
-/
import Derived.Test.YtognnfknbkedgaaM28
import Derived.Test.YtognnfknbkedgaaM26
namespace Go.Proofs.Ytognnfknbkedgaa
open Go.RowKit
set_option linter.unusedSimpArgs false
set_option maxRecDepth 20000

theorem id_at (i : Id8) (l : List UInt8) (p : Nat) (h : (l.drop p).take 8 = i.l) (hp : p + 8 ≤ l.length) : idF l ⟨p, 0⟩ = i := by
  unfold idF
  simp only
  rw [show (8 : Int) = ((8 : Nat) : Int) from rfl, tkB_ok _ p 8 hp, h]
  unfold spI
  rw [dif_pos (by rw [i.len]; omega)]
  apply Id8.ext
  show splice zeroI.l 0 i.l = i.l
  rw [splice_list]
  have : zeroI.l.drop (0 + i.l.length) = [] := List.drop_eq_nil_of_le (by rw [i.len, zeroI.len]; omega)
  rw [this]
  simp
theorem say_of10 (s : St) (k : TK) (hf : TFit k) (hc : chkT k = 0) (hy : k.ty = 10) : sayB s 10 (bodL k) = true ∧ sayK s 10 (bodL k) = k := by
  obtain ⟨_, h2, h3, h4⟩ := chkT_zero hc
  have e : unK k = { k with seq := 0, hops := 0, id := zeroI, pr := zeroQ } := by unfold unK; rw [if_neg (by omega), if_neg (by omega), if_neg (by omega), if_neg (by omega), if_neg (by omega), if_neg (by omega)]
  rw [e] at h2
  have ha : k.all = false := congrArg TK.all h2
  unfold fitB at h3
  rw [if_neg (by omega), if_neg (by omega), if_neg (by omega), if_neg (by omega), if_pos hy] at h3
  simp only [Bool.and_eq_true, Bool.not_eq_true', decide_eq_false_iff_not] at h3
  have hB : sayB s 10 (bodL k) = sqB s (bodL k) r0 := by unfold sayB; rw [if_neg (by omega), if_neg (by omega), if_neg (by omega), if_neg (by omega), if_neg (by omega), if_neg (by omega), if_pos rfl]
  have hK : sayK s 10 (bodL k) = sqK s (bodL k) r0 := by unfold sayK; rw [if_neg (by omega), if_neg (by omega), if_neg (by omega), if_neg (by omega), if_neg (by omega), if_neg (by omega), if_pos rfl]
  rw [hB, hK]
  have e1 : whrE k = pfxE k.pr.d := by unfold whrE; rw [ha]; rfl
  have e2 : whrN k = pfxN k.pr.d := by unfold whrN; rw [ha]; rfl
  have e3 : whrL k = pfxL k.pr.d := by unfold whrL; rw [ha]; rfl
  have hl : bodL k = [pfxE k.pr.d, UInt8.ofNat (pfxN k.pr.d)] ++ (hw k.seq ++ ([UInt8.ofNat k.hops, 0] ++ (k.id.l ++ (pfxL k.pr.d ++ srcL k.pr)))) := by rw [bodL_10 k hy, e1, e2, e3]; simp
  obtain ⟨L, hL⟩ : ∃ L, bodL k = L := ⟨_, rfl⟩
  rw [hL] at hl ⊢
  have hil := k.id.len
  have hlen : L.length = 14 + (pfxL k.pr.d).length + (srcL k.pr).length := by rw [hl]; simp [hw_len, hil]; omega
  have d6 : L.drop 6 = k.id.l ++ (pfxL k.pr.d ++ srcL k.pr) := by rw [hl]; rfl
  have d14 : L.drop 14 = pfxL k.pr.d ++ srcL k.pr := by
    rw [show 14 = 6 + k.id.l.length by rw [hil], ← List.drop_drop, d6, List.drop_left]
  obtain ⟨c1, c2, c3⟩ := chkQ_parts h4
  obtain ⟨k1, k2, k3⟩ := pfx_at s k.pr.d c1 L (srcL k.pr) 14 d14 (by omega)
  obtain ⟨j1, j2⟩ := pr_at s k.pr h4 L (14 + (pfxL k.pr.d).length) (by rw [← List.drop_drop, d14, List.drop_left]) (by omega)
  have v0 : (⟨0, 0⟩ : RS).val L 1 = (pfxE k.pr.d).toNat := by rw [val_1 _ _ (by omega), hl]; exact nv_u8 _
  have v1 : (⟨1, 0⟩ : RS).val L 1 = pfxN k.pr.d := by rw [val_1 _ _ (by omega), hl]; exact nv_one _ k3
  have v2 : (⟨2, 0⟩ : RS).val L 2 = k.seq := by rw [val_2 _ _ (by omega), hl]; exact hw_nv _ hf.seq
  have v4 : (⟨4, 0⟩ : RS).val L 1 = k.hops := by rw [val_1 _ _ (by omega), hl]; exact nv_one _ hf.hops
  have vi : idF L ⟨6, 0⟩ = k.id := id_at k.id L 6 (by rw [d6, ← hil, List.take_left]) (by omega)
  have hR : sqR L ⟨0, 0⟩ = ⟨14, 0⟩ := by
    unfold sqR
    rw [adv_1 _ _ (by omega), adv_1 _ _ (by omega), adv_2 _ _ (by omega), adv_1 _ _ (by omega), adv_1 _ _ (by omega), adv_8 _ _ (by omega)]
    simp only [Nat.zero_add, Nat.reduceAdd]
    rw [v4, vi, decide_eq_false h3.1, decide_eq_false h3.2]
    rfl
  unfold sqB sqK r0
  rw [hR, adv_1 _ _ (by omega), adv_1 _ _ (by omega), adv_2 _ _ (by omega), adv_1 _ _ (by omega), adv_1 _ _ (by omega), v0]
  simp only [Nat.zero_add, Nat.reduceAdd]
  rw [v1, v2, v4, vi, k1, k2, j1, j2]
  refine ⟨rfl, ?_⟩
  clear hL hl v0 v1 v2 v4 vi hR k1 k2 j1 j2 d6 d14 hlen hB hK e e1 e2 e3
  obtain ⟨ty, no, iv, sq, rx, me, ho, un, al, id, ad, pr, st⟩ := k
  simp only at hy
  subst hy
  simp only [TK.mk.injEq] at h2
  obtain ⟨_, h1, h5, _, h6, h7, _, h8, h9, _, h10, _, h11⟩ := h2
  subst h1 h5 h6 h7 h8 h9 h10 h11
  rfl
theorem kp_none (s : St) (ae : Nat) (a : Ad) : kpS s ae 0 a = s := by
  have h1 : (bits BinOp.and IntKind.u8 ((0 : Nat) : Int) 128 != 0) = false := by decide
  have h2 : (bits BinOp.and IntKind.u8 ((0 : Nat) : Int) 64 != 0) = false := by decide
  unfold kpS
  simp only
  rw [h1, h2]
  rfl
/-- An update is told where its router and its next hop have been. -/
theorem say_of8 (s : St) (k : TK) (hf : TFit k) (hc : chkT k = 0) (hy : k.ty = 8) (hr : wayB k = true → s.r = some k.id ∧ upHop s (famP k.pr.d) = some k.ad) : sayB s 8 (bodL k) = true ∧ sayK s 8 (bodL k) = k ∧ sayS s 8 (bodL k) = s := by
  obtain ⟨_, h2, h3, h4⟩ := chkT_zero hc
  have e : unK k = { k with intv := 0, seq := 0, met := 0, all := false, pr := zeroQ, id := zeroI, ad := zeroA } := by unfold unK; rw [if_neg (by omega), if_neg (by omega), if_neg (by omega), if_neg (by omega), if_pos hy]
  rw [e] at h2
  unfold fitB at h3
  rw [if_neg (by omega), if_neg (by omega), if_pos hy] at h3
  have hB : sayB s 8 (bodL k) = upB s (bodL k) r0 := by unfold sayB; rw [if_neg (by omega), if_neg (by omega), if_neg (by omega), if_neg (by omega), if_pos rfl]
  have hK : sayK s 8 (bodL k) = upK s (bodL k) r0 := by unfold sayK; rw [if_neg (by omega), if_neg (by omega), if_neg (by omega), if_neg (by omega), if_pos rfl]
  have hS : sayS s 8 (bodL k) = upS s (bodL k) r0 := by unfold sayS; rw [if_neg (by omega), if_neg (by omega), if_pos rfl]
  rw [hB, hK, hS]
  have hk : ∀ (q : Pr) (i : Id8) (a : Ad), k.pr = q → k.id = i → k.ad = a → (k = { zeroK with ty := 8, intv := k.intv, seq := k.seq, met := k.met, all := k.all, pr := q, id := i, ad := a }) := fun q i a hq hi hx => by
    obtain ⟨ty, no, iv, sq, rx, me, ho, un, al, id, ad, pr, st⟩ := k
    simp only at hy hq hi hx
    subst hy hq hi hx
    simp only [TK.mk.injEq] at h2
    obtain ⟨_, h1, _, _, h6, _, h8, h9, _, _, _, _, h13⟩ := h2
    subst h1 h6 h8 h9 h13
    rfl
  have hmet := hf.met
  cases ha : k.all
  · have e1 : whrE k = pfxE k.pr.d := by unfold whrE; rw [ha]; rfl
    have e2 : whrN k = pfxN k.pr.d := by unfold whrN; rw [ha]; rfl
    have e3 : whrL k = pfxL k.pr.d := by unfold whrL; rw [ha]; rfl
    have hl : bodL k = [pfxE k.pr.d, 0, UInt8.ofNat (pfxN k.pr.d), 0] ++ (hw k.intv ++ (hw k.seq ++ (hw k.met ++ (pfxL k.pr.d ++ srcL k.pr)))) := by rw [bodL_8 k hy, e1, e2, e3]; simp
    obtain ⟨L, hL⟩ : ∃ L, bodL k = L := ⟨_, rfl⟩
    rw [hL] at hl ⊢
    have hlen : L.length = 10 + (pfxL k.pr.d).length + (srcL k.pr).length := by rw [hl]; simp [hw_len]; omega
    have d10 : L.drop 10 = pfxL k.pr.d ++ srcL k.pr := by rw [hl]; rfl
    obtain ⟨c1, c2, c3⟩ := chkQ_parts h4
    obtain ⟨k1, k2, k3⟩ := pfx_at s k.pr.d c1 L (srcL k.pr) 10 d10 (by omega)
    obtain ⟨j1, j2⟩ := pr_at s k.pr h4 L (10 + (pfxL k.pr.d).length) (by rw [← List.drop_drop, d10, List.drop_left]) (by omega)
    have v0 : (⟨0, 0⟩ : RS).val L 1 = (pfxE k.pr.d).toNat := by rw [val_1 _ _ (by omega), hl]; exact nv_u8 _
    have v1 : (⟨1, 0⟩ : RS).val L 1 = 0 := by rw [val_1 _ _ (by omega), hl]; rfl
    have v2 : (⟨2, 0⟩ : RS).val L 1 = pfxN k.pr.d := by rw [val_1 _ _ (by omega), hl]; exact nv_one _ k3
    have v3 : (⟨3, 0⟩ : RS).val L 1 = 0 := by rw [val_1 _ _ (by omega), hl]; rfl
    have v4 : (⟨4, 0⟩ : RS).val L 2 = k.intv := by rw [val_2 _ _ (by omega), hl]; exact hw_nv _ hf.intv
    have v6 : (⟨6, 0⟩ : RS).val L 2 = k.seq := by rw [val_2 _ _ (by omega), hl]; exact hw_nv _ hf.seq
    have v8 : (⟨8, 0⟩ : RS).val L 2 = k.met := by rw [val_2 _ _ (by omega), hl]; exact hw_nv _ hf.met
    have hU : upS s L ⟨0, 0⟩ = s := by
      unfold upS
      rw [adv_1 _ _ (by omega), adv_1 _ _ (by omega), adv_1 _ _ (by omega), adv_1 _ _ (by omega), adv_2 _ _ (by omega), adv_2 _ _ (by omega), adv_2 _ _ (by omega), v0, if_neg (pfxE_ne _)]
      simp only [Nat.zero_add, Nat.reduceAdd]
      rw [v1, v2, v3, k1, k2]
      simp only [if_true]
      exact kp_none _ _ _
    unfold upB upK r0
    rw [hU, adv_1 _ _ (by omega), adv_1 _ _ (by omega), adv_1 _ _ (by omega), adv_1 _ _ (by omega), adv_2 _ _ (by omega), adv_2 _ _ (by omega), adv_2 _ _ (by omega), v0, if_neg (pfxE_ne _), if_neg (pfxE_ne _)]
    simp only [Nat.zero_add, Nat.reduceAdd]
    rw [v2, v3, v4, v6, v8, k1, k2, j1, j2]
    unfold fitU at h3
    rw [ha] at h3
    simp only [Bool.false_eq_true, false_and, if_false] at h3
    by_cases hm : k.met = 65535
    · rw [if_pos hm] at h3
      simp only [Bool.and_eq_true, decide_eq_true_eq] at h3
      rw [if_pos hm, decide_eq_true hm]
      refine ⟨rfl, ?_, by first | rfl | trivial⟩
      have := hk k.pr zeroI zeroA rfl (Id8.ext h3.1) (Ad.ext h3.2)
      rw [ha] at this
      exact this.symm
    · rw [if_neg hm] at h3
      have hw : wayB k = true := by unfold wayB; rw [decide_eq_true hy, decide_eq_true (by omega)]; rfl
      obtain ⟨r1, r2⟩ := hr hw
      have hok : upOk s (famP k.pr.d) = true := by
        unfold upOk
        rw [r1, r2]
        exact h3
      rw [if_neg hm, decide_eq_false hm, hok, r1, r2]
      refine ⟨rfl, ?_, by first | rfl | trivial⟩
      have := hk k.pr k.id k.ad rfl rfl rfl
      rw [ha] at this
      exact this.symm
  · unfold fitU at h3
    rw [ha] at h3
    have hm : k.met = 65535 := by
      by_cases hm : k.met = 65535
      · exact hm
      · rw [if_pos ⟨rfl, .inl hm⟩] at h3; cases h3
    have hz : k.pr = zeroQ := by
      apply prq_eq
      cases hq : prqB k.pr zeroQ
      · rw [if_pos ⟨rfl, .inr hq⟩] at h3; cases h3
      · rfl
    rw [if_neg (by rintro ⟨_, h | h⟩; exact h hm; rw [hz] at h; revert h; decide), if_pos hm] at h3
    simp only [Bool.and_eq_true, decide_eq_true_eq] at h3
    have e1 : whrE k = 0 := by unfold whrE; rw [ha]; rfl
    have e2 : whrN k = 0 := by unfold whrN; rw [ha]; rfl
    have e3 : whrL k = [] := by unfold whrL; rw [ha]; rfl
    have hl : bodL k = [0, 0, 0, 0] ++ (hw k.intv ++ (hw k.seq ++ hw k.met)) := by rw [bodL_8 k hy, e1, e2, e3, hz, srcZ]; simp
    obtain ⟨L, hL⟩ : ∃ L, bodL k = L := ⟨_, rfl⟩
    rw [hL] at hl ⊢
    have hlen : L.length = 10 := by rw [hl]; simp [hw_len]
    have v0 : (⟨0, 0⟩ : RS).val L 1 = 0 := by rw [val_1 _ _ (by omega), hl]; rfl
    have v2 : (⟨2, 0⟩ : RS).val L 1 = 0 := by rw [val_1 _ _ (by omega), hl]; rfl
    have v3 : (⟨3, 0⟩ : RS).val L 1 = 0 := by rw [val_1 _ _ (by omega), hl]; rfl
    have v4 : (⟨4, 0⟩ : RS).val L 2 = k.intv := by rw [val_2 _ _ (by omega), hl]; exact hw_nv _ hf.intv
    have v6 : (⟨6, 0⟩ : RS).val L 2 = k.seq := by rw [val_2 _ _ (by omega), hl]; exact hw_nv _ hf.seq
    have v8 : (⟨8, 0⟩ : RS).val L 2 = k.met := by rw [val_2 _ _ (by omega), hl]; exact hw_nv _ hf.met
    have hU : upS s L ⟨0, 0⟩ = s := by unfold upS; rw [v0, if_pos rfl]
    have hR : uaR L ⟨0, 0⟩ = ⟨10, 0⟩ := by
      unfold uaR
      rw [adv_1 _ _ (by omega), adv_1 _ _ (by omega), adv_1 _ _ (by omega), adv_1 _ _ (by omega), adv_2 _ _ (by omega), adv_2 _ _ (by omega), adv_2 _ _ (by omega)]
      simp only [Nat.zero_add, Nat.reduceAdd]
      rw [v2, v3, v8, hm]
      rfl
    unfold upB upK r0
    rw [hU, hR, v0, if_pos rfl, if_pos rfl, adv_1 _ _ (by omega), adv_1 _ _ (by omega), adv_1 _ _ (by omega), adv_1 _ _ (by omega), adv_2 _ _ (by omega), adv_2 _ _ (by omega)]
    simp only [Nat.zero_add, Nat.reduceAdd]
    rw [v4, v6, v8]
    refine ⟨ns_nil _ _ hlen, ?_, by first | rfl | trivial⟩
    have := hk zeroQ zeroI zeroA hz (Id8.ext h3.1) (Ad.ext h3.2)
    rw [ha] at this
    exact this.symm
end Go.Proofs.Ytognnfknbkedgaa

namespace Go.Proofs.Ytognnfknbkedgaa
open Go.RowKit
set_option linter.unusedSimpArgs false
set_option maxRecDepth 20000

theorem Lp.alloc {w W : World} {src : Ad} {P : Nat} {d : DS} {a : Option Addr} {n c : Nat} {ps : List Pc} {v : Value} {qs : List Part} (h : Lp w W src P d a n c ps v qs) (o : Obj) : Lp w (W.alloc o) src P d a n c ps v qs := h.below (ba _ _)
theorem ldTm {ops : Array Oper} {rest : List Oper} {op : Oper} {a : Act} {w : World} {Q : Exit → Act → World → Prop} (x : Operand) (hw : Region.wanted op (yielded ops a.tmps) = true) (ho : op.op = .load 33 x) (b o : Nat) (t : Tl) (hx : a.eval x = .pointer (some ⟨b, o, none⟩)) (hc : w.rangeAt b o (tcells t))
    (h : wpList Try.prog ops Q rest (a.put op.dst (.agg (tcells t).toArray)) w) : wpList Try.prog ops Q (op :: rest) a w :=
  wpList_step fun K hK => by
    rw [if_pos hw]
    exact wp_load_mid _ x ho b o hx (tcells t) _ hc Try.underlying33 rfl (by rw [infoTs, tcells_len]) (hK _ _ h)
theorem pak_bad {src : Ad} {mtu : Int} {d : DS} {k : TK} {ks : List TK} {acc : List (List UInt8)} (h : ckP k ≠ 0) : pakR src mtu d (k :: ks) acc = ([], ckP k) := by rw [pakR, if_pos h]
theorem pak_yes {src : Ad} {mtu : Int} {d : DS} {k : TK} {ks : List TK} {acc : List (List UInt8)} (h : ckP k = 0) (hb : takB d k = true) : pakR src mtu d (k :: ks) acc = pakR src mtu (takD d k) ks acc := by rw [pakR, if_neg (fun hh => hh h), if_pos hb]
theorem pak_next {src : Ad} {mtu : Int} {d : DS} {k : TK} {ks : List TK} {acc : List (List UInt8)} (h : ckP k = 0) (hb : takB d k = false) (hb' : takB (begD src mtu) k = true) : pakR src mtu d (k :: ks) acc = pakR src mtu (takD (begD src mtu) k) ks (acc ++ [pktD d]) := by rw [pakR, if_neg (fun hh => hh h), if_neg (by rw [hb]; simp), if_pos hb']
theorem pak_mtu {src : Ad} {mtu : Int} {d : DS} {k : TK} {ks : List TK} {acc : List (List UInt8)} (h : ckP k = 0) (hb : takB d k = false) (hb' : takB (begD src mtu) k = false) : pakR src mtu d (k :: ks) acc = ([], 70) := by rw [pakR, if_neg (fun hh => hh h), if_neg (by rw [hb]; simp), if_neg (by rw [hb']; simp)]
theorem ckP_zero {k : TK} (h : ckP k = 0) : chkT k = 0 := by
  unfold ckP at h
  split at h
  · rename_i h1; exact absurd h h1
  · rename_i h1; exact Decidable.not_not.1 h1
theorem Dr.nle {B : Nat} {W : World} {P : Nat} {d : DS} {a : Option Addr} {n c : Nat} {ps : List Pc} {mtu : Int} (h : Dr B W P d a n c ps) (ho : DOk d mtu) (hm : mtu ≤ 65539) : n ≤ 65535 ∧ lenP d.ps ≤ 65535 ∧ d.room ≤ 65535 := by
  have h1 := (own_rws h.own h.bods).len
  have h2 : ps.length = d.ps.length := by rw [← h.keys]; simp [Go.Proofs.Ytognnfknbkedgaa.keys]
  have h3 := lenP_ge d.ps
  have h4 := ho.sum
  have h5 := ho.room
  omega
theorem pack_bad (src : Ad) (mtu : Int) (al : Option Addr) (n cl : Nat) (ks : List TK) (w : World) (hm : mtu < 64 ∨ 65539 < mtu) :
    Calls Try.prog 18 #[(Value.agg (acells src).toArray), .int .i64 mtu, .slice al n cl] w (Packd w (pakL src mtu ks)) := by
  have HE : Hid (pakL src mtu ks = ([], 2)) := by show _ = _; unfold pakL; rw [if_pos hm]
  rcases hm with hm | hm
  · go_enter Try.func18, Try.ntmps18
    go_wp2
    go_ret2
    exact Packd.no HE.out (ba _ _)
  · have hm' : ¬ mtu < 64 := by omega
    go_enter Try.func18, Try.ntmps18
    go_wp2
    go_ret2
    exact Packd.no HE.out (ba _ _)
set_option maxHeartbeats 16000000 in
theorem pack_ok (src : Ad) (mtu : Int) (al : Option Addr) (n cl : Nat) (ts : List Tl) (w : World) (hs : TlW w al n ts) (hf : ∀ t ∈ ts, TFit t.key ∧ t.sn ≤ 100000) (hn : n ≤ 100000) (h0 : 64 ≤ mtu) (h1 : mtu ≤ 65539) :
    Calls Try.prog 18 #[(Value.agg (acells src).toArray), .int .i64 mtu, .slice al n cl] w (Packd w (pakL src mtu (ts.map Tl.key))) := by
  have HN : Hid (n = ts.length) := hs.len.symm
  obtain ⟨R, hR⟩ : ∃ R, pakL src mtu (ts.map Tl.key) = R := ⟨_, rfl⟩
  have HR : Hid (R = pakR src mtu (begD src mtu) (ts.map Tl.key) []) := by
    show _ = _
    rw [← hR]; unfold pakL; rw [if_neg (by omega)]
  rw [hR]
  clear hR
  have HBG : Hid (∀ W, Calls Try.prog 34 #[(Value.agg (acells src).toArray), .int .i64 mtu] W fun e w' => ∃ P, e = .returned (.pointer (some ⟨P, 0, none⟩)) ∧ Dr W.heap.size w' P (begD src mtu) none 0 0 [] ∧ Below W.heap.size W w') := fun W => begin7_any src mtu W (by omega) h1
  have HBO : Hid (DOk (begD src mtu) mtu) := DOk.beg src h0
  have RS := Row.new w 26 (acells src)
  have hm1 : ¬ mtu < 64 := by omega
  have hm2 : ¬ 65539 < mtu := by omega
  go_enter Try.func18, Try.ntmps18
  go_wp2_with (first
    | (go_at_call 34; refine (HBG.out _).mono ?_; rintro e w1 ⟨P1, rfl, D1, b1⟩; have H1 : Lp w w1 src P1 (begD src mtu) none 0 0 [] (.slice none 0 0) [] := ⟨bt (ba _ _) b1, RS.below b1 RS.lt, D1.le (by simp), Ac.nil _ _⟩)
    | (refine ldA (.tmp 3) (by rfl) rfl w.heap.size 0 src rfl RS.range ?_))
  clear RS D1 b1
  go_loopw [8, 9, 24] (fun v p i wr => ∃ (j P : Nat) (d : DS) (a : Option Addr) (m c : Nat) (ps : List Pc) (qs : List Part), j ≤ n ∧ i = .int .i64 j ∧ p = .pointer (some ⟨P, 0, none⟩) ∧ Lp w wr src P d a m c ps v qs ∧ DOk d mtu ∧ qs.length ≤ j ∧ Hid (R = pakR src mtu d ((ts.drop j).map Tl.key) (qs.map Part.l))) (fun _ _ i _ => n - (intOf i).toNat)
  case atStart => exact ⟨0, P1, begD src mtu, none, 0, 0, [], [], Nat.zero_le _, rfl, rfl, H1, HBO.out, Nat.le_refl _, HR.out⟩
  case round =>
    clear H1 HR
    obtain ⟨j, P, d, a, m, c, ps, qs, hj, rfl, rfl, H, hok, hqj, HR⟩ := hrel
    obtain ⟨hm3, hl3, hr3⟩ := H.dr.nle hok h1
    by_cases hlt : j < n
    · have hjk : j < ts.length := by have := HN.out; omega
      obtain ⟨gl, ol, rfl, hgl, rl⟩ := (hs.below H.bel).at hjk
      have hdrop : (ts.drop j).map Tl.key = ts[j].key :: (ts.drop (j + 1)).map Tl.key := by rw [List.drop_eq_getElem_cons hjk]; rfl
      have ht := hs.stms ts[j] (List.getElem_mem hjk)
      have hft := hf ts[j] (List.getElem_mem hjk)
      rw [hdrop] at HR
      clear hdrop
      generalize ts[j] = t at *
      have HT : Hid (∀ W, Below w.heap.size w W → TSrc W t) := fun W hW => Src.below ht hW (Src.lt ht)
      have HCK : Hid (∀ W, Below w.heap.size w W → Calls Try.prog 35 #[.agg (tcells t).toArray] W (Gives W (.int .i64 (ckP t.key)))) := fun W hW => pcheck_any t W (HT.out W hW) hft.2
      obtain ⟨z, hz⟩ : ∃ z, ckP t.key = z := ⟨_, rfl⟩
      rw [hz] at HCK
      by_cases hz0 : z = 0
      · subst hz0
        have hTO := TOk.of hft.1 (ckP_zero hz)
        have hwl : lenP (witP d.o t.key) ≤ 1000 := (witP_ok d.o t.key hTO).2
        cases htk : takB d t.key
        · have HTN : Hid (∀ W, Lp w W src P d a m c ps u8 qs → Calls Try.prog 36 #[.pointer (some ⟨P, 0, none⟩), .agg (tcells t).toArray] W fun e w' => e = .returned (.bool false) ∧ Below W.heap.size W w') := fun W hW => take_no7 w.heap.size t W P d a m c ps hW.dr (HT.out W hW.bel) hTO hwl htk
          have HPK : Hid (∀ W, Lp w W src P d a m c ps u8 qs → Calls Try.prog 37 #[.pointer (some ⟨P, 0, none⟩)] W (LaidN W (pktD d))) := fun W hW => pkt_any w.heap.size W P d a m c ps hW.dr hok.ok hl3 (by omega)
          have hwl2 : lenP (witP (begD src mtu).o t.key) ≤ 1000 := (witP_ok _ t.key hTO).2
          cases htk2 : takB (begD src mtu) t.key
          · have HT2 : Hid (∀ W P' v' qs', Lp w W src P' (begD src mtu) none 0 0 [] v' qs' → Calls Try.prog 36 #[.pointer (some ⟨P', 0, none⟩), .agg (tcells t).toArray] W fun e w' => e = .returned (.bool false) ∧ Below W.heap.size W w') := fun W P' v' qs' hW => take_no7 w.heap.size t W P' (begD src mtu) none 0 0 [] hW.dr (HT.out W hW.bel) hTO hwl2 htk2
            have HE : Hid (R = ([], 70)) := by show _ = _; rw [HR.out, pak_mtu hz htk htk2]
            clear hz htk htk2 hTO hwl hwl2 hf hs HR ht hft hm3 hl3 hr3 hok
            obtain ⟨PB, hPB⟩ : ∃ l, pktD d = l := ⟨_, rfl⟩
            rw [hPB] at HPK 
            clear hPB
            go_wp2_with (first
              | (go_at_call 36; have kk := b5; refine (HTN.out _ H5).mono ?_; rintro e w6 ⟨rfl, b6⟩; have H6 := H5.below b6; have rT6 := rT5.below b6 rT5.lt)
              | (have kk := b5; refine ldT (.tmp 11) (by rfl) rfl gT t rfl rT5 ?_)
              | (go_at_call 35; have kk := rT4; refine (HCK.out _ H4.bel).mono ?_; rintro e w5 ⟨rfl, b5⟩; have H5 := H4.below b5; have rT5 := rT4.below b5 rT4.lt)
              | (have kk := rT4; refine ldT (.tmp 11) (by rfl) rfl gT t rfl rT4 ?_)
              | (have kk := rT3; refine stT (.tmp 11) (.tmp 27) (by rfl) rfl gT t _ rfl rfl rT3 ?_; intro w4 hg4 rT4; have H4 := H3.other hg4 rT3 hgT)
              | (refine alG infoTz (by rfl) rfl ?_; intro gT w3 t1 t2 t3 rT3; have hgT := Nat.le_trans H.bel.size t1; have H3 := H.below t3)
              | (refine ldTm (.tmp 26) (by rfl) rfl gl (ol + j * 68) t rfl rl ?_))
            have HX := H6.below (bd w6)
            have rT := rT6.below (bd w6) rT6.lt
            have rSX := HX.rS
            clear H H3 H4 H5 H6 rT3 rT4 rT5 rT6 rl
            refine wp_region_noPanic ?_
            refine wp_region_held_drew (S := fun W => Row W w.heap.size 26 (acells src)) (by kernel_rfl) (HX.rS) (fun hHeld => ?_)
            refine tA 0 ?_
            refine tA 1 ?_
            refine tL 5 rfl (yA src (fun W hW => hW.range) (by rfl) rfl rfl) ?_
            refine tA 6 ?_
            refine r1 2 fun K hK => ?_
            go_simp
            refine (HPK.out _ HX).mono ?_
            rintro e w12 ⟨ka, kn, kc, rfl, oKq, d2⟩
            replace oKq := own_le oKq HX.bel.size
            replace HX := HX.below d2
            replace rT := rT.below d2 rT.lt
            try replace D2 := D2.below d2
            clear d2
            refine oK hK (by exact HX.rS) fun hHeld => ?_
            clear hK K
            refine r1 3 fun K hK => ?_
            refine sBS [(0, .tmp 39)] (svcells [⟨ka, kn, kc, PB⟩]) (by rfl) rfl (rbS_1 ⟨ka, kn, kc, PB⟩) rfl ?_
            intro g3 w13 s3 d3
            replace oKq := own_keep oKq (grownBy_below none d3) (.inr rfl)
            replace HX := HX.below d3
            replace rT := rT.below d3 rT.lt
            try replace D2 := D2.below d3
            clear d3
            refine oK hK (by exact HX.rS) fun hHeld => ?_
            clear hK K
            refine r1 4 fun K hK => ?_
            refine sAppS (.tmp 37) (.tmp 40) (by rfl) rfl w.heap.size u8 qs.length qs rfl HX.ac.own ⟨g3, 0, none⟩ 1 ⟨ka, kn, kc, PB⟩ rfl s3 (by omega) HX.bel.size ?_
            intro v4 w14 own4 hg4
            replace rT := rT.grown hg4 (own_ne HX.ac.own rT (by decide))
            try replace D2 := D2.outer HX.ac.own hg4
            replace HX := HX.app (q := ⟨ka, kn, kc, PB⟩) oKq own4 hg4
            clear oKq s3
            refine oK hK (by exact HX.rS) fun hHeld => ?_
            clear hK K
            refine r1 7 fun K hK => ?_
            go_simp
            refine (HBG.out _).mono ?_
            rintro e w17 ⟨P2, rfl, D2, d7⟩
            replace D2 := D2.le HX.bel.size
            try replace oKq := own_keep oKq (grownBy_below none d7) (.inr rfl)
            try replace s3 := s3.below d7 s3.lt
            replace HX := HX.below d7
            replace rT := rT.below d7 rT.lt
            clear d7
            refine oK hK (by exact HX.rS) fun hHeld => ?_
            clear hK K
            refine tA 8 ?_
            refine tA 9 ?_
            refine dN ?_
            refine NoPanic.normal ?_
            clear hHeld
            replace HX : Lp w _ src P2 (begD src mtu) none 0 0 [] _ _ := ⟨HX.bel, HX.rS, D2, HX.ac⟩
            go_wp2_with (first
              | (go_at_call 36; refine (HT2.out _ _ _ _ HX).mono ?_; rintro e w40 ⟨rfl, b40⟩)
              | (refine ldT (.tmp 11) (by rfl) rfl gT t rfl rT ?_))
            go_ret2
            exact Packd.no HE.out (bt HX.bel b40)
          · have HT2 : Hid (∀ W P' v' qs', Lp w W src P' (begD src mtu) none 0 0 [] v' qs' → Calls Try.prog 36 #[.pointer (some ⟨P', 0, none⟩), .agg (tcells t).toArray] W fun e w' => e = .returned (.bool true) ∧ (∃ a' n' c' ps', Dr w.heap.size w' P' (takD (begD src mtu) t.key) a' n' c' ps' ∧ n' ≤ 0 + 1000) ∧ Fr W w' P' (Value.slice none 0 0).ownBlock) := fun W P' v' qs' hW => take_yes7 w.heap.size t W P' (begD src mtu) none 0 0 [] hW.dr (HT.out W hW.bel) hTO hwl2 htk2 hW.bel.size (by omega) (by show mtu - 4 ≤ 70000; omega)
            have HE : Hid (R = pakR src mtu (takD (begD src mtu) t.key) ((ts.drop (j + 1)).map Tl.key) (qs.map Part.l ++ [pktD d])) := by show _ = _; rw [HR.out, pak_next hz htk htk2]
            have HOK := HBO.out.tak hTO htk2
            clear hz htk htk2 hTO hwl hwl2 hf hs HR ht hft hm3 hl3 hr3 hok
            obtain ⟨PB, hPB⟩ : ∃ l, pktD d = l := ⟨_, rfl⟩
            rw [hPB] at HPK HE
            clear hPB
            go_wp2_with (first
              | (go_at_call 36; have kk := b5; refine (HTN.out _ H5).mono ?_; rintro e w6 ⟨rfl, b6⟩; have H6 := H5.below b6; have rT6 := rT5.below b6 rT5.lt)
              | (have kk := b5; refine ldT (.tmp 11) (by rfl) rfl gT t rfl rT5 ?_)
              | (go_at_call 35; have kk := rT4; refine (HCK.out _ H4.bel).mono ?_; rintro e w5 ⟨rfl, b5⟩; have H5 := H4.below b5; have rT5 := rT4.below b5 rT4.lt)
              | (have kk := rT4; refine ldT (.tmp 11) (by rfl) rfl gT t rfl rT4 ?_)
              | (have kk := rT3; refine stT (.tmp 11) (.tmp 27) (by rfl) rfl gT t _ rfl rfl rT3 ?_; intro w4 hg4 rT4; have H4 := H3.other hg4 rT3 hgT)
              | (refine alG infoTz (by rfl) rfl ?_; intro gT w3 t1 t2 t3 rT3; have hgT := Nat.le_trans H.bel.size t1; have H3 := H.below t3)
              | (refine ldTm (.tmp 26) (by rfl) rfl gl (ol + j * 68) t rfl rl ?_))
            have HX := H6.below (bd w6)
            have rT := rT6.below (bd w6) rT6.lt
            have rSX := HX.rS
            clear H H3 H4 H5 H6 rT3 rT4 rT5 rT6 rl
            refine wp_region_noPanic ?_
            refine wp_region_held_drew (S := fun W => Row W w.heap.size 26 (acells src)) (by kernel_rfl) (HX.rS) (fun hHeld => ?_)
            refine tA 0 ?_
            refine tA 1 ?_
            refine tL 5 rfl (yA src (fun W hW => hW.range) (by rfl) rfl rfl) ?_
            refine tA 6 ?_
            refine r1 2 fun K hK => ?_
            go_simp
            refine (HPK.out _ HX).mono ?_
            rintro e w12 ⟨ka, kn, kc, rfl, oKq, d2⟩
            replace oKq := own_le oKq HX.bel.size
            replace HX := HX.below d2
            replace rT := rT.below d2 rT.lt
            try replace D2 := D2.below d2
            clear d2
            refine oK hK (by exact HX.rS) fun hHeld => ?_
            clear hK K
            refine r1 3 fun K hK => ?_
            refine sBS [(0, .tmp 39)] (svcells [⟨ka, kn, kc, PB⟩]) (by rfl) rfl (rbS_1 ⟨ka, kn, kc, PB⟩) rfl ?_
            intro g3 w13 s3 d3
            replace oKq := own_keep oKq (grownBy_below none d3) (.inr rfl)
            replace HX := HX.below d3
            replace rT := rT.below d3 rT.lt
            try replace D2 := D2.below d3
            clear d3
            refine oK hK (by exact HX.rS) fun hHeld => ?_
            clear hK K
            refine r1 4 fun K hK => ?_
            refine sAppS (.tmp 37) (.tmp 40) (by rfl) rfl w.heap.size u8 qs.length qs rfl HX.ac.own ⟨g3, 0, none⟩ 1 ⟨ka, kn, kc, PB⟩ rfl s3 (by omega) HX.bel.size ?_
            intro v4 w14 own4 hg4
            replace rT := rT.grown hg4 (own_ne HX.ac.own rT (by decide))
            try replace D2 := D2.outer HX.ac.own hg4
            replace HX := HX.app (q := ⟨ka, kn, kc, PB⟩) oKq own4 hg4
            clear oKq s3
            refine oK hK (by exact HX.rS) fun hHeld => ?_
            clear hK K
            refine r1 7 fun K hK => ?_
            go_simp
            refine (HBG.out _).mono ?_
            rintro e w17 ⟨P2, rfl, D2, d7⟩
            replace D2 := D2.le HX.bel.size
            try replace oKq := own_keep oKq (grownBy_below none d7) (.inr rfl)
            try replace s3 := s3.below d7 s3.lt
            replace HX := HX.below d7
            replace rT := rT.below d7 rT.lt
            clear d7
            refine oK hK (by exact HX.rS) fun hHeld => ?_
            clear hK K
            refine tA 8 ?_
            refine tA 9 ?_
            refine dN ?_
            refine NoPanic.normal ?_
            clear hHeld
            replace HX : Lp w _ src P2 (begD src mtu) none 0 0 [] _ _ := ⟨HX.bel, HX.rS, D2, HX.ac⟩
            go_wp2_with (first
              | (go_at_call 36; refine (HT2.out _ _ _ _ HX).mono ?_; rintro e w40 ⟨rfl, ⟨a4, n4, c4, p4, D4, _⟩, f4⟩; have H40 := HX.taken D4 f4)
              | (refine ldT (.tmp 11) (by rfl) rfl gT t rfl rT ?_))
            go_roundw
            case rel => exact ⟨j + 1, P2, _, a4, n4, c4, p4, _, by omega, by go_num, rfl, H40, HOK, by simp; omega, by show _ = _; rw [HE.out]; simp⟩
            case measure => simp [intOf]; omega
        · have HTY : Hid (∀ W, Lp w W src P d a m c ps u8 qs → Calls Try.prog 36 #[.pointer (some ⟨P, 0, none⟩), .agg (tcells t).toArray] W fun e w' => e = .returned (.bool true) ∧ (∃ a' n' c' ps', Dr w.heap.size w' P (takD d t.key) a' n' c' ps' ∧ n' ≤ m + 1000) ∧ Fr W w' P (Value.slice a m c).ownBlock) := fun W hW => take_yes7 w.heap.size t W P d a m c ps hW.dr (HT.out W hW.bel) hTO hwl htk hW.bel.size (by omega) (by omega)
          have HE : Hid (R = pakR src mtu (takD d t.key) ((ts.drop (j + 1)).map Tl.key) (qs.map Part.l)) := by show _ = _; rw [HR.out, pak_yes hz htk]
          have HOK := hok.tak hTO htk
          clear hz htk hTO hwl hf hs HR ht hft hm3 hl3 hr3 hok
          go_wp2_with (first
            | (go_at_call 36; have kk := b5; refine (HTY.out _ H5).mono ?_; rintro e w6 ⟨rfl, ⟨a6, m6, c6, p6, D6, _⟩, f6⟩; have H6 := H5.taken D6 f6)
            | (have kk := b5; refine ldT (.tmp 11) (by rfl) rfl gT t rfl rT5 ?_)
            | (go_at_call 35; have kk := rT4; refine (HCK.out _ H4.bel).mono ?_; rintro e w5 ⟨rfl, b5⟩; have H5 := H4.below b5; have rT5 := rT4.below b5 rT4.lt)
            | (have kk := rT4; refine ldT (.tmp 11) (by rfl) rfl gT t rfl rT4 ?_)
            | (have kk := rT3; refine stT (.tmp 11) (.tmp 27) (by rfl) rfl gT t _ rfl rfl rT3 ?_; intro w4 hg4 rT4; have H4 := H3.other hg4 rT3 hgT)
            | (refine alG infoTz (by rfl) rfl ?_; intro gT w3 t1 t2 t3 rT3; have hgT := Nat.le_trans H.bel.size t1; have H3 := H.below t3)
            | (refine ldTm (.tmp 26) (by rfl) rfl gl (ol + j * 68) t rfl rl ?_))
          go_roundw
          case rel => exact ⟨j + 1, P, _, a6, m6, c6, p6, qs, by omega, by go_num, rfl, H6, HOK, by omega, HE.out⟩
          case measure => simp [intOf]; omega
      · have hne : (z != 0) = true := by simpa using hz0
        have HE : Hid (R = ([], z)) := by show _ = _; rw [HR.out, pak_bad (by rw [hz]; exact hz0), hz]
        clear hz hz0 hf hs HR ht hft
        go_wp2_with (first
          | (go_at_call 35; have kk := rT4; refine (HCK.out _ H4.bel).mono ?_; rintro e w5 ⟨rfl, b5⟩; have H5 := H4.below b5)
          | (have kk := rT4; refine ldT (.tmp 11) (by rfl) rfl gT t rfl rT4 ?_)
          | (have kk := rT3; refine stT (.tmp 11) (.tmp 27) (by rfl) rfl gT t _ rfl rfl rT3 ?_; intro w4 hg4 rT4; have H4 := H3.other hg4 rT3 hgT)
          | (refine alG infoTz (by rfl) rfl ?_; intro gT w3 t1 t2 t3 rT3; have hgT := Nat.le_trans H.bel.size t1; have H3 := H.below t3)
          | (refine ldTm (.tmp 26) (by rfl) rfl gl (ol + j * 68) t rfl rl ?_))
        go_ret2
        exact Packd.no HE.out H5.bel
    · obtain rfl : n = j := by omega
      have HE : Hid (R = (if d.ps = [] then qs.map Part.l else qs.map Part.l ++ [pktD d], 0)) := by
        show _ = _
        rw [HR.out, List.drop_eq_nil_of_le (by have := HN.out; omega)]
        rfl
      have hml : m = ps.length := (own_rws H.dr.own H.dr.bods).len.symm
      have hpl : ps.length = d.ps.length := by rw [← H.dr.keys]; simp [keys]
      have c43 := (d42 H.dr.row).2
      by_cases hm0 : m = 0
      · have e0 : d.ps = [] := List.eq_nil_of_length_eq_zero (by omega)
        rw [if_pos e0] at HE
        subst hm0
        clear hml hpl e0
        go_wp2
        go_ret2
        obtain ⟨aF, cF, rfl⟩ := own_shape2 H.ac.own
        exact ⟨aF, _, cF, qs, by rw [HE.out]; rfl, by rw [HE.out], rfl, H.ac, H.bel⟩
      · have e0 : d.ps ≠ [] := fun e => hm0 (by rw [hml, hpl, e]; rfl)
        rw [if_neg e0] at HE
        have hm4 : ¬ (m : Int) ≤ 0 := by omega
        have hm5 : (0 : Int) < (m : Int) := by omega
        have HPK : Hid (Calls Try.prog 37 #[.pointer (some ⟨P, 0, none⟩)] wr (LaidN wr (pktD d))) := pkt_any w.heap.size wr P d a m c ps H.dr hok.ok hl3 (by omega)
        have HML : Hid (m = ps.length) := hml
        clear hml hpl e0 hm0 hok hf hs HR
        obtain ⟨PB, hPB⟩ : ∃ l, pktD d = l := ⟨_, rfl⟩
        rw [hPB] at HPK HE
        clear hPB
        go_wp2_with (first
          | (at_builtin; have kk := o6; refine appS rfl (.tmp 56) (.tmp 59) rfl w.heap.size u8 qs.length qs rfl (H6.alloc _).ac.own ⟨w6.heap.size, 0, none⟩ 1 ⟨a6, n6, c6, PB⟩ rfl (new_src_of w6 #[.slice a6 n6 c6] 40) (by omega) (H6.alloc _).bel.size ?_; intro v7 w7 own7 hg7; have H7 := (H6.alloc (.cells #[.slice a6 n6 c6] 40)).app (q := ⟨a6, n6, c6, PB⟩) (own_keep o6 (World.grownBy_alloc _ _ none) (.inr rfl)) own7 hg7)
          | (go_at_call 37; refine HPK.out.mono ?_; rintro e w6 ⟨a6, n6, c6, rfl, o6, b6⟩; replace o6 := own_le o6 H.bel.size; have H6 := H.below b6))
        go_ret2
        obtain ⟨aF, cF, rfl⟩ := own_shape2 H7.ac.own
        exact ⟨aF, _, cF, _, by rw [HE.out]; rfl, by rw [HE.out]; simp, rfl, H7.ac, H7.bel⟩
end Go.Proofs.Ytognnfknbkedgaa

namespace Go.Proofs.Ytognnfknbkedgaa
open Go.RowKit
set_option linter.unusedSimpArgs false
set_option maxRecDepth 20000

def l7I : Id8 := ⟨[0, 0, 0, 0, 0, 0, 0, 1], rfl⟩
def l7P (b : UInt8) : Pf := ⟨⟨[b, 0, 0, 0, 0, 0, 0, 0, 0, 0, 0, 0, 0, 0, 0, 0], rfl⟩, 8⟩
def l7T (b : UInt8) : Tl := { zeroT with ty := 8, intv := 100, seq := 1, met := 32, id := l7I, ad := lwS, pr := ⟨l7P b, zeroP⟩ }
def l7B : List UInt8 := [42, 2, 0, 38, 6, 10, 0, 0, 0, 0, 0, 0, 0, 0, 0, 1, 8, 11, 2, 0, 8, 0, 0, 100, 0, 1, 0, 32, 32, 8, 11, 2, 0, 8, 0, 0, 100, 0, 1, 0, 32, 33]
theorem l7_pak : pakL lwS 1000 ([l7T 32, l7T 33].map Tl.key) = ([l7B], 0) := by kernel_rfl
theorem l7_chk : chkT (l7T 32).key = 0 := by kernel_rfl
theorem l7_len : 2 + (bodL (l7T 32).key).length = 13 := by kernel_rfl
theorem l7_parE : parE l7B = 0 := by kernel_rfl
theorem l7_par : parL lwS l7B = [l7T 32, l7T 33].map Tl.key := by kernel_rfl
theorem l7_fit (t : Tl) (h : t ∈ [l7T 32, l7T 33]) : TFit t.key ∧ t.sn ≤ 100000 := by
  simp at h
  rcases h with rfl | rfl <;> exact ⟨⟨by decide, by decide, by decide, by decide, by decide, by decide, by decide⟩, by decide⟩
theorem l7SE : Value.agg #[.int .u8 254, .int .u8 128, .int .u8 0, .int .u8 0, .int .u8 0, .int .u8 0, .int .u8 0, .int .u8 0, .int .u8 0, .int .u8 0, .int .u8 0, .int .u8 0, .int .u8 0, .int .u8 0, .int .u8 0, .int .u8 1] = (Value.agg (acells lwS).toArray) := by kernel_rfl
theorem l7QE : Value.agg #[.int .u8 32, .int .u8 0, .int .u8 0, .int .u8 0, .int .u8 0, .int .u8 0, .int .u8 0, .int .u8 0, .int .u8 0, .int .u8 0, .int .u8 0, .int .u8 0, .int .u8 0, .int .u8 0, .int .u8 0, .int .u8 0, .int .i64 8, .int .u8 0, .int .u8 0, .int .u8 0, .int .u8 0, .int .u8 0, .int .u8 0, .int .u8 0, .int .u8 0, .int .u8 0, .int .u8 0, .int .u8 0, .int .u8 0, .int .u8 0, .int .u8 0, .int .u8 0, .int .u8 0, .int .i64 0] = (Value.agg (qcells (⟨l7P 32, zeroP⟩)).toArray) := by kernel_rfl
theorem l7bd (w : World) : (Instr.build 33 #[(0, .int .u8 8), (2, .int .u16 100), (3, .int .u16 1), (5, .int .u16 32), (9, .agg #[.int .u8 0, .int .u8 0, .int .u8 0, .int .u8 0, .int .u8 0, .int .u8 0, .int .u8 0, .int .u8 1]), (10, (Value.agg (acells lwS).toArray)), (11, (Value.agg (qcells (⟨l7P 32, zeroP⟩)).toArray))]).run Try.prog w = .ok (.agg (tcells (l7T 32)).toArray) w := by kernel_rfl
theorem l7set : (tcells (l7T 32)).set 33 (.int .u8 33) = tcells (l7T 33) := by kernel_rfl
theorem l7bs (w : World) : (Instr.buildSlice 41 2 #[(0, .agg (tcells (l7T 32)).toArray), (1, .agg (tcells (l7T 33)).toArray)]).run Try.prog w = .ok (.slice (some ⟨w.heap.size, 0, none⟩) 2 2) (w.alloc (.cells (tcs [l7T 32, l7T 33]).toArray 33)) := by kernel_rfl
theorem tlw_new (w : World) (ts : List Tl) (hs : ∀ t ∈ ts, t.sa = none ∧ t.sn = 0 ∧ t.sc = 0 ∧ t.st = []) : TlW (w.alloc (.cells (tcs ts).toArray 33)) (some ⟨w.heap.size, 0, none⟩) ts.length ts := by
  have R := Row.new w 33 (tcs ts)
  refine ⟨rfl, fun _ => ⟨w.heap.size, 0, rfl, R.lt, fun j t ht i v hv => ?_⟩, fun t ht => ?_⟩
  · have hi : i < 68 := by have := (List.getElem?_eq_some_iff.1 hv).1; rwa [tcells_len] at this
    rw [R.cell, Nat.zero_add, tcs_get ts j t ht i hi]
    exact hv
  · obtain ⟨h1, h2, h3, h4⟩ := hs t ht
    unfold TSrc
    rw [h1, h2, h3, h4]
    exact Src.nil _
theorem l7none (t : Tl) (h : t ∈ [l7T 32, l7T 33]) : t.sa = none ∧ t.sn = 0 ∧ t.sc = 0 ∧ t.st = [] := by
  simp at h
  rcases h with rfl | rfl <;> exact ⟨rfl, rfl, rfl, rfl⟩
section
variable {ops : Array Oper} {rest : List Oper} {op : Oper} {a : Act} {w : World} {Q : Exit → Act → World → Prop}
theorem bsL7 (x y : Operand) (hw : Region.wanted op (yielded ops a.tmps) = true) (ho : op.op = .buildSlice 41 2 #[(0, x), (1, y)]) (hx : a.eval x = .agg (tcells (l7T 32)).toArray) (hy : a.eval y = .agg (tcells (l7T 33)).toArray)
    (h : ∀ g W, Below w.heap.size w W → TlW W (some ⟨g, 0, none⟩) 2 [l7T 32, l7T 33] → wpList Try.prog ops Q rest (a.put op.dst (.slice (some ⟨g, 0, none⟩) 2 2)) W) : wpList Try.prog ops Q (op :: rest) a w :=
  wpList_step fun K hK => by
    rw [if_pos hw]
    unfold Oper.wp execOp
    simp only [ho, List.map_toArray, List.map_cons, List.map_nil, hx, hy, Sem.run_bind, l7bs, Result.andThen_ok, Sem.run_pure]
    exact hK _ _ (h _ _ (ba _ _) (tlw_new w [l7T 32, l7T 33] l7none))
end
theorem l7_pack (W : World) (g : Nat) (hs : TlW W (some ⟨g, 0, none⟩) 2 [l7T 32, l7T 33]) :
    Calls Try.prog 18 #[(Value.agg (acells lwS).toArray), .int .i64 1000, .slice (some ⟨g, 0, none⟩) 2 2] W fun e w' => ∃ g' c qa qc, e = .returned (.tuple #[.slice (some ⟨g', 0, none⟩) 1 c, .int .i64 0]) ∧ g' < w'.heap.size ∧ w'.cell? ⟨g', 0, none⟩ = some (.slice qa 42 qc) ∧ Src w' qa 42 qc (bcells l7B) ∧ Below W.heap.size W w' := by
  refine (pack_ok lwS 1000 (some ⟨g, 0, none⟩) 2 2 [l7T 32, l7T 33] W hs l7_fit (by decide) (by decide) (by decide)).mono ?_
  rintro e w' ⟨a, n, c, qs, rfl, hq, hn, hac, hb⟩
  rw [l7_pak] at hq ⊢
  match qs, hq, hn, hac with
  | [q], hq, hn, hac =>
    simp at hq
    subst hn
    obtain ⟨own, bods⟩ := hac
    have hs := own_srcP (bods q (by simp))
    rw [hq] at hs
    have h42 : q.n = 42 := hs.blen
    rw [h42] at hs
    rcases own.2 with ⟨h1, h2⟩ | ⟨g', cap, cur, h1, hB, hh, hr⟩
    · simp at h2
    · injection h1 with h2 h3 h4
      subst h2
      have hc := own.cells rfl 0 (.slice q.a q.n q.c) rfl
      rw [h42] at hc
      exact ⟨g', c, q.a, q.c, rfl, lt_of_block hh, by rw [Addr.add_lit, Nat.zero_add] at hc; exact hc, hs, hb⟩
  | [], hq, _, _ => simp at hq
  | _ :: _ :: _, hq, _, _ => simp at hq
theorem l7_parse (W : World) (a : Option Addr) (c : Nat) (hs : Src W a 42 c (bcells l7B)) :
    Calls Try.prog 14 #[(Value.agg (acells lwS).toArray), .slice a 42 c] W fun e w' => ∃ a c ts, e = .returned (.tuple #[.slice a 2 c, .int .i64 0]) ∧ TlW w' a 2 ts ∧ Hid (ts.map Tl.key = [l7T 32, l7T 33].map Tl.key) ∧ Below W.heap.size W w' := by
  refine (parse_any lwS a _ c _ W hs (by decide)).mono ?_
  rintro e w' ⟨a, c, ts, rfl, hk, _, ht, hb⟩
  rw [l7_par] at hk
  rw [l7_parE]
  have hl : ts.length = 2 := by have := congrArg List.length hk; simpa using this
  have htl := ht.tlw
  rw [hl] at htl ⊢
  exact ⟨a, c, ts, rfl, htl, hk, hb⟩
theorem l7_size (W : World) : Calls Try.prog 20 #[.agg (tcells (l7T 32)).toArray] W (Gives W (.int .i64 13)) := by
  have := size_any (l7T 32) W (Src.nil _) (by decide) (l7_fit (l7T 32) (by simp)).1
  rw [if_pos l7_chk, l7_len] at this
  exact this
theorem num7 (x : Int) (w : World) : Calls Try.prog 19 #[.int .i64 x] w fun e w' => e = .returned (.int .i64 x) ∧ w = w' := by
  go_enter Try.func19, Try.ntmps19
  go_wp2
  go_ret
  exact ⟨rfl, rfl⟩
theorem l7_bad (W : World) (g : Nat) : Calls Try.prog 18 #[(Value.agg (acells lwS).toArray), .int .i64 63, .slice (some ⟨g, 0, none⟩) 1 1] W fun e w' => ∃ a n c, e = .returned (.tuple #[.slice a n c, .int .i64 2]) ∧ Below W.heap.size W w' := by
  refine (pack_bad lwS 63 (some ⟨g, 0, none⟩) 1 1 [] W (.inl (by decide))).mono ?_
  rintro e w' ⟨a, n, c, qs, rfl, _, _, _, hb⟩
  exact ⟨a, n, c, rfl, hb⟩
theorem l7_sames (W : World) (a : Option Addr) (c g : Nat) (ts : List Tl) (h : TlW W a 2 ts) (hk : Hid (ts.map Tl.key = [l7T 32, l7T 33].map Tl.key)) (h2 : TlW W (some ⟨g, 0, none⟩) 2 [l7T 32, l7T 33]) : Calls Try.prog 15 #[.slice a 2 c, .slice (some ⟨g, 0, none⟩) 2 2] W fun e w' => e = .returned (.bool true) ∧ Below W.heap.size W w' := by
  refine sames_true a (some ⟨g, 0, none⟩) 2 c 2 ts [l7T 32, l7T 33] W h h2 hk.out (by decide) (fun t ht => ?_)
  have hm : t.key ∈ [l7T 32, l7T 33].map Tl.key := by rw [← hk.out]; exact List.mem_map.2 ⟨t, ht, rfl⟩
  simp at hm
  have e : t.st = t.key.st := rfl
  rcases hm with h | h <;> (rw [e, h]; decide)
end Go.Proofs.Ytognnfknbkedgaa
