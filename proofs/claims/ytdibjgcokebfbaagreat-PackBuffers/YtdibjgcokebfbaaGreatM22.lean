/-
  The contract of Pack of package pack.
-/
import Derived.Test.YtdibjgcokebfbaaGreatM21
import Derived.Test.YtdibjgcokebfbaaGreatM19
namespace Go.Proofs.YtdibjgcokebfbaaGreat
open Go.RowKit
set_option linter.unusedSimpArgs false
set_option maxRecDepth 20000

theorem Lp.alloc {w W : World} {src : Ad} {P : Nat} {d : DS} {a : Option Addr} {n c : Nat} {ps : List Pc} {v : Value} {qs : List Part} (h : Lp w W src P d a n c ps v qs) (o : Obj) : Lp w (W.alloc o) src P d a n c ps v qs := h.below (ba _ _)
theorem ldTm {ops : Array Oper} {rest : List Oper} {op : Oper} {a : Act} {w : World} {Q : Exit → Act → World → Prop} (x : Operand) (hw : Region.wanted op (yielded ops a.tmps) = true) (ho : op.op = .load 45 x) (b o : Nat) (t : Tl) (hx : a.eval x = .pointer (some ⟨b, o, none⟩)) (hc : w.rangeAt b o (tcells t))
    (h : wpList Tryz.prog ops Q rest (a.put op.dst (.agg (tcells t).toArray)) w) : wpList Tryz.prog ops Q (op :: rest) a w :=
  wpList_step fun K hK => by
    rw [if_pos hw]
    exact wp_load_mid _ x ho b o hx (tcells t) _ hc Tryz.underlying45 rfl (by rw [infoTs, tcells_len]) (hK _ _ h)
theorem pak_bad {src : Ad} {mtu : Int} {d : DS} {k : TK} {ks : List TK} {acc : List (List UInt8)} (h : ckP k ≠ 0) : pakR src mtu d (k :: ks) acc = ([], ckP k) := by rw [pakR, if_pos h]
theorem pak_yes {src : Ad} {mtu : Int} {d : DS} {k : TK} {ks : List TK} {acc : List (List UInt8)} (h : ckP k = 0) (hb : takB d k = true) : pakR src mtu d (k :: ks) acc = pakR src mtu (takD d k) ks acc := by rw [pakR, if_neg (fun hh => hh h), if_pos hb]
theorem pak_next {src : Ad} {mtu : Int} {d : DS} {k : TK} {ks : List TK} {acc : List (List UInt8)} (h : ckP k = 0) (hb : takB d k = false) (hb' : takB (begD src mtu) k = true) : pakR src mtu d (k :: ks) acc = pakR src mtu (takD (begD src mtu) k) ks (acc ++ [pktD d]) := by rw [pakR, if_neg (fun hh => hh h), if_neg (by rw [hb]; simp), if_pos hb']
theorem pak_mtu {src : Ad} {mtu : Int} {d : DS} {k : TK} {ks : List TK} {acc : List (List UInt8)} (h : ckP k = 0) (hb : takB d k = false) (hb' : takB (begD src mtu) k = false) : pakR src mtu d (k :: ks) acc = ([], 70) := by rw [pakR, if_neg (fun hh => hh h), if_neg (by rw [hb]; simp), if_neg (by rw [hb']; simp)]
theorem ckP_zero {k : TK} (h : ckP k = 0) : chkT k = 0 := by
  unfold ckP at h
  split at h
  · rename_i h1; exact absurd h h1
  · rename_i h1; exact Decidable.not_not.1 h1
theorem Dr.nle {B : Nat} {W : World} {P : Nat} {d : DS} {a : Option Addr} {n c : Nat} {ps : List Pc} {mtu : Int} (h : Dr B W P d a n c ps) (ho : DOk d mtu) (hm : mtu ≤ 65539) : n ≤ 65535 ∧ lenP d.ps ≤ 65535 ∧ d.room ≤ 65535 := by
  have h1 := (own_rws h.own h.bods).len
  have h2 : ps.length = d.ps.length := by rw [← h.keys]; simp [Go.Proofs.YtdibjgcokebfbaaGreat.keys]
  have h3 := lenP_ge d.ps
  have h4 := ho.sum
  have h5 := ho.room
  omega
theorem pack_bad (src : Ad) (mtu : Int) (al : Option Addr) (n cl : Nat) (ks : List TK) (w : World) (hm : mtu < 64 ∨ 65539 < mtu) :
    Calls Tryz.prog 7 #[(Value.agg (acells src).toArray), .int .i64 mtu, .slice al n cl] w (Packd w (pakL src mtu ks)) := by
  have HE : Hid (pakL src mtu ks = ([], 2)) := by show _ = _; unfold pakL; rw [if_pos hm]
  rcases hm with hm | hm
  · go_enter Tryz.func7, Tryz.ntmps7
    go_wp2
    go_ret2
    exact Packd.no HE.out (ba _ _)
  · have hm' : ¬ mtu < 64 := by omega
    go_enter Tryz.func7, Tryz.ntmps7
    go_wp2
    go_ret2
    exact Packd.no HE.out (ba _ _)
set_option maxHeartbeats 16000000 in
theorem pack_ok (src : Ad) (mtu : Int) (al : Option Addr) (n cl : Nat) (ts : List Tl) (w : World) (hs : TlW w al n ts) (hf : ∀ t ∈ ts, TFit t.key ∧ t.sn ≤ 100000) (hn : n ≤ 100000) (h0 : 64 ≤ mtu) (h1 : mtu ≤ 65539) :
    Calls Tryz.prog 7 #[(Value.agg (acells src).toArray), .int .i64 mtu, .slice al n cl] w (Packd w (pakL src mtu (ts.map Tl.key))) := by
  have HN : Hid (n = ts.length) := hs.len.symm
  obtain ⟨R, hR⟩ : ∃ R, pakL src mtu (ts.map Tl.key) = R := ⟨_, rfl⟩
  have HR : Hid (R = pakR src mtu (begD src mtu) (ts.map Tl.key) []) := by
    show _ = _
    rw [← hR]; unfold pakL; rw [if_neg (by omega)]
  rw [hR]
  clear hR
  have HBG : Hid (∀ W, Calls Tryz.prog 20 #[(Value.agg (acells src).toArray), .int .i64 mtu] W fun e w' => ∃ P, e = .returned (.pointer (some ⟨P, 0, none⟩)) ∧ Dr W.heap.size w' P (begD src mtu) none 0 0 [] ∧ Below W.heap.size W w') := fun W => begin7_any src mtu W (by omega) h1
  have HBO : Hid (DOk (begD src mtu) mtu) := DOk.beg src h0
  have RS := Row.new w 23 (acells src)
  have hm1 : ¬ mtu < 64 := by omega
  have hm2 : ¬ 65539 < mtu := by omega
  go_enter Tryz.func7, Tryz.ntmps7
  go_wp2_with (first
    | (go_at_call 20; refine (HBG.out _).mono ?_; rintro e w1 ⟨P1, rfl, D1, b1⟩; have H1 : Lp w w1 src P1 (begD src mtu) none 0 0 [] (.slice none 0 0) [] := ⟨bt (ba _ _) b1, RS.below b1 RS.lt, D1.le (by simp), Ac.nil _ _⟩)
    | (refine ldA (.tmp 3) (by rfl) rfl w.heap.size 0 src rfl RS.range ?_))
  clear RS D1 b1
  go_loopw [8, 9, 24] (fun v p i wr => ∃ (j P : Nat) (d : DS) (a : Option Addr) (m c : Nat) (ps : List Pc) (qs : List Part), j ≤ n ∧ i = .int .i64 j ∧ p = .pointer (some ⟨P, 0, none⟩) ∧ Lp w wr src P d a m c ps v qs ∧ DOk d mtu ∧ qs.length ≤ j ∧ Hid (R = pakR src mtu d ((ts.drop j).map Tl.key) (qs.map Part.l))) (fun _ _ i _ => n - (intOf i).toNat)
  case atStart => exact ⟨0, P1, begD src mtu, none, 0, 0, [], [], Nat.zero_le _, rfl, rfl, H1, HBO.out, Nat.le_refl _, HR.out⟩
  case round =>
    clear H1 HR
    obtain ⟨j, P, d, a, m, c, ps, qs, hj, rfl, rfl, H, hok, hqj, HR⟩ := hrel
    obtain ⟨hm3, hl3, hr3⟩ := H.dr.nle hok h1
    by_cases hlt : j < n
    · have hjk : j < ts.length := by have := HN.out; omega
      obtain ⟨gl, ol, rfl, hgl, rl⟩ := (hs.below H.bel).at hjk
      have hdrop : (ts.drop j).map Tl.key = ts[j].key :: (ts.drop (j + 1)).map Tl.key := by rw [List.drop_eq_getElem_cons hjk]; rfl
      have ht := hs.stms ts[j] (List.getElem_mem hjk)
      have hft := hf ts[j] (List.getElem_mem hjk)
      rw [hdrop] at HR
      clear hdrop
      generalize ts[j] = t at *
      have HT : Hid (∀ W, Below w.heap.size w W → TSrc W t) := fun W hW => Src.below ht hW (Src.lt ht)
      have HCK : Hid (∀ W, Below w.heap.size w W → Calls Tryz.prog 21 #[.agg (tcells t).toArray] W (Gives W (.int .i64 (ckP t.key)))) := fun W hW => pcheck_any t W (HT.out W hW) hft.2
      obtain ⟨z, hz⟩ : ∃ z, ckP t.key = z := ⟨_, rfl⟩
      rw [hz] at HCK
      by_cases hz0 : z = 0
      · subst hz0
        have hTO := TOk.of hft.1 (ckP_zero hz)
        have hwl : lenP (witP d.o t.key) ≤ 1000 := (witP_ok d.o t.key hTO).2
        cases htk : takB d t.key
        · have HTN : Hid (∀ W, Lp w W src P d a m c ps u8 qs → Calls Tryz.prog 22 #[.pointer (some ⟨P, 0, none⟩), .agg (tcells t).toArray] W fun e w' => e = .returned (.bool false) ∧ Below W.heap.size W w') := fun W hW => take_no7 w.heap.size t W P d a m c ps hW.dr (HT.out W hW.bel) hTO hwl htk
          have HPK : Hid (∀ W, Lp w W src P d a m c ps u8 qs → Calls Tryz.prog 23 #[.pointer (some ⟨P, 0, none⟩)] W (LaidN W (pktD d))) := fun W hW => pkt_any w.heap.size W P d a m c ps hW.dr hok.ok hl3 (by omega)
          have hwl2 : lenP (witP (begD src mtu).o t.key) ≤ 1000 := (witP_ok _ t.key hTO).2
          cases htk2 : takB (begD src mtu) t.key
          · have HT2 : Hid (∀ W P' v' qs', Lp w W src P' (begD src mtu) none 0 0 [] v' qs' → Calls Tryz.prog 22 #[.pointer (some ⟨P', 0, none⟩), .agg (tcells t).toArray] W fun e w' => e = .returned (.bool false) ∧ Below W.heap.size W w') := fun W P' v' qs' hW => take_no7 w.heap.size t W P' (begD src mtu) none 0 0 [] hW.dr (HT.out W hW.bel) hTO hwl2 htk2
            have HE : Hid (R = ([], 70)) := by show _ = _; rw [HR.out, pak_mtu hz htk htk2]
            clear hz htk htk2 hTO hwl hwl2 hf hs HR ht hft hm3 hl3 hr3 hok
            obtain ⟨PB, hPB⟩ : ∃ l, pktD d = l := ⟨_, rfl⟩
            rw [hPB] at HPK 
            clear hPB
            go_wp2_with (first
              | (go_at_call 22; have kk := b5; refine (HTN.out _ H5).mono ?_; rintro e w6 ⟨rfl, b6⟩; have H6 := H5.below b6; have rT6 := rT5.below b6 rT5.lt)
              | (have kk := b5; refine ldT (.tmp 11) (by rfl) rfl gT t rfl rT5 ?_)
              | (go_at_call 21; have kk := rT4; refine (HCK.out _ H4.bel).mono ?_; rintro e w5 ⟨rfl, b5⟩; have H5 := H4.below b5; have rT5 := rT4.below b5 rT4.lt)
              | (have kk := rT4; refine ldT (.tmp 11) (by rfl) rfl gT t rfl rT4 ?_)
              | (have kk := rT3; refine stT (.tmp 11) (.tmp 27) (by rfl) rfl gT t _ rfl rfl rT3 ?_; intro w4 hg4 rT4; have H4 := H3.other hg4 rT3 hgT)
              | (refine alG infoTz (by rfl) rfl ?_; intro gT w3 t1 t2 t3 rT3; have hgT := Nat.le_trans H.bel.size t1; have H3 := H.below t3)
              | (refine ldTm (.tmp 26) (by rfl) rfl gl (ol + j * 68) t rfl rl ?_))
            have HX := H6.below (bd w6)
            have rT := rT6.below (bd w6) rT6.lt
            have rSX := HX.rS
            clear H H3 H4 H5 H6 rT3 rT4 rT5 rT6 rl
            refine wp_region_noPanic ?_
            refine wp_region_held_drew (S := fun W => Row W w.heap.size 23 (acells src)) (by kernel_rfl) (HX.rS) (fun hHeld => ?_)
            refine tA 0 ?_
            refine tA 1 ?_
            refine tL 5 rfl (yA src (fun W hW => hW.range) (by rfl) rfl rfl) ?_
            refine tA 6 ?_
            refine r1 2 fun K hK => ?_
            go_simp
            refine (HPK.out _ HX).mono ?_
            rintro e w12 ⟨ka, kn, kc, rfl, oKq, d2⟩
            replace oKq := own_le oKq HX.bel.size
            replace HX := HX.below d2
            replace rT := rT.below d2 rT.lt
            try replace D2 := D2.below d2
            clear d2
            refine oK hK (by exact HX.rS) fun hHeld => ?_
            clear hK K
            refine r1 3 fun K hK => ?_
            refine sBS [(0, .tmp 39)] (svcells [⟨ka, kn, kc, PB⟩]) (by rfl) rfl (rbS_1 ⟨ka, kn, kc, PB⟩) rfl ?_
            intro g3 w13 s3 d3
            replace oKq := own_keep oKq (grownBy_below none d3) (.inr rfl)
            replace HX := HX.below d3
            replace rT := rT.below d3 rT.lt
            try replace D2 := D2.below d3
            clear d3
            refine oK hK (by exact HX.rS) fun hHeld => ?_
            clear hK K
            refine r1 4 fun K hK => ?_
            refine sAppS (.tmp 37) (.tmp 40) (by rfl) rfl w.heap.size u8 qs.length qs rfl HX.ac.own ⟨g3, 0, none⟩ 1 ⟨ka, kn, kc, PB⟩ rfl s3 (by omega) HX.bel.size ?_
            intro v4 w14 own4 hg4
            replace rT := rT.grown hg4 (own_ne HX.ac.own rT (by decide))
            try replace D2 := D2.outer HX.ac.own hg4
            replace HX := HX.app (q := ⟨ka, kn, kc, PB⟩) oKq own4 hg4
            clear oKq s3
            refine oK hK (by exact HX.rS) fun hHeld => ?_
            clear hK K
            refine r1 7 fun K hK => ?_
            go_simp
            refine (HBG.out _).mono ?_
            rintro e w17 ⟨P2, rfl, D2, d7⟩
            replace D2 := D2.le HX.bel.size
            try replace oKq := own_keep oKq (grownBy_below none d7) (.inr rfl)
            try replace s3 := s3.below d7 s3.lt
            replace HX := HX.below d7
            replace rT := rT.below d7 rT.lt
            clear d7
            refine oK hK (by exact HX.rS) fun hHeld => ?_
            clear hK K
            refine tA 8 ?_
            refine tA 9 ?_
            refine dN ?_
            refine NoPanic.normal ?_
            clear hHeld
            replace HX : Lp w _ src P2 (begD src mtu) none 0 0 [] _ _ := ⟨HX.bel, HX.rS, D2, HX.ac⟩
            go_wp2_with (first
              | (go_at_call 22; refine (HT2.out _ _ _ _ HX).mono ?_; rintro e w40 ⟨rfl, b40⟩)
              | (refine ldT (.tmp 11) (by rfl) rfl gT t rfl rT ?_))
            go_ret2
            exact Packd.no HE.out (bt HX.bel b40)
          · have HT2 : Hid (∀ W P' v' qs', Lp w W src P' (begD src mtu) none 0 0 [] v' qs' → Calls Tryz.prog 22 #[.pointer (some ⟨P', 0, none⟩), .agg (tcells t).toArray] W fun e w' => e = .returned (.bool true) ∧ (∃ a' n' c' ps', Dr w.heap.size w' P' (takD (begD src mtu) t.key) a' n' c' ps' ∧ n' ≤ 0 + 1000) ∧ Fr W w' P' (Value.slice none 0 0).ownBlock) := fun W P' v' qs' hW => take_yes7 w.heap.size t W P' (begD src mtu) none 0 0 [] hW.dr (HT.out W hW.bel) hTO hwl2 htk2 hW.bel.size (by omega) (by show mtu - 4 ≤ 70000; omega)
            have HE : Hid (R = pakR src mtu (takD (begD src mtu) t.key) ((ts.drop (j + 1)).map Tl.key) (qs.map Part.l ++ [pktD d])) := by show _ = _; rw [HR.out, pak_next hz htk htk2]
            have HOK := HBO.out.tak hTO htk2
            clear hz htk htk2 hTO hwl hwl2 hf hs HR ht hft hm3 hl3 hr3 hok
            obtain ⟨PB, hPB⟩ : ∃ l, pktD d = l := ⟨_, rfl⟩
            rw [hPB] at HPK HE
            clear hPB
            go_wp2_with (first
              | (go_at_call 22; have kk := b5; refine (HTN.out _ H5).mono ?_; rintro e w6 ⟨rfl, b6⟩; have H6 := H5.below b6; have rT6 := rT5.below b6 rT5.lt)
              | (have kk := b5; refine ldT (.tmp 11) (by rfl) rfl gT t rfl rT5 ?_)
              | (go_at_call 21; have kk := rT4; refine (HCK.out _ H4.bel).mono ?_; rintro e w5 ⟨rfl, b5⟩; have H5 := H4.below b5; have rT5 := rT4.below b5 rT4.lt)
              | (have kk := rT4; refine ldT (.tmp 11) (by rfl) rfl gT t rfl rT4 ?_)
              | (have kk := rT3; refine stT (.tmp 11) (.tmp 27) (by rfl) rfl gT t _ rfl rfl rT3 ?_; intro w4 hg4 rT4; have H4 := H3.other hg4 rT3 hgT)
              | (refine alG infoTz (by rfl) rfl ?_; intro gT w3 t1 t2 t3 rT3; have hgT := Nat.le_trans H.bel.size t1; have H3 := H.below t3)
              | (refine ldTm (.tmp 26) (by rfl) rfl gl (ol + j * 68) t rfl rl ?_))
            have HX := H6.below (bd w6)
            have rT := rT6.below (bd w6) rT6.lt
            have rSX := HX.rS
            clear H H3 H4 H5 H6 rT3 rT4 rT5 rT6 rl
            refine wp_region_noPanic ?_
            refine wp_region_held_drew (S := fun W => Row W w.heap.size 23 (acells src)) (by kernel_rfl) (HX.rS) (fun hHeld => ?_)
            refine tA 0 ?_
            refine tA 1 ?_
            refine tL 5 rfl (yA src (fun W hW => hW.range) (by rfl) rfl rfl) ?_
            refine tA 6 ?_
            refine r1 2 fun K hK => ?_
            go_simp
            refine (HPK.out _ HX).mono ?_
            rintro e w12 ⟨ka, kn, kc, rfl, oKq, d2⟩
            replace oKq := own_le oKq HX.bel.size
            replace HX := HX.below d2
            replace rT := rT.below d2 rT.lt
            try replace D2 := D2.below d2
            clear d2
            refine oK hK (by exact HX.rS) fun hHeld => ?_
            clear hK K
            refine r1 3 fun K hK => ?_
            refine sBS [(0, .tmp 39)] (svcells [⟨ka, kn, kc, PB⟩]) (by rfl) rfl (rbS_1 ⟨ka, kn, kc, PB⟩) rfl ?_
            intro g3 w13 s3 d3
            replace oKq := own_keep oKq (grownBy_below none d3) (.inr rfl)
            replace HX := HX.below d3
            replace rT := rT.below d3 rT.lt
            try replace D2 := D2.below d3
            clear d3
            refine oK hK (by exact HX.rS) fun hHeld => ?_
            clear hK K
            refine r1 4 fun K hK => ?_
            refine sAppS (.tmp 37) (.tmp 40) (by rfl) rfl w.heap.size u8 qs.length qs rfl HX.ac.own ⟨g3, 0, none⟩ 1 ⟨ka, kn, kc, PB⟩ rfl s3 (by omega) HX.bel.size ?_
            intro v4 w14 own4 hg4
            replace rT := rT.grown hg4 (own_ne HX.ac.own rT (by decide))
            try replace D2 := D2.outer HX.ac.own hg4
            replace HX := HX.app (q := ⟨ka, kn, kc, PB⟩) oKq own4 hg4
            clear oKq s3
            refine oK hK (by exact HX.rS) fun hHeld => ?_
            clear hK K
            refine r1 7 fun K hK => ?_
            go_simp
            refine (HBG.out _).mono ?_
            rintro e w17 ⟨P2, rfl, D2, d7⟩
            replace D2 := D2.le HX.bel.size
            try replace oKq := own_keep oKq (grownBy_below none d7) (.inr rfl)
            try replace s3 := s3.below d7 s3.lt
            replace HX := HX.below d7
            replace rT := rT.below d7 rT.lt
            clear d7
            refine oK hK (by exact HX.rS) fun hHeld => ?_
            clear hK K
            refine tA 8 ?_
            refine tA 9 ?_
            refine dN ?_
            refine NoPanic.normal ?_
            clear hHeld
            replace HX : Lp w _ src P2 (begD src mtu) none 0 0 [] _ _ := ⟨HX.bel, HX.rS, D2, HX.ac⟩
            go_wp2_with (first
              | (go_at_call 22; refine (HT2.out _ _ _ _ HX).mono ?_; rintro e w40 ⟨rfl, ⟨a4, n4, c4, p4, D4, _⟩, f4⟩; have H40 := HX.taken D4 f4)
              | (refine ldT (.tmp 11) (by rfl) rfl gT t rfl rT ?_))
            go_roundw
            case rel => exact ⟨j + 1, P2, _, a4, n4, c4, p4, _, by omega, by go_num, rfl, H40, HOK, by simp; omega, by show _ = _; rw [HE.out]; simp⟩
            case measure => simp [intOf]; omega
        · have HTY : Hid (∀ W, Lp w W src P d a m c ps u8 qs → Calls Tryz.prog 22 #[.pointer (some ⟨P, 0, none⟩), .agg (tcells t).toArray] W fun e w' => e = .returned (.bool true) ∧ (∃ a' n' c' ps', Dr w.heap.size w' P (takD d t.key) a' n' c' ps' ∧ n' ≤ m + 1000) ∧ Fr W w' P (Value.slice a m c).ownBlock) := fun W hW => take_yes7 w.heap.size t W P d a m c ps hW.dr (HT.out W hW.bel) hTO hwl htk hW.bel.size (by omega) (by omega)
          have HE : Hid (R = pakR src mtu (takD d t.key) ((ts.drop (j + 1)).map Tl.key) (qs.map Part.l)) := by show _ = _; rw [HR.out, pak_yes hz htk]
          have HOK := hok.tak hTO htk
          clear hz htk hTO hwl hf hs HR ht hft hm3 hl3 hr3 hok
          go_wp2_with (first
            | (go_at_call 22; have kk := b5; refine (HTY.out _ H5).mono ?_; rintro e w6 ⟨rfl, ⟨a6, m6, c6, p6, D6, _⟩, f6⟩; have H6 := H5.taken D6 f6)
            | (have kk := b5; refine ldT (.tmp 11) (by rfl) rfl gT t rfl rT5 ?_)
            | (go_at_call 21; have kk := rT4; refine (HCK.out _ H4.bel).mono ?_; rintro e w5 ⟨rfl, b5⟩; have H5 := H4.below b5; have rT5 := rT4.below b5 rT4.lt)
            | (have kk := rT4; refine ldT (.tmp 11) (by rfl) rfl gT t rfl rT4 ?_)
            | (have kk := rT3; refine stT (.tmp 11) (.tmp 27) (by rfl) rfl gT t _ rfl rfl rT3 ?_; intro w4 hg4 rT4; have H4 := H3.other hg4 rT3 hgT)
            | (refine alG infoTz (by rfl) rfl ?_; intro gT w3 t1 t2 t3 rT3; have hgT := Nat.le_trans H.bel.size t1; have H3 := H.below t3)
            | (refine ldTm (.tmp 26) (by rfl) rfl gl (ol + j * 68) t rfl rl ?_))
          go_roundw
          case rel => exact ⟨j + 1, P, _, a6, m6, c6, p6, qs, by omega, by go_num, rfl, H6, HOK, by omega, HE.out⟩
          case measure => simp [intOf]; omega
      · have hne : (z != 0) = true := by simpa using hz0
        have HE : Hid (R = ([], z)) := by show _ = _; rw [HR.out, pak_bad (by rw [hz]; exact hz0), hz]
        clear hz hz0 hf hs HR ht hft
        go_wp2_with (first
          | (go_at_call 21; have kk := rT4; refine (HCK.out _ H4.bel).mono ?_; rintro e w5 ⟨rfl, b5⟩; have H5 := H4.below b5)
          | (have kk := rT4; refine ldT (.tmp 11) (by rfl) rfl gT t rfl rT4 ?_)
          | (have kk := rT3; refine stT (.tmp 11) (.tmp 27) (by rfl) rfl gT t _ rfl rfl rT3 ?_; intro w4 hg4 rT4; have H4 := H3.other hg4 rT3 hgT)
          | (refine alG infoTz (by rfl) rfl ?_; intro gT w3 t1 t2 t3 rT3; have hgT := Nat.le_trans H.bel.size t1; have H3 := H.below t3)
          | (refine ldTm (.tmp 26) (by rfl) rfl gl (ol + j * 68) t rfl rl ?_))
        go_ret2
        exact Packd.no HE.out H5.bel
    · obtain rfl : n = j := by omega
      have HE : Hid (R = (if d.ps = [] then qs.map Part.l else qs.map Part.l ++ [pktD d], 0)) := by
        show _ = _
        rw [HR.out, List.drop_eq_nil_of_le (by have := HN.out; omega)]
        rfl
      have hml : m = ps.length := (own_rws H.dr.own H.dr.bods).len.symm
      have hpl : ps.length = d.ps.length := by rw [← H.dr.keys]; simp [keys]
      have c43 := (d42 H.dr.row).2
      by_cases hm0 : m = 0
      · have e0 : d.ps = [] := List.eq_nil_of_length_eq_zero (by omega)
        rw [if_pos e0] at HE
        subst hm0
        clear hml hpl e0
        go_wp2
        go_ret2
        obtain ⟨aF, cF, rfl⟩ := own_shape2 H.ac.own
        exact ⟨aF, _, cF, qs, by rw [HE.out]; rfl, by rw [HE.out], rfl, H.ac, H.bel⟩
      · have e0 : d.ps ≠ [] := fun e => hm0 (by rw [hml, hpl, e]; rfl)
        rw [if_neg e0] at HE
        have hm4 : ¬ (m : Int) ≤ 0 := by omega
        have hm5 : (0 : Int) < (m : Int) := by omega
        have HPK : Hid (Calls Tryz.prog 23 #[.pointer (some ⟨P, 0, none⟩)] wr (LaidN wr (pktD d))) := pkt_any w.heap.size wr P d a m c ps H.dr hok.ok hl3 (by omega)
        have HML : Hid (m = ps.length) := hml
        clear hml hpl e0 hm0 hok hf hs HR
        obtain ⟨PB, hPB⟩ : ∃ l, pktD d = l := ⟨_, rfl⟩
        rw [hPB] at HPK HE
        clear hPB
        go_wp2_with (first
          | (at_builtin; have kk := o6; refine appS rfl (.tmp 56) (.tmp 59) rfl w.heap.size u8 qs.length qs rfl (H6.alloc _).ac.own ⟨w6.heap.size, 0, none⟩ 1 ⟨a6, n6, c6, PB⟩ rfl (new_src_of w6 #[.slice a6 n6 c6] 46) (by omega) (H6.alloc _).bel.size ?_; intro v7 w7 own7 hg7; have H7 := (H6.alloc (.cells #[.slice a6 n6 c6] 46)).app (q := ⟨a6, n6, c6, PB⟩) (own_keep o6 (World.grownBy_alloc _ _ none) (.inr rfl)) own7 hg7)
          | (go_at_call 23; refine HPK.out.mono ?_; rintro e w6 ⟨a6, n6, c6, rfl, o6, b6⟩; replace o6 := own_le o6 H.bel.size; have H6 := H.below b6))
        go_ret2
        obtain ⟨aF, cF, rfl⟩ := own_shape2 H7.ac.own
        exact ⟨aF, _, cF, _, by rw [HE.out]; rfl, by rw [HE.out]; simp, rfl, H7.ac, H7.bel⟩
end Go.Proofs.YtdibjgcokebfbaaGreat

namespace Go.Proofs.YtdibjgcokebfbaaGreat
open Go.RowKit
set_option linter.unusedSimpArgs false
set_option maxRecDepth 20000
variable {bv : Option Addr}
/-- What the pieces say is known, one by one. -/
def Speaks (src : Ad) (ks : List (UInt8 × List UInt8)) : Prop := ∀ (i : Nat) (k : UInt8 × List UInt8), ks[i]? = some k → ∀ (W : World) (P : Nat) (R : Option Nat) (pa : Option Addr) (pn pc : Nat), Par W P R (tellS (bgS src) (ks.take i)) → Src W pa pn pc (bcells k.2) →
  Calls Tryz.prog 44 #[.pointer (some ⟨P, 0, none⟩), .agg #[.int .u8 (k.1.toNat : Int), .slice pa pn pc]] W (Said W P (sayS (tellS (bgS src) (ks.take i)) k.1.toNat k.2) (sayK (tellS (bgS src) (ks.take i)) k.1.toNat k.2) (sayB (tellS (bgS src) (ks.take i)) k.1.toNat k.2))
theorem update_by {w : World} {P g : Nat} {l : List UInt8} {r : RS} {s : St} (hpar : Par w P (some g) s) (h : RdS w g bv l r) (hl : l.length ≤ 100000) (h2 : r.val l 1 = 2) (hX0 : pfX s 2 (((r.adv l 1).adv l 1).val l 1) ((((r.adv l 1).adv l 1).adv l 1).val l 1) = false) (hm0 : (((((((r.adv l 1).adv l 1).adv l 1).adv l 1).adv l 2).adv l 2).val l 2) ≠ 65535) (hy0 : (pfR s 2 (((r.adv l 1).adv l 1).val l 1) ((((r.adv l 1).adv l 1).adv l 1).val l 1) l (((((((r.adv l 1).adv l 1).adv l 1).adv l 1).adv l 2).adv l 2).adv l 2)).y = 0) (hb0 : wiB [128] l (pfR s 2 (((r.adv l 1).adv l 1).val l 1) ((((r.adv l 1).adv l 1).adv l 1).val l 1) l (((((((r.adv l 1).adv l 1).adv l 1).adv l 1).adv l 2).adv l 2).adv l 2)) = true) (hx0 : (wiL [128] l (pfR s 2 (((r.adv l 1).adv l 1).val l 1) ((((r.adv l 1).adv l 1).adv l 1).val l 1) l (((((((r.adv l 1).adv l 1).adv l 1).adv l 1).adv l 2).adv l 2).adv l 2))).length = 0) (hc0 : chkQ ⟨pfP s 2 (((r.adv l 1).adv l 1).val l 1) ((((r.adv l 1).adv l 1).adv l 1).val l 1) l (((((((r.adv l 1).adv l 1).adv l 1).adv l 1).adv l 2).adv l 2).adv l 2), anyP (famP (pfP s 2 (((r.adv l 1).adv l 1).val l 1) ((((r.adv l 1).adv l 1).adv l 1).val l 1) l (((((((r.adv l 1).adv l 1).adv l 1).adv l 1).adv l 2).adv l 2).adv l 2)))⟩ = 0) :
    Calls Tryz.prog 81 #[.pointer (some ⟨P, 0, none⟩)] w fun e w' => SayR w (upK s l r) (upB s l r) e w' ∧ (∃ R, Par w' P R (upS s l r)) ∧ Mv w w' P g := by
  have h0 : r.val l 1 ≠ 0 := by rw [h2]; decide
  have aeH : Hid (r.val l 1 = 2) := h2
  obtain ⟨fl, flH⟩ : ∃ x, Hid ((r.adv l 1).val l 1 = x) := ⟨_, rfl⟩
  obtain ⟨pl, plH⟩ : ∃ x, Hid (((r.adv l 1).adv l 1).val l 1 = x) := ⟨_, rfl⟩
  obtain ⟨om, omH⟩ : ∃ x, Hid ((((r.adv l 1).adv l 1).adv l 1).val l 1 = x) := ⟨_, rfl⟩
  obtain ⟨iv, ivH⟩ : ∃ x, Hid (((((r.adv l 1).adv l 1).adv l 1).adv l 1).val l 2 = x) := ⟨_, rfl⟩
  obtain ⟨sq, sqH⟩ : ∃ x, Hid ((((((r.adv l 1).adv l 1).adv l 1).adv l 1).adv l 2).val l 2 = x) := ⟨_, rfl⟩
  obtain ⟨mt, mtH⟩ : ∃ x, Hid (((((((r.adv l 1).adv l 1).adv l 1).adv l 1).adv l 2).adv l 2).val l 2 = x) := ⟨_, rfl⟩
  have hpl : pl < 256 := by rw [← plH.out]; exact val1_lt _ l
  have hom : om < 256 := by rw [← omH.out]; exact val1_lt _ l
  have hae : (((2 : Nat) : Int) == 0) = false := by decide
  rw [plH.out, omH.out] at hX0 hy0 hb0 hx0 hc0
  rw [mtH.out] at hm0
  obtain ⟨s1, hs1⟩ : ∃ x, upS s l r = x := ⟨_, rfl⟩
  have ES : s1 = if (pfR s 2 pl om l (((((((r.adv l 1).adv l 1).adv l 1).adv l 1).adv l 2).adv l 2).adv l 2)).y = 0 then kpS s 2 fl (pfP s 2 pl om l (((((((r.adv l 1).adv l 1).adv l 1).adv l 1).adv l 2).adv l 2).adv l 2)).a else s := by
    rw [← hs1]; unfold upS; rw [if_neg h0, aeH.out, flH.out, plH.out, omH.out]
  unfold upK upB
  rw [if_neg h0, if_neg h0, hs1, aeH.out, plH.out, omH.out, ivH.out, sqH.out, mtH.out]
  clear hs1 h0
  have HP : Hid (∀ W, Par W P (some g) s → RdS W g bv l (((((((r.adv l 1).adv l 1).adv l 1).adv l 1).adv l 2).adv l 2).adv l 2) → Calls Tryz.prog 116 #[.pointer (some ⟨P, 0, none⟩), .int .u8 ((2 : Nat) : Int), .int .i64 (pl : Int), .int .i64 (om : Int)] W fun e w' => e = .returned (Value.agg (pcells (pfP s 2 pl om l (((((((r.adv l 1).adv l 1).adv l 1).adv l 1).adv l 2).adv l 2).adv l 2))).toArray) ∧ NowS W w' g bv l (pfR s 2 pl om l (((((((r.adv l 1).adv l 1).adv l 1).adv l 1).adv l 2).adv l 2).adv l 2))) := fun W h1 h2 => by
    have e1 : ∀ rr, pfP s 2 pl om l rr = ⟨pfA3 s 2 pl om l rr, ((8 * frN 2 + pl : Nat) : Int)⟩ := fun rr => by unfold pfP; rw [hX0]; rfl
    have e2 : ∀ rr, pfR s 2 pl om l rr = rr.adv l ((pfN pl - om : Nat) : Int) := fun rr => by unfold pfR; rw [hX0]; rfl
    rw [e1, e2]
    exact prefix_ok2 pl om hpl hom hX0 h1 h2
  generalize pfP s 2 pl om l (((((((r.adv l 1).adv l 1).adv l 1).adv l 1).adv l 2).adv l 2).adv l 2) = dst at *
  generalize pfR s 2 pl om l (((((((r.adv l 1).adv l 1).adv l 1).adv l 1).adv l 2).adv l 2).adv l 2) = rn at *
  have HQ : Hid (∀ W, Par W P (some g) s1 → RdS W g bv l rn → Calls Tryz.prog 118 #[.pointer (some ⟨P, 0, none⟩), .int .u8 ((2 : Nat) : Int), (Value.agg (pcells dst).toArray)] W (Paired W P g s1 (prQ s1 2 dst l rn) (prB s1 2 dst l rn))) := fun W h1 h2 => by
    have e1 : wiL [128] l rn = [] := List.length_eq_zero_iff.1 hx0
    unfold prQ prB prK prW
    rw [hb0, e1]
    simpa using pair_0 2 dst hl h1 h2 hb0 hx0
  have hbt : prB s1 2 dst l rn = true := by
    have e1 : wiL [128] l rn = [] := List.length_eq_zero_iff.1 hx0
    unfold prB prK prW
    rw [hb0, e1]
    simp [hc0]
  clear hb0 hx0 hc0 hX0
  have HW : ∀ W, Pg W P g → RdS W g bv l rn → Calls Tryz.prog 112 #[.pointer (some ⟨P, 0, none⟩)] W fun e w' => e = .returned (.bool (rn.y == 0)) ∧ NowS W w' g bv l rn := fun W h1 h2 => well_any h1 h2
  have HFM : Hid (∀ W, Calls Tryz.prog 48 #[(Value.agg (pcells dst).toArray)] W (Gives W (.int .i64 (famP dst)))) := fun W => pfam_any dst W
  have hf := famP_or dst
  generalize famP dst = f at *
  generalize prQ s1 2 dst l rn = q at *
  generalize prB s1 2 dst l rn = b at *
  subst hbt
  rw [if_pos hy0] at ES
  have HK : Hid (∀ W, Par W P (some g) s → Calls Tryz.prog 117 #[.pointer (some ⟨P, 0, none⟩), .int .u8 ((2 : Nat) : Int), .int .u8 (fl : Int), (Value.agg (acells dst.a).toArray)] W fun e w' => e = .returned (.tuple #[]) ∧ Par w' P (some g) s1 ∧ W.grownBy w' (some P)) := fun W h1 => by rw [ES]; exact keep_any 2 fl dst.a (.inr rfl) h1
  have hy' : (rn.y == 0) = true := by simpa using hy0
  rw [hy'] at HW
  rw [if_neg hm0, show (true && (decide (mt = 65535) || upOk s1 f)) = upOk s1 f by simp [hm0]]
  exact update_y_rest hpar h aeH flH plH omH ivH sqH mtH hae HP HW HK HQ (by simp; omega) HFM hf (rfl : _ = _) (rfl : _ = _)
theorem say_8by {w : World} {P : Nat} {R : Option Nat} {s : St} (a : Option Addr) (n c : Nat) (l : List UInt8) (hs : Src w a n c (bcells l)) (hl : l.length ≤ 100000) (hpar : Par w P R s) (HU : ∀ (W : World) (g : Nat) (bv : Option Addr), Par W P (some g) s → RdS W g bv l r0 → Calls Tryz.prog 81 #[.pointer (some ⟨P, 0, none⟩)] W fun e w' => SayR W (upK s l r0) (upB s l r0) e w' ∧ (∃ R, Par w' P R (upS s l r0)) ∧ Mv W w' P g) :
    Calls Tryz.prog 44 #[.pointer (some ⟨P, 0, none⟩), .agg #[.int .u8 8, .slice a n c]] w (Said w P (upS s l r0) (upK s l r0) (upB s l r0)) := by
  have hPl := hpar.lt
  have hn : n ≤ 140737488355328 := by have := hs.blen; omega
  obtain ⟨KK, hK⟩ : ∃ x, Hid (upK s l r0 = x) := ⟨_, rfl⟩
  obtain ⟨BB, hB⟩ : ∃ x, Hid (upB s l r0 = x) := ⟨_, rfl⟩
  obtain ⟨SS, hS⟩ : ∃ x, Hid ((upS s l r0) = x) := ⟨_, rfl⟩
  rw [hK.out, hB.out, hS.out]
  have HM : Hid (∀ (W : World) (g : Nat) (bv : Option Addr), Par W P (some g) s → RdS W g bv l r0 → Calls Tryz.prog 81 #[.pointer (some ⟨P, 0, none⟩)] W fun e w' => SayR W KK BB e w' ∧ (∃ R, Par w' P R SS) ∧ Mv W w' P g) := fun W g bv P3 R3 => by
    rw [← hK.out, ← hB.out, ← hS.out]
    exact HU W g bv P3 R3
  clear HU
  go_enter Tryz.func44, Tryz.ntmps44
  go_wp2_with (first
    | (have kk := m4; refine stT (.tmp 4) (.tmp 50) (by rfl) rfl gA tt _ rfl rfl rA4 ?_; intro w5 hg5 r5)
    | (go_at_call 81; have kk := P3; refine (HM.out _ _ _ P3 R3).mono ?_; rintro e w4 ⟨⟨tt, rfl, htt, st4⟩, ⟨R4, P4⟩, m4⟩; have rA4 := m4.row rA3 (by omega) (by omega))
    | (go_at_call 67; refine (new_any a n c l _ ((hs.alloc _).below a3 (hs.alloc _).lt) hn).mono ?_; rintro e w2 ⟨g, bv, rfl, hge, hbv, hr2, hb2⟩; have bb := bt (bt (ba w (.cells #[.int .u8 8, .slice a n c] 94)) a3) hb2; have sA := a3.size; have hA0 : w.heap.size ≤ gA := (by simp at a1; omega); have hg0 : w.heap.size ≤ g := (by simp at sA; omega); have P2 := hpar.below bb; have c2 : ∃ v, w2.cell? ⟨P, 11, none⟩ = some v := P2.c11; have f2 := P2.frozen 11; have P3 := P2.setR (g := g); have hgP : g ≠ P := (by omega); have R3 : RdS (w2.setCell ⟨P, 11, none⟩ (.pointer (some ⟨g, 0, none⟩))) g bv l r0 := rd_far (r := r0) hr2 (grownBy_setCell _ _ _ _) hgP (fun ad had _ => by have := hbv ad had; simp at sA; omega); have M3 : Mv w (w2.setCell ⟨P, 11, none⟩ (.pointer (some ⟨g, 0, none⟩))) P g := (Mv.ofB bb).setP 11 _; have rA2 := rA.below hb2 a2; have rA3 := rA2.setOther P 11 (.pointer (some ⟨g, 0, none⟩)) (by omega); have hAg : gA < g := Nat.lt_of_lt_of_le a2 hge; obtain ⟨v2, c2⟩ := c2; have c0 : w2.cell? ⟨w.heap.size, 0, none⟩ = some (.int .u8 8) := (hb2.cell (p := ⟨w.heap.size, 0, none⟩) (by simp at sA; show w.heap.size < _; omega)).trans ((a3.cell (p := ⟨w.heap.size, 0, none⟩) (by simp)).trans ((Row.new w 94 [.int .u8 8, .slice a n c]).cell 0)))
    | (refine alG infoTz (by rfl) rfl ?_; intro gA wA a1 a2 a3 rA; have cb : wA.cell? ⟨w.heap.size, 1, none⟩ = some (.slice a n c) := (a3.cell (p := ⟨w.heap.size, 1, none⟩) (by simp)).trans ((Row.new w 94 [.int .u8 8, .slice a n c]).cell 1)))
  have M5 := (M3.trans m4).fresh hg5 hA0
  have st5 : Stms w.heap.size w5 tt := own_keep (own_le st4 M3.size) hg5 (.inl (fun e => own_ne st4 rA4 (by decide) e.symm))
  have P5 := P4.fresh hg5 (rA4.kind (by decide) (by decide) (by decide))
  exact bodyPost_ret (retCT rfl _ _ 0 rfl (lvT r5)) rfl ⟨⟨tt, rfl, htt, st5⟩, ⟨_, P5⟩, Mv.low M5 (Below.refl _ _) hg0⟩
set_option maxHeartbeats 8000000 in
theorem parse_by (src : Ad) (a : Option Addr) (n0 c : Nat) (l : List UInt8) (w : World) (hs : Src w a n0 c (bcells l)) (hn : n0 ≤ 100000) (he : opE l = 0) (HSP0 : Speaks src (splL (opB l)).1) : Calls Tryz.prog 18 #[(Value.agg (acells src).toArray), .slice a n0 c] w (Parsed w src l) := by
  have hlen := hs.blen
  have hB := opB_le l
  obtain ⟨body, hbody⟩ : ∃ b, opB l = b := ⟨_, rfl⟩
  obtain ⟨N, HN⟩ : ∃ N, Hid (N = body.length) := ⟨_, rfl⟩
  obtain ⟨z, HZ⟩ : ∃ z, Hid (z = (splL body).2) := ⟨_, rfl⟩
  have HE : Hid (parE l = z ∧ parL src l = tellL (bgS src) (splL body).1 ∧ body.length ≤ l.length) := ⟨by unfold parE; rw [he, hbody, HZ.out]; simp, by unfold parL; rw [hbody], by rw [← hbody]; exact hB⟩
  have hO : Hid (∀ W, Src W a n0 c (bcells l) → Calls Tryz.prog 41 #[.slice a n0 c] W fun e w' => ∃ a1 c1 a2 n2 c2, e = .returned (.tuple #[.slice a1 N c1, .slice a2 n2 c2, .int .i64 0]) ∧ Src w' a1 N c1 (bcells body) ∧ Below W.heap.size W w') := fun W h => by
    refine (open_any a n0 c l W h (by omega)).mono ?_
    rintro e w' ⟨a1, c1, a2, c2, rfl, s1, _, hb⟩
    have s1 := s1.1
    rw [hbody] at s1
    rw [he, hbody, HN.out]
    exact ⟨a1, c1, a2, _, c2, rfl, s1, hb⟩
  have hNl : N ≤ 100000 := by have := HN.out; have := HE.out.2.2; omega
  have HSP : Hid (∀ W a c, Src W a N c (bcells body) → Calls Tryz.prog 42 #[.slice a N c] W fun e w' => ∃ a c ps n, Hid (n = ps.length) ∧ e = .returned (.tuple #[.slice a n c, .int .i64 z]) ∧ Hid (keys ps = (splL body).1) ∧ Rws w' a n ps ∧ Hid (ps.length ≤ body.length) ∧ n ≤ 100000 ∧ Below W.heap.size W w') := by
    intro W a c h
    refine (split_any a N c body W h (by omega)).mono ?_
    rintro e w' ⟨a, c, ps, rfl, k1, k2, k3, k4, k5⟩
    rw [HZ.out]
    exact ⟨a, c, ps, _, (rfl : _ = _), rfl, k1, own_rws k2 k3, k4, by have := HN.out; omega, k5⟩
  have HBG := begin_any src
  have HLE : Hid (∀ k ∈ (splL body).1, k.2.length ≤ 100000) := fun k hk => by have := spl_le _ _ k hk; have := HN.out; omega
  have HSQ : Hid (Speaks src (splL body).1) := by rw [← hbody]; exact HSP0
  clear HSP0
  clear he hbody hB HZ hlen
  go_enter Tryz.func18, Tryz.ntmps18
  go_wp2_with (first
    | (go_at_call 43; have kk := hk2; refine (HBG _).mono ?_; rintro e w3 ⟨P, rfl, hP, par3, b3⟩)
    | (have kk := hk2; refine ldA (.tmp 2) (by rfl) rfl w.heap.size 0 src rfl rS.range ?_)
    | (go_at_call 42; refine (HSP.out _ _ _ s1).mono ?_; rintro e w2 ⟨a2, c2, ps, n, hn2, rfl, hk2, rw2, hle2, hnn, b2⟩; have bb2 := bt (bt (ba w (.cells (acells src).toArray 23)) b1) b2; have rS : Row w2 w.heap.size 23 (acells src) := ((Row.new w 23 (acells src)).below b1 (by simp)).below b2 (by have := b1.size; simp at this; omega))
    | (go_at_call 41; refine (hO.out _ (hs.alloc _)).mono ?_; rintro e w1 ⟨a1, c1, at1, nt1, ct1, rfl, s1, b1⟩))
  clear rS kk
  go_loopw [10, 34] (fun v i wr => ∃ (j : Nat) (ts : List Tl), j ≤ n ∧ i = .int .i64 j ∧ ts.length ≤ j ∧ PrAt w2 wr P src (keys (ps.take j)) v ts) (fun _ i _ => n - (intOf i).toNat)
  case atStart => exact ⟨0, [], Nat.zero_le _, rfl, Nat.le_refl _, ⟨World.ownsRow_nil _ _ _ _, (fun _ h => by cases h), rfl, ⟨_, par3⟩, b3⟩⟩
  case round =>
    clear par3 b3
    obtain ⟨j, ts, hj, rfl, htj, H⟩ := hrel
    by_cases hlt : j < n
    · have hjk : j < ps.length := by have := hn2.out; omega
      obtain ⟨gp, op, rfl, c0, c1⟩ := (rw2.below H.bel).at hjk
      have sB := (rw2.body ps[j] (List.getElem_mem hjk)).below H.bel (rw2.body ps[j] (List.getElem_mem hjk)).lt
      have hpl : ps[j].l.length ≤ 100000 := HLE.out (ps[j].t, ps[j].l) (by rw [← hk2.out]; exact List.mem_map.2 ⟨ps[j], List.getElem_mem hjk, rfl⟩)
      have HT := keys_take ps j hjk
      have htl := ps[j].t.toNat_lt
      have EK : (splL body).1.take j = keys (ps.take j) := by rw [← hk2.out]; unfold keys; rw [List.map_take]
      have HSJ := HSQ.out j (ps[j].t, ps[j].l) (by rw [← hk2.out]; unfold keys; rw [List.getElem?_map, List.getElem?_eq_getElem hjk]; rfl)
      rw [EK] at HSJ
      dsimp only at HSJ
      clear EK HSQ
      obtain ⟨S, hS⟩ : ∃ S, tellS (bgS src) (keys (ps.take j)) = S := ⟨_, rfl⟩
      rw [hS] at HSJ
      generalize ps[j].t = pt at *
      generalize ps[j].a = pa at *
      generalize ps[j].n = pn at *
      generalize ps[j].c = pc at *
      generalize ps[j].l = pl at *
      obtain ⟨bb, hbb⟩ : ∃ b, sayB S pt.toNat pl = b := ⟨_, rfl⟩
      have HSY : Hid (∀ W R, Par W P R S → Src W pa pn pc (bcells pl) → Calls Tryz.prog 44 #[.pointer (some ⟨P, 0, none⟩), .agg #[.int .u8 (pt.toNat : Int), .slice pa pn pc]] W (Said W P (sayS S pt.toNat pl) (sayK S pt.toNat pl) bb)) := fun W R h1 h2 => by rw [← hbb]; exact HSJ W P R pa pn pc h1 h2
      clear HSJ
      have HBB : Hid (sayB (tellS (bgS src) (keys (ps.take j))) pt.toNat pl = bb) := by show _ = _; rw [hS]; exact hbb
      have HSS : Hid (tellS (bgS src) (keys (ps.take j)) = S) := hS
      have HTT : Hid (keys (ps.take (j + 1)) = keys (ps.take j) ++ [(pt, pl)]) := HT
      obtain ⟨R0, p0⟩ := H.par
      rw [hS] at p0
      have p1 := p0.below (ba wr (.cells #[.int .u8 (pt.toNat : Int), .slice pa pn pc] 94))
      have hbs := H.bel.size
      have hlt2 : ts.length + 1 ≤ 1000000 := by omega
      clear hS hbb HT p0
      cases bb
      · go_wp2_with (first
          | (have kk := hg4; refine stT (.tmp 14) (.tmp 42) (by rfl) rfl gT tt _ rfl rfl rT ?_; intro w5 hg5 r5)
          | (have kk := hg4; refine alG infoTz (by rfl) rfl ?_; intro gT wT t1 t2 t3 rT)
          | (go_at_call 44; refine (HSY.out _ _ p1 (sB.alloc _)).mono ?_; rintro e w4 ⟨⟨tt, rfl, htt, st4⟩, p4, hg4⟩))
        have b45 : Below w4.heap.size w4 w5 := t3.grown hg5 t3.size (fun k hk => by cases hk; exact t1)
        go_roundw
        case rel =>
          have q := H.said hP _ hg4 p4 b45
          rw [← HSS.out] at q
          exact ⟨j + 1, ts, by omega, by go_num, by omega, by rw [HTT.out]; exact q.skip (k := (pt, pl)) H.keys HBB.out⟩
        case measure => simp [intOf]; omega
      · go_wp2_with (first
          | (at_builtin; have kk := rL; refine append_tlv rfl (.tmp 45) (.tmp 47) rfl w2.heap.size u10 ts.length ts rfl q6.own gL tt 1 rfl rL hlt2 q6.bel.size ?_; intro v7 w7 own7 hg7)
          | (have kk := r5; refine bsT (.tmp 46) (by rfl) rfl tt rfl ?_; intro gL w6 l1 l2 rL; have b46 := b45.trans (l2.mono b45.size); have q6 := H.said hP _ hg4 p4 b46)
          | (have kk := r5; refine ldT (.tmp 14) (by rfl) rfl gT tt rfl r5 ?_)
          | (have kk := hg4; refine stT (.tmp 14) (.tmp 42) (by rfl) rfl gT tt _ rfl rfl rT ?_; intro w5 hg5 r5; have b45 : Below w4.heap.size w4 w5 := t3.grown hg5 t3.size (fun k hk => by cases hk; exact t1))
          | (have kk := hg4; refine alG infoTz (by rfl) rfl ?_; intro gT wT t1 t2 t3 rT)
          | (go_at_call 44; refine (HSY.out _ _ p1 (sB.alloc _)).mono ?_; rintro e w4 ⟨⟨tt, rfl, htt, st4⟩, p4, hg4⟩))
        have st6 : Stms w2.heap.size w6 tt := own_keep (own_le st4 (by simp; omega)) (grownBy_below none b46) (.inr rfl)
        rw [← HSS.out] at q6 htt
        have q7 := q6.push (k := (pt, pl)) H.keys HBB.out (htt (by first | rfl | trivial)) st6 own7 hg7
        go_roundw
        case rel => exact ⟨j + 1, ts ++ [tt], by omega, by go_num, by simp; omega, by rw [HTT.out]; exact q7⟩
        case measure => simp [intOf]; omega
    · obtain rfl : n = j := by omega
      have hps : ps.take n = ps := List.take_of_length_le (by have := hn2.out; omega)
      rw [hps, hk2.out] at H
      go_wp2
      go_ret2
      obtain ⟨aF, cF, rfl⟩ := own_shape2 H.own
      obtain ⟨e1, e2, e3⟩ := HE.out
      refine ⟨aF, cF, ts, by rw [e1]; rfl, by rw [e2]; exact H.keys, by have := hn2.out; have := hle2.out; omega, ⟨own_le H.own bb2.size, fun t ht => own_le (H.stms t ht) bb2.size⟩, bb2.trans (H.bel.mono bb2.size)⟩
end Go.Proofs.YtdibjgcokebfbaaGreat
