/-
  The document's Pack.
-/
import Derived.Test.YtdibjgcokebfbaaGreatM31
import Derived.BigQuiet
import Derived.Test.YtdibjgcokebfbaaGreatM20
import Derived.OpenShut
import Derived.ChangeOld
import Derived.Below
import Derived.SizedLaws
import Derived.Deep.SlicePairs
import Derived.Test.YtdibjgcokebfbaaGreatM23
namespace Go.Proofs.YtdibjgcokebfbaaGreat
open Go.RowKit
set_option linter.unusedSimpArgs false
set_option maxRecDepth 20000
/-- What holds in a round of the document's Pack. -/
structure Lq (w W : World) (src : Ad) (P : Nat) (d : DS) (k : Bool) (a : Option Addr) (m c g : Nat) (v : Value) (qs : List Part) : Prop where
  bel : Below w.heap.size w W
  rS : Row W w.heap.size 23 (acells src)
  op : Opn W P d.o k a m c (d.ps.flatMap encK) g
  ge : w.heap.size < P
  ac : Ac w.heap.size W v qs
theorem Lq.below {w W W' : World} {src : Ad} {P : Nat} {d : DS} {k : Bool} {a : Option Addr} {m c g : Nat} {v : Value} {qs : List Part} (h : Lq w W src P d k a m c g v qs) (b : Below W.heap.size W W') : Lq w W' src P d k a m c g v qs :=
  ⟨bt h.bel b, h.rS.below b h.rS.lt, h.op.below b, h.ge, h.ac.below b⟩
theorem Ac.oth {B : Nat} {W W' : World} {v : Value} {qs : List Part} {g : Nat} {cs : List Value} (h : Ac B W v qs) (r : Row W g 82 cs) (hg : W.grownBy W' (some g)) : Ac B W' v qs :=
  ⟨own_keep h.own hg (.inl fun e => own_ne h.own r (by decide) e.symm), fun q hq => own_keep (h.bods q hq) hg (.inl fun e => own_ne (h.bods q hq) r (by decide) e.symm)⟩
theorem Lq.taken {w W W' : World} {src : Ad} {P : Nat} {d d' : DS} {k k' : Bool} {a a' : Option Addr} {m c g m' c' g' : Nat} {v : Value} {qs : List Part} (h : Lq w W src P d k a m c g v qs) (hg : W.grownBy W' (some P)) (ho : Opn W' P d'.o k' a' m' c' (d'.ps.flatMap encK) g') : Lq w W' src P d' k' a' m' c' g' v qs :=
  ⟨h.bel.grown hg h.bel.size (fun q hq => by cases hq; exact Nat.le_of_lt h.ge), h.rS.grown hg (by have := h.ge; simp; omega), ho, h.ge, h.ac.oth h.op.row hg⟩
theorem Opn.oth {W W' : World} {P B g : Nat} {o : TS} {k : Bool} {a : Option Addr} {m c : Nat} {l : List UInt8} {v : Value} {n : Nat} {xs : List Value} (h : Opn W P o k a m c l g) (ho : W.ownsRow B 46 1 v n xs) (hg : W.grownBy W' v.ownBlock) (hs : Src W' a m c (bcells l)) : Opn W' P o k a m c l g :=
  ⟨h.row.grown hg (own_ne ho h.row (by decide)), hs, h.st.grown hg (own_ne ho h.st (by decide)), h.no⟩
theorem tak_add {mtu : Int} {d : DS} {k : TK} (h : DOk d mtu) (hk : TOk k) : (takB d k = true ↔ (((d.ps.flatMap encK ++ (witP d.o k).flatMap encK).length : Nat) : Int) + 4 ≤ mtu) := by
  rw [List.length_append, encK_len _ h.ok, wit_len _ hk.nam]
  unfold takB
  rw [decide_eq_true_eq]
  have := h.sum
  omega
theorem takD_enc (d : DS) (k : TK) : (takD d k).ps.flatMap encK = d.ps.flatMap encK ++ (witP d.o k).flatMap encK := by simp [takD]
theorem pak_err' (src : Ad) (mtu : Int) (ts : List Tl) (j : Nat) (hj : j < ts.length) (h : ∀ t ∈ ts.take j, fitN src mtu t.key = 0) (hne : fitN src mtu ts[j].key ≠ 0) : pakR src mtu (begD src mtu) (ts.map Tl.key) [] = ([], fitN src mtu ts[j].key) := by
  have := pak_err src mtu (ts.map Tl.key) (begD src mtu) [] j (by simpa using hj) (Paid.beg src mtu) (fun i hi => by
    rw [List.getElem_map]
    exact h _ (List.mem_take_iff_getElem.2 ⟨i, by omega, rfl⟩)) (by rw [List.getElem_map]; exact hne)
  rw [List.getElem_map] at this
  exact this
theorem shapeV {B n : Nat} {T : TypeId} {W : World} {v : Value} {xs : List Value} (h : W.ownsRow B T 1 v n xs) : ∃ a c, v = .slice a n c := by
  rcases h.2 with ⟨rfl, rfl⟩ | ⟨g, c, arr, rfl, _⟩
  · exact ⟨none, 0, rfl⟩
  · exact ⟨_, c, rfl⟩
theorem rpack_bad (src : Ad) (mtu : Int) (al : Option Addr) (n cl : Nat) (ks : List TK) (w : World) (hm : mtu < 64 ∨ 65539 < mtu) :
    Calls Tryz.prog 8 #[(Value.agg (acells src).toArray), .int .i64 mtu, .slice al n cl] w (Packd w (pakL src mtu ks)) := by
  have HE : Hid (pakL src mtu ks = ([], 2)) := by show _ = _; unfold pakL; rw [if_pos hm]
  generalize pakL src mtu ks = R at *
  rcases hm with hm | hm
  · go_enter Tryz.func8, Tryz.ntmps8
    go_wp2
    go_ret2
    exact Packd.no HE.out (ba _ _)
  · have hm' : ¬ mtu < 64 := by omega
    go_enter Tryz.func8, Tryz.ntmps8
    go_wp2
    go_ret2
    exact Packd.no HE.out (ba _ _)
set_option maxHeartbeats 16000000 in
theorem rpack_ok (src : Ad) (mtu : Int) (al : Option Addr) (n cl : Nat) (ts : List Tl) (w : World) (hs : TlW w al n ts) (hf : ∀ t ∈ ts, TFit t.key ∧ t.sn ≤ 100000) (hn : n ≤ 100000) (h0 : 64 ≤ mtu) (h1 : mtu ≤ 65539) :
    Calls Tryz.prog 8 #[(Value.agg (acells src).toArray), .int .i64 mtu, .slice al n cl] w (Packd w (pakL src mtu (ts.map Tl.key))) := by
  have HN : Hid (n = ts.length) := hs.len.symm
  obtain ⟨R, hR⟩ : ∃ R, pakL src mtu (ts.map Tl.key) = R := ⟨_, rfl⟩
  have HR : Hid (R = pakR src mtu (begD src mtu) (ts.map Tl.key) []) := by
    show _ = _
    rw [← hR]; unfold pakL; rw [if_neg (by omega)]
  rw [hR]
  clear hR
  have HB := rbegin7_any src
  have RS := Row.new w 23 (acells src)
  have BS := ba w (.cells (acells src).toArray 23)
  have hm1 : ¬ mtu < 64 := by omega
  have hm2 : ¬ 65539 < mtu := by omega
  have HBO : Hid (DOk (begD src mtu) mtu) := DOk.beg src h0
  go_enter Tryz.func8, Tryz.ntmps8
  go_wp2_with fail
  go_loopw [8] (fun i wr => ∃ j : Nat, j ≤ n ∧ i = .int .i64 j ∧ Hid (∀ t ∈ ts.take j, fitN src mtu t.key = 0) ∧ Row wr w.heap.size 23 (acells src) ∧ Below w.heap.size w wr) (fun i _ => n - (intOf i).toNat)
  case atStart => exact ⟨0, Nat.zero_le _, rfl, (fun t ht => by simp at ht), RS, BS⟩
  case round =>
    clear RS BS
    obtain ⟨j, hj, rfl, hall, RS, BS⟩ := hrel
    rename World => X
    by_cases hlt : j < n
    · have hjk : j < ts.length := by have := HN.out; omega
      obtain ⟨gl, ol, rfl, hgl, _⟩ := (hs.below BS).at hjk
      have HL : Hid (∀ W, Below w.heap.size w W → W.rangeAt gl (ol + j * 68) (tcells ts[j])) := fun W hW => by
        obtain ⟨g', o', e', _, r'⟩ := (hs.below hW).at hjk
        cases e'
        exact r'
      have ht := hs.stms ts[j] (List.getElem_mem hjk)
      have hft := hf ts[j] (List.getElem_mem hjk)
      have HF : Hid (∀ W, Below w.heap.size w W → Calls Tryz.prog 24 #[(Value.agg (acells src).toArray), .int .i64 mtu, .agg (tcells ts[j]).toArray] W (Gives W (.int .i64 (fitN src mtu ts[j].key)))) := fun W hW => rfits_any src mtu ts[j] W (Src.below ht hW (Src.lt ht)) hft.2 hft.1
      have HE : Hid (fitN src mtu ts[j].key ≠ 0 → R = ([], fitN src mtu ts[j].key)) := fun h => HR.out.trans (pak_err' src mtu ts j hjk hall.out h)
      have HT : Hid (fitN src mtu ts[j].key = 0 → ∀ t ∈ ts.take (j + 1), fitN src mtu t.key = 0) := fun h t ht => by
        rw [List.take_succ_eq_append_getElem hjk, List.mem_append] at ht
        rcases ht with ht | ht
        · exact hall.out t ht
        · obtain rfl : t = ts[j] := by simpa using ht
          exact h
      have HJ : Hid (j + 1 ≤ n ∧ n - ((j : Int) + 1).toNat < n - ((j : Int)).toNat) := by constructor <;> omega
      have hji : (j : Int) < (n : Int) := Int.ofNat_lt.2 hlt
      generalize fitN src mtu ts[j].key = z at *
      generalize ts[j] = t at *
      clear ht hft hall hs hf hjk HN hj hlt
      by_cases hz : z = 0
      · subst hz
        go_upto_region 6 with fail
        refine wp_region_noPanic ?_
        refine wp_region_held_drew (S := fun W => Row W w.heap.size 23 (acells src) ∧ Below w.heap.size w W) (by kernel_rfl) (⟨RS, BS.drew⟩) (fun hHeld => ?_)
        refine tL 0 rfl (yA src (fun w h => h.1.range) (by rfl) rfl rfl) ?_
        refine tA 1 ?_
        refine tA 2 ?_
        refine tA 3 ?_
        refine tA 4 ?_
        refine tL 5 rfl (yTm t (fun w h => HL.out _ h.2) (by rfl) rfl rfl) ?_
        refine r1 6 fun K hK => ?_
        go_simp
        refine (HF.out _ hHeld.2).mono ?_
        rintro e w1 ⟨rfl, b1⟩
        refine oK hK (by exact ⟨hHeld.1.below b1 hHeld.1.lt, bt hHeld.2 b1⟩) fun hHeld => ?_
        clear hK K
        refine tA 7 ?_
        refine dN ?_
        refine NoPanic.normal ?_
        go_wp2_with fail
        go_roundw
        case rel => exact ⟨j + 1, HJ.out.1, by go_num, HT.out rfl, hHeld.1, hHeld.2⟩
        case measure => exact HJ.out.2
      · have hz' : (z != 0) = true := by simpa using hz
        have HE2 := HE.out hz
        go_upto_region 6 with fail
        refine wp_region_noPanic ?_
        refine wp_region_held_drew (S := fun W => Row W w.heap.size 23 (acells src) ∧ Below w.heap.size w W) (by kernel_rfl) (⟨RS, BS.drew⟩) (fun hHeld => ?_)
        refine tL 0 rfl (yA src (fun w h => h.1.range) (by rfl) rfl rfl) ?_
        refine tA 1 ?_
        refine tA 2 ?_
        refine tA 3 ?_
        refine tA 4 ?_
        refine tL 5 rfl (yTm t (fun w h => HL.out _ h.2) (by rfl) rfl rfl) ?_
        refine r1 6 fun K hK => ?_
        go_simp
        refine (HF.out _ hHeld.2).mono ?_
        rintro e w1 ⟨rfl, b1⟩
        refine oK hK (by exact ⟨hHeld.1.below b1 hHeld.1.lt, bt hHeld.2 b1⟩) fun hHeld => ?_
        clear hK K
        refine tA 7 ?_
        refine dN ?_
        refine NoPanic.normal ?_
        go_wp2_with fail
        go_ret2
        exact Packd.no HE2 hHeld.2
    · have hjn : j = n := by omega
      have hall' : ∀ t ∈ ts, fitN src mtu t.key = 0 := fun t ht => hall.out t (by rw [List.take_of_length_le (by have := HN.out; omega)]; exact ht)
      have HR0 : Hid (n = 0 → R = ([], 0)) := fun h => by
        have e : ts = [] := List.eq_nil_of_length_eq_zero (by have := HN.out; omega)
        rw [HR.out, e]
        rfl
      have HRD : Hid (n ≠ 0 → R = (docR src mtu (begD src mtu) (ts.map Tl.key) [], 0)) := fun h => by
        rw [HR.out]
        exact pak_doc src mtu _ _ _ (fun k hk => by obtain ⟨t, ht, rfl⟩ := List.mem_map.1 hk; exact hall' t ht) (.inr (fun e => h (by rw [HN.out, ← List.length_map (f := Tl.key), e]; rfl)))
      have hji : ¬ (j : Int) < (n : Int) := by omega
      have HA : Hid (∀ t ∈ ts, fitN src mtu t.key = 0) := hall'
      clear hall hall' HR hjn hlt hj
      go_wp2_with (first
        | (go_at_call 25; refine (HB _).mono ?_; rintro e w1 ⟨P1, g1, rfl, hp1, _, O1, b1⟩; have H1 : Lq w w1 src P1 (begD src mtu) false none 0 0 g1 (.slice none 0 0) [] := ⟨bt BS b1, RS.below b1 RS.lt, O1, Nat.lt_of_lt_of_le RS.lt hp1, Ac.nil _ _⟩)
        | (refine ldA (.tmp 3) (by rfl) rfl w.heap.size 0 src rfl RS.range ?_))
      clear RS BS O1 b1 hp1
      go_loopw [10, 11, 12] (fun v p i wr => ∃ (j P : Nat) (d : DS) (k : Bool) (a : Option Addr) (m c g : Nat) (qs : List Part), j ≤ n ∧ i = .int .i64 j ∧ p = .pointer (some ⟨P, 0, none⟩) ∧ Lq w wr src P d k a m c g v qs ∧ DOk d mtu ∧ qs.length ≤ j ∧ Hid (n ≠ 0 → R = (docR src mtu d ((ts.drop j).map Tl.key) (qs.map Part.l), 0))) (fun _ _ i _ => n - (intOf i).toNat)
      case atStart => exact ⟨0, P1, begD src mtu, false, none, 0, 0, g1, [], Nat.zero_le _, rfl, rfl, H1, HBO.out, Nat.le_refl _, HRD.out⟩
      case round =>
        clear H1 HRD
        obtain ⟨j, P, d, k, a, m, c, g, qs, hj, rfl, rfl, H, hok, hqj, HD⟩ := hrel
        have hm3 : m ≤ 65535 := by
          have e := H.op.src.blen
          rw [encK_len _ hok.ok] at e
          have := hok.sum
          have := hok.room
          omega
        by_cases hlt : j < n
        · have hjk : j < ts.length := by have := HN.out; omega
          obtain ⟨gl, ol, rfl, hgl, _⟩ := (hs.below H.bel).at hjk
          have HL : Hid (∀ W, Below w.heap.size w W → W.rangeAt gl (ol + j * 68) (tcells ts[j])) := fun W hW => by
            obtain ⟨g', o', e', _, r'⟩ := (hs.below hW).at hjk
            cases e'
            exact r'
          have ht := hs.stms ts[j] (List.getElem_mem hjk)
          have hft := hf ts[j] (List.getElem_mem hjk)
          obtain ⟨hck, hbeg⟩ := ckP_fit (HA.out ts[j] (List.getElem_mem hjk))
          have hdrop : (ts.drop j).map Tl.key = ts[j].key :: (ts.drop (j + 1)).map Tl.key := by rw [List.drop_eq_getElem_cons hjk]; rfl
          rw [hdrop] at HD
          clear hdrop
          have hc0 := ckP_zero hck
          have hTO := TOk.of hft.1 hc0
          have hfam : wayB ts[j].key = true → famA ts[j].ad = famP ts[j].pr.d := fun hw => by
            unfold ckP at hck
            rw [if_neg (by simp [hc0])] at hck
            by_cases hh : famA ts[j].ad = famP ts[j].pr.d
            · exact hh
            · rw [if_pos ⟨hw, hh⟩] at hck; exact absurd hck (by decide)
          generalize ts[j] = t at *
          have HAD : Hid (∀ W P' o' k' a' m' c' l' g', Below w.heap.size w W → Opn W P' o' k' a' m' c' l' g' → m' ≤ 100000 → Calls Tryz.prog 26 #[.pointer (some ⟨P', 0, none⟩), .agg (tcells t).toArray, .int .i64 mtu] W (Added W P' o' k' l' t.key mtu)) := fun W P' o' k' a' m' c' l' g' hW hO hm => radd_any P' o' k' a' m' c' l' g' t mtu W hO (Src.below ht hW (Src.lt ht)) hTO hc0 hfam hm
          have HJ : Hid (j + 1 ≤ n ∧ n - ((j : Int) + 1).toNat < n - ((j : Int)).toNat ∧ qs.length + 1 ≤ 1000000000) := by refine ⟨?_, ?_, ?_⟩ <;> omega
          have hji : (j : Int) < (n : Int) := Int.ofNat_lt.2 hlt
          clear ht hft hs hf hjk HN hj hlt hfam
          have hm5 : m ≤ 100000 := by omega
          by_cases htk : takB d t.key = true
          · have hfit := (tak_add hok hTO).1 htk
            have HOK2 := hok.tak hTO htk
            have HD2 : Hid (n ≠ 0 → R = (docR src mtu (takD d t.key) ((ts.drop (j + 1)).map Tl.key) (qs.map Part.l), 0)) := fun h => by rw [HD.out h, docR, if_pos htk]
            clear HD
            go_wp2_with (first
              | (go_at_call 26; refine (HAD.out _ _ _ _ _ _ _ _ _ H.bel H.op hm5).mono ?_; intro e w2 h2; obtain ⟨rfl, gg2, a2, m2, c2, g2, O2, _⟩ := h2.1 hfit; rw [← takD_enc] at O2; have H2 := H.taken (d' := takD d t.key) gg2 O2)
              | (refine ldTm (.tmp 50) (by rfl) rfl gl (ol + j * 68) t rfl (HL.out _ H.bel) ?_))
            go_roundw
            case rel => exact ⟨j + 1, P, takD d t.key, _, a2, m2, c2, g2, qs, HJ.out.1, by go_num, rfl, H2, HOK2, Nat.le_trans hqj (Nat.le_succ _), HD2⟩
            case measure => exact HJ.out.2.1
          · have hfit := Int.not_le.1 (fun h => htk ((tak_add hok hTO).2 h))
            have hfitB := (tak_add HBO.out hTO).1 hbeg
            have HOK2 := HBO.out.tak hTO hbeg
            have HD2 : Hid (n ≠ 0 → R = (docR src mtu (takD (begD src mtu) t.key) ((ts.drop (j + 1)).map Tl.key) (qs.map Part.l ++ [pktD d]), 0)) := fun h => by rw [HD.out h, docR, if_neg htk]
            have HPK : Hid (∀ W, Lq w W src P d k a m c g u10 qs → Calls Tryz.prog 27 #[.slice a m c] W fun e w' => ∃ pa pn pc, e = .returned (.tuple #[.slice pa pn pc, .int .i64 0]) ∧ w'.ownsRow W.heap.size 5 1 (.slice pa pn pc) pn (bcells (pktD d)) ∧ Below W.heap.size W w') := fun W hW => (rpacket_ok a m c _ W hW.op.src hm3).mono fun e w' ⟨pa, pc, h1, h2, h3⟩ => ⟨pa, _, pc, h1, h2, h3⟩
            have hbd := HJ.out.2.2
            have st1 := True.intro
            clear HD
            go_wp2_with (first
              | (have kk := st6; go_at_call 26; refine (HAD.out _ _ _ _ _ _ _ _ _ H6.bel H6.op (by decide)).mono ?_; intro e w7 h7; obtain ⟨rfl, gg7, a7, m7, c7, g7, O7, _⟩ := h7.1 hfitB; clear kk st6; have H7 := H6.taken (d' := takD (begD src mtu) t.key) gg7 (by rw [takD_enc]; exact O7))
              | (have kk := st6; refine ldTm (.tmp 72) (by rfl) rfl gl (ol + j * 68) t rfl (HL.out _ H6.bel) ?_)
              | (have kk := st4; go_at_call 25; refine (HB _).mono ?_; rintro e w6 ⟨P6, g6, rfl, hp6, _, O6, b6⟩; clear kk st4; have st6 := True.intro; have H6 : Lq w w6 src P6 (begD src mtu) false none 0 0 g6 v5 (qs ++ [⟨pa, pn, pc, pktD d⟩]) := ⟨bt bel5 b6, rS5.below b6 rS5.lt, O6, Nat.lt_of_lt_of_le rS5.lt hp6, ac5.below b6⟩)
              | (have kk := st4; refine ldA (.tmp 3) (by rfl) rfl w.heap.size 0 src rfl rS5.range ?_)
              | (have kk := st3; at_builtin; refine appS rfl (.tmp 63) (.tmp 65) rfl w.heap.size _ qs.length qs rfl H4.ac.own ⟨w3.heap.size, 0, none⟩ 1 ⟨pa, pn, pc, pktD d⟩ rfl (new_src_of w3 #[.slice pa pn pc] 46) hbd H4.bel.size ?_; intro v5 w5 o5 g5; clear kk st3; have st4 := True.intro; have ac5 := H4.ac.app (own_keep oP (grownBy_below none (ba _ _)) (.inr rfl)) o5 g5; have bel5 := H4.bel.grown g5 H4.bel.size (fun q hq => (H4.ac.own.lt q hq).1); have rS5 := H4.rS.grown g5 (own_ne H4.ac.own H4.rS (by decide)))
              | (have kk := st2; go_at_call 27; refine (HPK.out _ H2).mono ?_; rintro e w3 ⟨pa, pn, pc, rfl, oP, b3⟩; clear kk st2; have st3 := True.intro; have H3 := H2.below b3; replace oP := own_le oP H2.bel.size; have H4 := H3.below (ba w3 (.cells #[.slice pa pn pc] 46)))
              | (have kk := st1; go_at_call 26; refine (HAD.out _ _ _ _ _ _ _ _ _ H.bel H.op hm5).mono ?_; intro e w2 h2; obtain ⟨rfl, b2⟩ := h2.2 hfit; clear kk st1; have st2 := True.intro; have H2 := H.below b2; have cP := (H2.op.row.cell 0).trans rfl)
              | (have kk := st1; refine ldTm (.tmp 50) (by rfl) rfl gl (ol + j * 68) t rfl (HL.out _ H.bel) ?_))
            go_roundw
            case rel => exact ⟨j + 1, P6, takD (begD src mtu) t.key, _, a7, m7, c7, g7, qs ++ [⟨pa, pn, pc, pktD d⟩], HJ.out.1, by go_num, rfl, H7, HOK2, by rw [List.length_append]; exact Nat.succ_le_succ hqj, fun h => by rw [HD2.out h]; simp⟩
            case measure => exact HJ.out.2.1
        · have hjn : j = n := by omega
          subst hjn
          have hd0 : (ts.drop j).map Tl.key = [] := by rw [List.drop_eq_nil_of_le (by have := HN.out; omega)]; rfl
          rw [hd0] at HD
          have hji : ¬ (j : Int) < (j : Int) := by omega
          by_cases hj0 : j = 0
          · subst hj0
            obtain rfl : qs = [] := List.eq_nil_of_length_eq_zero (Nat.le_zero.1 hqj)
            obtain ⟨a', c', rfl⟩ := shapeV H.ac.own
            have hE := HR0.out rfl
            clear HD
            go_wp2_with fail
            go_ret2
            exact ⟨a', 0, c', [], by first | rfl | rw [hE], by first | rfl | (rw [hE]; rfl), rfl, H.ac, H.bel⟩
          · have hgt : (0 : Int) < (j : Int) := by omega
            have hE : R = (qs.map Part.l ++ [pktD d], 0) := HD.out hj0
            have HPK : Hid (∀ W, Lq w W src P d k a m c g u10 qs → Calls Tryz.prog 27 #[.slice a m c] W fun e w' => ∃ pa pn pc, e = .returned (.tuple #[.slice pa pn pc, .int .i64 0]) ∧ w'.ownsRow W.heap.size 5 1 (.slice pa pn pc) pn (bcells (pktD d)) ∧ Below W.heap.size W w') := fun W hW => (rpacket_ok a m c _ W hW.op.src hm3).mono fun e w' ⟨pa, pc, h1, h2, h3⟩ => ⟨pa, _, pc, h1, h2, h3⟩
            have hbd : qs.length + 1 ≤ 1000000000 := by omega
            have st2 := True.intro
            have cP := (H.op.row.cell 0).trans rfl
            clear HD
            go_wp2_with (first
              | (have kk := st3; at_builtin; refine appS rfl (.tmp 87) (.tmp 89) rfl w.heap.size _ qs.length qs rfl H4.ac.own ⟨w3.heap.size, 0, none⟩ 1 ⟨pa, pn, pc, pktD d⟩ rfl (new_src_of w3 #[.slice pa pn pc] 46) hbd H4.bel.size ?_; intro v5 w5 o5 g5; clear kk st3; have st4 := True.intro; have ac5 := H4.ac.app (own_keep oP (grownBy_below none (ba _ _)) (.inr rfl)) o5 g5; have bel5 := H4.bel.grown g5 H4.bel.size (fun q hq => (H4.ac.own.lt q hq).1); have rS5 := H4.rS.grown g5 (own_ne H4.ac.own H4.rS (by decide)))
              | (have kk := st2; go_at_call 27; refine (HPK.out _ H).mono ?_; rintro e w3 ⟨pa, pn, pc, rfl, oP, b3⟩; clear kk st2; have st3 := True.intro; have H3 := H.below b3; replace oP := own_le oP H.bel.size; have H4 := H3.below (ba w3 (.cells #[.slice pa pn pc] 46))))
            go_ret2
            obtain ⟨a', c', rfl⟩ := shapeV ac5.own
            exact ⟨a', _, c', qs ++ [⟨pa, pn, pc, pktD d⟩], by (rw [hE]; first | rfl | (simp; done)), by rw [hE]; simp, rfl, ac5, bel5⟩
end Go.Proofs.YtdibjgcokebfbaaGreat

namespace Go.Proofs.YtdibjgcokebfbaaGreat
open Go.RowKit
set_option linter.unusedSimpArgs false
set_option maxRecDepth 20000
theorem Ac.at {B : Nat} {W : World} {a : Option Addr} {n c : Nat} {qs : List Part} (h : Ac B W (.slice a n c) qs) {j : Nat} (hj : j < qs.length) : ∃ g, a = some ⟨g, 0, none⟩ ∧ W.cell? ⟨g, j, none⟩ = some (.slice qs[j].a qs[j].n qs[j].c) ∧ g < W.heap.size ∧ Src W qs[j].a qs[j].n qs[j].c (bcells qs[j].l) := by
  rcases h.own.2 with ⟨h1, h2⟩ | ⟨g, cap, cur, h1, hb, hh, hr⟩
  · omega
  · injection h1 with h2 h3 h4
    subst h2
    have hc := h.own.cells rfl j (.slice qs[j].a qs[j].n qs[j].c) (by simp [svcells, hj])
    rw [Addr.add_lit, Nat.zero_add] at hc
    exact ⟨g, rfl, hc, lt_of_block hh, own_srcP (h.bods _ (List.getElem_mem hj))⟩
theorem drew_more (w : World) (a b : Nat) : ∃ c, w.drewN c = (w.drewN a).drewN b := by
  induction b with
  | zero => exact ⟨a, rfl⟩
  | succ b ih => obtain ⟨c, hc⟩ := ih; exact ⟨c + 1, by show (w.drewN c).drew = _; rw [hc]; rfl⟩
set_option maxHeartbeats 4000000 in
theorem rsame7_yes (a : Option Addr) (n c : Nat) (qs : List Part) (b : Option Addr) (m d : Nat) (rs : List Part) (B1 B2 : Nat) (w : World) (h1 : Ac B1 w (.slice a n c) qs) (h2 : Ac B2 w (.slice b m d) rs) (hn : n = qs.length) (hm : m = rs.length) (he : qs.map Part.l = rs.map Part.l) (hN : n ≤ 100000) :
    Calls Tryz.prog 9 #[.slice a n c, .slice b m d] w (Gives w (.bool true)) := by
  have hmn : m = n := by have := congrArg List.length he; simp at this; omega
  subst hmn
  have HQ : Hid (m = qs.length ∧ m = rs.length) := ⟨hn, hm⟩
  have HE : Hid (qs.map Part.l = rs.map Part.l) := he
  clear hn hm he
  go_enter Tryz.func9, Tryz.ntmps9
  go_wp2
  go_loopw [5] (fun i wr => ∃ j : Nat, j ≤ m ∧ i = .int .i64 j ∧ ∃ q, w.drewN q = wr) (fun i _ => m - (intOf i).toNat)
  case atStart => exact ⟨0, Nat.zero_le _, rfl, 0, rfl⟩
  case round =>
    obtain ⟨j, hj, rfl, qn, rfl⟩ := hrel
    have b0 : Below w.heap.size w (w.drewN qn) := below_drewN (Below.refl _ _) qn
    by_cases hlt : j < m
    · have hjq : j < qs.length := by have := HQ.out; omega
      have hjr : j < rs.length := by have := HQ.out; omega
      obtain ⟨g1, rfl, c1, _, s1⟩ := (h1.below b0).at hjq
      obtain ⟨g2, rfl, c2, _, s2⟩ := (h2.below b0).at hjr
      have hl : qs[j].l = rs[j].l := by
        have := congrArg (fun l => l[j]?) HE.out
        simpa [hjq, hjr] using this
      obtain ⟨st, hst⟩ : ∃ st, (⟨qs[j].l.toArray⟩ : ByteArray) = st := ⟨_, rfl⟩
      have e1 : ∀ k, (convert 46 9 (.slice qs[j].a qs[j].n qs[j].c)).run Tryz.prog ((w.drewN qn).drewN k) = .ok (.string st) ((w.drewN qn).drewN k) := fun k => by rw [← hst]; exact (s1.grown (grownBy_drewN _ _ none) (fun _ _ _ => by simp)).str
      have e2 : ∀ k, (convert 46 9 (.slice rs[j].a rs[j].n rs[j].c)).run Tryz.prog ((w.drewN qn).drewN k) = .ok (.string st) ((w.drewN qn).drewN k) := fun k => by rw [← hst, hl]; exact (s2.grown (grownBy_drewN _ _ none) (fun _ _ _ => by simp)).str
      have hji : (j : Int) < (m : Int) := Int.ofNat_lt.2 hlt
      have HJ : Hid (j + 1 ≤ m ∧ m - ((j : Int) + 1).toNat < m - ((j : Int)).toNat) := by constructor <;> omega
      generalize qs[j].a = qa at *
      generalize qs[j].n = qm at *
      generalize qs[j].c = qc at *
      generalize rs[j].a = ra at *
      generalize rs[j].n = rm at *
      generalize rs[j].c = rc at *
      clear h1 h2 s1 s2 hl hst hjq hjr hlt hj HE HQ
      obtain ⟨V, hV⟩ : ∃ V, w.drewN qn = V := ⟨_, rfl⟩
      have HV : Hid (∀ q, ∃ q', w.drewN q' = V.drewN q) := fun q => by rw [← hV]; exact drew_more w qn q
      rw [hV] at e1 e2 c1 c2 ⊢
      clear hV b0
      go_wp2
      go_quiet (fail)
      go_wp2
      go_roundw
      case rel => exact ⟨j + 1, HJ.out.1, by go_num, HV.out _⟩
      case measure => exact HJ.out.2
    · have hji : ¬ (j : Int) < (m : Int) := by omega
      go_wp2
      go_ret
      exact ⟨rfl, b0⟩
end Go.Proofs.YtdibjgcokebfbaaGreat

namespace Go.Proofs.YtdibjgcokebfbaaGreat
open Go.RowKit Go.ChangeShapes Go.WideShapes Go.ChangeAt Go.Deep
set_option maxRecDepth 100000
theorem own : ownKnob Tryz.prog.godebug = none := by kernel_rfl
theorem laid_out : laidOutB Tryz.prog = true := by kernel_rfl
/-- What a walk is told of a slice of integers that came in: it is nil; or it leads to a row of 'cap' cells, the numbers 'zs' (the first 'len' are its elements, the rest its spare room), each fitting its kind. -/
def IsRow (k : IntKind) (w : World) (a : Option Addr) (len cap : Nat) (zs : List Int) : Prop :=
  (a = none ∧ len = 0 ∧ cap = 0 ∧ zs = []) ∨
  ∃ x, a = some x ∧ len ≤ cap ∧ cap ≤ maxLen ∧ zs.length = cap ∧ (∀ i, i < zs.length → w.cell? (x.add i) = some (.int k (zs.getD i 0))) ∧ ∀ n ∈ zs, (Lit.int k n).wf = true

theorem IsRow.src {k : IntKind} {w : World} {a : Option Addr} {len cap : Nat} {zs : List Int} (h : IsRow k w a len cap zs) : Src w a len cap ((zs.take len).map (Value.int k)) ∧ (∀ n ∈ zs, (Lit.int k n).wf = true) ∧ len ≤ maxLen := by
  rcases h with ⟨rfl, rfl, rfl, rfl⟩ | ⟨x, rfl, h1, h2, h3, h4, h5⟩
  · exact ⟨Src.nil w, by simp, by unfold maxLen; omega⟩
  · refine ⟨⟨by simp; omega, (fun h => by cases h), fun ad had j u hu => ?_⟩, h5, Nat.le_trans h1 h2⟩
    cases had
    have hj : j < ((zs.take len).map (Value.int k)).length := (List.getElem?_eq_some_iff.1 hu).1
    simp at hj
    rw [h4 j (by omega)]
    rw [List.getElem?_map, List.getElem?_take_of_lt (by omega), List.getElem?_eq_getElem (by omega)] at hu
    simp at hu
    simp [List.getD, List.getElem?_eq_getElem (show j < zs.length by omega), hu]

theorem IsRow.le {k : IntKind} {w : World} {a : Option Addr} {len cap : Nat} {zs : List Int} (h : IsRow k w a len cap zs) : len ≤ cap := by
  rcases h with ⟨_, h1, h2, _⟩ | ⟨_, _, h1, _⟩
  · omega
  · exact h1

theorem IsRow.bytes {w : World} {a : Option Addr} {len cap : Nat} {zs : List Int} (h : IsRow .u8 w a len cap zs) : ∃ l, Src w a len cap (bcells l) := by
  obtain ⟨h1, h2, _⟩ := h.src
  refine ⟨(zs.take len).map fun z => UInt8.ofNat z.toNat, ?_⟩
  have e : bcells ((zs.take len).map fun z => UInt8.ofNat z.toNat) = (zs.take len).map (Value.int .u8) := by
    unfold bcells
    rw [List.map_map]
    refine List.map_congr_left fun z hz => ?_
    have hb := bounds_u8 (h2 z (List.mem_of_mem_take hz))
    simp
    omega
  rw [e]
  exact h1

section
variable {H : Type} {enc : TypeId × Value → H} {w : World} {base : Nat} {held : Bool} {r : Reach} {b0 : Nat} {v : Value} {d : DataW H} {p : List MemPlace}
end
theorem okWide_arr {P : Program} {w : World} {r : Reach} {b t n : Nat} {e : TypeId} {v : Value} (ht : P.underlying t = some (.array n e)) (h : Value.okWide P w r b t v) : ∃ cs, v = .agg cs := by
  simp only [Value.okWide, ht] at h
  obtain ⟨cs, h1, _⟩ := h
  exact ⟨cs, h1⟩
section
variable {H : Type} {enc : TypeId × Value → H} {w : World} {base : Nat} {spare : Nat → Bool} {held : Bool}
theorem bytes_of (m : Nat) : ∀ (cs : List Value) (xs : List (DataW H × List MemPlace)), cs.length = xs.length → (∀ i, i < xs.length → DataW.trod enc Tryz.prog w base spare held m 5 ((cs.drop i).take 1) = xs[i]?) → ∃ l : List UInt8, cs = bcells l
  | [], _, _, _ => ⟨[], rfl⟩
  | c :: r, [], h, _ => by simp at h
  | c :: r, x :: ys, h, k => by
    obtain ⟨l, rfl⟩ := bytes_of m r ys (by simpa using h) (fun i hi => by have := k (i + 1) (by simp; omega); simpa using this)
    obtain ⟨n, e1, _, hw⟩ := DataW.trod_int Tryz.underlying5 (show DataW.trod enc Tryz.prog w base spare held m 5 [c] = some x by simpa using k 0 (by simp))
    obtain ⟨h0, h1⟩ := bounds_u8 hw
    simp only [List.cons.injEq, and_true] at e1
    refine ⟨UInt8.ofNat n.toNat :: l, ?_⟩
    rw [e1]
    show _ = Value.int .u8 ((UInt8.ofNat n.toNat).toNat : Int) :: bcells l
    have : (UInt8.ofNat n.toNat).toNat = n.toNat := by simp; omega
    rw [this]
    congr 2
    omega
theorem cellsA : Tryz.prog.cellsOf 23 = 16 := by kernel_rfl
theorem cells_u8 : Tryz.prog.cellsOf 5 = 1 := by kernel_rfl
theorem ad_of {fuel : Nat} {cs : List Value} {x : DataW H × List MemPlace} (h : DataW.trod enc Tryz.prog w base spare held fuel 23 cs = some x) : ∃ a : Ad, cs = acells a := by
  obtain ⟨xs, m, _, _, hl, hn, hel⟩ := DataW.trod_array Tryz.underlying23 h
  rw [cells_u8] at hel
  obtain ⟨l, rfl⟩ := bytes_of m cs xs (by rw [hl, hn, cellsA]) (fun i hi => by have := hel i (by omega); rwa [Nat.mul_one] at this)
  exact ⟨⟨l, by rw [bcells_length, cellsA] at hl; exact hl⟩, rfl⟩
variable {r : Reach} {b0 : Nat} {v : Value} {d : DataW H} {p : List MemPlace}
set_option maxRecDepth 100000 in
theorem openA (hv : Value.okWide Tryz.prog w r b0 23 v) (h : DataW.Trod enc Tryz.prog w base spare held 23 v d p) : ∃ a : Ad, v = (Value.agg (acells a).toArray) := by
  obtain ⟨cs, rfl⟩ := okWide_arr Tryz.underlying23 hv
  obtain ⟨fuel, hf⟩ := h
  obtain ⟨a, ha⟩ := ad_of hf
  exact ⟨a, by rw [← ha]; simp [Value.cells]⟩
end
/-- The readings of arguments stay where nothing that was there is written. -/
theorem all_stay {H : Type} {enc : TypeId × Value → H} {P : Program} (hl : laidOutB P = true) {W W' : World} (hb : Below W.heap.size W W') : ∀ (ts : List TypeId) (vs : List Value) (ds : List (DataW H)) (p : List MemPlace), (ts.all fun t => P.readableRec t && decide (t < P.types.size)) = true → DataW.TrodAll enc P W 0 (fun _ => true) true ts vs ds p → DataW.TrodAll enc P W' 0 (fun b => decide (b < W.heap.size)) true ts vs ds p
  | [], vs, ds, p, _, h => by
    obtain ⟨rfl, rfl, rfl⟩ := trodAll_nil h
    exact trodAll_mk0
  | t :: ts, vs, ds, p, hr, h => by
    obtain ⟨v0, vs0, d0, ds0, p0, q0, rfl, rfl, rfl, h0, r0⟩ := trodAll_cons h
    simp only [List.all_cons, Bool.and_eq_true, decide_eq_true_eq] at hr
    refine trodAll_cons_mk (Below.trod hl hr.1.1 hr.1.2 h0 hb ?_) (all_stay hl hb ts vs0 ds0 q0 (by simpa using hr.2) r0)
    obtain ⟨m, hm⟩ := h0
    exact DataW.trod_lt m _ _ _ hm
end Go.Proofs.YtdibjgcokebfbaaGreat

namespace Go.Proofs.YtdibjgcokebfbaaGreat
open Go.RowKit Go.ChangeShapes Go.WideShapes Go.ChangeAt Go.Deep
set_option maxRecDepth 100000
section
variable {H : Type} {enc : TypeId × Value → H} {w : World} {base : Nat} {held : Bool}
theorem cellsP : Tryz.prog.cellsOf 40 = 17 := by kernel_rfl
theorem cellsQ : Tryz.prog.cellsOf 42 = 34 := by kernel_rfl
theorem cells_int : Tryz.prog.cellsOf 3 = 1 := by kernel_rfl
theorem cells_u16 : Tryz.prog.cellsOf 36 = 1 := by kernel_rfl
theorem cells_bool : Tryz.prog.cellsOf 4 = 1 := by kernel_rfl
theorem cells_I : Tryz.prog.cellsOf 38 = 8 := by kernel_rfl
theorem cells_L : Tryz.prog.cellsOf 43 = 1 := by kernel_rfl
theorem cells_T : Tryz.prog.cellsOf 45 = 68 := by kernel_rfl
theorem cells_u32 : Tryz.prog.cellsOf 100 = 1 := by kernel_rfl
theorem pf_of {fuel : Nat} {cs : List Value} {x : DataW H × List MemPlace} (h : DataW.trod enc Tryz.prog w base (fun _ => true) held fuel 40 cs = some x) : ∃ p : Pf, cs = pcells p := by
  obtain ⟨y0, y1, n, _, hl, h0, h1⟩ := trod_struct2 Tryz.underlying40 h
  dsimp only at h0 h1
  rw [cellsA] at h0
  rw [cells_int] at h1
  rw [cellsP] at hl
  obtain ⟨a, ha⟩ := ad_of h0
  obtain ⟨k, e1, _, hw⟩ := DataW.trod_int Tryz.underlying3 h1
  refine ⟨⟨a, k⟩, ?_⟩
  rw [pcells, ← ha, ← e1, List.drop_zero]
  have : (cs.drop 16).take 1 = cs.drop 16 := List.take_of_length_le (by simp; omega)
  rw [this, List.take_append_drop]
theorem pr_of {fuel : Nat} {cs : List Value} {x : DataW H × List MemPlace} (h : DataW.trod enc Tryz.prog w base (fun _ => true) held fuel 42 cs = some x) : ∃ q : Pr, cs = qcells q := by
  obtain ⟨y0, y1, n, _, hl, h0, h1⟩ := trod_struct2 Tryz.underlying42 h
  dsimp only at h0 h1
  rw [cellsP] at h0 h1
  rw [cellsQ] at hl
  obtain ⟨d, hd⟩ := pf_of h0
  obtain ⟨s, hs⟩ := pf_of h1
  refine ⟨⟨d, s⟩, ?_⟩
  rw [qcells, ← hd, ← hs, List.drop_zero]
  have : (cs.drop 17).take 17 = cs.drop 17 := List.take_of_length_le (by simp; omega)
  rw [this, List.take_append_drop]
theorem id_of {fuel : Nat} {cs : List Value} {x : DataW H × List MemPlace} (h : DataW.trod enc Tryz.prog w base (fun _ => true) held fuel 38 cs = some x) : ∃ a : Id8, cs = icells a := by
  obtain ⟨xs, m, _, _, hl, hn, hel⟩ := DataW.trod_array Tryz.underlying38 h
  rw [cells_u8] at hel
  obtain ⟨l, rfl⟩ := bytes_of m cs xs (by rw [hl, hn, cells_I]) (fun i hi => by have := hel i (by omega); rwa [Nat.mul_one] at this)
  exact ⟨⟨l, by rw [bcells_length, cells_I] at hl; exact hl⟩, rfl⟩
theorem st_of {fuel : Nat} {cs : List Value} {x : DataW H × List MemPlace} (h : DataW.trod enc Tryz.prog w base (fun _ => true) held fuel 43 cs = some x) : ∃ a n c st, cs = [.slice a n c] ∧ Src w a n c (wcells st) := by
  rcases open_ints Tryz.underlying43 Tryz.underlying100 cells_u32 h with ⟨hcs, _⟩ | ⟨x, l, c, zs, hcs, _, hl, hm, hz, _, hcell, hwz⟩
  · exact ⟨none, 0, 0, [], hcs, Src.nil w⟩
  · have hr : IsRow .u32 w (some x) l c zs := .inr ⟨_, rfl, hl, hm, by simpa using hz, hcell, hwz⟩
    obtain ⟨h1, h2, _⟩ := hr.src
    refine ⟨some x, l, c, (zs.take l).map fun z => UInt32.ofNat z.toNat, hcs, ?_⟩
    have e : wcells ((zs.take l).map fun z => UInt32.ofNat z.toNat) = (zs.take l).map (Value.int .u32) := by
      unfold wcells
      rw [List.map_map]
      refine List.map_congr_left fun z hz => ?_
      have hb := bounds_u32 (h2 z (List.mem_of_mem_take hz))
      simp
      omega
    rw [e]
    exact h1
theorem drop_split (cs : List Value) (o n m : Nat) (h : o + n = m) : cs.drop o = (cs.drop o).take n ++ cs.drop m := by
  rw [← h, ← List.drop_drop, List.take_append_drop]
theorem nat_of16 {z : Int} (h : (Lit.int .u16 z).wf = true) : ∃ n : Nat, z = n ∧ n < 65536 := by
  obtain ⟨h0, h1⟩ := bounds_u16 h
  exact ⟨z.toNat, by omega, by omega⟩
theorem nat_of8 {z : Int} (h : (Lit.int .u8 z).wf = true) : ∃ n : Nat, z = n ∧ n < 256 := by
  obtain ⟨h0, h1⟩ := bounds_u8 h
  exact ⟨z.toNat, by omega, by omega⟩
theorem tl_of {fuel : Nat} {cs : List Value} {x : DataW H × List MemPlace} (h : DataW.trod enc Tryz.prog w base (fun _ => true) held fuel 45 cs = some x) : ∃ t : Tl, cs = tcells t ∧ TSrc w t ∧ TFit t.key := by
  obtain ⟨xs, n, _, _, hl, hlen, hf⟩ := DataW.trod_struct Tryz.underlying45 h
  rw [cells_T] at hl
  match xs, hlen with
  | [y0, y1, y2, y3, y4, y5, y6, y7, y8, y9, y10, y11, y12], _ =>
    have f0 : DataW.trod enc Tryz.prog w base (fun _ => true) held n 5 ((cs.drop 0).take (Tryz.prog.cellsOf 5)) = some y0 := hf 0 _ rfl
    have f1 : DataW.trod enc Tryz.prog w base (fun _ => true) held n 36 ((cs.drop 1).take (Tryz.prog.cellsOf 36)) = some y1 := hf 1 _ rfl
    have f2 : DataW.trod enc Tryz.prog w base (fun _ => true) held n 36 ((cs.drop 2).take (Tryz.prog.cellsOf 36)) = some y2 := hf 2 _ rfl
    have f3 : DataW.trod enc Tryz.prog w base (fun _ => true) held n 36 ((cs.drop 3).take (Tryz.prog.cellsOf 36)) = some y3 := hf 3 _ rfl
    have f4 : DataW.trod enc Tryz.prog w base (fun _ => true) held n 36 ((cs.drop 4).take (Tryz.prog.cellsOf 36)) = some y4 := hf 4 _ rfl
    have f5 : DataW.trod enc Tryz.prog w base (fun _ => true) held n 36 ((cs.drop 5).take (Tryz.prog.cellsOf 36)) = some y5 := hf 5 _ rfl
    have f6 : DataW.trod enc Tryz.prog w base (fun _ => true) held n 5 ((cs.drop 6).take (Tryz.prog.cellsOf 5)) = some y6 := hf 6 _ rfl
    have f7 : DataW.trod enc Tryz.prog w base (fun _ => true) held n 4 ((cs.drop 7).take (Tryz.prog.cellsOf 4)) = some y7 := hf 7 _ rfl
    have f8 : DataW.trod enc Tryz.prog w base (fun _ => true) held n 4 ((cs.drop 8).take (Tryz.prog.cellsOf 4)) = some y8 := hf 8 _ rfl
    have f9 : DataW.trod enc Tryz.prog w base (fun _ => true) held n 38 ((cs.drop 9).take (Tryz.prog.cellsOf 38)) = some y9 := hf 9 _ rfl
    have f10 : DataW.trod enc Tryz.prog w base (fun _ => true) held n 23 ((cs.drop 17).take (Tryz.prog.cellsOf 23)) = some y10 := hf 10 _ rfl
    have f11 : DataW.trod enc Tryz.prog w base (fun _ => true) held n 42 ((cs.drop 33).take (Tryz.prog.cellsOf 42)) = some y11 := hf 11 _ rfl
    have f12 : DataW.trod enc Tryz.prog w base (fun _ => true) held n 43 ((cs.drop 67).take (Tryz.prog.cellsOf 43)) = some y12 := hf 12 _ rfl
    rw [cells_u8] at f0 f6
    rw [cells_u16] at f1 f2 f3 f4 f5
    rw [cells_bool] at f7 f8
    rw [cells_I] at f9
    rw [cellsA] at f10
    rw [cellsQ] at f11
    rw [cells_L] at f12
    obtain ⟨z0, e0, _, w0⟩ := DataW.trod_int Tryz.underlying5 f0
    obtain ⟨z1, e1, _, w1⟩ := DataW.trod_int Tryz.underlying36 f1
    obtain ⟨z2, e2, _, w2⟩ := DataW.trod_int Tryz.underlying36 f2
    obtain ⟨z3, e3, _, w3⟩ := DataW.trod_int Tryz.underlying36 f3
    obtain ⟨z4, e4, _, w4⟩ := DataW.trod_int Tryz.underlying36 f4
    obtain ⟨z5, e5, _, w5⟩ := DataW.trod_int Tryz.underlying36 f5
    obtain ⟨z6, e6, _, w6⟩ := DataW.trod_int Tryz.underlying5 f6
    obtain ⟨b7, e7, _⟩ := DataW.trod_bool Tryz.underlying4 f7
    obtain ⟨b8, e8, _⟩ := DataW.trod_bool Tryz.underlying4 f8
    obtain ⟨i9, e9⟩ := id_of f9
    obtain ⟨a10, e10⟩ := ad_of f10
    obtain ⟨q11, e11⟩ := pr_of f11
    obtain ⟨sa, sn, sc, st, e12, hst⟩ := st_of f12
    obtain ⟨n0, rfl, k0⟩ := nat_of8 w0
    obtain ⟨n1, rfl, k1⟩ := nat_of16 w1
    obtain ⟨n2, rfl, k2⟩ := nat_of16 w2
    obtain ⟨n3, rfl, k3⟩ := nat_of16 w3
    obtain ⟨n4, rfl, k4⟩ := nat_of16 w4
    obtain ⟨n5, rfl, k5⟩ := nat_of16 w5
    obtain ⟨n6, rfl, k6⟩ := nat_of8 w6
    refine ⟨⟨n0, n1, n2, n3, n4, n5, n6, b7, b8, i9, a10, q11, sa, sn, sc, st⟩, ?_, hst, ⟨k0, k1, k2, k3, k4, k5, k6⟩⟩
    have g0 := drop_split cs 0 1 1 rfl
    have g1 := drop_split cs 1 1 2 rfl
    have g2 := drop_split cs 2 1 3 rfl
    have g3 := drop_split cs 3 1 4 rfl
    have g4 := drop_split cs 4 1 5 rfl
    have g5 := drop_split cs 5 1 6 rfl
    have g6 := drop_split cs 6 1 7 rfl
    have g7 := drop_split cs 7 1 8 rfl
    have g8 := drop_split cs 8 1 9 rfl
    have g9 := drop_split cs 9 8 17 rfl
    have g10 := drop_split cs 17 16 33 rfl
    have g11 := drop_split cs 33 34 67 rfl
    have g12 := drop_split cs 67 1 68 rfl
    have gl : cs.drop 68 = [] := List.drop_eq_nil_of_le (by omega)
    rw [gl, e12] at g12
    rw [g12, e11] at g11
    rw [g11, e10] at g10
    rw [g10, e9] at g9
    rw [g9, e8] at g8
    rw [g8, e7] at g7
    rw [g7, e6] at g6
    rw [g6, e5] at g5
    rw [g5, e4] at g4
    rw [g4, e3] at g3
    rw [g3, e2] at g2
    rw [g2, e1] at g1
    rw [g1, e0] at g0
    rw [List.drop_zero] at g0
    rw [g0]
    simp [tcells, tnum]
variable {r : Reach} {b0 : Nat} {v : Value} {d : DataW H} {p : List MemPlace}
end
end Go.Proofs.YtdibjgcokebfbaaGreat

namespace Go.Proofs.YtdibjgcokebfbaaGreat
open Go.RowKit
set_option linter.unusedSimpArgs false
set_option maxRecDepth 20000
theorem TlW.st67 {w : World} {a : Option Addr} {n : Nat} {ts : List Tl} (h : TlW w a n ts) {j : Nat} (hj : j < ts.length) : ∃ g o, a = some ⟨g, o, none⟩ ∧ w.cell? ⟨g, o + j * 68 + 67, none⟩ = some (.slice ts[j].sa ts[j].sn ts[j].sc) := by
  obtain ⟨g, o, e, _, hr⟩ := h.at hj
  exact ⟨g, o, e, hr 67 _ (tcells_get _)⟩
/-- What huge answers: false says that l is short. -/
def Hugd (w : World) (n : Nat) (ts : List Tl) (e : Ending) (w' : World) : Prop := (e = .returned (.bool false) ∧ Hid (n ≤ 200 ∧ ∀ t ∈ ts, t.sn ≤ 200) ∧ Below w.heap.size w w') ∨ (e = .returned (.bool true) ∧ Below w.heap.size w w')
theorem Hugd.yes {w : World} {n : Nat} {ts : List Tl} {w' : World} (h : Below w.heap.size w w') : Hugd w n ts (.returned (.bool true)) w' := .inr ⟨rfl, h⟩
theorem Hugd.tell {w : World} {n : Nat} {ts : List Tl} {w' : World} (hk : ∀ t ∈ ts, t.sn ≤ 200) (h : Below w.heap.size w w') : Hugd w n ts (.returned (.bool (decide ((200 : Int) < (n : Int))))) w' := by
  by_cases hn : (200 : Int) < (n : Int)
  · rw [decide_eq_true hn]; exact .yes h
  · rw [decide_eq_false hn]; exact .inl ⟨rfl, ⟨by omega, hk⟩, h⟩
theorem huge_any (a : Option Addr) (n c : Nat) (ts : List Tl) (w : World) (hs : TlW w a n ts) (hn : n ≤ 9223372036854775807) :
    Calls Tryz.prog 5 #[.slice a n c] w (Hugd w n ts) := by
  have HN : Hid (n = ts.length) := hs.len.symm
  go_enter Tryz.func5, Tryz.ntmps5
  go_wp2
  go_loopw [3] (fun i wr => ∃ j : Nat, j ≤ n ∧ j ≤ 201 ∧ i = .int .i64 j ∧ Hid (∀ t ∈ ts.take j, t.sn ≤ 200) ∧ Below w.heap.size w wr) (fun i _ => n - (intOf i).toNat)
  case atStart => exact ⟨0, Nat.zero_le _, by omega, rfl, (fun t ht => by simp at ht), Below.refl _ _⟩
  case round =>
    obtain ⟨j, hj, hj2, rfl, hall, hb⟩ := hrel
    by_cases hlt : j < n
    · have hlt' : (j : Int) < (n : Int) := by omega
      by_cases h2 : j ≤ 200
      · have h2' : (j : Int) ≤ 200 := by omega
        have hjk : j < ts.length := by have := HN.out; omega
        obtain ⟨g, o, rfl, c67⟩ := (hs.below hb).st67 hjk
        have HM : Hid (ts[j].sn ≤ 200 → ∀ t ∈ ts.take (j + 1), t.sn ≤ 200) := fun h t ht => by
          rw [List.take_succ_eq_append_getElem hjk] at ht
          rcases List.mem_append.1 ht with h1 | h1
          · exact hall.out t h1
          · simp at h1; subst h1; exact h
        generalize ts[j].sa = sa at *
        generalize ts[j].sn = sn at *
        generalize ts[j].sc = sc at *
        by_cases h3 : 200 < sn
        · have h3' : (200 : Int) < (sn : Int) := by omega
          go_wp2
          go_ret
          exact Hugd.yes hb
        · have h3' : ¬ (200 : Int) < (sn : Int) := by omega
          go_wp2
          go_roundw
          case rel => exact ⟨j + 1, by omega, by omega, by go_num, HM.out (by omega), hb⟩
          case measure => simp [intOf]; omega
      · have h2' : ¬ (j : Int) ≤ 200 := by omega
        have h4 : (200 : Int) < (n : Int) := by omega
        go_wp2
        go_ret
        first | exact Hugd.yes hb | (simp only [h4, decide_true]; exact Hugd.yes hb)
    · have hlt' : ¬ (j : Int) < (n : Int) := by omega
      obtain rfl : n = j := by omega
      have HA : Hid (∀ t ∈ ts, t.sn ≤ 200) := fun t ht => hall.out t (by rw [List.take_of_length_le (by have := HN.out; omega)]; exact ht)
      go_wp2
      go_ret
      exact Hugd.tell HA.out hb
theorem pack_any (src : Ad) (mtu : Int) (al : Option Addr) (n cl : Nat) (ts : List Tl) (w : World) (hs : TlW w al n ts) (hf : ∀ t ∈ ts, TFit t.key ∧ t.sn ≤ 100000) (hn : n ≤ 100000) :
    Calls Tryz.prog 7 #[(Value.agg (acells src).toArray), .int .i64 mtu, .slice al n cl] w (Packd w (pakL src mtu (ts.map Tl.key))) := by
  by_cases h : mtu < 64 ∨ 65539 < mtu
  · exact pack_bad src mtu al n cl _ w h
  · exact pack_ok src mtu al n cl ts w hs hf hn (by omega) (by omega)
theorem rpack_any (src : Ad) (mtu : Int) (al : Option Addr) (n cl : Nat) (ts : List Tl) (w : World) (hs : TlW w al n ts) (hf : ∀ t ∈ ts, TFit t.key ∧ t.sn ≤ 100000) (hn : n ≤ 100000) :
    Calls Tryz.prog 8 #[(Value.agg (acells src).toArray), .int .i64 mtu, .slice al n cl] w (Packd w (pakL src mtu (ts.map Tl.key))) := by
  by_cases h : mtu < 64 ∨ 65539 < mtu
  · exact rpack_bad src mtu al n cl _ w h
  · exact rpack_ok src mtu al n cl ts w hs hf hn (by omega) (by omega)
end Go.Proofs.YtdibjgcokebfbaaGreat
