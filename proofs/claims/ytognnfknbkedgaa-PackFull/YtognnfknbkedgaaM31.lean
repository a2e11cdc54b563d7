/-
  The law PackFull returns true for every address, every size and every slice of Tlvs: no packet of Pack had room for the first Tlv of the next one. No condition.
-/
import Derived.Test.YtognnfknbkedgaaM30
import Derived.Test.YtognnfknbkedgaaM26
import Derived.OpenShut
import Derived.ChangeOld
import Derived.Below
import Derived.SizedLaws
import Derived.Deep.SlicePairs
namespace Go.Proofs.Ytognnfknbkedgaa
open Go.RowKit
set_option linter.unusedSimpArgs false
set_option maxRecDepth 20000

theorem TlW.sub {w : World} {g o n : Nat} {ts : List Tl} (h : TlW w (some ⟨g, o, none⟩) n ts) (lo k : Nat) (hk : lo + k ≤ n) (h0 : 0 < k) : TlW w (some ⟨g, o + lo * 68, none⟩) k ((ts.drop lo).take k) := by
  have hl := h.len
  refine ⟨by rw [List.length_take, List.length_drop, hl]; omega, fun _ => ?_, fun t ht => h.stms t (List.mem_of_mem_drop (List.mem_of_mem_take ht))⟩
  obtain ⟨g', o', e, hlt, hr⟩ := h.place (by rintro rfl; simp at hl; omega)
  cases e
  refine ⟨g, o + lo * 68, rfl, hlt, fun j t ht => ?_⟩
  have h1 := take_get ht
  rw [List.getElem?_drop] at h1
  have := hr (lo + j) t h1
  rwa [show o + (lo + j) * 68 = o + lo * 68 + j * 68 by omega] at this
theorem fl_at {src : Ad} {mtu : Int} {ks : List TK} {R : List (List UInt8)} {at' j : Nat} {x : List UInt8} (h : Fl src mtu (ks.drop at') (R.drop j)) (hx : R[j]? = some x) (hj : j + 1 < R.length) : (parL src x).length + at' < ks.length ∧ (∃ r, pakL src mtu ((ks.drop at').take ((parL src x).length + 1)) = (r, 0) ∧ r.length = 2) ∧ Fl src mtu (ks.drop (at' + (parL src x).length)) (R.drop (j + 1)) := by
  obtain ⟨hj0, rfl⟩ := List.getElem?_eq_some_iff.1 hx
  rw [List.drop_eq_getElem_cons hj0, List.drop_eq_getElem_cons hj] at h
  unfold Fl at h
  obtain ⟨h1, h2, h3⟩ := h
  rw [List.length_drop] at h1
  refine ⟨by omega, h2, ?_⟩
  rw [List.drop_eq_getElem_cons hj, ← List.drop_drop]
  exact h3
/-- What holds in a round. -/
structure Fw (w W : World) (src : Ad) (vp : Value) (qs : List Part) : Prop where
  bel : Below w.heap.size w W
  rS : Row W w.heap.size 26 (acells src)
  ac : Ac w.heap.size W vp qs
theorem Fw.below {w W W' : World} {src : Ad} {vp : Value} {qs : List Part} (h : Fw w W src vp qs) (hb : Below W.heap.size W W') : Fw w W' src vp qs := ⟨bt h.bel hb, h.rS.below hb h.rS.lt, h.ac.below hb⟩
theorem full_long (src : Ad) (mtu : Int) (al : Option Addr) (n cl : Nat) (ts : List Tl) (w : World) (hs : TlW w al n ts) (hn : n ≤ 9223372036854775807) (h40 : 40 < n) :
    Calls Try.prog 6 #[(Value.agg (acells src).toArray), .int .i64 mtu, .slice al n cl] w fun e w' => e = .returned (.bool true) ∧ Below w.heap.size w w' := by
  have HH : Hid (∀ W, Below w.heap.size w W → Calls Try.prog 16 #[.slice al n cl] W (Hugd W n ts)) := fun W hW => huge_any al n cl ts W (hs.below hW) hn
  have B0 := ba w (.cells (acells src).toArray 26)
  have h40' : (40 : Int) < (n : Int) := by omega
  clear hs hn h40
  go_enter Try.func6, Try.ntmps6
  go_wp2_with (first
    | (go_at_call 17; refine (live7_any _).mono ?_; rintro e w9 ⟨rfl, b9⟩)
    | (go_at_call 16; refine (HH.out _ B0).mono ?_; rintro e w1 (⟨rfl, HX, b1⟩ | ⟨rfl, b1⟩)))
  all_goals
    go_ret
    exact ⟨rfl, bt (bt B0 b1) b9⟩
theorem full_err (src : Ad) (mtu : Int) (al : Option Addr) (n cl : Nat) (ts : List Tl) (w : World) (hs : TlW w al n ts) (hf : ∀ t ∈ ts, TFit t.key) (hn : n ≤ 40) (hE : (pakL src mtu (ts.map Tl.key)).2 ≠ 0) :
    Calls Try.prog 6 #[(Value.agg (acells src).toArray), .int .i64 mtu, .slice al n cl] w fun e w' => e = .returned (.bool true) ∧ Below w.heap.size w w' := by
  have HH : Hid (∀ W, Below w.heap.size w W → Calls Try.prog 16 #[.slice al n cl] W (Hugd W n ts)) := fun W hW => huge_any al n cl ts W (hs.below hW) (by omega)
  have HPK : Hid (∀ W, Below w.heap.size w W → n ≤ 200 ∧ (∀ t ∈ ts, t.sn ≤ 200) → Calls Try.prog 18 #[(Value.agg (acells src).toArray), .int .i64 mtu, .slice al n cl] W fun e w' => ∃ a c z, e = .returned (.tuple #[.slice a 0 c, .int .i64 z]) ∧ (z != 0) = true ∧ Below W.heap.size W w') := fun W hW h => by
    refine (pack_any src mtu al n cl ts W (hs.below hW) (fun t ht => ⟨hf t ht, by have := h.2 t ht; omega⟩) (by omega)).mono ?_
    rintro e w' ⟨a, m, c, qs, rfl, hq, hm, hac, hb⟩
    rw [pak_err src mtu _ hE] at hq
    have : qs = [] := by simpa using hq
    subst this
    obtain rfl : m = 0 := hm
    exact ⟨a, c, _, rfl, by simpa using hE, hb⟩
  have RS := Row.new w 26 (acells src)
  have B0 := ba w (.cells (acells src).toArray 26)
  have h40' : ¬ (40 : Int) < (n : Int) := by omega
  clear hs hf hn hE
  go_enter Try.func6, Try.ntmps6
  go_wp2_with (first
    | (go_at_call 17; refine (live7_any _).mono ?_; rintro e w9 ⟨rfl, b9⟩)
    | (go_at_call 19; refine (num7 _ _).mono ?_; rintro e wn ⟨rfl, rfl⟩)
    | (go_at_call 18; refine (HPK.out _ (bt B0 b1) HX.out).mono ?_; rintro e w2 ⟨pa, pc, z, rfl, hz, b2⟩)
    | (have kk := HX; refine ldA (.tmp 3) (by rfl) rfl w.heap.size 0 src rfl (by exact (RS.below b1 RS.lt).range) ?_)
    | (go_at_call 16; refine (HH.out _ B0).mono ?_; rintro e w1 (⟨rfl, HX, b1⟩ | ⟨rfl, b1⟩)))
  · go_ret
    exact ⟨rfl, bt (bt (bt B0 b1) b2) b9⟩
  · go_ret
    exact ⟨rfl, bt (bt B0 b1) b9⟩
set_option maxHeartbeats 1000000 in
theorem full_walk (src : Ad) (mtu : Int) (al : Option Addr) (n cl : Nat) (ts : List Tl) (w : World) (hs : TlW w al n ts) (hf : ∀ t ∈ ts, TFit t.key) (hn : n ≤ 40) (hcl : n ≤ cl) (hcm : cl ≤ 9223372036854775807) (hE : (pakL src mtu (ts.map Tl.key)).2 = 0) :
    Calls Try.prog 6 #[(Value.agg (acells src).toArray), .int .i64 mtu, .slice al n cl] w fun e w' => e = .returned (.bool true) ∧ Below w.heap.size w w' := by
  have HH : Hid (∀ W, Below w.heap.size w W → Calls Try.prog 16 #[.slice al n cl] W (Hugd W n ts)) := fun W hW => huge_any al n cl ts W (hs.below hW) (by omega)
  obtain ⟨t1, t2⟩ := pak_told src mtu _ (fun k hk => by obtain ⟨t, ht, rfl⟩ := List.mem_map.1 hk; exact hf t ht) hE
  have t3 := pak_fl src mtu _ (fun k hk => by obtain ⟨t, ht, rfl⟩ := List.mem_map.1 hk; exact hf t ht) hE
  obtain ⟨R, hR⟩ : ∃ R, (pakL src mtu (ts.map Tl.key)).1 = R := ⟨_, rfl⟩
  rw [hR] at t1 t2 t3
  have HRn : Hid (R.length ≤ 40) := by
    have := pak_short src (fun x hx => (t1 x hx).2.2.1) t2
    rw [List.length_map, hs.len] at this
    show _ ≤ _
    omega
  have HPK : Hid (∀ W, Below w.heap.size w W → n ≤ 200 ∧ (∀ t ∈ ts, t.sn ≤ 200) → Calls Try.prog 18 #[(Value.agg (acells src).toArray), .int .i64 mtu, .slice al n cl] W fun e w' => ∃ a m c qs, e = .returned (.tuple #[.slice a m c, .int .i64 0]) ∧ Hid (qs.map Part.l = R) ∧ Hid (m = qs.length) ∧ Ac w.heap.size w' (.slice a m c) qs ∧ Below W.heap.size W w') := fun W hW h => by
    refine (pack_any src mtu al n cl ts W (hs.below hW) (fun t ht => ⟨hf t ht, by have := h.2 t ht; omega⟩) (by omega)).mono ?_
    rintro e w' ⟨a, m, c, qs, rfl, hq, hm, hac, hb⟩
    rw [hE]
    exact ⟨a, m, c, qs, rfl, by rw [← hR]; exact hq, hm, ⟨own_le hac.own hW.size, fun q hq => own_le (hac.bods q hq) hW.size⟩, hb⟩
  have HPA : Hid (∀ W g o at' k c, al = some ⟨g, o, none⟩ → Below w.heap.size w W → (∀ t ∈ ts, t.sn ≤ 200) → at' + k ≤ n → 0 < k → (∃ r, pakL src mtu (((ts.map Tl.key).drop at').take k) = (r, 0) ∧ r.length = 2) → Calls Try.prog 18 #[(Value.agg (acells src).toArray), .int .i64 mtu, .slice (some ⟨g, o + at' * 68, none⟩) k c] W fun e w' => ∃ a c, e = .returned (.tuple #[.slice a 2 c, .int .i64 0]) ∧ Below W.heap.size W w') := fun W g o at' k c ha hW h hk h0 hr => by
    subst ha
    obtain ⟨r, h1, h2⟩ := hr
    have hsub := (hs.below hW).sub at' k hk h0
    have hkey : ((ts.drop at').take k).map Tl.key = ((ts.map Tl.key).drop at').take k := by rw [List.map_take, List.map_drop]
    refine (pack_any src mtu _ k c _ W hsub (fun t ht => ?_) (by omega)).mono ?_
    · have ht' := List.mem_of_mem_drop (List.mem_of_mem_take ht)
      exact ⟨hf t ht', by have := h t ht'; omega⟩
    · rintro e w' ⟨a, m, c, qs, rfl, hq, hm, hac, hb⟩
      rw [hkey, h1] at hq ⊢
      have hq' : qs.map Part.l = r := hq
      have : qs.length = 2 := by rw [← h2, ← hq', List.length_map]
      rw [this] at hm
      subst hm
      exact ⟨a, c, rfl, hb⟩
  have HT1 : Hid (∀ x ∈ R, parE x = 0 ∧ (x.length : Int) ≤ mtu ∧ parL src x ≠ [] ∧ x.length ≤ 100000) := t1
  have HT3 : Hid (Fl src mtu (ts.map Tl.key) R) := t3
  have HTN : Hid (ts.length = n) := hs.len
  have HPL : Hid (0 < n → ∃ g o, al = some ⟨g, o, none⟩) := fun h => by
    obtain ⟨g, o, e, _⟩ := hs.place (by rintro rfl; have := hs.len; simp at this; omega)
    exact ⟨g, o, e⟩
  have RS := Row.new w 26 (acells src)
  have B0 := ba w (.cells (acells src).toArray 26)
  have h40' : ¬ (40 : Int) < (n : Int) := by omega
  clear hs hf hE t1 t2 t3 hR
  go_enter Try.func6, Try.ntmps6
  go_wp2_with (first
    | (go_at_call 17; refine (live7_any _).mono ?_; rintro e w9 ⟨rfl, b9⟩)
    | (go_at_call 19; refine (num7 _ _).mono ?_; rintro e wn ⟨rfl, rfl⟩)
    | (go_at_call 18; refine (HPK.out _ (bt B0 b1) HX.out).mono ?_; rintro e w2 ⟨pa, m, pc, qs, rfl, HQ, HM, hac, b2⟩)
    | (have kk := HX; refine ldA (.tmp 3) (by rfl) rfl w.heap.size 0 src rfl (by exact (RS.below b1 RS.lt).range) ?_)
    | (go_at_call 16; refine (HH.out _ B0).mono ?_; rintro e w1 (⟨rfl, HX, b1⟩ | ⟨rfl, b1⟩)))
  · have H0 : Fw w w2 src (.slice pa m pc) qs := ⟨bt (bt B0 b1) b2, (RS.below b1 RS.lt).below b2 (RS.below b1 RS.lt).lt, hac⟩
    have hm40 : m ≤ 40 := by have h1 := HM.out; have h2 := HRn.out; rw [← HQ.out, List.length_map] at h2; omega
    clear hac RS B0 b1 b2 HPK HH
    go_loopw [9, 10] (fun v i wr => ∃ (j at' : Nat), j ≤ m ∧ at' ≤ n ∧ i = .int .i64 j ∧ v = .int .i64 at' ∧ Fw w wr src (.slice pa m pc) qs ∧ Hid (Fl src mtu ((ts.map Tl.key).drop at') (R.drop j))) (fun _ i _ => m - (intOf i).toNat)
    case atStart => exact ⟨0, 0, Nat.zero_le _, Nat.zero_le _, rfl, rfl, H0, HT3⟩
    case round =>
      clear H0 HT3
      obtain ⟨j, at', hj, hat, rfl, rfl, H, HF⟩ := hrel
      have yj : IntKind.i64.wrap ((j : Int) + 1) = (j : Int) + 1 := by rw [IntKind.wrap_i64]; omega
      by_cases hlt : j + 1 < m
      · have hlt' : (j : Int) + 1 < (m : Int) := by omega
        have hjm : j < m := by omega
        have hjk : j < qs.length := by have := HM.out; omega
        have hRl : R.length = m := by have := HM.out; rw [← HQ.out, List.length_map]; omega
        obtain ⟨f1, f2, f3⟩ := fl_at (x := qs[j].l) HF.out (by rw [← HQ.out, List.getElem?_map, List.getElem?_eq_getElem hjk]; rfl) (by omega)
        rw [List.length_map, HTN.out] at f1
        obtain ⟨gp, rfl, cP, hgp, sQ⟩ := H.ac.at hjk
        obtain ⟨y1, y2, y3, y4⟩ := HT1.out qs[j].l (by rw [← HQ.out]; exact List.mem_map_of_mem (List.getElem_mem hjk))
        obtain ⟨gl, ol, rfl⟩ := HPL.out (by omega)
        generalize qs[j] = q at *
        have HPR : Hid (∀ W, Src W q.a q.n q.c (bcells q.l) → w.heap.size ≤ W.heap.size → Calls Try.prog 14 #[(Value.agg (acells src).toArray), .slice q.a q.n q.c] W (Toldt w W src q.l)) := fun W h1 h2 => parse_told w W src q.a q.n q.c q.l h1 h2 y4 y1 y3
        obtain ⟨qa, qn, qc, ql⟩ := q
        dsimp only at *
        have HF1 : Hid (∀ N : Nat, N = (parL src ql).length → N + at' < n ∧ (∃ r, pakL src mtu (((ts.map Tl.key).drop at').take (N + 1)) = (r, 0) ∧ r.length = 2) ∧ Fl src mtu ((ts.map Tl.key).drop (at' + N)) (R.drop (j + 1))) := fun N h => by subst h; exact ⟨f1, f2, f3⟩
        clear y1 y2 y3 y4 hjk f1 f2 f3 hRl HF
        go_wp2
        have HW := H.below (bd wr)
        have cW : (wr.drew).cell? ⟨gp, j, none⟩ = some (.slice qa qn qc) := cP
        have sW := Src.below sQ (bd wr) (Src.lt sQ)
        clear H cP sQ
        refine wp_region_noPanic ?_
        refine wp_region_held_drew (S := fun W => Row W w.heap.size 26 (acells src) ∧ W.cell? ⟨gp, j, none⟩ = some (.slice qa qn qc)) (by kernel_rfl) (⟨HW.rS, cW⟩) (fun hHeld => ?_)
        refine tL 0 rfl (yA src (fun W hW => hW.1.range) (by rfl) rfl rfl) ?_
        refine tA 1 ?_
        refine tA 2 ?_
        refine tA 3 ?_
        refine tA 4 ?_ (hv := by intro w hSw; (try dsimp only at hSw); have hm := hSw.2; go_simp <;> with_reducible rfl)
        refine r1 5 fun K hK => ?_
        go_simp
        refine (HPR.out _ sW HW.bel.size).mono ?_
        rintro e w3 ⟨gt, ct, N, us', rfl, HN', hN0, hN1, HK', hc', hst', b3⟩
        have H3 := HW.below b3
        have c3 : w3.cell? ⟨gp, j, none⟩ = some (.slice qa qn qc) := (b3.cell (p := ⟨gp, j, none⟩) (by exact hgp)).trans cW
        refine oK hK (by exact ⟨H3.rS, c3⟩) fun hHeld => ?_
        clear hK K
        refine tA 6 ?_
        refine tA 7 ?_
        refine tA 8 ?_
        refine tA 9 ?_
        refine tA 10 ?_
        refine dN ?_
        refine NoPanic.normal ?_
        clear hHeld HW cW sW b3 c3 hc' hst'
        obtain ⟨x1, x2, x3⟩ := HF1.out N (by have := congrArg List.length HK'.out; rw [List.length_map] at this; rw [HN'.out, this])
        have X2 : Hid (∃ r, pakL src mtu (((ts.map Tl.key).drop at').take (N + 1)) = (r, 0) ∧ r.length = 2) := x2
        have X3 : Hid (Fl src mtu ((ts.map Tl.key).drop (at' + N)) (R.drop (j + 1))) := x3
        clear x2 x3 HF1 HK' HN'
        have hN2 : ¬ (N : Int) = 0 := by omega
        have hN3 : ¬ (n : Int) ≤ (at' : Int) + (N : Int) := by omega
        have hN4 : (at' : Int) + (N : Int) < (n : Int) := by omega
        have ya : IntKind.i64.wrap ((at' : Int) + (N : Int)) = (at' : Int) + (N : Int) := by rw [IntKind.wrap_i64]; omega
        have yb : IntKind.i64.wrap ((at' : Int) + (N : Int) + 1) = (at' : Int) + (N : Int) + 1 := by rw [IntKind.wrap_i64]; omega
        go_wp2
        have HW := H3.below (bd w3)
        refine wp_region_noPanic ?_
        refine wp_region_held_drew (S := fun W => Row W w.heap.size 26 (acells src)) (by kernel_rfl) (HW.rS) (fun hHeld => ?_)
        refine tL 0 rfl (yA src (fun W hW => hW.range) (by rfl) rfl rfl) ?_
        refine tA 1 ?_
        refine tA 2 ?_
        refine tA 3 ?_
        refine tA 4 ?_
        refine tA 5 ?_
        refine tA 6 ?_
        refine tA 7 ?_
        refine tA 8 ?_
        refine tA 9 ?_ (hv := by intro w hSw; (try dsimp only at hSw); go_simp; rw [if_pos (show 0 ≤ (at' : Int) + (N : Int) + 1 ∧ (at' : Int) + (N : Int) + 1 ≤ (cl : Int) by omega), if_pos (show at' ≤ ((at' : Int) + (N : Int) + 1).toNat by omega), if_neg (show ¬ cl = at' by omega), show ((at' : Int) + (N : Int) + 1).toNat - at' = N + 1 by omega])
        refine r1 10 fun K hK => ?_
        go_simp
        refine (HPA.out _ gl ol at' (N + 1) (cl - at') rfl HW.bel HX.out.2 (by omega) (by omega) X2.out).mono ?_
        rintro e w4 ⟨a4, c4, rfl, b4⟩
        have H4 := HW.below b4
        refine oK hK (by exact H4.rS) fun hHeld => ?_
        clear hK K
        refine tA 11 ?_
        refine tA 12 ?_
        refine tA 13 ?_
        refine tA 14 ?_
        refine tA 15 ?_
        refine dN ?_
        refine NoPanic.normal ?_
        clear hHeld HW b4 H3
        go_wp2_with (go_at_call 19; refine (num7 _ _).mono ?_; rintro e wn ⟨rfl, rfl⟩)
        go_roundw
        case rel => exact ⟨j + 1, at' + N, by omega, by omega, by go_num, by go_num, H4, X3.out⟩
        case measure => simp [intOf]; omega
      · have hlt' : ¬ (j : Int) + 1 < (m : Int) := by omega
        have hB := H.bel
        clear H HF HT1 HQ HPA HPL
        go_wp2_with (go_at_call 17; refine (live7_any _).mono ?_; rintro e w5 ⟨rfl, b5⟩)
        go_ret
        exact ⟨rfl, bt hB b5⟩
  · go_ret
    exact ⟨rfl, bt (bt B0 b1) b9⟩
theorem full_any (src : Ad) (mtu : Int) (al : Option Addr) (n cl : Nat) (ts : List Tl) (w : World) (hs : TlW w al n ts) (hf : ∀ t ∈ ts, TFit t.key) (hcl : n ≤ cl) (hcm : cl ≤ 9223372036854775807) :
    Calls Try.prog 6 #[(Value.agg (acells src).toArray), .int .i64 mtu, .slice al n cl] w fun e w' => e = .returned (.bool true) ∧ Below w.heap.size w w' := by
  by_cases h : 40 < n
  · exact full_long src mtu al n cl ts w hs (by omega) h
  by_cases hE : (pakL src mtu (ts.map Tl.key)).2 = 0
  · exact full_walk src mtu al n cl ts w hs hf (by omega) hcl hcm hE
  · exact full_err src mtu al n cl ts w hs hf (by omega) hE
end Go.Proofs.Ytognnfknbkedgaa

namespace Go.Proofs.Ytognnfknbkedgaa
open Go.RowKit Go.ChangeShapes Go.WideShapes Go.ChangeAt Go.Deep
set_option maxRecDepth 100000
theorem own : ownKnob Try.prog.godebug = none := by kernel_rfl
theorem laid_out : laidOutB Try.prog = true := by kernel_rfl
/-- What a walk is told of a slice of integers that came in: it is nil; or it leads to a row of 'cap' cells, the numbers 'zs' (the first 'len' are its elements, the rest its spare room), each fitting its kind. -/
def IsRow (k : IntKind) (w : World) (a : Option Addr) (len cap : Nat) (zs : List Int) : Prop :=
  (a = none ∧ len = 0 ∧ cap = 0 ∧ zs = []) ∨
  ∃ x, a = some x ∧ len ≤ cap ∧ cap ≤ maxLen ∧ zs.length = cap ∧ (∀ i, i < zs.length → w.cell? (x.add i) = some (.int k (zs.getD i 0))) ∧ ∀ n ∈ zs, (Lit.int k n).wf = true

theorem IsRow.src {k : IntKind} {w : World} {a : Option Addr} {len cap : Nat} {zs : List Int} (h : IsRow k w a len cap zs) : Src w a len cap ((zs.take len).map (Value.int k)) ∧ (∀ n ∈ zs, (Lit.int k n).wf = true) ∧ len ≤ maxLen := by
  rcases h with ⟨rfl, rfl, rfl, rfl⟩ | ⟨x, rfl, h1, h2, h3, h4, h5⟩
  · exact ⟨Src.nil w, by simp, by unfold maxLen; omega⟩
  · refine ⟨⟨by simp; omega, (fun h => by cases h), fun ad had j u hu => ?_⟩, h5, Nat.le_trans h1 h2⟩
    cases had
    have hj : j < ((zs.take len).map (Value.int k)).length := (List.getElem?_eq_some_iff.1 hu).1
    simp at hj
    rw [h4 j (by omega)]
    rw [List.getElem?_map, List.getElem?_take_of_lt (by omega), List.getElem?_eq_getElem (by omega)] at hu
    simp at hu
    simp [List.getD, List.getElem?_eq_getElem (show j < zs.length by omega), hu]

theorem IsRow.le {k : IntKind} {w : World} {a : Option Addr} {len cap : Nat} {zs : List Int} (h : IsRow k w a len cap zs) : len ≤ cap := by
  rcases h with ⟨_, h1, h2, _⟩ | ⟨_, _, h1, _⟩
  · omega
  · exact h1

theorem IsRow.bytes {w : World} {a : Option Addr} {len cap : Nat} {zs : List Int} (h : IsRow .u8 w a len cap zs) : ∃ l, Src w a len cap (bcells l) := by
  obtain ⟨h1, h2, _⟩ := h.src
  refine ⟨(zs.take len).map fun z => UInt8.ofNat z.toNat, ?_⟩
  have e : bcells ((zs.take len).map fun z => UInt8.ofNat z.toNat) = (zs.take len).map (Value.int .u8) := by
    unfold bcells
    rw [List.map_map]
    refine List.map_congr_left fun z hz => ?_
    have hb := bounds_u8 (h2 z (List.mem_of_mem_take hz))
    simp
    omega
  rw [e]
  exact h1

section
variable {H : Type} {enc : TypeId × Value → H} {w : World} {base : Nat} {held : Bool} {r : Reach} {b0 : Nat} {v : Value} {d : DataW H} {p : List MemPlace}
end
theorem okWide_arr {P : Program} {w : World} {r : Reach} {b t n : Nat} {e : TypeId} {v : Value} (ht : P.underlying t = some (.array n e)) (h : Value.okWide P w r b t v) : ∃ cs, v = .agg cs := by
  simp only [Value.okWide, ht] at h
  obtain ⟨cs, h1, _⟩ := h
  exact ⟨cs, h1⟩
section
variable {H : Type} {enc : TypeId × Value → H} {w : World} {base : Nat} {spare : Nat → Bool} {held : Bool}
theorem bytes_of (m : Nat) : ∀ (cs : List Value) (xs : List (DataW H × List MemPlace)), cs.length = xs.length → (∀ i, i < xs.length → DataW.trod enc Try.prog w base spare held m 5 ((cs.drop i).take 1) = xs[i]?) → ∃ l : List UInt8, cs = bcells l
  | [], _, _, _ => ⟨[], rfl⟩
  | c :: r, [], h, _ => by simp at h
  | c :: r, x :: ys, h, k => by
    obtain ⟨l, rfl⟩ := bytes_of m r ys (by simpa using h) (fun i hi => by have := k (i + 1) (by simp; omega); simpa using this)
    obtain ⟨n, e1, _, hw⟩ := DataW.trod_int Try.underlying5 (show DataW.trod enc Try.prog w base spare held m 5 [c] = some x by simpa using k 0 (by simp))
    obtain ⟨h0, h1⟩ := bounds_u8 hw
    simp only [List.cons.injEq, and_true] at e1
    refine ⟨UInt8.ofNat n.toNat :: l, ?_⟩
    rw [e1]
    show _ = Value.int .u8 ((UInt8.ofNat n.toNat).toNat : Int) :: bcells l
    have : (UInt8.ofNat n.toNat).toNat = n.toNat := by simp; omega
    rw [this]
    congr 2
    omega
theorem cellsA : Try.prog.cellsOf 26 = 16 := by kernel_rfl
theorem cells_u8 : Try.prog.cellsOf 5 = 1 := by kernel_rfl
theorem ad_of {fuel : Nat} {cs : List Value} {x : DataW H × List MemPlace} (h : DataW.trod enc Try.prog w base spare held fuel 26 cs = some x) : ∃ a : Ad, cs = acells a := by
  obtain ⟨xs, m, _, _, hl, hn, hel⟩ := DataW.trod_array Try.underlying26 h
  rw [cells_u8] at hel
  obtain ⟨l, rfl⟩ := bytes_of m cs xs (by rw [hl, hn, cellsA]) (fun i hi => by have := hel i (by omega); rwa [Nat.mul_one] at this)
  exact ⟨⟨l, by rw [bcells_length, cellsA] at hl; exact hl⟩, rfl⟩
variable {r : Reach} {b0 : Nat} {v : Value} {d : DataW H} {p : List MemPlace}
set_option maxRecDepth 100000 in
theorem openA (hv : Value.okWide Try.prog w r b0 26 v) (h : DataW.Trod enc Try.prog w base spare held 26 v d p) : ∃ a : Ad, v = (Value.agg (acells a).toArray) := by
  obtain ⟨cs, rfl⟩ := okWide_arr Try.underlying26 hv
  obtain ⟨fuel, hf⟩ := h
  obtain ⟨a, ha⟩ := ad_of hf
  exact ⟨a, by rw [← ha]; simp [Value.cells]⟩
end
/-- The readings of arguments stay where nothing that was there is written. -/
theorem all_stay {H : Type} {enc : TypeId × Value → H} {P : Program} (hl : laidOutB P = true) {W W' : World} (hb : Below W.heap.size W W') : ∀ (ts : List TypeId) (vs : List Value) (ds : List (DataW H)) (p : List MemPlace), (ts.all fun t => P.readableRec t && decide (t < P.types.size)) = true → DataW.TrodAll enc P W 0 (fun _ => true) true ts vs ds p → DataW.TrodAll enc P W' 0 (fun b => decide (b < W.heap.size)) true ts vs ds p
  | [], vs, ds, p, _, h => by
    obtain ⟨rfl, rfl, rfl⟩ := trodAll_nil h
    exact trodAll_mk0
  | t :: ts, vs, ds, p, hr, h => by
    obtain ⟨v0, vs0, d0, ds0, p0, q0, rfl, rfl, rfl, h0, r0⟩ := trodAll_cons h
    simp only [List.all_cons, Bool.and_eq_true, decide_eq_true_eq] at hr
    refine trodAll_cons_mk (Below.trod hl hr.1.1 hr.1.2 h0 hb ?_) (all_stay hl hb ts vs0 ds0 q0 (by simpa using hr.2) r0)
    obtain ⟨m, hm⟩ := h0
    exact DataW.trod_lt m _ _ _ hm
end Go.Proofs.Ytognnfknbkedgaa

namespace Go.Proofs.Ytognnfknbkedgaa
open Go.RowKit Go.ChangeShapes Go.WideShapes Go.ChangeAt Go.Deep
set_option maxRecDepth 100000
section
variable {H : Type} {enc : TypeId × Value → H} {w : World} {base : Nat} {held : Bool}
theorem cellsP : Try.prog.cellsOf 28 = 17 := by kernel_rfl
theorem cellsQ : Try.prog.cellsOf 30 = 34 := by kernel_rfl
theorem cells_int : Try.prog.cellsOf 3 = 1 := by kernel_rfl
theorem cells_u16 : Try.prog.cellsOf 22 = 1 := by kernel_rfl
theorem cells_bool : Try.prog.cellsOf 4 = 1 := by kernel_rfl
theorem cells_I : Try.prog.cellsOf 24 = 8 := by kernel_rfl
theorem cells_L : Try.prog.cellsOf 31 = 1 := by kernel_rfl
theorem cells_T : Try.prog.cellsOf 33 = 68 := by kernel_rfl
theorem cells_u32 : Try.prog.cellsOf 63 = 1 := by kernel_rfl
theorem pf_of {fuel : Nat} {cs : List Value} {x : DataW H × List MemPlace} (h : DataW.trod enc Try.prog w base (fun _ => true) held fuel 28 cs = some x) : ∃ p : Pf, cs = pcells p := by
  obtain ⟨y0, y1, n, _, hl, h0, h1⟩ := trod_struct2 Try.underlying28 h
  dsimp only at h0 h1
  rw [cellsA] at h0
  rw [cells_int] at h1
  rw [cellsP] at hl
  obtain ⟨a, ha⟩ := ad_of h0
  obtain ⟨k, e1, _, hw⟩ := DataW.trod_int Try.underlying3 h1
  refine ⟨⟨a, k⟩, ?_⟩
  rw [pcells, ← ha, ← e1, List.drop_zero]
  have : (cs.drop 16).take 1 = cs.drop 16 := List.take_of_length_le (by simp; omega)
  rw [this, List.take_append_drop]
theorem pr_of {fuel : Nat} {cs : List Value} {x : DataW H × List MemPlace} (h : DataW.trod enc Try.prog w base (fun _ => true) held fuel 30 cs = some x) : ∃ q : Pr, cs = qcells q := by
  obtain ⟨y0, y1, n, _, hl, h0, h1⟩ := trod_struct2 Try.underlying30 h
  dsimp only at h0 h1
  rw [cellsP] at h0 h1
  rw [cellsQ] at hl
  obtain ⟨d, hd⟩ := pf_of h0
  obtain ⟨s, hs⟩ := pf_of h1
  refine ⟨⟨d, s⟩, ?_⟩
  rw [qcells, ← hd, ← hs, List.drop_zero]
  have : (cs.drop 17).take 17 = cs.drop 17 := List.take_of_length_le (by simp; omega)
  rw [this, List.take_append_drop]
theorem id_of {fuel : Nat} {cs : List Value} {x : DataW H × List MemPlace} (h : DataW.trod enc Try.prog w base (fun _ => true) held fuel 24 cs = some x) : ∃ a : Id8, cs = icells a := by
  obtain ⟨xs, m, _, _, hl, hn, hel⟩ := DataW.trod_array Try.underlying24 h
  rw [cells_u8] at hel
  obtain ⟨l, rfl⟩ := bytes_of m cs xs (by rw [hl, hn, cells_I]) (fun i hi => by have := hel i (by omega); rwa [Nat.mul_one] at this)
  exact ⟨⟨l, by rw [bcells_length, cells_I] at hl; exact hl⟩, rfl⟩
theorem st_of {fuel : Nat} {cs : List Value} {x : DataW H × List MemPlace} (h : DataW.trod enc Try.prog w base (fun _ => true) held fuel 31 cs = some x) : ∃ a n c st, cs = [.slice a n c] ∧ Src w a n c (wcells st) := by
  rcases open_ints Try.underlying31 Try.underlying63 cells_u32 h with ⟨hcs, _⟩ | ⟨x, l, c, zs, hcs, _, hl, hm, hz, _, hcell, hwz⟩
  · exact ⟨none, 0, 0, [], hcs, Src.nil w⟩
  · have hr : IsRow .u32 w (some x) l c zs := .inr ⟨_, rfl, hl, hm, by simpa using hz, hcell, hwz⟩
    obtain ⟨h1, h2, _⟩ := hr.src
    refine ⟨some x, l, c, (zs.take l).map fun z => UInt32.ofNat z.toNat, hcs, ?_⟩
    have e : wcells ((zs.take l).map fun z => UInt32.ofNat z.toNat) = (zs.take l).map (Value.int .u32) := by
      unfold wcells
      rw [List.map_map]
      refine List.map_congr_left fun z hz => ?_
      have hb := bounds_u32 (h2 z (List.mem_of_mem_take hz))
      simp
      omega
    rw [e]
    exact h1
theorem drop_split (cs : List Value) (o n m : Nat) (h : o + n = m) : cs.drop o = (cs.drop o).take n ++ cs.drop m := by
  rw [← h, ← List.drop_drop, List.take_append_drop]
theorem nat_of16 {z : Int} (h : (Lit.int .u16 z).wf = true) : ∃ n : Nat, z = n ∧ n < 65536 := by
  obtain ⟨h0, h1⟩ := bounds_u16 h
  exact ⟨z.toNat, by omega, by omega⟩
theorem nat_of8 {z : Int} (h : (Lit.int .u8 z).wf = true) : ∃ n : Nat, z = n ∧ n < 256 := by
  obtain ⟨h0, h1⟩ := bounds_u8 h
  exact ⟨z.toNat, by omega, by omega⟩
theorem tl_of {fuel : Nat} {cs : List Value} {x : DataW H × List MemPlace} (h : DataW.trod enc Try.prog w base (fun _ => true) held fuel 33 cs = some x) : ∃ t : Tl, cs = tcells t ∧ TSrc w t ∧ TFit t.key := by
  obtain ⟨xs, n, _, _, hl, hlen, hf⟩ := DataW.trod_struct Try.underlying33 h
  rw [cells_T] at hl
  match xs, hlen with
  | [y0, y1, y2, y3, y4, y5, y6, y7, y8, y9, y10, y11, y12], _ =>
    have f0 : DataW.trod enc Try.prog w base (fun _ => true) held n 5 ((cs.drop 0).take (Try.prog.cellsOf 5)) = some y0 := hf 0 _ rfl
    have f1 : DataW.trod enc Try.prog w base (fun _ => true) held n 22 ((cs.drop 1).take (Try.prog.cellsOf 22)) = some y1 := hf 1 _ rfl
    have f2 : DataW.trod enc Try.prog w base (fun _ => true) held n 22 ((cs.drop 2).take (Try.prog.cellsOf 22)) = some y2 := hf 2 _ rfl
    have f3 : DataW.trod enc Try.prog w base (fun _ => true) held n 22 ((cs.drop 3).take (Try.prog.cellsOf 22)) = some y3 := hf 3 _ rfl
    have f4 : DataW.trod enc Try.prog w base (fun _ => true) held n 22 ((cs.drop 4).take (Try.prog.cellsOf 22)) = some y4 := hf 4 _ rfl
    have f5 : DataW.trod enc Try.prog w base (fun _ => true) held n 22 ((cs.drop 5).take (Try.prog.cellsOf 22)) = some y5 := hf 5 _ rfl
    have f6 : DataW.trod enc Try.prog w base (fun _ => true) held n 5 ((cs.drop 6).take (Try.prog.cellsOf 5)) = some y6 := hf 6 _ rfl
    have f7 : DataW.trod enc Try.prog w base (fun _ => true) held n 4 ((cs.drop 7).take (Try.prog.cellsOf 4)) = some y7 := hf 7 _ rfl
    have f8 : DataW.trod enc Try.prog w base (fun _ => true) held n 4 ((cs.drop 8).take (Try.prog.cellsOf 4)) = some y8 := hf 8 _ rfl
    have f9 : DataW.trod enc Try.prog w base (fun _ => true) held n 24 ((cs.drop 9).take (Try.prog.cellsOf 24)) = some y9 := hf 9 _ rfl
    have f10 : DataW.trod enc Try.prog w base (fun _ => true) held n 26 ((cs.drop 17).take (Try.prog.cellsOf 26)) = some y10 := hf 10 _ rfl
    have f11 : DataW.trod enc Try.prog w base (fun _ => true) held n 30 ((cs.drop 33).take (Try.prog.cellsOf 30)) = some y11 := hf 11 _ rfl
    have f12 : DataW.trod enc Try.prog w base (fun _ => true) held n 31 ((cs.drop 67).take (Try.prog.cellsOf 31)) = some y12 := hf 12 _ rfl
    rw [cells_u8] at f0 f6
    rw [cells_u16] at f1 f2 f3 f4 f5
    rw [cells_bool] at f7 f8
    rw [cells_I] at f9
    rw [cellsA] at f10
    rw [cellsQ] at f11
    rw [cells_L] at f12
    obtain ⟨z0, e0, _, w0⟩ := DataW.trod_int Try.underlying5 f0
    obtain ⟨z1, e1, _, w1⟩ := DataW.trod_int Try.underlying22 f1
    obtain ⟨z2, e2, _, w2⟩ := DataW.trod_int Try.underlying22 f2
    obtain ⟨z3, e3, _, w3⟩ := DataW.trod_int Try.underlying22 f3
    obtain ⟨z4, e4, _, w4⟩ := DataW.trod_int Try.underlying22 f4
    obtain ⟨z5, e5, _, w5⟩ := DataW.trod_int Try.underlying22 f5
    obtain ⟨z6, e6, _, w6⟩ := DataW.trod_int Try.underlying5 f6
    obtain ⟨b7, e7, _⟩ := DataW.trod_bool Try.underlying4 f7
    obtain ⟨b8, e8, _⟩ := DataW.trod_bool Try.underlying4 f8
    obtain ⟨i9, e9⟩ := id_of f9
    obtain ⟨a10, e10⟩ := ad_of f10
    obtain ⟨q11, e11⟩ := pr_of f11
    obtain ⟨sa, sn, sc, st, e12, hst⟩ := st_of f12
    obtain ⟨n0, rfl, k0⟩ := nat_of8 w0
    obtain ⟨n1, rfl, k1⟩ := nat_of16 w1
    obtain ⟨n2, rfl, k2⟩ := nat_of16 w2
    obtain ⟨n3, rfl, k3⟩ := nat_of16 w3
    obtain ⟨n4, rfl, k4⟩ := nat_of16 w4
    obtain ⟨n5, rfl, k5⟩ := nat_of16 w5
    obtain ⟨n6, rfl, k6⟩ := nat_of8 w6
    refine ⟨⟨n0, n1, n2, n3, n4, n5, n6, b7, b8, i9, a10, q11, sa, sn, sc, st⟩, ?_, hst, ⟨k0, k1, k2, k3, k4, k5, k6⟩⟩
    have g0 := drop_split cs 0 1 1 rfl
    have g1 := drop_split cs 1 1 2 rfl
    have g2 := drop_split cs 2 1 3 rfl
    have g3 := drop_split cs 3 1 4 rfl
    have g4 := drop_split cs 4 1 5 rfl
    have g5 := drop_split cs 5 1 6 rfl
    have g6 := drop_split cs 6 1 7 rfl
    have g7 := drop_split cs 7 1 8 rfl
    have g8 := drop_split cs 8 1 9 rfl
    have g9 := drop_split cs 9 8 17 rfl
    have g10 := drop_split cs 17 16 33 rfl
    have g11 := drop_split cs 33 34 67 rfl
    have g12 := drop_split cs 67 1 68 rfl
    have gl : cs.drop 68 = [] := List.drop_eq_nil_of_le (by omega)
    rw [gl, e12] at g12
    rw [g12, e11] at g11
    rw [g11, e10] at g10
    rw [g10, e9] at g9
    rw [g9, e8] at g8
    rw [g8, e7] at g7
    rw [g7, e6] at g6
    rw [g6, e5] at g5
    rw [g5, e4] at g4
    rw [g4, e3] at g3
    rw [g3, e2] at g2
    rw [g2, e1] at g1
    rw [g1, e0] at g0
    rw [List.drop_zero] at g0
    rw [g0]
    simp [tcells, tnum]
variable {r : Reach} {b0 : Nat} {v : Value} {d : DataW H} {p : List MemPlace}
theorem openU (hv : Value.okWide Try.prog w r b0 41 v) (h : DataW.Trod enc Try.prog w base (fun _ => true) held 41 v d p) : ∃ (ad : Option Addr) (len cap : Nat) (l : List Tl), v = .slice ad len cap ∧ TlW w ad len l ∧ (∀ t ∈ l, TFit t.key) ∧ len ≤ cap ∧ cap ≤ maxLen := by
  obtain ⟨ad, len, cap, rfl⟩ := okWide_slice Try.underlying41 hv
  obtain ⟨fuel, hf⟩ := h
  rcases open_slice Try.underlying41 hf with ⟨hcs, _⟩ | ⟨a, len', cap', m, n, D, Pl, hcs, _, hl, hmx, hmm, _, hx⟩
  · simp [Value.cells] at hcs
    obtain ⟨rfl, rfl, rfl⟩ := hcs
    exact ⟨none, 0, 0, [], rfl, ⟨rfl, (fun h => absurd rfl h), fun _ h => by cases h⟩, (fun _ h => by cases h), Nat.le_refl _, Nat.zero_le _⟩
  · simp [Value.cells] at hcs
    obtain ⟨rfl, rfl, rfl⟩ := hcs
    by_cases h0 : len = 0
    · subst h0
      exact ⟨_, 0, cap, [], rfl, ⟨rfl, (fun h => absurd rfl h), fun _ h => by cases h⟩, (fun _ h => by cases h), Nat.zero_le _, by omega⟩
    · have hm : len ≤ m := by rw [hmm]; split <;> omega
      have each : ∀ i, i < len → ∃ q : Tl, (TSrc w q ∧ TFit q.key) ∧ ∀ k, k < 68 → w.cell? ((a.add (i * 68)).add k) = (tcells q)[k]? := fun i hi => by
        obtain ⟨cs', k1, k2⟩ := hx i (by omega)
        obtain ⟨q, rfl, hb1, hb2⟩ := tl_of k2
        rw [cells_T] at k1
        obtain ⟨_, _, hc⟩ := World.cells?_some k1
        exact ⟨q, ⟨hb1, hb2⟩, hc⟩
      have each' : ∀ i, ∃ q : Tl, i < len → (TSrc w q ∧ TFit q.key) ∧ ∀ k, k < 68 → w.cell? ((a.add (i * 68)).add k) = (tcells q)[k]? := fun i => by
        by_cases hi : i < len
        · obtain ⟨q, hq⟩ := each i hi
          exact ⟨q, fun _ => hq⟩
        · exact ⟨zeroT, fun h => absurd h hi⟩
      obtain ⟨f, hf'⟩ := Classical.axiomOfChoice each'
      obtain ⟨b, o, x⟩ := a
      have hx0 : x = none := by
        have h1 := (hf' 0 (by omega)).2 0 (by omega)
        cases x with
        | none => rfl
        | some y =>
          have h2 : (tcells (f 0))[0]? = some (.int .u8 ((f 0).ty : Int)) := rfl
          rw [h2] at h1
          have := World.cell?_spot h1
          simp [Addr.add] at this
      subst hx0
      have hc : ∀ j, j < len → ∀ k, k < 68 → w.cell? ⟨b, o + j * 68 + k, none⟩ = (tcells (f j))[k]? := fun j hj k hk => by
        have := (hf' j hj).2 k hk
        rw [add_add, Go.WideShapes.add_plain] at this
        rw [Nat.add_assoc]; exact this
      refine ⟨_, len, cap, (List.range len).map f, rfl, ⟨by simp, fun _ => ⟨b, o, rfl, ?_, fun j q hq => ?_⟩, ?_⟩, ?_, by omega, by omega⟩
      · have h1 := hc 0 (by omega) 0 (by omega)
        exact World.block_lt_of_cell? _ _ (h1.trans (rfl : (tcells (f 0))[0]? = some (.int .u8 ((f 0).ty : Int))))
      · rw [List.getElem?_map] at hq
        by_cases hj : j < len
        · rw [List.getElem?_range hj] at hq
          cases hq
          intro k u hu
          rw [hc j hj k (by have := (List.getElem?_eq_some_iff.1 hu).1; rwa [tcells_len] at this)]
          exact hu
        · rw [List.getElem?_eq_none (by simp; omega)] at hq
          cases hq
      · intro q hq
        obtain ⟨i, hi, rfl⟩ := List.mem_map.1 hq
        exact (hf' i (List.mem_range.1 hi)).1.1
      · intro q hq
        obtain ⟨i, hi, rfl⟩ := List.mem_map.1 hq
        exact (hf' i (List.mem_range.1 hi)).1.2
end
end Go.Proofs.Ytognnfknbkedgaa

namespace Go.Proofs.Ytognnfknbkedgaa.packFull
open Go.ChangeShapes Go.WideShapes Go.ChangeAt Go.RowKit
open Go.ChangeMaps (open_string)
set_option maxRecDepth 100000 in
theorem lifted (os : Os) (started : os.Started) (H : Type) (enc : TypeId × Value → H) :
    ReturnsInHanded {} Try.checked os 6 .any (Rows.packFullSpec.pre6 enc Try.prog Try.f6 Rows.packFullRow.domain false) (Rows.packFullSpec.post enc Try.prog Try.f6 false true false false) := by
  refine returnsInHanded_of_change (C := Try.checked) own started (by kernel_rfl) Try.func6
    (ChangeSpec.witness6 (enc := enc) (C := Try.checked) false ⟨#[], #[(Value.agg (acells zeroA).toArray), .int .i64 0, .slice none 0 0], []⟩ 8 (by kernel_rfl) (by kernel_rfl) (by kernel_rfl) (by kernel_rfl)) ?_
  intro W base args ds gs before hval0 hW hcnd _
  have hval : ∀ (j : Nat) t v, Try.f6.params[j]? = some t → args[j]? = some v → Value.okWide Try.prog W .any base t v := hval0
  have hW' := hW
  obtain ⟨p, q, hA0, hV, rfl, hfz, hnd⟩ := hW
  have hA : DataW.TrodAll enc Try.prog W 0 (fun _ => true) true Try.f6.params.toList args.toList ds p := hA0
  have kA := hA
  rw [Try.params6] at hA hval
  obtain ⟨v0, vs0, d0, ds0, p0, q0, hargs, rfl, rfl, h0, r0⟩ := trodAll_cons hA
  obtain ⟨v1, vs1, d1, ds1, p1, q1, rfl, rfl, rfl, h1, r1⟩ := trodAll_cons r0
  obtain ⟨v2, vs2, d2, ds2, p2, q2, rfl, rfl, rfl, h2, r2⟩ := trodAll_cons r1
  obtain ⟨rfl, rfl, rfl⟩ := trodAll_nil r2
  obtain rfl : args = #[v0, v1, v2] := by cases args; simp_all
  obtain ⟨rfl, rfl⟩ := trodVars_none hV
  obtain ⟨a0, rfl⟩ := openA (hval 0 26 v0 rfl rfl) h0
  obtain ⟨a1, rfl, _, _, w1⟩ := open_int Try.underlying3 (hval 1 3 v1 rfl rfl) h1
  obtain ⟨ad2, n2, c2, l2, rfl, m2, f2, b2⟩ := openU (hval 2 41 v2 rfl rfl) h2
  clear hA0 hval0
  refine (full_any a0 a1 ad2 n2 c2 l2 W m2 f2 b2.1 b2.2).mono fun e W' ⟨he, bel⟩ => ?_
  subst he
  exact ⟨_, rfl, _, _, _, [], _, [], hW', trodAll_mk1 (shut_bool Try.underlying4 _), all_stay laid_out bel _ _ _ _ (by kernel_rfl) kA, rfl, bel.frame _, fun h => by cases h⟩
theorem over : Rows.packFullRow.holds Try.pinned (OpenSpec.ofChange Rows.packFullSpec) :=
  OpenClaim.holds_of_wide 6 Try.f6 rfl rfl rfl rfl rfl rfl rfl ⟨rfl, rfl, rfl, rfl, rfl⟩ rfl rfl rfl rfl rfl (by kernel_rfl) Try.func6 (by kernel_rfl)
    (of_decide_eq_true (by kernel_rfl)) (by unfold Func.isWrapper; first | (rw [if_pos (by decide +kernel)]; kernel_rfl) | (rw [if_neg (by decide +kernel)]; exact ⟨rfl, rfl⟩))
    (fun os started H enc _ => lifted os started H enc)
end Go.Proofs.Ytognnfknbkedgaa.packFull
namespace Go.Proofs.Ytognnfknbkedgaa
/-- The statement. -/
theorem packFull_holds : Rows.PackFullSaid := packFull.over
#print axioms packFull_holds
end Go.Proofs.Ytognnfknbkedgaa
