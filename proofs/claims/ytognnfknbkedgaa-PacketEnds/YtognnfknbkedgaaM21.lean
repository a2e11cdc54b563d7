/-
  The function live of the statements of layer 6 returns true, whatever the memory, and turns nothing that was there.
-/
import Derived.Test.YtognnfknbkedgaaM20
import Derived.Test.YtognnfknbkedgaaM07
namespace Go.Proofs.Ytognnfknbkedgaa
open Go.RowKit
set_option linter.unusedSimpArgs false
set_option maxRecDepth 20000

theorem lwBd (w : World) : (Instr.build 24 #[(0, .int .u8 97), (1, .int .u8 98), (2, .int .u8 99), (3, .int .u8 100), (4, .int .u8 101), (5, .int .u8 102), (6, .int .u8 103), (7, .int .u8 104)]).run Try.prog w = .ok (.agg (icells lwI).toArray) w := by kernel_rfl
theorem lw_at {W : World} {g : Nat} {u : Tl} (h : W.rangeAt g 68 (tcells u)) (hu : Lw u) : LP W g 101 lwP ∧ W.rangeAt g 77 (icells lwI) ∧ W.cell? ⟨g, 73, none⟩ = some (.int .u16 32) ∧ W.cell? ⟨g, 100, none⟩ = some (.int .u8 9) := by
  have h1 := rangeAt_right h (k := 9) rfl
  have h2 := rangeAt_right h1 (k := 8) (icells_len _)
  have h3 := rangeAt_right h2 (k := 16) (acells_len _)
  have hi := rangeAt_left h1
  have ha := rangeAt_left h2
  have hq := rangeAt_left (rangeAt_left h3)
  rw [hu.id] at hi
  rw [hu.ad] at ha
  rw [hu.pr] at hq
  exact ⟨hq, hi, (h 5 (.int .u16 (u.met : Int)) rfl).trans (by rw [hu.met]; rfl), ha 15 (.int .u8 9) rfl⟩
theorem live_any (w : World) : Calls Try.prog 8 #[] w fun e w' => e = .returned (.bool true) ∧ Below w.heap.size w w' := by
  go_enter Try.func8, Try.ntmps8
  go_wp2
  refine name_world (R := fun W => Code.wp _ _ _ _ W) (P := fun W => Below w.heap.size w W ∧ Row W w.heap.size 26 (acells lwS)) _ ⟨ba _ _, Row.new _ _ _⟩ ?_
  rintro X ⟨hB, hR⟩
  have rD := hR.below (bd X) hR.lt
  have bX := bt hB (bd X)
  refine wp_region_noPanic ?_
  refine wp_region_held_drew (S := fun W => Row W w.heap.size 26 (acells lwS)) (by kernel_rfl) (rD) (fun hHeld => ?_)
  refine tL 0 rfl (yA lwS (fun W hW => hW.range) (by rfl) rfl rfl) ?_
  refine r1 1 fun K hK => ?_
  go_simp
  refine (wrap_any lw1 (by decide) _).mono ?_
  rintro e w1 ⟨a1, c1, rfl, s1, b1⟩
  have rq1 := rD.below b1 rD.lt
  refine oK hK (by exact rq1) fun hHeld => ?_
  clear hK K
  refine r1 2 fun K hK => ?_
  go_simp
  refine (live_parse1 _ a1 c1 s1).mono ?_
  rintro e w2 ⟨g2, c2, t, rfl, ht1, ht2, l2, m2, b2⟩
  have r2 := rq1.below b2 rq1.lt
  have B2 := bt (bt bX b1) b2
  refine oK hK (by exact r2) fun hHeld => ?_
  clear hK K
  refine tA 3 ?_
  refine tA 4 ?_
  refine tA 5 ?_
  refine tA 6 ?_
  refine tA 7 ?_
  refine dN ?_
  refine NoPanic.normal ?_
  go_wp2
  have rE := r2.below (bd w2) r2.lt
  have mE := range_below m2 l2 (bd w2)
  have B3 := bt B2 (bd w2)
  have lE : g2 < w2.drew.heap.size := l2
  clear hHeld m2 l2
  refine wp_region_noPanic ?_
  refine wp_region_held_drew (S := fun W => Row W w.heap.size 26 (acells lwS)) (by kernel_rfl) (rE) (fun hHeld => ?_)
  refine tL 0 rfl (yA lwS (fun W hW => hW.range) (by rfl) rfl rfl) ?_
  refine r1 1 fun K hK => ?_
  go_simp
  refine (wrap_any lw2 (by decide) _).mono ?_
  rintro e w3 ⟨a3, c3, rfl, s3, b3⟩
  have r3 := rE.below b3 rE.lt
  have m3 := range_below mE lE b3
  have l3 := Nat.lt_of_lt_of_le lE b3.size
  refine oK hK (by exact r3) fun hHeld => ?_
  clear hK K
  refine r1 2 fun K hK => ?_
  go_simp
  refine (live_parse2 _ a3 c3 s3).mono ?_
  rintro e w4 ⟨g4, c4, u, rfl, hu, l4, m4, s4, b4⟩
  have r4 := r3.below b4 r3.lt
  have B4 := bt (bt B3 b3) b4
  have n4 := range_below m3 l3 b4
  have e3 : w4.cell? ⟨g2, 3, none⟩ = some (.int .u16 5) := (n4 3 (.int .u16 (t.seq : Int)) rfl).trans (by rw [ht1]; rfl)
  have e2 : w4.cell? ⟨g2, 2, none⟩ = some (.int .u16 100) := (n4 2 (.int .u16 (t.intv : Int)) rfl).trans (by rw [ht2]; rfl)
  refine oK hK (by exact r4) fun hHeld => ?_
  clear hK K
  refine tA 3 ?_
  refine tA 4 ?_
  refine tA 5 ?_
  refine tA 6 ?_
  refine tA 7 ?_
  refine dN ?_
  refine NoPanic.normal ?_
  clear r4 n4 r3 m3 l3 b3 b4 s3 rE mE lE B3 hHeld
  go_wp2_with (first
    | (go_at_call 9; refine (num6 _ _).mono ?_; rintro e wn ⟨rfl, rfl⟩))
  refine name_world (R := fun W => Code.wp _ _ _ _ W) (P := fun W => Below w4.heap.size w4 W ∧ Row W w4.heap.size 28 (pcells lwP)) _ ⟨ba _ _, Row.new _ _ _⟩ ?_
  rintro Y ⟨hY, hP⟩
  have eP : ∀ w, (Op.equalIn (9997 + 3) 28 (Value.agg (pcells lwP).toArray) (Value.agg (pcells lwP).toArray)).run Try.prog w = .ok true w := fun w => by rw [eqP 9997 lwP lwP w]; simp
  have eI : ∀ w, (Op.equalIn (9998 + 2) 24 (.agg (icells lwI).toArray) (.agg (icells lwI).toArray)).run Try.prog w = .ok true w := fun w => by rw [eqI 9998 lwI lwI w]; simp
  have rP := hP.below (bd Y) hP.lt
  have yY := bt hY (bd Y)
  have mY := range_below m4 l4 yY
  have sY := Src.below s4 yY (Src.lt s4)
  have BY := bt B4 yY
  have lY := Nat.lt_of_lt_of_le l4 yY.size
  clear hHeld e3 e2 m4 s4 hP
  refine wp_region_noPanic ?_
  refine wp_region_held_drew (S := fun W => LP W w4.heap.size 0 lwP ∧ W.rangeAt g4 68 (tcells u)) (by kernel_rfl) (⟨rP.range, mY⟩) (fun hHeld => ?_)
  refine tA 0 ?_
  refine tA 1 ?_
  refine tA 2 ?_
  refine tA 3 ?_
  refine tL 4 rfl (yP lwP (fun W hW => (lw_at hW.2 hu).1) (by rfl) rfl rfl) ?_
  refine tL 5 rfl (yP lwP (fun W hW => hW.1) (by rfl) rfl rfl) ?_
  refine tA 6 ?_
  refine tA 7 ?_
  refine tA 8 ?_
  refine tA 9 ?_
  refine tA 10 ?_
  refine tA 11 ?_ (hv := by intro w hSw; (try dsimp only at hSw); have hm := (lw_at hSw.2 hu).2.2.1; go_simp <;> with_reducible rfl)
  refine tA 12 ?_
  refine tA 13 ?_
  refine tA 14 ?_
  refine tA 15 ?_
  refine tA 16 ?_
  refine tA 17 ?_
  refine tL 18 rfl (yI lwI (fun W hW => (lw_at hW.2 hu).2.1) (by rfl) rfl rfl) ?_
  refine tL 19 rfl (yB [(0, .const (.int .u8 97)), (1, .const (.int .u8 98)), (2, .const (.int .u8 99)), (3, .const (.int .u8 100)), (4, .const (.int .u8 101)), (5, .const (.int .u8 102)), (6, .const (.int .u8 103)), (7, .const (.int .u8 104))] (by rfl) rfl lwBd) ?_
  refine tA 20 ?_
  refine tA 21 ?_
  refine tA 22 ?_
  refine tA 23 ?_
  refine tA 24 ?_
  refine tA 25 ?_
  refine tA 26 ?_
  refine tA 27 ?_ (hv := by intro w hSw; (try dsimp only at hSw); have hm := (lw_at hSw.2 hu).2.2.2; go_simp <;> with_reducible rfl)
  refine tA 28 ?_
  refine tA 29 ?_
  refine tA 30 ?_
  refine tA 31 ?_
  refine tA 32 ?_
  refine tL 33 rfl (yTm u (fun W hW => hW.2) (by rfl) rfl rfl) ?_
  refine r1 34 fun K hK => ?_
  go_simp
  refine (live_check u hu _ sY).mono ?_
  rintro e w5 ⟨rfl, b5⟩
  refine oK hK (by exact ⟨(rP.below b5 rP.lt).range, range_below mY lY b5⟩) fun hHeld => ?_
  clear hK K
  refine r1 35 fun K hK => ?_
  go_simp
  refine (num6 _ _).mono ?_
  rintro e wn ⟨rfl, rfl⟩
  refine oK hK (by exact ⟨(rP.below b5 rP.lt).range, range_below mY lY b5⟩) fun hHeld => ?_
  clear hK K
  refine tA 36 ?_
  refine tA 37 ?_
  refine tA 38 ?_
  refine dN ?_
  refine NoPanic.normal ?_
  go_wp2
  go_ret
  exact ⟨rfl, bt BY b5⟩
end Go.Proofs.Ytognnfknbkedgaa

namespace Go.Proofs.Ytognnfknbkedgaa
open Go.RowKit
set_option linter.unusedSimpArgs false
set_option maxRecDepth 20000

theorem nums_len : ∀ (n : Nat) (l : List UInt8) (r : RS), (nums n l r).length = n
  | 0, _, _ => rfl
  | n + 1, l, r => by simp [nums, nums_len n]
theorem stF_len (n : Nat) : ∀ ks, (stF n ks).length ≤ n
  | [] => by simp [stF]
  | k :: ks => by
    unfold stF
    split
    · exact stF_len n ks
    · rw [nums_len]; exact Nat.le_refl _
theorem sayK_st (s : St) (t : Nat) (l : List UInt8) : (sayK s t l).st.length ≤ 100000 := by
  have hz : ([] : List UInt32).length ≤ 100000 := by simp
  have h1 := stF_len 1
  have h2 := stF_len 2
  unfold sayK
  split
  · exact hz
  split
  · exact hz
  split
  · exact Nat.le_trans (h1 _) (by omega)
  split
  · exact Nat.le_trans (h2 _) (by omega)
  split
  · unfold upK; split
    · exact hz
    split
    · exact hz
    · exact hz
  split
  · unfold rrK; split
    · exact hz
    · exact hz
  split <;> exact hz
theorem tellL_st : ∀ (ks : List (UInt8 × List UInt8)) (s : St) (k : TK), k ∈ tellL s ks → k.st.length ≤ 100000
  | [], s, k, h => by simp [tellL] at h
  | x :: ks, s, k, h => by
    unfold tellL at h
    rw [List.mem_append] at h
    rcases h with h | h
    · split at h
      · simp at h; subst h; exact sayK_st _ _ _
      · simp at h
    · exact tellL_st ks _ k h
/-- What Parse answers of a body. -/
structure ToldP (w : World) (a : Option Addr) (n c : Nat) (ts : List Tl) (src : Ad) (b : List UInt8) : Prop where
  key : ts.map Tl.key = tellL (bgS src) (splL b).1
  tlw : TlW w a n ts
  shape : (a = none ∧ n = 0 ∧ c = 0) ∨ ∃ g, a = some ⟨g, 0, none⟩ ∧ n ≤ c ∧ c ≤ maxLen
  le : n ≤ 100000
  st : ∀ t ∈ ts, t.st.length ≤ 100000
theorem ToldP.below {w w' : World} {a : Option Addr} {n c : Nat} {ts : List Tl} {src : Ad} {b : List UInt8} (h : ToldP w a n c ts src b) (hb : Below w.heap.size w w') : ToldP w' a n c ts src b := ⟨h.key, h.tlw.below hb, h.shape, h.le, h.st⟩
end Go.Proofs.Ytognnfknbkedgaa

namespace Go.Proofs.Ytognnfknbkedgaa
open Go.RowKit
set_option linter.unusedSimpArgs false
set_option maxRecDepth 20000

theorem chk_of {k : TK} (h1 : namB k.ty = true) (h2 : unK k = { zeroK with ty := k.ty }) (h3 : fitB k = true) (h4 : chkQ k.pr = 0) : chkT k = 0 := by
  unfold chkT
  rw [h1, (sameB_iff _ _).2 h2, h3, if_pos (by rfl), h4]
theorem stF_02 (n : Nat) : ∀ ks, (stF n ks).length = 0 ∨ (stF n ks).length = n
  | [] => .inl (by simp [stF])
  | k :: ks => by
    unfold stF
    split
    · exact stF_02 n ks
    · rw [nums_len]; exact .inr rfl
theorem wiB_y0 {ts l : List UInt8} {r : RS} (h : wiB ts l r = true) : r.y = 0 := by
  unfold wiB at h
  split at h
  · assumption
  · cases h
theorem nsB_y {l : List UInt8} {r : RS} (h : nsB l r = true) : r.y = 0 := by
  unfold nsB at h
  rw [Bool.and_eq_true] at h
  exact wiB_y0 h.1
theorem prB_y {s : St} {ae : Nat} {dst : Pf} {l : List UInt8} {r : RS} (h : prB s ae dst l r = true) : r.y = 0 ∧ chkQ (prQ s ae dst l r) = 0 := by
  unfold prB at h
  unfold prQ
  split at h
  · rename_i hc
    rw [if_pos hc]
    rw [Bool.and_eq_true] at hc h
    exact ⟨wiB_y0 hc.1, by simpa using h.2⟩
  · cases h
theorem bad_no {r : RS} (h : r.bad.y = 0) : False := by
  unfold RS.bad at h
  simp only at h
  split at h
  · cases h
  · rename_i h2; exact h2 h
theorem pfR_y {s : St} {ae plen om : Nat} {l : List UInt8} {r : RS} (h : (pfR s ae plen om l r).y = 0) : r.y = 0 := by
  unfold pfR at h
  split at h
  · exact (bad_no h).elim
  · unfold RS.adv at h
    simp only at h
    by_cases hy : r.y = 0
    · exact hy
    · unfold tkE at h
      simp_all
theorem zeroQ_ok : chkQ zeroQ = 0 := by decide
theorem chk_up (iv sq me : Nat) (al : Bool) (pr : Pr) (id : Id8) (ad : Ad) (hq : chkQ pr = 0) (hf : fitU { zeroK with ty := 8, intv := iv, seq := sq, met := me, all := al, pr := pr, id := id, ad := ad } = true) : chkT { zeroK with ty := 8, intv := iv, seq := sq, met := me, all := al, pr := pr, id := id, ad := ad } = 0 := chk_of rfl rfl hf hq
theorem fit_all (iv sq : Nat) : fitU { zeroK with ty := 8, intv := iv, seq := sq, met := 65535, all := true, pr := zeroQ, id := zeroI, ad := zeroA } = true := by
  unfold fitU
  rw [if_neg (by rintro ⟨_, h | h⟩; exact h rfl; exact absurd h (show ¬ prqB zeroQ zeroQ = false by decide)), if_pos rfl]
  show (decide (zeroI.l = zeroI.l) && decide (zeroA.l = zeroA.l)) = true
  decide
theorem fit_inf (iv sq : Nat) (pr : Pr) : fitU { zeroK with ty := 8, intv := iv, seq := sq, met := 65535, all := false, pr := pr, id := zeroI, ad := zeroA } = true := by
  unfold fitU
  rw [if_neg (by rintro ⟨h, _⟩; cases h), if_pos rfl]
  show (decide (zeroI.l = zeroI.l) && decide (zeroA.l = zeroA.l)) = true
  decide
theorem fit_fin (iv sq me : Nat) (pr : Pr) (id : Id8) (ad : Ad) (hm : ¬ me = 65535) (hi : nobB id = false) : fitU { zeroK with ty := 8, intv := iv, seq := sq, met := me, all := false, pr := pr, id := id, ad := ad } = true := by
  unfold fitU
  rw [if_neg (by rintro ⟨h, _⟩; cases h), if_neg hm, hi]
  rfl
theorem chk_say (s : St) (t : Nat) (l : List UInt8) (h : sayB s t l = true) : chkT (sayK s t l) = 0 := by
  unfold sayB at h
  unfold sayK
  by_cases h2 : t = 2
  · rw [if_pos h2]; exact chk_of rfl rfl rfl zeroQ_ok
  rw [if_neg h2] at h ⊢
  by_cases h3 : t = 3
  · rw [if_pos h3]; exact chk_of rfl rfl rfl zeroQ_ok
  rw [if_neg h3] at h ⊢
  by_cases h4 : t = 4
  · rw [if_pos h4]
    refine chk_of rfl rfl ?_ zeroQ_ok
    show decide ((stF 1 _).length ≤ 1) = true
    exact decide_eq_true (stF_len 1 _)
  rw [if_neg h4] at h ⊢
  by_cases h5 : t = 5
  · rw [if_pos h5]
    refine chk_of rfl rfl ?_ zeroQ_ok
    show (decide ((stF 2 _).length = 0 ∨ (stF 2 _).length = 2) && (!decide (r0.val l 1 = 0) || decide ((adA (r0.val l 1) l _).l = zeroA.l))) = true
    rw [decide_eq_true (stF_02 2 _)]
    by_cases hv : r0.val l 1 = 0
    · rw [hv]
      have : ∀ r, (adA 0 l r).l = zeroA.l := fun r => by
        have e : tkB l (adR 0 r).p (adR 0 r).y 0 = [] := by unfold tkB; split <;> simp
        show (spA (frA 0) 16 (tkB l (adR 0 r).p (adR 0 r).y 0)).l = _
        rw [e, spA_none]
        rfl
      rw [this]
      simp
    · simp [hv]
  rw [if_neg h5] at h ⊢
  by_cases h8 : t = 8
  · rw [if_pos h8] at h ⊢
    unfold upB at h
    unfold upK
    by_cases hv : r0.val l 1 = 0
    · rw [if_pos hv] at h ⊢
      have hm : ((((((((r0.adv l 1).adv l 1).adv l 1).adv l 1).adv l 2).adv l 2).val l 2)) = 65535 := by
        have hy := nsB_y h
        unfold uaR at hy
        split at hy
        · exact (bad_no hy).elim
        · rename_i hc
          simp only [Bool.or_eq_true, decide_eq_true_eq, not_or, ne_eq, Decidable.not_not] at hc
          exact hc.2.2
      rw [hm]
      exact chk_up _ _ 65535 true zeroQ zeroI zeroA zeroQ_ok (fit_all _ _)
    · rw [if_neg hv] at h ⊢
      rw [Bool.and_eq_true] at h
      obtain ⟨hp, ho⟩ := h
      have hq := (prB_y hp).2
      split
      · rename_i hm
        rw [hm]
        exact chk_up _ _ 65535 false _ zeroI zeroA hq (fit_inf _ _ _)
      · rename_i hm
        rw [decide_eq_false hm, Bool.false_or] at ho
        refine chk_up _ _ _ false _ _ _ hq (fit_fin _ _ _ _ _ _ hm ?_)
        unfold upOk at ho
        split at ho
        · rename_i e1 e2
          rw [e2]
          simpa using ho
        · cases ho
  rw [if_neg h8] at h ⊢
  by_cases h9 : t = 9
  · rw [if_pos h9] at h ⊢
    unfold rrB at h
    unfold rrK
    by_cases hv : r0.val l 1 = 0
    · rw [if_pos hv]
      exact chk_of rfl rfl (by decide) zeroQ_ok
    · rw [if_neg hv] at h ⊢
      exact chk_of rfl rfl rfl (prB_y h).2
  rw [if_neg h9] at h ⊢
  by_cases h10 : t = 10
  · rw [if_pos h10] at h ⊢
    unfold sqB at h
    have hy := pfR_y (prB_y h).1
    unfold sqR at hy
    split at hy
    · exact (bad_no hy).elim
    · rename_i hc
      simp only [Bool.or_eq_true, decide_eq_true_eq, not_or] at hc
      refine chk_of rfl rfl ?_ (prB_y h).2
      show (!decide (_ = 0) && !decide (_ = zeroI.l)) = true
      rw [Bool.and_eq_true]
      exact ⟨congrArg not (decide_eq_false hc.1), congrArg not (decide_eq_false hc.2)⟩
  · rw [if_neg h10] at h; cases h
theorem tellL_chk : ∀ (ks : List (UInt8 × List UInt8)) (s : St) (k : TK), k ∈ tellL s ks → chkT k = 0
  | [], s, k, h => by simp [tellL] at h
  | x :: ks, s, k, h => by
    unfold tellL at h
    rw [List.mem_append] at h
    rcases h with h | h
    · split at h
      · rename_i hb
        simp at h; subst h; exact chk_say _ _ _ hb
      · simp at h
    · exact tellL_chk ks _ k h
end Go.Proofs.Ytognnfknbkedgaa

namespace Go.Proofs.Ytognnfknbkedgaa
open Go.RowKit
set_option linter.unusedSimpArgs false
set_option maxRecDepth 20000

theorem take_more {st sv : List UInt32} {j : Nat} (h : st.take j = sv.take j) (h1 : j < st.length) (h2 : j < sv.length) (e : st[j].toNat = sv[j].toNat) : st.take (j + 1) = sv.take (j + 1) := by
  rw [List.take_succ_eq_append_getElem h1, List.take_succ_eq_append_getElem h2, h, UInt32.toNat_inj.1 e]
/-- slices.Equal of any numbers. -/
theorem equal_any (a b : Option Addr) (n m c d : Nat) (st sv : List UInt32) (w : World) (h1 : Src w a n c (wcells st)) (h2 : Src w b m d (wcells sv)) (hn : n ≤ 100000) :
    Calls Try.prog 29 #[.slice a n c, .slice b m d] w fun e w' => e = .returned (.bool (decide (st = sv))) ∧ Below w.heap.size w w' := by
  have hs1 : Hid (n = st.length) := h1.wlen
  have hs2 : Hid (m = sv.length) := h2.wlen
  by_cases hnm : n = m
  · subst hnm
    go_enter Try.func29, Try.ntmps29
    go_wp2
    go_loopw [13] (fun i wr => ∃ j : Nat, j ≤ n ∧ i = .int .i64 j ∧ Hid (st.take j = sv.take j) ∧ Below w.heap.size w wr) (fun i _ => n - (intOf i).toNat)
    case atStart => exact ⟨0, Nat.zero_le _, rfl, (rfl : _ = _), Below.refl _ _⟩
    case round =>
      obtain ⟨j, hj, rfl, htk, hbl⟩ := hrel
      by_cases hlt : j < n
      · have hjk : j < st.length := by have := hs1.out; omega
        have hjl : j < sv.length := by have := hs2.out; omega
        cases a with
        | none => exact absurd (h1.bare rfl).1 (by omega)
        | some p =>
          cases b with
          | none => exact absurd (h2.bare rfl).1 (by omega)
          | some q =>
            have d1 := (h1.below hbl h1.lt).wordAt j hjk
            have d2 := (h2.below hbl h2.lt).wordAt j hjl
            have HM : Hid (st[j].toNat = sv[j].toNat → st.take (j + 1) = sv.take (j + 1)) := fun e => take_more htk.out hjk hjl e
            have HX : Hid (st[j].toNat ≠ sv[j].toNat → st ≠ sv) := fun e h => e (by subst h; rfl)
            generalize st[j].toNat = x at *
            generalize sv[j].toNat = y at *
            by_cases hxy : x = y
            · subst hxy
              go_wp2
              go_quiet (fail)
              go_wp2
              go_roundw
              case rel => exact ⟨j + 1, by omega, by go_num, HM.out (by first | rfl | trivial), below_drewN hbl _⟩
              case measure => simp [intOf]; omega
            · have hne : ((x : Int) == (y : Int)) = false := by simp; omega
              have hne' : ((x : Int) != (y : Int)) = true := by simp; omega
              go_wp2
              go_quiet (fail)
              go_wp2
              go_ret
              exact ⟨by rw [decide_eq_false (HX.out hxy)]; rfl, below_drewN hbl _⟩
      · go_wp2
        go_ret
        have e1 := hs1.out
        have e2 := hs2.out
        have e3 : st = sv := by
          have := htk.out
          rwa [List.take_of_length_le (by omega), List.take_of_length_le (by omega)] at this
        exact ⟨by rw [decide_eq_true e3]; rfl, hbl⟩
  · have hne : ((n : Int) == (m : Int)) = false := by simp; omega
    have HX : Hid (st ≠ sv) := fun h => hnm (by rw [hs1.out, hs2.out, h])
    clear hnm
    go_enter Try.func29, Try.ntmps29
    go_wp2
    go_ret
    exact ⟨by rw [decide_eq_false HX.out]; rfl, Below.refl _ _⟩
theorem snum_any (t u : Tl) (w : World) :
    Calls Try.prog 28 #[.agg (tcells t).toArray, .agg (tcells u).toArray] w fun e w' => e = .returned (.bool (sameN t.key u.key)) ∧ Below w.heap.size w w' := by
  have HE : sameN t.key u.key = (((t.ty : Int) == (u.ty : Int)) && (((t.nonce : Int) == (u.nonce : Int)) && (((t.intv : Int) == (u.intv : Int)) && (((t.seq : Int) == (u.seq : Int)) && (((t.rx : Int) == (u.rx : Int)) && (((t.met : Int) == (u.met : Int)) && (((t.hops : Int) == (u.hops : Int))))))))) := rfl
  have T0 : (tcells t)[0]? = some (.int .u8 (t.ty : Int)) := rfl
  have U0 : (tcells u)[0]? = some (.int .u8 (u.ty : Int)) := rfl
  have T1 : (tcells t)[1]? = some (.int .u16 (t.nonce : Int)) := rfl
  have U1 : (tcells u)[1]? = some (.int .u16 (u.nonce : Int)) := rfl
  have T2 : (tcells t)[2]? = some (.int .u16 (t.intv : Int)) := rfl
  have U2 : (tcells u)[2]? = some (.int .u16 (u.intv : Int)) := rfl
  have T3 : (tcells t)[3]? = some (.int .u16 (t.seq : Int)) := rfl
  have U3 : (tcells u)[3]? = some (.int .u16 (u.seq : Int)) := rfl
  have T4 : (tcells t)[4]? = some (.int .u16 (t.rx : Int)) := rfl
  have U4 : (tcells u)[4]? = some (.int .u16 (u.rx : Int)) := rfl
  have T5 : (tcells t)[5]? = some (.int .u16 (t.met : Int)) := rfl
  have U5 : (tcells u)[5]? = some (.int .u16 (u.met : Int)) := rfl
  have T6 : (tcells t)[6]? = some (.int .u8 (t.hops : Int)) := rfl
  have U6 : (tcells u)[6]? = some (.int .u8 (u.hops : Int)) := rfl
  rw [HE]
  clear HE
  generalize (t.ty : Int) = x0 at *
  generalize (u.ty : Int) = y0 at *
  obtain ⟨b0, h0⟩ : ∃ b, (x0 == y0) = b := ⟨_, rfl⟩
  rw [h0]
  generalize (t.nonce : Int) = x1 at *
  generalize (u.nonce : Int) = y1 at *
  obtain ⟨b1, h1⟩ : ∃ b, (x1 == y1) = b := ⟨_, rfl⟩
  rw [h1]
  generalize (t.intv : Int) = x2 at *
  generalize (u.intv : Int) = y2 at *
  obtain ⟨b2, h2⟩ : ∃ b, (x2 == y2) = b := ⟨_, rfl⟩
  rw [h2]
  generalize (t.seq : Int) = x3 at *
  generalize (u.seq : Int) = y3 at *
  obtain ⟨b3, h3⟩ : ∃ b, (x3 == y3) = b := ⟨_, rfl⟩
  rw [h3]
  generalize (t.rx : Int) = x4 at *
  generalize (u.rx : Int) = y4 at *
  obtain ⟨b4, h4⟩ : ∃ b, (x4 == y4) = b := ⟨_, rfl⟩
  rw [h4]
  generalize (t.met : Int) = x5 at *
  generalize (u.met : Int) = y5 at *
  obtain ⟨b5, h5⟩ : ∃ b, (x5 == y5) = b := ⟨_, rfl⟩
  rw [h5]
  generalize (t.hops : Int) = x6 at *
  generalize (u.hops : Int) = y6 at *
  obtain ⟨b6, h6⟩ : ∃ b, (x6 == y6) = b := ⟨_, rfl⟩
  rw [h6]
  cases b0
  · go_enter Try.func28, Try.ntmps28
    go_wp2
    go_ret
    exact ⟨rfl, bt (ba _ _) (ba _ _)⟩
  · skip
    cases b1
    · go_enter Try.func28, Try.ntmps28
      go_wp2
      go_ret
      exact ⟨rfl, bt (ba _ _) (ba _ _)⟩
    · skip
      cases b2
      · go_enter Try.func28, Try.ntmps28
        go_wp2
        go_ret
        exact ⟨rfl, bt (ba _ _) (ba _ _)⟩
      · skip
        cases b3
        · go_enter Try.func28, Try.ntmps28
          go_wp2
          go_ret
          exact ⟨rfl, bt (ba _ _) (ba _ _)⟩
        · skip
          cases b4
          · go_enter Try.func28, Try.ntmps28
            go_wp2
            go_ret
            exact ⟨rfl, bt (ba _ _) (ba _ _)⟩
          · skip
            cases b5
            · go_enter Try.func28, Try.ntmps28
              go_wp2
              go_ret
              exact ⟨rfl, bt (ba _ _) (ba _ _)⟩
            · skip
              go_enter Try.func28, Try.ntmps28
              go_wp2
              go_ret
              exact ⟨rfl, bt (ba _ _) (ba _ _)⟩
end Go.Proofs.Ytognnfknbkedgaa

namespace Go.Proofs.Ytognnfknbkedgaa
open Go.RowKit
set_option linter.unusedSimpArgs false
set_option maxRecDepth 20000

set_option maxHeartbeats 4000000 in
theorem psame_any (t u : Tl) (w : World) (ht : TSrc w t) (hu : TSrc w u) (hn : t.sn ≤ 100000) :
    Calls Try.prog 12 #[.agg (tcells t).toArray, .agg (tcells u).toArray] w fun e w' => e = .returned (.bool (sameB t.key u.key)) ∧ Below w.heap.size w w' := by
  have HE : sameB t.key u.key = (sameN t.key u.key && ((t.uni == u.uni) && ((t.all == u.all) && (decide (t.id.l = u.id.l) && (decide (t.ad.l = u.ad.l) && (prqB t.pr u.pr && decide (t.st = u.st))))))) := rfl
  rw [HE]
  clear HE
  have HSN0 := snum_any t u
  obtain ⟨bN, hbN⟩ : ∃ b, sameN t.key u.key = b := ⟨_, rfl⟩
  rw [hbN] at HSN0
  rw [hbN]
  have HSN : Hid (∀ W, Calls Try.prog 28 #[.agg (tcells t).toArray, .agg (tcells u).toArray] W fun e w' => e = .returned (.bool bN) ∧ Below W.heap.size W w') := HSN0
  clear HSN0 hbN
  obtain ⟨bS, hbS⟩ : ∃ b, decide (t.st = u.st) = b := ⟨_, rfl⟩
  have HEQ0 : ∀ W, Below w.heap.size w W → Calls Try.prog 29 #[.slice t.sa t.sn t.sc, .slice u.sa u.sn u.sc] W fun e w' => e = .returned (.bool bS) ∧ Below W.heap.size W w' := fun W hW => by
    rw [← hbS]
    exact equal_any t.sa u.sa t.sn u.sn t.sc u.sc t.st u.st W (Src.below ht hW (Src.lt ht)) (Src.below hu hW (Src.lt hu)) hn
  rw [hbS]
  have eI := fun w => eqI 9998 t.id u.id w
  have eA := fun w => eqA 9998 t.ad u.ad w
  have eQ : ∀ w, (Op.equalIn (9996 + 4) 30 (Value.agg (qcells t.pr).toArray) (Value.agg (qcells u.pr).toArray)).run Try.prog w = .ok (prqB t.pr u.pr) w := fun w => eqQ 9996 t.pr u.pr w
  generalize decide (t.id.l = u.id.l) = bI at *
  generalize decide (t.ad.l = u.ad.l) = bA at *
  generalize prqB t.pr u.pr = bQ at *
  have HU67 : Hid (∀ (W : World) (g : Nat), Row W g 33 (tcells t) → W.cell? ⟨g, 67, none⟩ = some (.slice t.sa t.sn t.sc)) := fun W g r => r.rSt
  have HV67 : Hid (∀ (W : World) (g : Nat), Row W g 33 (tcells u) → W.cell? ⟨g, 67, none⟩ = some (.slice u.sa u.sn u.sc)) := fun W g r => r.rSt
  have HU7 : Hid (∀ (W : World) (g : Nat), Row W g 33 (tcells t) → W.cell? ⟨g, 7, none⟩ = some (.bool t.uni)) := fun W g r => r.cell 7
  have HV7 : Hid (∀ (W : World) (g : Nat), Row W g 33 (tcells u) → W.cell? ⟨g, 7, none⟩ = some (.bool u.uni)) := fun W g r => r.cell 7
  have HU8 : Hid (∀ (W : World) (g : Nat), Row W g 33 (tcells t) → W.cell? ⟨g, 8, none⟩ = some (.bool t.all)) := fun W g r => r.cell 8
  have HV8 : Hid (∀ (W : World) (g : Nat), Row W g 33 (tcells u) → W.cell? ⟨g, 8, none⟩ = some (.bool u.all)) := fun W g r => r.cell 8
  clear ht hu hbS hn
  generalize t.sa = sa at *
  generalize t.sn = sn at *
  generalize t.sc = sc at *
  generalize u.sa = sb at *
  generalize u.sn = sm at *
  generalize u.sc = sd at *
  generalize t.uni = un at *
  generalize u.uni = vn at *
  generalize t.all = al at *
  generalize u.all = bl at *
  have HEQ : Hid (∀ W, Below w.heap.size w W → Calls Try.prog 29 #[.slice sa sn sc, .slice sb sm sd] W fun e w' => e = .returned (.bool bS) ∧ Below W.heap.size W w') := HEQ0
  clear HEQ0
  have RT := (Row.new w 33 (tcells t)).alloc (.cells (tcells u).toArray 33)
  have RU := two_newR w (.cells (tcells t).toArray 33) 33 (tcells u)
  have BX := bt (ba w (.cells (tcells t).toArray 33)) (ba _ (.cells (tcells u).toArray 33))
  obtain ⟨b0, h0⟩ : ∃ b, (un == vn) = b := ⟨_, rfl⟩
  obtain ⟨b1, h1⟩ : ∃ b, (al == bl) = b := ⟨_, rfl⟩
  rw [h0, h1]
  cases bN
  · go_enter Try.func12, Try.ntmps12
    go_wp2_with (first
        | (go_at_call 29; have kk := hb1; refine (HEQ.out _ bW).mono ?_; rintro e w2 ⟨rfl, hb2⟩)
        | (have kk := hb1; refine ldQ (.tmp 39) (by rfl) rfl _ _ u.pr rfl p2 ?_)
        | (have kk := hb1; refine ldQ (.tmp 37) (by rfl) rfl _ _ t.pr rfl p1 ?_)
        | (have kk := hb1; refine ldA (.tmp 32) (by rfl) rfl _ _ u.ad rfl a2 ?_)
        | (have kk := hb1; refine ldA (.tmp 30) (by rfl) rfl _ _ t.ad rfl a1 ?_)
        | (have kk := hb1; refine ldI (.tmp 25) (by rfl) rfl _ _ u.id rfl i2 ?_)
        | (have kk := hb1; refine ldI (.tmp 23) (by rfl) rfl _ _ t.id rfl i1 ?_)
        | (go_at_call 28; refine (HSN.out _).mono ?_; rintro e wr ⟨rfl, hb1⟩; have rT := RT.below hb1 RT.lt; have rU := RU.below hb1 RU.lt; have bW := bt BX hb1; have i1 := rT.rId2; have i2 := rU.rId2; have a1 := rT.rAd; have a2 := rU.rAd; have p1 := rT.rPr; have p2 := rU.rPr; have m7 : wr.cell? ⟨w.heap.size, 7, none⟩ = some (.bool un) := HU7.out _ _ rT; have n7 : wr.cell? ⟨w.heap.size + 1, 7, none⟩ = some (.bool vn) := HV7.out _ _ rU; have m8 : wr.cell? ⟨w.heap.size, 8, none⟩ = some (.bool al) := HU8.out _ _ rT; have n8 : wr.cell? ⟨w.heap.size + 1, 8, none⟩ = some (.bool bl) := HV8.out _ _ rU; have k67 : wr.cell? ⟨w.heap.size, 67, none⟩ = some (.slice sa sn sc) := HU67.out _ _ rT; have l67 : wr.cell? ⟨w.heap.size + 1, 67, none⟩ = some (.slice sb sm sd) := HV67.out _ _ rU; clear rT rU)
        | (refine ldT (.tmp 3) (by rfl) rfl (w.heap.size + 1) u rfl RU ?_)
        | (refine ldT (.tmp 2) (by rfl) rfl w.heap.size t rfl RT ?_))
    go_ret
    exact ⟨rfl, bW⟩
  · skip
    cases b0
    · go_enter Try.func12, Try.ntmps12
      go_wp2_with (first
          | (go_at_call 29; have kk := hb1; refine (HEQ.out _ bW).mono ?_; rintro e w2 ⟨rfl, hb2⟩)
          | (have kk := hb1; refine ldQ (.tmp 39) (by rfl) rfl _ _ u.pr rfl p2 ?_)
          | (have kk := hb1; refine ldQ (.tmp 37) (by rfl) rfl _ _ t.pr rfl p1 ?_)
          | (have kk := hb1; refine ldA (.tmp 32) (by rfl) rfl _ _ u.ad rfl a2 ?_)
          | (have kk := hb1; refine ldA (.tmp 30) (by rfl) rfl _ _ t.ad rfl a1 ?_)
          | (have kk := hb1; refine ldI (.tmp 25) (by rfl) rfl _ _ u.id rfl i2 ?_)
          | (have kk := hb1; refine ldI (.tmp 23) (by rfl) rfl _ _ t.id rfl i1 ?_)
          | (go_at_call 28; refine (HSN.out _).mono ?_; rintro e wr ⟨rfl, hb1⟩; have rT := RT.below hb1 RT.lt; have rU := RU.below hb1 RU.lt; have bW := bt BX hb1; have i1 := rT.rId2; have i2 := rU.rId2; have a1 := rT.rAd; have a2 := rU.rAd; have p1 := rT.rPr; have p2 := rU.rPr; have m7 : wr.cell? ⟨w.heap.size, 7, none⟩ = some (.bool un) := HU7.out _ _ rT; have n7 : wr.cell? ⟨w.heap.size + 1, 7, none⟩ = some (.bool vn) := HV7.out _ _ rU; have m8 : wr.cell? ⟨w.heap.size, 8, none⟩ = some (.bool al) := HU8.out _ _ rT; have n8 : wr.cell? ⟨w.heap.size + 1, 8, none⟩ = some (.bool bl) := HV8.out _ _ rU; have k67 : wr.cell? ⟨w.heap.size, 67, none⟩ = some (.slice sa sn sc) := HU67.out _ _ rT; have l67 : wr.cell? ⟨w.heap.size + 1, 67, none⟩ = some (.slice sb sm sd) := HV67.out _ _ rU; clear rT rU)
          | (refine ldT (.tmp 3) (by rfl) rfl (w.heap.size + 1) u rfl RU ?_)
          | (refine ldT (.tmp 2) (by rfl) rfl w.heap.size t rfl RT ?_))
      go_ret
      exact ⟨rfl, bW⟩
    · skip
      cases b1
      · go_enter Try.func12, Try.ntmps12
        go_wp2_with (first
            | (go_at_call 29; have kk := hb1; refine (HEQ.out _ bW).mono ?_; rintro e w2 ⟨rfl, hb2⟩)
            | (have kk := hb1; refine ldQ (.tmp 39) (by rfl) rfl _ _ u.pr rfl p2 ?_)
            | (have kk := hb1; refine ldQ (.tmp 37) (by rfl) rfl _ _ t.pr rfl p1 ?_)
            | (have kk := hb1; refine ldA (.tmp 32) (by rfl) rfl _ _ u.ad rfl a2 ?_)
            | (have kk := hb1; refine ldA (.tmp 30) (by rfl) rfl _ _ t.ad rfl a1 ?_)
            | (have kk := hb1; refine ldI (.tmp 25) (by rfl) rfl _ _ u.id rfl i2 ?_)
            | (have kk := hb1; refine ldI (.tmp 23) (by rfl) rfl _ _ t.id rfl i1 ?_)
            | (go_at_call 28; refine (HSN.out _).mono ?_; rintro e wr ⟨rfl, hb1⟩; have rT := RT.below hb1 RT.lt; have rU := RU.below hb1 RU.lt; have bW := bt BX hb1; have i1 := rT.rId2; have i2 := rU.rId2; have a1 := rT.rAd; have a2 := rU.rAd; have p1 := rT.rPr; have p2 := rU.rPr; have m7 : wr.cell? ⟨w.heap.size, 7, none⟩ = some (.bool un) := HU7.out _ _ rT; have n7 : wr.cell? ⟨w.heap.size + 1, 7, none⟩ = some (.bool vn) := HV7.out _ _ rU; have m8 : wr.cell? ⟨w.heap.size, 8, none⟩ = some (.bool al) := HU8.out _ _ rT; have n8 : wr.cell? ⟨w.heap.size + 1, 8, none⟩ = some (.bool bl) := HV8.out _ _ rU; have k67 : wr.cell? ⟨w.heap.size, 67, none⟩ = some (.slice sa sn sc) := HU67.out _ _ rT; have l67 : wr.cell? ⟨w.heap.size + 1, 67, none⟩ = some (.slice sb sm sd) := HV67.out _ _ rU; clear rT rU)
            | (refine ldT (.tmp 3) (by rfl) rfl (w.heap.size + 1) u rfl RU ?_)
            | (refine ldT (.tmp 2) (by rfl) rfl w.heap.size t rfl RT ?_))
        go_ret
        exact ⟨rfl, bW⟩
      · skip
        cases bI
        · go_enter Try.func12, Try.ntmps12
          go_wp2_with (first
              | (go_at_call 29; have kk := hb1; refine (HEQ.out _ bW).mono ?_; rintro e w2 ⟨rfl, hb2⟩)
              | (have kk := hb1; refine ldQ (.tmp 39) (by rfl) rfl _ _ u.pr rfl p2 ?_)
              | (have kk := hb1; refine ldQ (.tmp 37) (by rfl) rfl _ _ t.pr rfl p1 ?_)
              | (have kk := hb1; refine ldA (.tmp 32) (by rfl) rfl _ _ u.ad rfl a2 ?_)
              | (have kk := hb1; refine ldA (.tmp 30) (by rfl) rfl _ _ t.ad rfl a1 ?_)
              | (have kk := hb1; refine ldI (.tmp 25) (by rfl) rfl _ _ u.id rfl i2 ?_)
              | (have kk := hb1; refine ldI (.tmp 23) (by rfl) rfl _ _ t.id rfl i1 ?_)
              | (go_at_call 28; refine (HSN.out _).mono ?_; rintro e wr ⟨rfl, hb1⟩; have rT := RT.below hb1 RT.lt; have rU := RU.below hb1 RU.lt; have bW := bt BX hb1; have i1 := rT.rId2; have i2 := rU.rId2; have a1 := rT.rAd; have a2 := rU.rAd; have p1 := rT.rPr; have p2 := rU.rPr; have m7 : wr.cell? ⟨w.heap.size, 7, none⟩ = some (.bool un) := HU7.out _ _ rT; have n7 : wr.cell? ⟨w.heap.size + 1, 7, none⟩ = some (.bool vn) := HV7.out _ _ rU; have m8 : wr.cell? ⟨w.heap.size, 8, none⟩ = some (.bool al) := HU8.out _ _ rT; have n8 : wr.cell? ⟨w.heap.size + 1, 8, none⟩ = some (.bool bl) := HV8.out _ _ rU; have k67 : wr.cell? ⟨w.heap.size, 67, none⟩ = some (.slice sa sn sc) := HU67.out _ _ rT; have l67 : wr.cell? ⟨w.heap.size + 1, 67, none⟩ = some (.slice sb sm sd) := HV67.out _ _ rU; clear rT rU)
              | (refine ldT (.tmp 3) (by rfl) rfl (w.heap.size + 1) u rfl RU ?_)
              | (refine ldT (.tmp 2) (by rfl) rfl w.heap.size t rfl RT ?_))
          go_ret
          exact ⟨rfl, bW⟩
        · skip
          cases bA
          · go_enter Try.func12, Try.ntmps12
            go_wp2_with (first
                | (go_at_call 29; have kk := hb1; refine (HEQ.out _ bW).mono ?_; rintro e w2 ⟨rfl, hb2⟩)
                | (have kk := hb1; refine ldQ (.tmp 39) (by rfl) rfl _ _ u.pr rfl p2 ?_)
                | (have kk := hb1; refine ldQ (.tmp 37) (by rfl) rfl _ _ t.pr rfl p1 ?_)
                | (have kk := hb1; refine ldA (.tmp 32) (by rfl) rfl _ _ u.ad rfl a2 ?_)
                | (have kk := hb1; refine ldA (.tmp 30) (by rfl) rfl _ _ t.ad rfl a1 ?_)
                | (have kk := hb1; refine ldI (.tmp 25) (by rfl) rfl _ _ u.id rfl i2 ?_)
                | (have kk := hb1; refine ldI (.tmp 23) (by rfl) rfl _ _ t.id rfl i1 ?_)
                | (go_at_call 28; refine (HSN.out _).mono ?_; rintro e wr ⟨rfl, hb1⟩; have rT := RT.below hb1 RT.lt; have rU := RU.below hb1 RU.lt; have bW := bt BX hb1; have i1 := rT.rId2; have i2 := rU.rId2; have a1 := rT.rAd; have a2 := rU.rAd; have p1 := rT.rPr; have p2 := rU.rPr; have m7 : wr.cell? ⟨w.heap.size, 7, none⟩ = some (.bool un) := HU7.out _ _ rT; have n7 : wr.cell? ⟨w.heap.size + 1, 7, none⟩ = some (.bool vn) := HV7.out _ _ rU; have m8 : wr.cell? ⟨w.heap.size, 8, none⟩ = some (.bool al) := HU8.out _ _ rT; have n8 : wr.cell? ⟨w.heap.size + 1, 8, none⟩ = some (.bool bl) := HV8.out _ _ rU; have k67 : wr.cell? ⟨w.heap.size, 67, none⟩ = some (.slice sa sn sc) := HU67.out _ _ rT; have l67 : wr.cell? ⟨w.heap.size + 1, 67, none⟩ = some (.slice sb sm sd) := HV67.out _ _ rU; clear rT rU)
                | (refine ldT (.tmp 3) (by rfl) rfl (w.heap.size + 1) u rfl RU ?_)
                | (refine ldT (.tmp 2) (by rfl) rfl w.heap.size t rfl RT ?_))
            go_ret
            exact ⟨rfl, bW⟩
          · skip
            cases bQ
            · go_enter Try.func12, Try.ntmps12
              go_wp2_with (first
                  | (go_at_call 29; have kk := hb1; refine (HEQ.out _ bW).mono ?_; rintro e w2 ⟨rfl, hb2⟩)
                  | (have kk := hb1; refine ldQ (.tmp 39) (by rfl) rfl _ _ u.pr rfl p2 ?_)
                  | (have kk := hb1; refine ldQ (.tmp 37) (by rfl) rfl _ _ t.pr rfl p1 ?_)
                  | (have kk := hb1; refine ldA (.tmp 32) (by rfl) rfl _ _ u.ad rfl a2 ?_)
                  | (have kk := hb1; refine ldA (.tmp 30) (by rfl) rfl _ _ t.ad rfl a1 ?_)
                  | (have kk := hb1; refine ldI (.tmp 25) (by rfl) rfl _ _ u.id rfl i2 ?_)
                  | (have kk := hb1; refine ldI (.tmp 23) (by rfl) rfl _ _ t.id rfl i1 ?_)
                  | (go_at_call 28; refine (HSN.out _).mono ?_; rintro e wr ⟨rfl, hb1⟩; have rT := RT.below hb1 RT.lt; have rU := RU.below hb1 RU.lt; have bW := bt BX hb1; have i1 := rT.rId2; have i2 := rU.rId2; have a1 := rT.rAd; have a2 := rU.rAd; have p1 := rT.rPr; have p2 := rU.rPr; have m7 : wr.cell? ⟨w.heap.size, 7, none⟩ = some (.bool un) := HU7.out _ _ rT; have n7 : wr.cell? ⟨w.heap.size + 1, 7, none⟩ = some (.bool vn) := HV7.out _ _ rU; have m8 : wr.cell? ⟨w.heap.size, 8, none⟩ = some (.bool al) := HU8.out _ _ rT; have n8 : wr.cell? ⟨w.heap.size + 1, 8, none⟩ = some (.bool bl) := HV8.out _ _ rU; have k67 : wr.cell? ⟨w.heap.size, 67, none⟩ = some (.slice sa sn sc) := HU67.out _ _ rT; have l67 : wr.cell? ⟨w.heap.size + 1, 67, none⟩ = some (.slice sb sm sd) := HV67.out _ _ rU; clear rT rU)
                  | (refine ldT (.tmp 3) (by rfl) rfl (w.heap.size + 1) u rfl RU ?_)
                  | (refine ldT (.tmp 2) (by rfl) rfl w.heap.size t rfl RT ?_))
              go_ret
              exact ⟨rfl, bW⟩
            · skip
              go_enter Try.func12, Try.ntmps12
              go_wp2_with (first
                  | (go_at_call 29; have kk := hb1; refine (HEQ.out _ bW).mono ?_; rintro e w2 ⟨rfl, hb2⟩)
                  | (have kk := hb1; refine ldQ (.tmp 39) (by rfl) rfl _ _ u.pr rfl p2 ?_)
                  | (have kk := hb1; refine ldQ (.tmp 37) (by rfl) rfl _ _ t.pr rfl p1 ?_)
                  | (have kk := hb1; refine ldA (.tmp 32) (by rfl) rfl _ _ u.ad rfl a2 ?_)
                  | (have kk := hb1; refine ldA (.tmp 30) (by rfl) rfl _ _ t.ad rfl a1 ?_)
                  | (have kk := hb1; refine ldI (.tmp 25) (by rfl) rfl _ _ u.id rfl i2 ?_)
                  | (have kk := hb1; refine ldI (.tmp 23) (by rfl) rfl _ _ t.id rfl i1 ?_)
                  | (go_at_call 28; refine (HSN.out _).mono ?_; rintro e wr ⟨rfl, hb1⟩; have rT := RT.below hb1 RT.lt; have rU := RU.below hb1 RU.lt; have bW := bt BX hb1; have i1 := rT.rId2; have i2 := rU.rId2; have a1 := rT.rAd; have a2 := rU.rAd; have p1 := rT.rPr; have p2 := rU.rPr; have m7 : wr.cell? ⟨w.heap.size, 7, none⟩ = some (.bool un) := HU7.out _ _ rT; have n7 : wr.cell? ⟨w.heap.size + 1, 7, none⟩ = some (.bool vn) := HV7.out _ _ rU; have m8 : wr.cell? ⟨w.heap.size, 8, none⟩ = some (.bool al) := HU8.out _ _ rT; have n8 : wr.cell? ⟨w.heap.size + 1, 8, none⟩ = some (.bool bl) := HV8.out _ _ rU; have k67 : wr.cell? ⟨w.heap.size, 67, none⟩ = some (.slice sa sn sc) := HU67.out _ _ rT; have l67 : wr.cell? ⟨w.heap.size + 1, 67, none⟩ = some (.slice sb sm sd) := HV67.out _ _ rU; clear rT rU)
                  | (refine ldT (.tmp 3) (by rfl) rfl (w.heap.size + 1) u rfl RU ?_)
                  | (refine ldT (.tmp 2) (by rfl) rfl w.heap.size t rfl RT ?_))
              go_ret
              exact ⟨rfl, bt bW hb2⟩
end Go.Proofs.Ytognnfknbkedgaa
