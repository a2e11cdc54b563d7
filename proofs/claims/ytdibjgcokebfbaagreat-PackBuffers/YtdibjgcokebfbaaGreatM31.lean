/-
  The document's Fits.
-/
import Derived.Test.YtdibjgcokebfbaaGreatM28
import Derived.Test.YtdibjgcokebfbaaGreatM30
namespace Go.Proofs.YtdibjgcokebfbaaGreat
open Go.RowKit
set_option linter.unusedSimpArgs false
set_option maxRecDepth 20000
theorem wit_types (o : TS) {k : TK} (h : namB k.ty = true) : ∀ p ∈ witP o k, p.1 ≠ 0 := by
  intro p hp
  unfold witP at hp
  rw [List.mem_append] at hp
  rcases hp with hp | hp
  · split at hp
    · rw [List.mem_append] at hp
      rcases hp with hp | hp
      · unfold rtrP at hp
        split at hp
        · cases hp
        · simp at hp; subst hp; exact (by decide : (6 : UInt8) ≠ 0)
      · unfold hopP at hp
        split at hp
        · cases hp
        · simp at hp; subst hp; exact (by decide : (7 : UInt8) ≠ 0)
    · cases hp
  · simp at hp
    subst hp
    show UInt8.ofNat k.ty ≠ 0
    rcases namB_cases h with e | e | e | e | e | e | e <;> (rw [e]; decide)
theorem enc_len : ∀ ps : List PK, (∀ p ∈ ps, p.1 ≠ 0) → (ps.flatMap encK).length = lenP ps
  | [], _ => rfl
  | p :: r, h => by
    have e : (encK p).length = 2 + p.2.length := by unfold encK; rw [if_neg (h p (by simp))]; simp; omega
    rw [List.flatMap_cons, List.length_append, e, enc_len r (fun q hq => h q (by simp [hq]))]
    simp [lenP]
theorem wit_len (o : TS) {k : TK} (h : namB k.ty = true) : ((witP o k).flatMap encK).length = lenP (witP o k) := enc_len _ (wit_types o h)
/-- What Fits answers. -/
def fitN (src : Ad) (mtu : Int) (k : TK) : Int := if ckP k ≠ 0 then ckP k else if takB (begD src mtu) k = true then 0 else 70
theorem tak_iff (src : Ad) (mtu : Int) {k : TK} (h : namB k.ty = true) : takB (begD src mtu) k = true ↔ ((([] ++ (witP (begO src) k).flatMap encK).length : Nat) : Int) + 4 ≤ mtu := by
  rw [List.nil_append, wit_len _ h]
  unfold takB begD
  rw [decide_eq_true_eq]
  dsimp only
  omega
set_option maxHeartbeats 16000000 in
theorem rfits_any (src : Ad) (mtu : Int) (t : Tl) (w : World) (ht : TSrc w t) (hn : t.sn ≤ 100000) (hf : TFit t.key) : Calls Tryz.prog 24 #[(Value.agg (acells src).toArray), .int .i64 mtu, .agg (tcells t).toArray] w (Gives w (.int .i64 (fitN src mtu t.key))) := by
  have RA0 := (Row.new w 23 (acells src)).alloc (.cells (tcells t).toArray 45)
  have RT0 := row_two w (.cells (acells src).toArray 23) 45 (tcells t)
  have BX0 := bt (ba w (.cells (acells src).toArray 23)) (ba _ (.cells (tcells t).toArray 45))
  have HC := fun W (hW : Below w.heap.size w W) => rcheckD_any t W (Src.below ht hW ht.lt) hn
  have HB := rbegin7_any src
  have T0 : (tcells t)[0]? = some (.int .u8 (t.ty : Int)) := rfl
  have T5 : (tcells t)[5]? = some (.int .u16 (t.met : Int)) := rfl
  have HK : Hid (∀ W W', (Row W w.heap.size 23 (acells src) ∧ Row W (w.heap.size + 1) 45 (tcells t) ∧ Below w.heap.size w W) → Below W.heap.size W W' → (Row W' w.heap.size 23 (acells src) ∧ Row W' (w.heap.size + 1) 45 (tcells t) ∧ Below w.heap.size w W')) := fun W W' h b => ⟨h.1.below b h.1.lt, h.2.1.below b h.2.1.lt, h.2.2.trans (b.mono h.2.2.size)⟩
  by_cases hc : chkT t.key = 0
  · have hk := TOk.of hf hc
    rw [hc] at HC
    have HG : Hid (∀ W W' p, (Row W w.heap.size 23 (acells src) ∧ Row W (w.heap.size + 1) 45 (tcells t) ∧ Below w.heap.size w W) → W.grownBy W' (some p) → w.heap.size + 1 < p → (Row W' w.heap.size 23 (acells src) ∧ Row W' (w.heap.size + 1) 45 (tcells t) ∧ Below w.heap.size w W')) := fun W W' p h g hp => ⟨h.1.grown g (by simp; omega), h.2.1.grown g (by simp; omega), h.2.2.grown g h.2.2.size (fun q hq => by cases hq; omega)⟩
    by_cases hw : wayB t.key = true
    · have hway : t.ty = 8 ∧ t.met < 65535 := by
        have e : wayB t.key = (decide (t.ty = 8) && decide (t.met < 65535)) := rfl
        rw [e] at hw
        simpa using hw
      have h8 : ((t.ty : Int) == 8) = true := by rw [hway.1]; rfl
      have h9 : ((t.met : Int) != 65535) = true := by have := hway.2; simp; omega
      have HF1 := rfamily_any t.ad
      have HF2 := rpfam_any t.pr.d
      by_cases hfam : famA t.ad = famP t.pr.d
      · have hck : ckP t.key = 0 := by unfold ckP; rw [if_neg (by simp [hc]), if_neg (fun h => h.2 hfam)]
        have HRf : Hid (((((([] ++ (witP (begO src) t.key).flatMap encK).length : Nat) : Int) + 4 ≤ mtu) → fitN src mtu t.key = 0) ∧ ((¬ ((([] ++ (witP (begO src) t.key).flatMap encK).length : Nat) : Int) + 4 ≤ mtu) → fitN src mtu t.key = 70)) := ⟨fun h => by unfold fitN; rw [if_neg (by simp [hck]), if_pos ((tak_iff src mtu hk.nam).2 h)], fun h => by unfold fitN; rw [if_neg (by simp [hck]), if_neg (fun hh => h ((tak_iff src mtu hk.nam).1 hh))]⟩
        have HA := fun W p g (hO : Opn W p (begO src) false none 0 0 [] g) (hW : Below w.heap.size w W) => radd_any p (begO src) false none 0 0 [] g t mtu W hO (Src.below ht hW ht.lt) hk hc (fun _ => hfam) (by decide)
        rw [hfam] at HF1
        generalize famP t.pr.d = f at *
        generalize (t.ty : Int) = y at *
        generalize (t.met : Int) = m at *
        clear hway hw hck hf hn
        by_cases hfit : ((([] ++ (witP (begO src) t.key).flatMap encK).length : Nat) : Int) + 4 ≤ mtu
        · have hR : fitN src mtu t.key = 0 := HRf.out.1 hfit
          go_enter Tryz.func24, Tryz.ntmps24
          go_upto_region 4 with (first
            | (go_at_call 11; refine (HC _ BX0).mono ?_; rintro e w1 ⟨rfl, b1⟩)
            | (refine ldT (.tmp 5) (by rfl) rfl (w.heap.size + 1) t rfl RT0 ?_))
          have F0 := HK.out _ _ ⟨RA0, RT0, BX0⟩ b1
          refine name_world (R := fun W => Code.wp _ _ _ _ W) (P := fun W => Row W w.heap.size 23 (acells src) ∧ Row W (w.heap.size + 1) 45 (tcells t) ∧ Below w.heap.size w W) _ F0 ?_
          clear F0 b1 RA0 RT0 BX0
          intro X F0
          refine wp_region_noPanic ?_
          refine wp_region_held_drew (S := fun W => Row W w.heap.size 23 (acells src) ∧ Row W (w.heap.size + 1) 45 (tcells t) ∧ Below w.heap.size w W) (by kernel_rfl) (⟨F0.1, F0.2.1, F0.2.2.drew⟩) (fun hHeld => ?_)
          refine tA 0 ?_
          refine tA 1 ?_ (hv := by intro w hSw; (try dsimp only at hSw); have hz := (hSw.2.1.cell 0).trans T0; go_simp <;> with_reducible rfl)
          refine tA 2 ?_
          refine tA 3 ?_
          refine tA 4 ?_
          refine tA 5 ?_ (hv := by intro w hSw; (try dsimp only at hSw); have hz := (hSw.2.1.cell 5).trans T5; go_simp <;> with_reducible rfl)
          refine tA 6 ?_
          refine tA 7 ?_
          refine tA 8 ?_
          refine tA 9 ?_
          refine tL 10 rfl (yA t.ad (fun w h => h.2.1.rAd) (by rfl) rfl rfl) ?_
          refine tA 12 ?_
          refine tA 13 ?_
          refine tL 14 rfl (yP t.pr.d (fun w h => h.2.1.rPr.d) (by rfl) rfl rfl) ?_
          refine r1 11 fun K hK => ?_
          go_simp
          refine (HF1 _).mono ?_
          rintro e w2 ⟨rfl, b2⟩
          refine oK hK (by exact HK.out _ _ hHeld b2) fun hHeld => ?_
          clear hK K
          refine r1 15 fun K hK => ?_
          go_simp
          refine (HF2 _).mono ?_
          rintro e w3 ⟨rfl, b3⟩
          refine oK hK (by exact HK.out _ _ hHeld b3) fun hHeld => ?_
          clear hK K
          refine tA 16 ?_
          refine tA 17 ?_
          refine dN ?_
          refine NoPanic.normal ?_
          go_upto_region 6 with fail
          replace F0 := hHeld
          clear hHeld
          refine wp_region_noPanic ?_
          refine wp_region_held_drew (S := fun W => Row W w.heap.size 23 (acells src) ∧ Row W (w.heap.size + 1) 45 (tcells t) ∧ Below w.heap.size w W) (by kernel_rfl) (⟨F0.1, F0.2.1, F0.2.2.drew⟩) (fun hHeld => ?_)
          refine tL 0 rfl (yA src (fun w h => h.1.range) (by rfl) rfl rfl) ?_
          refine tL 2 rfl (yT t (fun w h => h.2.1) (by rfl) rfl rfl) ?_
          refine tA 3 ?_
          refine r1 1 fun K hK => ?_
          go_simp
          refine (HB _).mono ?_
          rintro e w5 ⟨p, g, rfl, hp, hg, O5, b5⟩
          have hp1 : w.heap.size + 1 < p := Nat.lt_of_lt_of_le hHeld.2.1.lt hp
          refine oK hK (by exact HK.out _ _ hHeld b5) fun hHeld => ?_
          clear hK K
          refine r1 4 fun K hK => ?_
          go_simp
          refine (HA _ p g O5 hHeld.2.2).mono ?_
          intro e w6 h6
          obtain ⟨rfl, g6, _⟩ := h6.1 hfit
          have F6 := HG.out _ _ p hHeld g6 hp1
          refine oK hK (by exact F6) fun hHeld => ?_
          clear hK K
          refine tA 5 ?_
          refine dN ?_
          refine NoPanic.normal ?_
          go_wp2_with fail
          go_ret
          exact ⟨by rw [hR]; rfl, hHeld.2.2⟩
        · have hR : fitN src mtu t.key = 70 := HRf.out.2 hfit
          go_enter Tryz.func24, Tryz.ntmps24
          go_upto_region 4 with (first
            | (go_at_call 11; refine (HC _ BX0).mono ?_; rintro e w1 ⟨rfl, b1⟩)
            | (refine ldT (.tmp 5) (by rfl) rfl (w.heap.size + 1) t rfl RT0 ?_))
          have F0 := HK.out _ _ ⟨RA0, RT0, BX0⟩ b1
          refine name_world (R := fun W => Code.wp _ _ _ _ W) (P := fun W => Row W w.heap.size 23 (acells src) ∧ Row W (w.heap.size + 1) 45 (tcells t) ∧ Below w.heap.size w W) _ F0 ?_
          clear F0 b1 RA0 RT0 BX0
          intro X F0
          refine wp_region_noPanic ?_
          refine wp_region_held_drew (S := fun W => Row W w.heap.size 23 (acells src) ∧ Row W (w.heap.size + 1) 45 (tcells t) ∧ Below w.heap.size w W) (by kernel_rfl) (⟨F0.1, F0.2.1, F0.2.2.drew⟩) (fun hHeld => ?_)
          refine tA 0 ?_
          refine tA 1 ?_ (hv := by intro w hSw; (try dsimp only at hSw); have hz := (hSw.2.1.cell 0).trans T0; go_simp <;> with_reducible rfl)
          refine tA 2 ?_
          refine tA 3 ?_
          refine tA 4 ?_
          refine tA 5 ?_ (hv := by intro w hSw; (try dsimp only at hSw); have hz := (hSw.2.1.cell 5).trans T5; go_simp <;> with_reducible rfl)
          refine tA 6 ?_
          refine tA 7 ?_
          refine tA 8 ?_
          refine tA 9 ?_
          refine tL 10 rfl (yA t.ad (fun w h => h.2.1.rAd) (by rfl) rfl rfl) ?_
          refine tA 12 ?_
          refine tA 13 ?_
          refine tL 14 rfl (yP t.pr.d (fun w h => h.2.1.rPr.d) (by rfl) rfl rfl) ?_
          refine r1 11 fun K hK => ?_
          go_simp
          refine (HF1 _).mono ?_
          rintro e w2 ⟨rfl, b2⟩
          refine oK hK (by exact HK.out _ _ hHeld b2) fun hHeld => ?_
          clear hK K
          refine r1 15 fun K hK => ?_
          go_simp
          refine (HF2 _).mono ?_
          rintro e w3 ⟨rfl, b3⟩
          refine oK hK (by exact HK.out _ _ hHeld b3) fun hHeld => ?_
          clear hK K
          refine tA 16 ?_
          refine tA 17 ?_
          refine dN ?_
          refine NoPanic.normal ?_
          go_upto_region 6 with fail
          replace F0 := hHeld
          clear hHeld
          refine wp_region_noPanic ?_
          refine wp_region_held_drew (S := fun W => Row W w.heap.size 23 (acells src) ∧ Row W (w.heap.size + 1) 45 (tcells t) ∧ Below w.heap.size w W) (by kernel_rfl) (⟨F0.1, F0.2.1, F0.2.2.drew⟩) (fun hHeld => ?_)
          refine tL 0 rfl (yA src (fun w h => h.1.range) (by rfl) rfl rfl) ?_
          refine tL 2 rfl (yT t (fun w h => h.2.1) (by rfl) rfl rfl) ?_
          refine tA 3 ?_
          refine r1 1 fun K hK => ?_
          go_simp
          refine (HB _).mono ?_
          rintro e w5 ⟨p, g, rfl, hp, hg, O5, b5⟩
          have hp1 : w.heap.size + 1 < p := Nat.lt_of_lt_of_le hHeld.2.1.lt hp
          refine oK hK (by exact HK.out _ _ hHeld b5) fun hHeld => ?_
          clear hK K
          refine r1 4 fun K hK => ?_
          go_simp
          refine (HA _ p g O5 hHeld.2.2).mono ?_
          intro e w6 h6
          obtain ⟨rfl, b6⟩ := h6.2 hfit
          refine oK hK (by exact HK.out _ _ hHeld b6) fun hHeld => ?_
          clear hK K
          refine tA 5 ?_
          refine dN ?_
          refine NoPanic.normal ?_
          go_wp2_with fail
          go_ret
          exact ⟨by rw [hR]; rfl, hHeld.2.2⟩
      · have hck : ckP t.key = 2 := by unfold ckP; rw [if_neg (by simp [hc]), if_pos ⟨hw, hfam⟩]
        have hR : fitN src mtu t.key = 2 := by unfold fitN; rw [hck, if_pos (by decide)]
        have hfb : (famA t.ad != famP t.pr.d) = true := by simpa using hfam
        generalize famP t.pr.d = f at *
        generalize famA t.ad = f' at *
        generalize (t.ty : Int) = y at *
        generalize (t.met : Int) = m at *
        clear hway hw hck hf hn hfam
        go_enter Tryz.func24, Tryz.ntmps24
        go_upto_region 4 with (first
          | (go_at_call 11; refine (HC _ BX0).mono ?_; rintro e w1 ⟨rfl, b1⟩)
          | (refine ldT (.tmp 5) (by rfl) rfl (w.heap.size + 1) t rfl RT0 ?_))
        have F0 := HK.out _ _ ⟨RA0, RT0, BX0⟩ b1
        refine name_world (R := fun W => Code.wp _ _ _ _ W) (P := fun W => Row W w.heap.size 23 (acells src) ∧ Row W (w.heap.size + 1) 45 (tcells t) ∧ Below w.heap.size w W) _ F0 ?_
        clear F0 b1 RA0 RT0 BX0
        intro X F0
        refine wp_region_noPanic ?_
        refine wp_region_held_drew (S := fun W => Row W w.heap.size 23 (acells src) ∧ Row W (w.heap.size + 1) 45 (tcells t) ∧ Below w.heap.size w W) (by kernel_rfl) (⟨F0.1, F0.2.1, F0.2.2.drew⟩) (fun hHeld => ?_)
        refine tA 0 ?_
        refine tA 1 ?_ (hv := by intro w hSw; (try dsimp only at hSw); have hz := (hSw.2.1.cell 0).trans T0; go_simp <;> with_reducible rfl)
        refine tA 2 ?_
        refine tA 3 ?_
        refine tA 4 ?_
        refine tA 5 ?_ (hv := by intro w hSw; (try dsimp only at hSw); have hz := (hSw.2.1.cell 5).trans T5; go_simp <;> with_reducible rfl)
        refine tA 6 ?_
        refine tA 7 ?_
        refine tA 8 ?_
        refine tA 9 ?_
        refine tL 10 rfl (yA t.ad (fun w h => h.2.1.rAd) (by rfl) rfl rfl) ?_
        refine tA 12 ?_
        refine tA 13 ?_
        refine tL 14 rfl (yP t.pr.d (fun w h => h.2.1.rPr.d) (by rfl) rfl rfl) ?_
        refine r1 11 fun K hK => ?_
        go_simp
        refine (HF1 _).mono ?_
        rintro e w2 ⟨rfl, b2⟩
        refine oK hK (by exact HK.out _ _ hHeld b2) fun hHeld => ?_
        clear hK K
        refine r1 15 fun K hK => ?_
        go_simp
        refine (HF2 _).mono ?_
        rintro e w3 ⟨rfl, b3⟩
        refine oK hK (by exact HK.out _ _ hHeld b3) fun hHeld => ?_
        clear hK K
        refine tA 16 ?_
        refine tA 17 ?_
        refine dN ?_
        refine NoPanic.normal ?_
        go_wp2_with fail
        go_ret
        exact ⟨by rw [hR]; rfl, hHeld.2.2⟩
    · have hck : ckP t.key = 0 := by unfold ckP; rw [if_neg (by simp [hc]), if_neg (fun h => hw h.1)]
      have HRf : Hid (((((([] ++ (witP (begO src) t.key).flatMap encK).length : Nat) : Int) + 4 ≤ mtu) → fitN src mtu t.key = 0) ∧ ((¬ ((([] ++ (witP (begO src) t.key).flatMap encK).length : Nat) : Int) + 4 ≤ mtu) → fitN src mtu t.key = 70)) := ⟨fun h => by unfold fitN; rw [if_neg (by simp [hck]), if_pos ((tak_iff src mtu hk.nam).2 h)], fun h => by unfold fitN; rw [if_neg (by simp [hck]), if_neg (fun hh => h ((tak_iff src mtu hk.nam).1 hh))]⟩
      have HA := fun W p g (hO : Opn W p (begO src) false none 0 0 [] g) (hW : Below w.heap.size w W) => radd_any p (begO src) false none 0 0 [] g t mtu W hO (Src.below ht hW ht.lt) hk hc (fun h => absurd h hw) (by decide)
      have hmet : t.met < 65536 := hf.met
      have hcase : (((t.ty : Int) == 8) = false) ∨ (((t.ty : Int) == 8) = true ∧ ((t.met : Int) != 65535) = false) := by
        have e : wayB t.key = (decide (t.ty = 8) && decide (t.met < 65535)) := rfl
        rw [e] at hw
        by_cases h8 : t.ty = 8
        · right
          have h9 : ¬ t.met < 65535 := fun h => hw (by simp [h8, h])
          exact ⟨by rw [h8]; rfl, by simp; omega⟩
        · left; simp; omega
      generalize (t.ty : Int) = y at *
      generalize (t.met : Int) = m at *
      clear hw hck hf hn hmet
      rcases hcase with h8 | ⟨h8, h9⟩
      · skip
        by_cases hfit : ((([] ++ (witP (begO src) t.key).flatMap encK).length : Nat) : Int) + 4 ≤ mtu
        · have hR : fitN src mtu t.key = 0 := HRf.out.1 hfit
          go_enter Tryz.func24, Tryz.ntmps24
          go_upto_region 4 with (first
            | (go_at_call 11; refine (HC _ BX0).mono ?_; rintro e w1 ⟨rfl, b1⟩)
            | (refine ldT (.tmp 5) (by rfl) rfl (w.heap.size + 1) t rfl RT0 ?_))
          have F0 := HK.out _ _ ⟨RA0, RT0, BX0⟩ b1
          refine name_world (R := fun W => Code.wp _ _ _ _ W) (P := fun W => Row W w.heap.size 23 (acells src) ∧ Row W (w.heap.size + 1) 45 (tcells t) ∧ Below w.heap.size w W) _ F0 ?_
          clear F0 b1 RA0 RT0 BX0
          intro X F0
          refine wp_region_noPanic ?_
          refine wp_region_held_drew (S := fun W => Row W w.heap.size 23 (acells src) ∧ Row W (w.heap.size + 1) 45 (tcells t) ∧ Below w.heap.size w W) (by kernel_rfl) (⟨F0.1, F0.2.1, F0.2.2.drew⟩) (fun hHeld => ?_)
          refine tA 0 ?_
          refine tA 1 ?_ (hv := by intro w hSw; (try dsimp only at hSw); have hz := (hSw.2.1.cell 0).trans T0; go_simp <;> with_reducible rfl)
          refine tA 2 ?_
          refine tA 3 ?_
          refine tN 4 ?_
          refine tN 5 ?_
          refine tN 6 ?_
          refine tA 7 ?_
          refine tA 8 ?_
          refine tN 9 ?_
          refine tN 10 ?_
          refine tN 11 ?_
          refine tN 12 ?_
          refine tN 13 ?_
          refine tN 14 ?_
          refine tN 15 ?_
          refine tN 16 ?_
          refine tA 17 ?_
          refine dN ?_
          refine NoPanic.normal ?_
          go_upto_region 6 with fail
          replace F0 := hHeld
          clear hHeld
          refine wp_region_noPanic ?_
          refine wp_region_held_drew (S := fun W => Row W w.heap.size 23 (acells src) ∧ Row W (w.heap.size + 1) 45 (tcells t) ∧ Below w.heap.size w W) (by kernel_rfl) (⟨F0.1, F0.2.1, F0.2.2.drew⟩) (fun hHeld => ?_)
          refine tL 0 rfl (yA src (fun w h => h.1.range) (by rfl) rfl rfl) ?_
          refine tL 2 rfl (yT t (fun w h => h.2.1) (by rfl) rfl rfl) ?_
          refine tA 3 ?_
          refine r1 1 fun K hK => ?_
          go_simp
          refine (HB _).mono ?_
          rintro e w5 ⟨p, g, rfl, hp, hg, O5, b5⟩
          have hp1 : w.heap.size + 1 < p := Nat.lt_of_lt_of_le hHeld.2.1.lt hp
          refine oK hK (by exact HK.out _ _ hHeld b5) fun hHeld => ?_
          clear hK K
          refine r1 4 fun K hK => ?_
          go_simp
          refine (HA _ p g O5 hHeld.2.2).mono ?_
          intro e w6 h6
          obtain ⟨rfl, g6, _⟩ := h6.1 hfit
          have F6 := HG.out _ _ p hHeld g6 hp1
          refine oK hK (by exact F6) fun hHeld => ?_
          clear hK K
          refine tA 5 ?_
          refine dN ?_
          refine NoPanic.normal ?_
          go_wp2_with fail
          go_ret
          exact ⟨by rw [hR]; rfl, hHeld.2.2⟩
        · have hR : fitN src mtu t.key = 70 := HRf.out.2 hfit
          go_enter Tryz.func24, Tryz.ntmps24
          go_upto_region 4 with (first
            | (go_at_call 11; refine (HC _ BX0).mono ?_; rintro e w1 ⟨rfl, b1⟩)
            | (refine ldT (.tmp 5) (by rfl) rfl (w.heap.size + 1) t rfl RT0 ?_))
          have F0 := HK.out _ _ ⟨RA0, RT0, BX0⟩ b1
          refine name_world (R := fun W => Code.wp _ _ _ _ W) (P := fun W => Row W w.heap.size 23 (acells src) ∧ Row W (w.heap.size + 1) 45 (tcells t) ∧ Below w.heap.size w W) _ F0 ?_
          clear F0 b1 RA0 RT0 BX0
          intro X F0
          refine wp_region_noPanic ?_
          refine wp_region_held_drew (S := fun W => Row W w.heap.size 23 (acells src) ∧ Row W (w.heap.size + 1) 45 (tcells t) ∧ Below w.heap.size w W) (by kernel_rfl) (⟨F0.1, F0.2.1, F0.2.2.drew⟩) (fun hHeld => ?_)
          refine tA 0 ?_
          refine tA 1 ?_ (hv := by intro w hSw; (try dsimp only at hSw); have hz := (hSw.2.1.cell 0).trans T0; go_simp <;> with_reducible rfl)
          refine tA 2 ?_
          refine tA 3 ?_
          refine tN 4 ?_
          refine tN 5 ?_
          refine tN 6 ?_
          refine tA 7 ?_
          refine tA 8 ?_
          refine tN 9 ?_
          refine tN 10 ?_
          refine tN 11 ?_
          refine tN 12 ?_
          refine tN 13 ?_
          refine tN 14 ?_
          refine tN 15 ?_
          refine tN 16 ?_
          refine tA 17 ?_
          refine dN ?_
          refine NoPanic.normal ?_
          go_upto_region 6 with fail
          replace F0 := hHeld
          clear hHeld
          refine wp_region_noPanic ?_
          refine wp_region_held_drew (S := fun W => Row W w.heap.size 23 (acells src) ∧ Row W (w.heap.size + 1) 45 (tcells t) ∧ Below w.heap.size w W) (by kernel_rfl) (⟨F0.1, F0.2.1, F0.2.2.drew⟩) (fun hHeld => ?_)
          refine tL 0 rfl (yA src (fun w h => h.1.range) (by rfl) rfl rfl) ?_
          refine tL 2 rfl (yT t (fun w h => h.2.1) (by rfl) rfl rfl) ?_
          refine tA 3 ?_
          refine r1 1 fun K hK => ?_
          go_simp
          refine (HB _).mono ?_
          rintro e w5 ⟨p, g, rfl, hp, hg, O5, b5⟩
          have hp1 : w.heap.size + 1 < p := Nat.lt_of_lt_of_le hHeld.2.1.lt hp
          refine oK hK (by exact HK.out _ _ hHeld b5) fun hHeld => ?_
          clear hK K
          refine r1 4 fun K hK => ?_
          go_simp
          refine (HA _ p g O5 hHeld.2.2).mono ?_
          intro e w6 h6
          obtain ⟨rfl, b6⟩ := h6.2 hfit
          refine oK hK (by exact HK.out _ _ hHeld b6) fun hHeld => ?_
          clear hK K
          refine tA 5 ?_
          refine dN ?_
          refine NoPanic.normal ?_
          go_wp2_with fail
          go_ret
          exact ⟨by rw [hR]; rfl, hHeld.2.2⟩
      · skip
        by_cases hfit : ((([] ++ (witP (begO src) t.key).flatMap encK).length : Nat) : Int) + 4 ≤ mtu
        · have hR : fitN src mtu t.key = 0 := HRf.out.1 hfit
          go_enter Tryz.func24, Tryz.ntmps24
          go_upto_region 4 with (first
            | (go_at_call 11; refine (HC _ BX0).mono ?_; rintro e w1 ⟨rfl, b1⟩)
            | (refine ldT (.tmp 5) (by rfl) rfl (w.heap.size + 1) t rfl RT0 ?_))
          have F0 := HK.out _ _ ⟨RA0, RT0, BX0⟩ b1
          refine name_world (R := fun W => Code.wp _ _ _ _ W) (P := fun W => Row W w.heap.size 23 (acells src) ∧ Row W (w.heap.size + 1) 45 (tcells t) ∧ Below w.heap.size w W) _ F0 ?_
          clear F0 b1 RA0 RT0 BX0
          intro X F0
          refine wp_region_noPanic ?_
          refine wp_region_held_drew (S := fun W => Row W w.heap.size 23 (acells src) ∧ Row W (w.heap.size + 1) 45 (tcells t) ∧ Below w.heap.size w W) (by kernel_rfl) (⟨F0.1, F0.2.1, F0.2.2.drew⟩) (fun hHeld => ?_)
          refine tA 0 ?_
          refine tA 1 ?_ (hv := by intro w hSw; (try dsimp only at hSw); have hz := (hSw.2.1.cell 0).trans T0; go_simp <;> with_reducible rfl)
          refine tA 2 ?_
          refine tA 3 ?_
          refine tA 4 ?_
          refine tA 5 ?_ (hv := by intro w hSw; (try dsimp only at hSw); have hz := (hSw.2.1.cell 5).trans T5; go_simp <;> with_reducible rfl)
          refine tA 6 ?_
          refine tA 7 ?_
          refine tA 8 ?_
          refine tN 9 ?_
          refine tN 10 ?_
          refine tN 11 ?_
          refine tN 12 ?_
          refine tN 13 ?_
          refine tN 14 ?_
          refine tN 15 ?_
          refine tN 16 ?_
          refine tA 17 ?_
          refine dN ?_
          refine NoPanic.normal ?_
          go_upto_region 6 with fail
          replace F0 := hHeld
          clear hHeld
          refine wp_region_noPanic ?_
          refine wp_region_held_drew (S := fun W => Row W w.heap.size 23 (acells src) ∧ Row W (w.heap.size + 1) 45 (tcells t) ∧ Below w.heap.size w W) (by kernel_rfl) (⟨F0.1, F0.2.1, F0.2.2.drew⟩) (fun hHeld => ?_)
          refine tL 0 rfl (yA src (fun w h => h.1.range) (by rfl) rfl rfl) ?_
          refine tL 2 rfl (yT t (fun w h => h.2.1) (by rfl) rfl rfl) ?_
          refine tA 3 ?_
          refine r1 1 fun K hK => ?_
          go_simp
          refine (HB _).mono ?_
          rintro e w5 ⟨p, g, rfl, hp, hg, O5, b5⟩
          have hp1 : w.heap.size + 1 < p := Nat.lt_of_lt_of_le hHeld.2.1.lt hp
          refine oK hK (by exact HK.out _ _ hHeld b5) fun hHeld => ?_
          clear hK K
          refine r1 4 fun K hK => ?_
          go_simp
          refine (HA _ p g O5 hHeld.2.2).mono ?_
          intro e w6 h6
          obtain ⟨rfl, g6, _⟩ := h6.1 hfit
          have F6 := HG.out _ _ p hHeld g6 hp1
          refine oK hK (by exact F6) fun hHeld => ?_
          clear hK K
          refine tA 5 ?_
          refine dN ?_
          refine NoPanic.normal ?_
          go_wp2_with fail
          go_ret
          exact ⟨by rw [hR]; rfl, hHeld.2.2⟩
        · have hR : fitN src mtu t.key = 70 := HRf.out.2 hfit
          go_enter Tryz.func24, Tryz.ntmps24
          go_upto_region 4 with (first
            | (go_at_call 11; refine (HC _ BX0).mono ?_; rintro e w1 ⟨rfl, b1⟩)
            | (refine ldT (.tmp 5) (by rfl) rfl (w.heap.size + 1) t rfl RT0 ?_))
          have F0 := HK.out _ _ ⟨RA0, RT0, BX0⟩ b1
          refine name_world (R := fun W => Code.wp _ _ _ _ W) (P := fun W => Row W w.heap.size 23 (acells src) ∧ Row W (w.heap.size + 1) 45 (tcells t) ∧ Below w.heap.size w W) _ F0 ?_
          clear F0 b1 RA0 RT0 BX0
          intro X F0
          refine wp_region_noPanic ?_
          refine wp_region_held_drew (S := fun W => Row W w.heap.size 23 (acells src) ∧ Row W (w.heap.size + 1) 45 (tcells t) ∧ Below w.heap.size w W) (by kernel_rfl) (⟨F0.1, F0.2.1, F0.2.2.drew⟩) (fun hHeld => ?_)
          refine tA 0 ?_
          refine tA 1 ?_ (hv := by intro w hSw; (try dsimp only at hSw); have hz := (hSw.2.1.cell 0).trans T0; go_simp <;> with_reducible rfl)
          refine tA 2 ?_
          refine tA 3 ?_
          refine tA 4 ?_
          refine tA 5 ?_ (hv := by intro w hSw; (try dsimp only at hSw); have hz := (hSw.2.1.cell 5).trans T5; go_simp <;> with_reducible rfl)
          refine tA 6 ?_
          refine tA 7 ?_
          refine tA 8 ?_
          refine tN 9 ?_
          refine tN 10 ?_
          refine tN 11 ?_
          refine tN 12 ?_
          refine tN 13 ?_
          refine tN 14 ?_
          refine tN 15 ?_
          refine tN 16 ?_
          refine tA 17 ?_
          refine dN ?_
          refine NoPanic.normal ?_
          go_upto_region 6 with fail
          replace F0 := hHeld
          clear hHeld
          refine wp_region_noPanic ?_
          refine wp_region_held_drew (S := fun W => Row W w.heap.size 23 (acells src) ∧ Row W (w.heap.size + 1) 45 (tcells t) ∧ Below w.heap.size w W) (by kernel_rfl) (⟨F0.1, F0.2.1, F0.2.2.drew⟩) (fun hHeld => ?_)
          refine tL 0 rfl (yA src (fun w h => h.1.range) (by rfl) rfl rfl) ?_
          refine tL 2 rfl (yT t (fun w h => h.2.1) (by rfl) rfl rfl) ?_
          refine tA 3 ?_
          refine r1 1 fun K hK => ?_
          go_simp
          refine (HB _).mono ?_
          rintro e w5 ⟨p, g, rfl, hp, hg, O5, b5⟩
          have hp1 : w.heap.size + 1 < p := Nat.lt_of_lt_of_le hHeld.2.1.lt hp
          refine oK hK (by exact HK.out _ _ hHeld b5) fun hHeld => ?_
          clear hK K
          refine r1 4 fun K hK => ?_
          go_simp
          refine (HA _ p g O5 hHeld.2.2).mono ?_
          intro e w6 h6
          obtain ⟨rfl, b6⟩ := h6.2 hfit
          refine oK hK (by exact HK.out _ _ hHeld b6) fun hHeld => ?_
          clear hK K
          refine tA 5 ?_
          refine dN ?_
          refine NoPanic.normal ?_
          go_wp2_with fail
          go_ret
          exact ⟨by rw [hR]; rfl, hHeld.2.2⟩
  · have hR : fitN src mtu t.key = chkT t.key := by
      have : ckP t.key = chkT t.key := by unfold ckP; rw [if_pos hc]
      unfold fitN
      rw [this, if_pos hc]
    rw [hR]
    have hne : (chkT t.key != 0) = true := by simpa using hc
    generalize chkT t.key = q at *
    clear hR hc HK HB
    go_enter Tryz.func24, Tryz.ntmps24
    go_wp2_with (first
      | (go_at_call 11; refine (HC _ BX0).mono ?_; rintro e w1 ⟨rfl, b1⟩)
      | (refine ldT (.tmp 5) (by rfl) rfl (w.heap.size + 1) t rfl RT0 ?_))
    go_ret
    exact ⟨rfl, BX0.trans (b1.mono BX0.size)⟩
end Go.Proofs.YtdibjgcokebfbaaGreat

namespace Go.Proofs.YtdibjgcokebfbaaGreat
open Go.RowKit
set_option linter.unusedSimpArgs false
set_option maxRecDepth 20000
def rtN (o : TS) (k : TK) : Nat := lenP (rtrP o k)
def hpN (o : TS) (k : TK) : Nat := lenP (hopP o k)
theorem rtN_eq (o : TS) (k : TK) : rtN o k = if o.r.l = k.id.l then 0 else 12 := by
  unfold rtN rtrP
  by_cases h : o.r.l = k.id.l
  · rw [if_pos (by simpa using h), if_pos h]; rfl
  · rw [if_neg (by simpa using h), if_neg h]; simp [lenP, rtrK, k.id.len]
theorem hpN_eq (o : TS) (k : TK) : hpN o k = if hasB o k = true then 0 else 4 + (adrL k.ad).length := by
  unfold hpN hopP
  split
  · rfl
  · simp [lenP, hopK]; omega
theorem fro_len (o : TS) (k : TK) : lenP (froP o k) = if wayB k = true then rtN o k + hpN o k else 0 := by
  unfold froP
  split
  · rw [lenP_append]; rfl
  · rfl
theorem rt_sub (o : TS) (k j : TK) : rtN o k ≤ rtN o j + rtN (rtrS o j) k := by
  rw [rtN_eq, rtN_eq, rtN_eq]
  by_cases h1 : o.r.l = k.id.l
  · rw [if_pos h1]; omega
  · rw [if_neg h1]
    by_cases h2 : o.r.l = j.id.l
    · rw [if_pos h2]
      have : ¬ (rtrS o j).r.l = k.id.l := fun e => h1 (h2.trans e)
      rw [if_neg this]
      omega
    · rw [if_neg h2]; omega
theorem hop_sub (o : TS) (k j : TK) : hpN o k ≤ hpN o j + hpN (hopS o j) k := by
  rw [hpN_eq, hpN_eq, hpN_eq]
  by_cases h1 : hasB o k = true
  · rw [if_pos h1]; omega
  · rw [if_neg h1]
    by_cases h2 : hasB (hopS o j) k = true
    · rw [if_pos h2]
      have key : k.ad.l = j.ad.l ∧ hasB o j ≠ true := by
        unfold hasB hopS at *
        by_cases fj : famP j.pr.d = 4
        · by_cases fk : famP k.pr.d = 4
          · simp only [if_pos fj, if_pos fk, Bool.and_eq_true, decide_eq_true_eq, not_and] at *
            refine ⟨h2.1.symm, fun hj => ?_⟩
            rw [Bool.and_eq_true, decide_eq_true_eq] at hj
            exact h1 (hj.1.trans h2.1) hj.2
          · simp only [if_pos fj, if_neg fk, Bool.and_eq_true, decide_eq_true_eq, not_and] at *
            exact absurd h2.2 (h1 h2.1)
        · by_cases fk : famP k.pr.d = 4
          · simp only [if_neg fj, if_pos fk, Bool.and_eq_true, decide_eq_true_eq, not_and] at *
            exact absurd h2.2 (h1 h2.1)
          · simp only [if_neg fj, if_neg fk, Bool.and_eq_true, decide_eq_true_eq, not_and] at *
            refine ⟨h2.1.symm, fun hj => ?_⟩
            rw [Bool.and_eq_true, decide_eq_true_eq] at hj
            exact h1 (hj.1.trans h2.1) hj.2
      rw [if_neg key.2, Ad.ext key.1]
      omega
    · rw [if_neg h2]; omega
theorem hp_rtr (o : TS) (k j : TK) : hpN (rtrS o j) k = hpN o k := rfl
theorem rt_hop (o : TS) (k j : TK) : rtN (hopS o j) k = rtN o k := by
  unfold hopS
  split <;> rfl
/-- What stands in front alone is at most what stood in front of another, and what stands in front behind it. -/
theorem fro_sub (o : TS) (k j : TK) : lenP (froP o k) ≤ lenP (froP o j) + lenP (froP (witS o j) k) := by
  rw [fro_len, fro_len, fro_len]
  by_cases hk : wayB k = true
  · rw [if_pos hk, if_pos hk]
    by_cases hj : wayB j = true
    · rw [if_pos hj]
      have e : witS o j = hopS (rtrS o j) j := by unfold witS; rw [if_pos hj]
      rw [e, rt_hop]
      have h1 := rt_sub o k j
      have h2 := hop_sub (rtrS o j) k j
      rw [hp_rtr, hp_rtr] at h2
      omega
    · rw [if_neg hj]
      have e : witS o j = o := by unfold witS; rw [if_neg hj]
      rw [e]; omega
  · rw [if_neg hk, if_neg hk]; omega
theorem wit_eq (o : TS) (k : TK) : lenP (witP o k) = lenP (froP o k) + (2 + (bodL k).length) := by
  rw [witP_eq, lenP_append]
  rfl
/-- A packet under way: what it holds is what is missing of its room, and what is told is paid for. -/
structure Paid (src : Ad) (mtu : Int) (d : DS) : Prop where
  room : d.room + lenP d.ps = mtu - 4
  told : ∀ k, lenP (froP (begO src) k) ≤ lenP d.ps + lenP (froP d.o k)
theorem Paid.beg (src : Ad) (mtu : Int) : Paid src mtu (begD src mtu) := ⟨by simp [begD, lenP], fun k => by simp [begD, lenP]⟩
theorem Paid.tak {src : Ad} {mtu : Int} {d : DS} (h : Paid src mtu d) (k : TK) : Paid src mtu (takD d k) := by
  refine ⟨?_, fun j => ?_⟩
  · have := h.room
    simp only [takD, lenP_append]
    omega
  · have h1 := h.told j
    have h2 := fro_sub d.o j k
    simp only [takD, lenP_append, wit_eq]
    omega
theorem Paid.fits {src : Ad} {mtu : Int} {d : DS} (h : Paid src mtu d) {k : TK} (ht : takB d k = true) : takB (begD src mtu) k = true := by
  unfold takB at *
  rw [decide_eq_true_eq] at *
  have h1 := h.told k
  have h2 := h.room
  rw [wit_eq] at *
  simp only [begD]
  omega
/-- The document's packing of Tlvs that fit. -/
def docR (src : Ad) (mtu : Int) : DS → List TK → List (List UInt8) → List (List UInt8)
  | d, [], acc => acc ++ [pktD d]
  | d, k :: ks, acc => if takB d k = true then docR src mtu (takD d k) ks acc else docR src mtu (takD (begD src mtu) k) ks (acc ++ [pktD d])
theorem ckP_fit {src : Ad} {mtu : Int} {k : TK} (h : fitN src mtu k = 0) : ckP k = 0 ∧ takB (begD src mtu) k = true := by
  unfold fitN at h
  by_cases h1 : ckP k = 0
  · rw [if_neg (by simp [h1])] at h
    refine ⟨h1, ?_⟩
    by_cases h2 : takB (begD src mtu) k = true
    · exact h2
    · rw [if_neg h2] at h; exact absurd h (by decide)
  · rw [if_pos h1] at h; exact absurd h h1
theorem takD_ps (d : DS) (k : TK) : (takD d k).ps ≠ [] := by simp [takD, witP]
/-- All fit: the program's packets are the document's. -/
theorem pak_doc (src : Ad) (mtu : Int) : ∀ (ks : List TK) (d : DS) (acc : List (List UInt8)), (∀ k ∈ ks, fitN src mtu k = 0) → (d.ps ≠ [] ∨ ks ≠ []) → pakR src mtu d ks acc = (docR src mtu d ks acc, 0)
  | [], d, acc, _, hne => by
    have : d.ps ≠ [] := by rcases hne with h | h; exact h; exact absurd rfl h
    rw [pakR, if_neg this, docR]
  | k :: ks, d, acc, h, _ => by
    obtain ⟨h1, h2⟩ := ckP_fit (h k (by simp))
    rw [docR]
    by_cases ht : takB d k = true
    · rw [pak_yes h1 ht, if_pos ht]
      exact pak_doc src mtu ks _ _ (fun j hj => h j (by simp [hj])) (.inl (takD_ps _ _))
    · rw [pak_next h1 (by simpa using ht) h2, if_neg ht]
      exact pak_doc src mtu ks _ _ (fun j hj => h j (by simp [hj])) (.inl (takD_ps _ _))
/-- One does not fit: its error, the first one's. -/
theorem pak_err (src : Ad) (mtu : Int) : ∀ (ks : List TK) (d : DS) (acc : List (List UInt8)) (j : Nat) (hj : j < ks.length), Paid src mtu d → (∀ i (hi : i < j), fitN src mtu (ks[i]'(by omega)) = 0) → fitN src mtu ks[j] ≠ 0 → pakR src mtu d ks acc = ([], fitN src mtu ks[j])
  | [], _, _, j, hj, _, _, _ => by simp at hj
  | k :: ks, d, acc, 0, _, hp, _, hne => by
    show _ = ([], fitN src mtu k)
    have hne' : fitN src mtu k ≠ 0 := hne
    unfold fitN at hne' ⊢
    by_cases h1 : ckP k = 0
    · rw [if_neg (by simp [h1])] at hne' ⊢
      have h2 : takB (begD src mtu) k = false := by
        cases hb : takB (begD src mtu) k with
        | false => rfl
        | true => rw [if_pos hb] at hne'; exact absurd rfl hne'
      have h3 : takB d k = false := by
        cases hb : takB d k with
        | false => rfl
        | true => rw [hp.fits hb] at h2; exact absurd h2 (by decide)
      rw [pak_mtu h1 h3 h2, if_neg (by rw [h2]; decide)]
    · rw [pak_bad h1, if_pos h1]
  | k :: ks, d, acc, j + 1, hj, hp, hall, hne => by
    have hk : fitN src mtu k = 0 := hall 0 (by omega)
    obtain ⟨h1, h2⟩ := ckP_fit hk
    have hall' : ∀ i (hi : i < j), fitN src mtu (ks[i]'(by simp at hj; omega)) = 0 := fun i hi => hall (i + 1) (by omega)
    by_cases ht : takB d k = true
    · rw [pak_yes h1 ht]
      exact pak_err src mtu ks _ _ j (by simpa using hj) (hp.tak k) hall' hne
    · rw [pak_next h1 (by simpa using ht) h2]
      exact pak_err src mtu ks _ _ j (by simpa using hj) ((Paid.beg src mtu).tak k) hall' hne
end Go.Proofs.YtdibjgcokebfbaaGreat

namespace Go.Proofs.YtdibjgcokebfbaaGreat
open Go.RowKit
set_option linter.unusedSimpArgs false
set_option maxRecDepth 20000
theorem rpacket_ok (a : Option Addr) (n c : Nat) (l : List UInt8) (w : World) (hs : Src w a n c (bcells l)) (hn : n ≤ 65535) :
    Calls Tryz.prog 27 #[.slice a n c] w (Packed w l) := by
  have HL : Hid (n = l.length) := hs.blen
  have hq : n / 256 < 256 := by omega
  go_enter Tryz.func27, Tryz.ntmps27
  go_wp2_with (at_builtin; go_loud (refine append_src rfl (.tmp 14) (.tmp 15) rfl w.heap.size _ 4 _ rfl (World.ownsRow_lit w _ 4 (Nat.le_refl _) (by unfold maxLen; omega) rfl) a n c (bcells l) rfl (hs.alloc _) (bcells_one l) (by omega) (by simp) ?_; intro v' w1 hown hg _))
  go_ret2
  have e : [Value.int .u8 42, .int .u8 2, .int .u8 ((n : Int) / 256), .int .u8 ((n : Int) % 256)] ++ bcells l = bcells (pkL l) := by
    rw [HL.out] at hn ⊢
    have e0 : (UInt16.ofNat l.length).toNat = l.length := by simp; omega
    simp [pkL, be16, bcells, e0]
    omega
  have e2 : 4 + n = (pkL l).length := by rw [pkL_len, HL.out]; omega
  rw [e, e2] at hown
  obtain ⟨a1, c1, rfl⟩ := own_shape hown
  exact ⟨a1, c1, rfl, hown, ((Below.refl _ _).alloc (Nat.le_refl _) _).grown hg (by simp) (fun k hk => by cases hk; exact Nat.le_refl _)⟩
end Go.Proofs.YtdibjgcokebfbaaGreat
