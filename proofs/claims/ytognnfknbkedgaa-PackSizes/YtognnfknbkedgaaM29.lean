/-
  The function live of the statements of layer 7 returns true, whatever the memory, and turns nothing that was there.
-/
import Derived.Test.YtognnfknbkedgaaM28
import Derived.Test.YtognnfknbkedgaaM26
import Derived.OpenShut
import Derived.ChangeOld
import Derived.Below
import Derived.SizedLaws
import Derived.Deep.SlicePairs
namespace Go.Proofs.Ytognnfknbkedgaa
open Go.RowKit
set_option linter.unusedSimpArgs false
set_option maxRecDepth 20000

set_option maxHeartbeats 4000000 in
theorem live7_any (w : World) : Calls Try.prog 17 #[] w fun e w' => e = .returned (.bool true) ∧ Below w.heap.size w w' := by
  obtain ⟨tAq, hA⟩ : ∃ t, t = l7T 32 := ⟨_, rfl⟩
  obtain ⟨tB, hB⟩ : ∃ t, t = l7T 33 := ⟨_, rfl⟩
  obtain ⟨S, hS⟩ : ∃ t, t = lwS := ⟨_, rfl⟩
  obtain ⟨Q, hQ⟩ : ∃ t : Pr, t = ⟨l7P 32, zeroP⟩ := ⟨_, rfl⟩
  have HPK := l7_pack
  have HPA := l7_parse
  have HSZ := l7_size
  have HBD := l7_bad
  have HSM := l7_sames
  have SE := l7SE
  have QE := l7QE
  have BD := l7bd
  have SET := l7set
  have BS := @bsL7
  rw [← hA, ← hB, ← hS] at HPK
  rw [← hA, ← hB] at HSM BS SET
  rw [← hA, ← hB, ← hS] at HPA
  rw [← hA] at HSZ
  rw [← hS] at HBD SE
  rw [← hQ] at QE
  rw [← hA, ← hS, ← hQ] at BD
  have HC33 : Hid (∀ W g, Row W g 33 (tcells tAq) → (∃ v, W.cell? ⟨g, 33, none⟩ = some v) ∧ W.frozen? ⟨g, 33, none⟩ = false) := fun W g r => ⟨⟨.int .u8 32, (r.cell 33).trans (by rw [hA]; rfl)⟩, r.frozen 33⟩
  have HSET : Hid ((tcells tAq).set 33 (.int .u8 33) = tcells tB) := SET
  have HBDH : Hid (∀ w, (Instr.build 33 #[(0, .int .u8 8), (2, .int .u16 100), (3, .int .u16 1), (5, .int .u16 32), (9, .agg #[.int .u8 0, .int .u8 0, .int .u8 0, .int .u8 0, .int .u8 0, .int .u8 0, .int .u8 0, .int .u8 1]), (10, (Value.agg (acells S).toArray)), (11, (Value.agg (qcells Q).toArray))]).run Try.prog w = .ok (.agg (tcells tAq).toArray) w) := BD
  have HBS : Hid (∀ {ops : Array Oper} {rest : List Oper} {op : Oper} {a : Act} {w : World} {Q' : Exit → Act → World → Prop} (x y : Operand) (_ : Region.wanted op (yielded ops a.tmps) = true) (_ : op.op = .buildSlice 41 2 #[(0, x), (1, y)]) (_ : a.eval x = .agg (tcells tAq).toArray) (_ : a.eval y = .agg (tcells tB).toArray)
    (_ : ∀ g W, Below w.heap.size w W → TlW W (some ⟨g, 0, none⟩) 2 [tAq, tB] → wpList Try.prog ops Q' rest (a.put op.dst (.slice (some ⟨g, 0, none⟩) 2 2)) W), wpList Try.prog ops Q' (op :: rest) a w) := BS
  clear hA hB hS hQ SET BD BS
  have hPK : Hid (∀ (W : World) (g : Nat), TlW W (some ⟨g, 0, none⟩) 2 [tAq, tB] → Calls Try.prog 18 #[(Value.agg (acells S).toArray), .int .i64 1000, .slice (some ⟨g, 0, none⟩) 2 2] W fun e w' => ∃ g' c qa qc, e = .returned (.tuple #[.slice (some ⟨g', 0, none⟩) 1 c, .int .i64 0]) ∧ g' < w'.heap.size ∧ w'.cell? ⟨g', 0, none⟩ = some (.slice qa 42 qc) ∧ Src w' qa 42 qc (bcells l7B) ∧ Below W.heap.size W w') := HPK
  have hSZ : Hid (∀ W, Calls Try.prog 20 #[.agg (tcells tAq).toArray] W (Gives W (.int .i64 13))) := HSZ
  have hBD : Hid (∀ (W : World) (g : Nat), Calls Try.prog 18 #[(Value.agg (acells S).toArray), .int .i64 63, .slice (some ⟨g, 0, none⟩) 1 1] W fun e w' => ∃ a n c, e = .returned (.tuple #[.slice a n c, .int .i64 2]) ∧ Below W.heap.size W w') := HBD
  have hPA : Hid (∀ (W : World) (a : Option Addr) (c : Nat), Src W a 42 c (bcells l7B) → Calls Try.prog 14 #[(Value.agg (acells S).toArray), .slice a 42 c] W fun e w' => ∃ a c ts, e = .returned (.tuple #[.slice a 2 c, .int .i64 0]) ∧ TlW w' a 2 ts ∧ Hid (ts.map Tl.key = [tAq, tB].map Tl.key) ∧ Below W.heap.size W w') := HPA
  have hSM : Hid (∀ (W : World) (a : Option Addr) (c g : Nat) (ts : List Tl), TlW W a 2 ts → Hid (ts.map Tl.key = [tAq, tB].map Tl.key) → TlW W (some ⟨g, 0, none⟩) 2 [tAq, tB] → Calls Try.prog 15 #[.slice a 2 c, .slice (some ⟨g, 0, none⟩) 2 2] W fun e w' => e = .returned (.bool true) ∧ Below W.heap.size W w') := HSM
  clear HPK HSZ HBD HPA HSM
  go_enter Try.func17, Try.ntmps17
  go_wp2_with (first
    | (go_at_call 20; have kk := b8; refine (hSZ.out _).mono ?_; rintro e w9 ⟨rfl, b9⟩; have c9 := (b9.cell (p := ⟨gK, 0, none⟩) (Nat.lt_of_lt_of_le hgK (Nat.le_trans d7.size b8.size))).trans c8; have rS9 := rS8.below b9 rS8.lt; have rA9 := rA8.below b9 rA8.lt; have rB9 := rB8.below b9 rB8.lt; have sK9 := sK8.below b9 sK8.lt; have B9 := bt B8 b9)
    | (have kk := b8; refine ldT (.tmp 3) (by rfl) rfl gA tAq rfl rA8 ?_; try simp only [Act.put, List.setIfInBounds_toArray, List.set_cons_zero, List.set_cons_succ])
    | (go_at_call 19; refine (num7 _ _).mono ?_; rintro e wn ⟨rfl, rfl⟩)
    | (go_at_call 18; have kk := d7; refine (hBD.out _ _).mono ?_; rintro e w8 ⟨a8, n8, c8', rfl, b8⟩; have c8 := (b8.cell (p := ⟨gK, 0, none⟩) (Nat.lt_of_lt_of_le hgK d7.size)).trans c7; have rS8 := rS7.below b8 rS7.lt; have rA8 := rA7.below b8 rA7.lt; have rB8 := rB7.below b8 rB7.lt; have sK8 := sK7.below b8 sK7.lt; have B8 := bt B7 b8)
    | (have kk := b6; refine bsT (.tmp 34) (by rfl) rfl tAq rfl ?_; intro g7 w7 hge7 d7 r7; have c7 := (d7.cell (p := ⟨gK, 0, none⟩) hgK).trans cK; have rS7 := rS6.below d7 rS6.lt; have rA7 := rA6.below d7 rA6.lt; have rB7 := rB6.below d7 rB6.lt; have sK7 := sK.below d7 sK.lt; have B7 := bt B6 d7; try simp only [Act.put, List.setIfInBounds_toArray, List.set_cons_zero, List.set_cons_succ])
    | (have kk := b6; refine ldT (.tmp 3) (by rfl) rfl gA tAq rfl rA6 ?_; try simp only [Act.put, List.setIfInBounds_toArray, List.set_cons_zero, List.set_cons_succ])
    | (have kk := b6; refine ldA (.tmp 1) (by rfl) rfl gS 0 S rfl rS6.range ?_; try simp only [Act.put, List.setIfInBounds_toArray, List.set_cons_zero, List.set_cons_succ])
    | (go_at_call 18; have kk := d5; refine (hPK.out _ _ tl5).mono ?_; rintro e w6 ⟨gK, cK', qa, qc, rfl, hgK, cK, sK, b6⟩; have rS6 := rS5.below b6 rS5.lt; have rA6 := rA5.below b6 rA5.lt; have rB6 := rB5.below b6 rB5.lt; have B6 := bt B5 b6)
    | (have kk := rB4; refine HBS.out (.tmp 26) (.tmp 27) (by rfl) rfl rfl rfl ?_; intro g5 w5 d5 tl5; have rS5 := (rS4.setOther gB 33 (.int .u8 33) (fun e => hSB.out e.symm)).below d5 (rS4.setOther gB 33 (.int .u8 33) (fun e => hSB.out e.symm)).lt; have rA5 := (rA4.setOther gB 33 (.int .u8 33) (fun e => hAB.out e.symm)).below d5 (rA4.setOther gB 33 (.int .u8 33) (fun e => hAB.out e.symm)).lt; have rB4' : Row (w4.setCell ⟨gB, 33, none⟩ (.int .u8 33)) gB 33 (tcells tB) := (by have h := q4.set 33 (.int .u8 33); rw [HSET.out] at h; exact h); have rB5 := rB4'.below d5 rB4'.lt; have B5 := bt (B4.setCell (p := ⟨gB, 33, none⟩) hgB.out (.int .u8 33)) d5; clear rB4' rB4 rA4 rS4 B4 q4 c33 f33 kk; try simp only [Act.put, List.setIfInBounds_toArray, List.set_cons_zero, List.set_cons_succ])
    | (have kk := q4; refine ldT (.tmp 4) (by rfl) rfl gB tB rfl (by have h := q4.set 33 (.int .u8 33); rw [HSET.out] at h; exact h) ?_; have rB4 := q4; try simp only [Act.put, List.setIfInBounds_toArray, List.set_cons_zero, List.set_cons_succ])
    | (have kk := q4; refine ldT (.tmp 3) (by rfl) rfl gA tAq rfl (by exact rA4.setOther gB 33 (.int .u8 33) (fun e => hAB.out e.symm)) ?_; try simp only [Act.put, List.setIfInBounds_toArray, List.set_cons_zero, List.set_cons_succ])
    | (have kk := q4; refine ldA (.tmp 1) (by rfl) rfl gS 0 S rfl (by exact (rS4.setOther gB 33 (.int .u8 33) (fun e => hSB.out e.symm)).range) ?_; try simp only [Act.put, List.setIfInBounds_toArray, List.set_cons_zero, List.set_cons_succ])
    | (have kk := q3; refine stT (.tmp 4) (.tmp 19) (by rfl) rfl gB tAq zeroT rfl rfl q3 ?_; intro w4 hg4 q4; obtain ⟨⟨v33, c33⟩, f33⟩ := HC33.out _ _ q4; have B4 := B3.grown hg4 B3.size (fun k hk => by cases hk; exact hgB.out); have rA4 := rA3.grown hg4 (fun e => hAB.out (Option.some.inj e)); have rS4 := rS3.grown hg4 (fun e => hSB.out (Option.some.inj e)); clear hg4 rA3 rS3 B3 q3 kk; try simp only [Act.put, List.setIfInBounds_toArray, List.set_cons_zero, List.set_cons_succ])
    | (have kk := r3; refine alG infoTz (by rfl) rfl ?_; intro gB wB b1 b2 b3 q3; have rA3 := r3.below b3 r3.lt; have rS3 := rS2.below b3 rS2.lt; have hAB : Hid (gA ≠ gB) := Nat.ne_of_lt (Nat.lt_of_lt_of_le r3.lt b1); have hSB : Hid (gS ≠ gB) := Nat.ne_of_lt (Nat.lt_of_lt_of_le rS2.lt b1); have hgB : Hid (w.heap.size ≤ gB) := Nat.le_trans B2.size b1; have B3 := bt B2 b3; clear b1 b2 b3 B2 r3 rS2 kk; try simp only [Act.put, List.setIfInBounds_toArray, List.set_cons_zero, List.set_cons_succ])
    | (have kk := r3; refine ldT (.tmp 3) (by rfl) rfl gA tAq rfl r3 ?_; try simp only [Act.put, List.setIfInBounds_toArray, List.set_cons_zero, List.set_cons_succ])
    | (have kk := rA0; refine stT (.tmp 3) (.tmp 18) (by rfl) rfl gA tAq zeroT rfl rfl rA0 ?_; intro w3 hg3 r3; have rS2 := rS1.grown hg3 (fun e => hSA.out (Option.some.inj e)); have B2 := B1.grown hg3 B1.size (fun k hk => by cases hk; exact hgA.out); clear hg3 rA0 rS1 B1 hSA hgA kk; try simp only [Act.put, List.setIfInBounds_toArray, List.set_cons_zero, List.set_cons_succ])
    | (have kk := rQ1; refine alG infoTz (by rfl) rfl ?_; intro gA wA b1 b2 b3 rA0; have hSA : Hid (gS ≠ gA) := Nat.ne_of_lt (Nat.lt_of_lt_of_le rSq.lt b1); have hgA : Hid (w.heap.size ≤ gA) := Nat.le_trans Bq.size b1; have rS1 := rSq.below b3 rSq.lt; have B1 := bt Bq b3; clear b1 b2 b3 rSq Bq rQ1 kk; try simp only [Act.put, List.setIfInBounds_toArray, List.set_cons_zero, List.set_cons_succ])
    | (have kk := rQ1; refine bdG (v := .agg (tcells tAq).toArray) [(0, .const (.int .u8 8)), (2, .const (.int .u16 100)), (3, .const (.int .u16 1)), (5, .const (.int .u16 32)), (9, .tmp 15), (10, .tmp 16), (11, .tmp 17)] (by rfl) rfl ?rbd ?_; exact HBDH.out _; try simp only [Act.put, List.setIfInBounds_toArray, List.set_cons_zero, List.set_cons_succ])
    | (have kk := rQ1; refine ldQ (.tmp 2) (by rfl) rfl gQ 0 Q rfl rQ1.range ?_; try simp only [Act.put, List.setIfInBounds_toArray, List.set_cons_zero, List.set_cons_succ])
    | (have kk := rQ1; refine ldA (.tmp 1) (by rfl) rfl gS 0 S rfl rSq.range ?_; try simp only [Act.put, List.setIfInBounds_toArray, List.set_cons_zero, List.set_cons_succ])
    | (have kk := rQ0; refine stQ0 (.tmp 2) (.tmp 14) (by rfl) rfl gQ Q (qcells zeroQ) (qcells_len _) rfl (by first | rfl | exact QE) rQ0 ?_; intro wq hgq rQ1; have rSq := rSb.grown hgq (fun e => hSQ.out (Option.some.inj e)); have Bq := Bb.grown hgq Bb.size (fun k hk => by cases hk; exact hgQ.out); clear QE rQ0 rSb Bb hgq hSQ hgQ kk; try simp only [Act.put, List.setIfInBounds_toArray, List.set_cons_zero, List.set_cons_succ])
    | (have kk := rSa; refine alG infoQz (by rfl) rfl ?_; intro gQ wQ b1 b2 b3 rQ0; have hSQ : Hid (gS ≠ gQ) := Nat.ne_of_lt (Nat.lt_of_lt_of_le rSa.lt b1); have hgQ : Hid (w.heap.size ≤ gQ) := Nat.le_trans Ba.size b1; have rSb := rSa.below b3 rSa.lt; have Bb := bt Ba b3; clear b1 b2 b3 rSa Ba kk; try simp only [Act.put, List.setIfInBounds_toArray, List.set_cons_zero, List.set_cons_succ])
    | (refine stA0 (.tmp 1) (.tmp 11) (by rfl) rfl gS S (acells zeroA) (acells_len _) rfl (by first | rfl | exact SE) rS0 ?_; intro wa hga rSa; have Ba := s3.grown hga s3.size (fun k hk => by cases hk; exact s1); clear SE; try simp only [Act.put, List.setIfInBounds_toArray, List.set_cons_zero, List.set_cons_succ])
    | (refine alG infoAz (by rfl) rfl ?_; intro gS wS s1 s2 s3 rS0; try simp only [Act.put, List.setIfInBounds_toArray, List.set_cons_zero, List.set_cons_succ]))
  have rS := rS9.below (bd w9) rS9.lt
  have rA := rA9.below (bd w9) rA9.lt
  have rB := rB9.below (bd w9) rB9.lt
  have sK0 := sK9.below (bd w9) sK9.lt
  have BX := bt B9 (bd w9)
  have cX : w9.drew.cell? ⟨gK, 0, none⟩ = some (.slice qa 42 qc) := c9
  have hgX : gK < w9.drew.heap.size := Nat.lt_of_lt_of_le hgK (Nat.le_trans d7.size (Nat.le_trans b8.size b9.size))
  clear rS9 rA9 rB9 sK9 B9 c9 rS8 rA8 rB8 sK8 B8 c8 rS7 rA7 rB7 sK7 B7 c7 rS6 rA6 rB6 B6 cK sK rS5 rA5 rB5 B5 tl5 hgK d7 b8 b9
  refine wp_region_noPanic ?_
  refine wp_region_held_drew (S := fun W => Row W gS 26 (acells S) ∧ W.cell? ⟨gK, 0, none⟩ = some (.slice qa 42 qc)) (by kernel_rfl) (⟨rS, cX⟩) (fun hHeld => ?_)
  refine tL 0 rfl (yA S (fun W hW => hW.1.range) (by rfl) rfl rfl) ?_
  refine tA 1 ?_
  refine tA 2 ?_
  refine tA 3 ?_ (hv := by intro w hSw; (try dsimp only at hSw); have hm := hSw.2; go_simp <;> with_reducible rfl)
  refine r1 4 fun K hK => ?_
  go_simp
  refine (hPA.out _ _ _ sK0).mono ?_
  rintro e w10 ⟨a10, c10, ts, rfl, tl10, hk10, d10⟩
  have rA10 := rA.below d10 rA.lt
  have rB10 := rB.below d10 rB.lt
  have B10 := bt BX d10
  refine oK hK (by exact ⟨rS.below d10 rS.lt, (d10.cell (p := ⟨gK, 0, none⟩) hgX).trans cX⟩) fun hHeld => ?_
  clear hK K
  refine tA 5 ?_
  refine tA 6 ?_
  refine tA 7 ?_
  refine tA 8 ?_
  refine tA 9 ?_
  refine dN ?_
  refine NoPanic.normal ?_
  clear hHeld
  go_wp2_with (first
    | (go_at_call 15; have kk := d11; refine (hSM.out _ _ _ _ _ (tl10.below d11) hk10 tl11).mono ?_; rintro e w12 ⟨rfl, b12⟩)
    | (refine HBS.out (.tmp 77) (.tmp 78) (by rfl) rfl rfl rfl ?_; intro g11 w11 d11 tl11)
    | (refine ldT (.tmp 4) (by rfl) rfl gB tB rfl rB10 ?_; try simp only [Act.put, List.setIfInBounds_toArray, List.set_cons_zero, List.set_cons_succ])
    | (refine ldT (.tmp 3) (by rfl) rfl gA tAq rfl rA10 ?_)
    | (go_at_call 19; refine (num7 _ _).mono ?_; rintro e wn ⟨rfl, rfl⟩))
  go_ret
  exact ⟨rfl, bt (bt B10 d11) b12⟩
end Go.Proofs.Ytognnfknbkedgaa

namespace Go.Proofs.Ytognnfknbkedgaa
open Go.RowKit
set_option linter.unusedSimpArgs false
set_option maxRecDepth 20000

theorem bodL_100 {k : TK} (h : TOk k) : (bodL k).length ≤ 100 := by
  have a1 := timL_len k.st h.st
  have a2 := whmL_len k
  have a3 := whrL_len k
  have a4 := srcL_len k.pr
  have a5 := k.id.len
  rcases namB_cases h.nam with e | e | e | e | e | e | e
  · rw [bodL_2 k e]; simp [hw_len]
  · rw [bodL_3 k e]; simp [hw_len]
  · rw [bodL_4 k e]; simp [hw_len]; omega
  · rw [bodL_5 k e]; simp [hw_len]; omega
  · rw [bodL_8 k e]; simp [hw_len]; omega
  · rw [bodL_9 k e]; simp [hw_len]; omega
  · rw [bodL_10 k e]; simp [hw_len]; omega
/-- How many bytes stand in front of a Tlv alone. -/
def frL (o : TS) (k : TK) : Nat := lenP (if wayB k = true then rtrP o k ++ hopP o k else [])
theorem lenP_wit (o : TS) (k : TK) : lenP (witP o k) = frL o k + (2 + (bodL k).length) := by
  unfold witP frL
  rw [lenP_append]
  rfl
theorem frL_le (o : TS) (k : TK) : frL o k ≤ 32 := by
  unfold frL
  split
  · rw [lenP_append]
    have h1 : lenP (rtrP o k) ≤ 12 := by
      unfold rtrP
      split
      · simp [lenP]
      · simp [lenP, rtrK, k.id.len]
    have h2 : lenP (hopP o k) ≤ 20 := by
      unfold hopP
      split
      · simp [lenP]
      · have := adrE_len k.ad
        simp [lenP]; omega
    omega
  · simp [lenP]
theorem way_id {k : TK} (h : chkT k = 0) (hw : wayB k = true) : k.id.l ≠ zeroI.l := by
  obtain ⟨_, _, h3, _⟩ := chkT_zero h
  unfold wayB at hw
  simp only [Bool.and_eq_true, decide_eq_true_eq] at hw
  unfold fitB at h3
  rw [if_neg (by omega), if_neg (by omega), if_pos hw.1] at h3
  unfold fitU at h3
  split at h3
  · cases h3
  · rw [if_neg (by omega)] at h3
    unfold nobB at h3
    intro e
    rw [decide_eq_true e] at h3
    simp at h3
theorem frL_beg (src : Ad) {k : TK} (h : chkT k = 0) : frL (begO src) k = 0 ↔ wayB k = false := by
  unfold frL
  cases hw : wayB k
  · simp [lenP]
  · simp only [if_true]
    have h1 := way_id h hw
    have h2 : (begO src).r = zeroI := by unfold begO; split <;> rfl
    have : rtrP (begO src) k = [rtrK k.id] := by
      unfold rtrP
      rw [if_neg]
      rw [h2]
      simp only [decide_eq_true_eq]
      exact fun e => h1 e.symm
    rw [this, lenP_append]
    simp [lenP]
theorem pak_one (src : Ad) {k : TK} (hf : TFit k) (h : ckP k = 0) : pakL src 1000 [k] = ([pktD (takD (begD src 1000) k)], 0) := by
  have hok := TOk.of hf (ckP_zero h)
  have hl : takB (begD src 1000) k = true := by
    unfold takB
    have := lenP_wit (begD src 1000).o k
    have := frL_le (begD src 1000).o k
    have := bodL_100 hok
    have e : (begD src 1000).room = 996 := rfl
    rw [e]
    simp only [decide_eq_true_eq]
    omega
  unfold pakL
  rw [if_neg (by omega), pak_yes h hl, pakR, if_neg]
  · rfl
  · show [] ++ witP _ _ ≠ []
    rw [List.nil_append]
    exact witP_ne _ _
theorem pkt_len (src : Ad) {k : TK} (hf : TFit k) (h : chkT k = 0) : (pktD (takD (begD src 1000) k)).length = 4 + frL (begO src) k + (2 + (bodL k).length) := by
  unfold pktD
  rw [pkL_len]
  have e : (takD (begD src 1000) k).ps = witP (begO src) k := by show [] ++ witP _ _ = _; rw [List.nil_append]; rfl
  rw [e, encK_len _ (witP_ok _ k (TOk.of hf h)).1, lenP_wit]
  omega
theorem tlw_one {W : World} {g : Nat} {t : Tl} (hr : Row W g 33 (tcells t)) (hs : TSrc W t) : TlW W (some ⟨g, 0, none⟩) 1 [t] :=
  ⟨rfl, fun _ => ⟨g, 0, rfl, hr.lt, fun j q hq => by
    cases j with
    | zero => simp at hq; subst hq; exact hr.range
    | succ j => simp at hq⟩, fun q hq => by simp at hq; subst hq; exact hs⟩
theorem sz_pack (src : Ad) (t : Tl) (W : World) (g : Nat) (hr : Row W g 33 (tcells t)) (hs : TSrc W t) (hf : TFit t.key) (hn : t.sn ≤ 100000) (h : ckP t.key = 0) :
    Calls Try.prog 18 #[(Value.agg (acells src).toArray), .int .i64 1000, .slice (some ⟨g, 0, none⟩) 1 1] W fun e w' => ∃ g' c qa qc, e = .returned (.tuple #[.slice (some ⟨g', 0, none⟩) 1 c, .int .i64 0]) ∧ g' < w'.heap.size ∧ w'.cell? ⟨g', 0, none⟩ = some (.slice qa (4 + frL (begO src) t.key + (2 + (bodL t.key).length)) qc) ∧ Below W.heap.size W w' := by
  refine (pack_ok src 1000 (some ⟨g, 0, none⟩) 1 1 [t] W (tlw_one hr hs) (fun q hq => by simp at hq; subst hq; exact ⟨hf, hn⟩) (by decide) (by decide) (by decide)).mono ?_
  rintro e w' ⟨a, n, c, qs, rfl, hq, hn', hac, hb⟩
  have e1 : pakL src 1000 ([t].map Tl.key) = ([pktD (takD (begD src 1000) t.key)], 0) := pak_one src hf h
  rw [e1] at hq ⊢
  match qs, hq, hn', hac with
  | [q], hq, hn', hac =>
    simp at hq
    subst hn'
    obtain ⟨own, bods⟩ := hac
    have hs := own_srcP (bods q (by simp))
    have hqn : q.n = 4 + frL (begO src) t.key + (2 + (bodL t.key).length) := by rw [hs.blen, hq]; exact pkt_len src hf (ckP_zero h)
    rcases own.2 with ⟨h1, h2⟩ | ⟨g', cap, cur, h1, hB, hh, hr'⟩
    · simp at h2
    · injection h1 with h2 h3 h4
      subst h2
      have hc := own.cells rfl 0 (.slice q.a q.n q.c) rfl
      rw [hqn, Addr.add_lit, Nat.zero_add] at hc
      exact ⟨g', c, q.a, q.c, rfl, lt_of_block hh, hc, hb⟩
  | [], hq, _, _ => simp at hq
  | _ :: _ :: _, hq, _, _ => simp at hq
theorem sz_bad (src : Ad) (t : Tl) (W : World) (g : Nat) (hr : Row W g 33 (tcells t)) (hs : TSrc W t) (hf : TFit t.key) (hn : t.sn ≤ 100000) (h : ckP t.key ≠ 0) :
    Calls Try.prog 18 #[(Value.agg (acells src).toArray), .int .i64 1000, .slice (some ⟨g, 0, none⟩) 1 1] W fun e w' => ∃ a c, e = .returned (.tuple #[.slice a 0 c, .int .i64 (ckP t.key)]) ∧ Below W.heap.size W w' := by
  refine (pack_ok src 1000 (some ⟨g, 0, none⟩) 1 1 [t] W (tlw_one hr hs) (fun q hq => by simp at hq; subst hq; exact ⟨hf, hn⟩) (by decide) (by decide) (by decide)).mono ?_
  rintro e w' ⟨a, n, c, qs, rfl, hq, hn', hac, hb⟩
  have e1 : pakL src 1000 ([t].map Tl.key) = ([], ckP t.key) := by
    unfold pakL
    rw [if_neg (by omega)]
    exact pak_bad h
  rw [e1] at hq ⊢
  have : qs = [] := by simpa using hq
  subst this
  obtain rfl : n = 0 := hn'
  exact ⟨a, c, rfl, hb⟩
theorem sizes_long (src : Ad) (t : Tl) (w : World) (h : 200 < t.sn) :
    Calls Try.prog 7 #[(Value.agg (acells src).toArray), .agg (tcells t).toArray] w fun e w' => e = .returned (.bool true) ∧ Below w.heap.size w w' := by
  have T67 := tcells_get t
  have h' : (200 : Int) < (t.sn : Int) := by omega
  generalize t.sn = n at *
  clear h
  go_enter Try.func7, Try.ntmps7
  go_wp2_with (go_at_call 17; refine (live7_any _).mono ?_; rintro e w1 ⟨rfl, b1⟩)
  go_ret
  exact ⟨rfl, bt (bt (ba _ _) (ba _ _)) b1⟩
set_option maxHeartbeats 4000000 in
theorem sizes_walk (src : Ad) (t : Tl) (w : World) (ht : TSrc w t) (hf : TFit t.key) (h : t.sn ≤ 200) :
    Calls Try.prog 7 #[(Value.agg (acells src).toArray), .agg (tcells t).toArray] w fun e w' => e = .returned (.bool true) ∧ Below w.heap.size w w' := by
  have T67 := tcells_get t
  have h' : ¬ (200 : Int) < (t.sn : Int) := by omega
  have RS := (Row.new w 26 (acells src)).alloc (.cells (tcells t).toArray 33)
  have RT := two_newR w (.cells (acells src).toArray 26) 33 (tcells t)
  have BX := bt (ba w (.cells (acells src).toArray 26)) (ba _ (.cells (tcells t).toArray 33))
  have HT : Hid (∀ W, Below w.heap.size w W → TSrc W t) := fun W hW => Src.below ht hW (Src.lt ht)
  have HSZ : Hid (∀ W, Below w.heap.size w W → Calls Try.prog 20 #[.agg (tcells t).toArray] W (Gives W (.int .i64 ((if chkT t.key = 0 then 2 + (bodL t.key).length else 0 : Nat) : Int)))) := fun W hW => size_any t W (HT.out W hW) (by omega) hf
  by_cases hz : ckP t.key = 0
  · have hcz := ckP_zero hz
    have HPK : Hid (∀ W g, Below w.heap.size w W → Row W g 33 (tcells t) → Calls Try.prog 18 #[(Value.agg (acells src).toArray), .int .i64 1000, .slice (some ⟨g, 0, none⟩) 1 1] W fun e w' => ∃ g' c qa qc, e = .returned (.tuple #[.slice (some ⟨g', 0, none⟩) 1 c, .int .i64 0]) ∧ g' < w'.heap.size ∧ w'.cell? ⟨g', 0, none⟩ = some (.slice qa (4 + frL (begO src) t.key + (2 + (bodL t.key).length)) qc) ∧ Below W.heap.size W w') := fun W g hW hr => sz_pack src t W g hr (HT.out W hW) hf (by omega) hz
    rw [if_pos hcz] at HSZ
    have hS := bodL_100 (TOk.of hf hcz)
    have hF := frL_le (begO src) t.key
    have hFw := frL_beg src hcz
    have hmet := hf.met
    have ew : wayB t.key = (decide (t.ty = 8) && decide (t.met < 65535)) := rfl
    have em : t.key.met = t.met := rfl
    rw [em] at hmet
    rw [ew] at hFw
    clear ew em
    generalize frL (begO src) t.key = F at *
    obtain ⟨S, hSe⟩ : ∃ S, 2 + (bodL t.key).length = S := ⟨_, rfl⟩
    obtain ⟨N, hN⟩ : ∃ N, 4 + F + (2 + (bodL t.key).length) = N := ⟨_, rfl⟩
    rw [hN] at HPK
    rw [hSe] at HSZ
    have hS2 : S ≤ 102 ∧ 2 ≤ S := by omega
    have hN2 : N = 4 + F + S := by omega
    have q1 : IntKind.i64.wrap ((N : Int) - 4) = (N : Int) - 4 := IntWalk.i64_in _ (by omega)
    have q2 : IntKind.i64.wrap ((N : Int) - 4 - (S : Int)) = (F : Int) := by rw [IntWalk.i64_in _ (by omega)]; omega
    have hS0 : ((S : Int) == 0) = false := by simp; omega
    have hS255 : (S : Int) ≤ 255 := by omega
    have hF32 : (F : Int) ≤ 32 := by omega
    have HC0 : Hid (∀ W, Row W (w.heap.size + 1) 33 (tcells t) → W.cell? ⟨w.heap.size + 1, 0, none⟩ = some (.int .u8 (t.ty : Int)) ∧ W.cell? ⟨w.heap.size + 1, 5, none⟩ = some (.int .u16 (t.met : Int))) := fun W r => ⟨r.cell 0, r.cell 5⟩
    clear hN hSe hS hN2 hcz hz hf ht
    generalize t.sn = n at *
    by_cases h8 : t.ty = 8
    · have y1 : ((t.ty : Int) != 8) = false := by simp; omega
      by_cases hm : t.met = 65535
      · have hF0 : F = 0 := hFw.2 (by simp; omega)
        subst hF0
        have y2 : ((t.met : Int) == 65535) = true := by simp; omega
        clear hFw hm h8 hmet h hS2 hF
        generalize (t.ty : Int) = ty at *
        generalize (t.met : Int) = met at *
        go_enter Try.func7, Try.ntmps7
        go_wp2_with (first
          | (go_at_call 17; refine (live7_any _).mono ?_; rintro e w9 ⟨rfl, b9⟩)
          | (go_at_call 19; refine (num7 _ _).mono ?_; rintro e wn ⟨rfl, rfl⟩)
          | (go_at_call 20; have kk := b2; refine (HSZ.out _ (bt (bt BX d1) b2)).mono ?_; rintro e w3 ⟨rfl, b3⟩; have cP3 := (b3.cell (p := ⟨gP, 0, none⟩) hgP).trans cP; obtain ⟨c0, c5⟩ := HC0.out _ (((RT.below d1 RT.lt).below b2 (RT.below d1 RT.lt).lt).below b3 ((RT.below d1 RT.lt).below b2 (RT.below d1 RT.lt).lt).lt))
          | (have kk := b2; refine ldT (.tmp 3) (by rfl) rfl (w.heap.size + 1) t rfl (by exact (RT.below d1 RT.lt).below b2 (RT.below d1 RT.lt).lt) ?_)
          | (go_at_call 18; have kk := d1; refine (HPK.out _ _ (bt BX d1) r1).mono ?_; rintro e w2 ⟨gP, pc, qa, qc, rfl, hgP, cP, b2⟩)
          | (refine bsT (.tmp 16) (by rfl) rfl t rfl ?_; intro g1 w1 hge1 d1 r1)
          | (refine ldT (.tmp 3) (by rfl) rfl (w.heap.size + 1) t rfl RT ?_)
          | (refine ldA (.tmp 2) (by rfl) rfl w.heap.size 0 src rfl RS.range ?_))
        go_ret
        exact ⟨rfl, bt (bt (bt (bt BX d1) b2) b3) b9⟩
      · have hF0 : ¬ F = 0 := fun e => by have := hFw.1 e; simp at this; omega
        have y0 : ((F : Int) == 0) = false := by simp; omega
        have y2 : ((t.met : Int) == 65535) = false := by simp; omega
        clear hFw hm h8 hmet h hS2 hF hF0
        generalize (t.ty : Int) = ty at *
        generalize (t.met : Int) = met at *
        go_enter Try.func7, Try.ntmps7
        go_wp2_with (first
          | (go_at_call 17; refine (live7_any _).mono ?_; rintro e w9 ⟨rfl, b9⟩)
          | (go_at_call 19; refine (num7 _ _).mono ?_; rintro e wn ⟨rfl, rfl⟩)
          | (go_at_call 20; have kk := b2; refine (HSZ.out _ (bt (bt BX d1) b2)).mono ?_; rintro e w3 ⟨rfl, b3⟩; have cP3 := (b3.cell (p := ⟨gP, 0, none⟩) hgP).trans cP; obtain ⟨c0, c5⟩ := HC0.out _ (((RT.below d1 RT.lt).below b2 (RT.below d1 RT.lt).lt).below b3 ((RT.below d1 RT.lt).below b2 (RT.below d1 RT.lt).lt).lt))
          | (have kk := b2; refine ldT (.tmp 3) (by rfl) rfl (w.heap.size + 1) t rfl (by exact (RT.below d1 RT.lt).below b2 (RT.below d1 RT.lt).lt) ?_)
          | (go_at_call 18; have kk := d1; refine (HPK.out _ _ (bt BX d1) r1).mono ?_; rintro e w2 ⟨gP, pc, qa, qc, rfl, hgP, cP, b2⟩)
          | (refine bsT (.tmp 16) (by rfl) rfl t rfl ?_; intro g1 w1 hge1 d1 r1)
          | (refine ldT (.tmp 3) (by rfl) rfl (w.heap.size + 1) t rfl RT ?_)
          | (refine ldA (.tmp 2) (by rfl) rfl w.heap.size 0 src rfl RS.range ?_))
        go_ret
        exact ⟨rfl, bt (bt (bt (bt BX d1) b2) b3) b9⟩
    · have y1 : ((t.ty : Int) != 8) = true := by simp; omega
      have hF0 : F = 0 := hFw.2 (by simp [h8])
      subst hF0
      clear hFw h8 hmet h hS2 hF
      generalize (t.ty : Int) = ty at *
      generalize (t.met : Int) = met at *
      go_enter Try.func7, Try.ntmps7
      go_wp2_with (first
        | (go_at_call 17; refine (live7_any _).mono ?_; rintro e w9 ⟨rfl, b9⟩)
        | (go_at_call 19; refine (num7 _ _).mono ?_; rintro e wn ⟨rfl, rfl⟩)
        | (go_at_call 20; have kk := b2; refine (HSZ.out _ (bt (bt BX d1) b2)).mono ?_; rintro e w3 ⟨rfl, b3⟩; have cP3 := (b3.cell (p := ⟨gP, 0, none⟩) hgP).trans cP; obtain ⟨c0, c5⟩ := HC0.out _ (((RT.below d1 RT.lt).below b2 (RT.below d1 RT.lt).lt).below b3 ((RT.below d1 RT.lt).below b2 (RT.below d1 RT.lt).lt).lt))
        | (have kk := b2; refine ldT (.tmp 3) (by rfl) rfl (w.heap.size + 1) t rfl (by exact (RT.below d1 RT.lt).below b2 (RT.below d1 RT.lt).lt) ?_)
        | (go_at_call 18; have kk := d1; refine (HPK.out _ _ (bt BX d1) r1).mono ?_; rintro e w2 ⟨gP, pc, qa, qc, rfl, hgP, cP, b2⟩)
        | (refine bsT (.tmp 16) (by rfl) rfl t rfl ?_; intro g1 w1 hge1 d1 r1)
        | (refine ldT (.tmp 3) (by rfl) rfl (w.heap.size + 1) t rfl RT ?_)
        | (refine ldA (.tmp 2) (by rfl) rfl w.heap.size 0 src rfl RS.range ?_))
      go_ret
      exact ⟨rfl, bt (bt (bt (bt BX d1) b2) b3) b9⟩
  · have HPK : Hid (∀ W g, Below w.heap.size w W → Row W g 33 (tcells t) → Calls Try.prog 18 #[(Value.agg (acells src).toArray), .int .i64 1000, .slice (some ⟨g, 0, none⟩) 1 1] W fun e w' => ∃ a c, e = .returned (.tuple #[.slice a 0 c, .int .i64 (ckP t.key)]) ∧ Below W.heap.size W w') := fun W g hW hr => sz_bad src t W g hr (HT.out W hW) hf (by omega) hz
    have hzz : (ckP t.key != 0) = true := by simpa using hz
    generalize (if chkT t.key = 0 then 2 + (bodL t.key).length else 0 : Nat) = S at *
    generalize ckP t.key = z at *
    generalize t.sn = n at *
    clear hz hf ht h
    go_enter Try.func7, Try.ntmps7
    go_wp2_with (first
      | (go_at_call 17; refine (live7_any _).mono ?_; rintro e w9 ⟨rfl, b9⟩)
      | (go_at_call 19; refine (num7 _ _).mono ?_; rintro e wn ⟨rfl, rfl⟩)
      | (go_at_call 20; have kk := b2; refine (HSZ.out _ (bt (bt BX d1) b2)).mono ?_; rintro e w3 ⟨rfl, b3⟩)
      | (have kk := b2; refine ldT (.tmp 3) (by rfl) rfl (w.heap.size + 1) t rfl (by exact (RT.below d1 RT.lt).below b2 (RT.below d1 RT.lt).lt) ?_)
      | (go_at_call 18; have kk := d1; refine (HPK.out _ _ (bt BX d1) r1).mono ?_; rintro e w2 ⟨pa, pc, rfl, b2⟩)
      | (refine bsT (.tmp 16) (by rfl) rfl t rfl ?_; intro g1 w1 hge1 d1 r1)
      | (refine ldT (.tmp 3) (by rfl) rfl (w.heap.size + 1) t rfl RT ?_)
      | (refine ldA (.tmp 2) (by rfl) rfl w.heap.size 0 src rfl RS.range ?_))
    go_ret
    exact ⟨rfl, bt (bt (bt (bt BX d1) b2) b3) b9⟩
theorem sizes_any (src : Ad) (t : Tl) (w : World) (ht : TSrc w t) (hf : TFit t.key) :
    Calls Try.prog 7 #[(Value.agg (acells src).toArray), .agg (tcells t).toArray] w fun e w' => e = .returned (.bool true) ∧ Below w.heap.size w w' := by
  by_cases h : t.sn ≤ 200
  · exact sizes_walk src t w ht hf h
  · exact sizes_long src t w (by omega)
end Go.Proofs.Ytognnfknbkedgaa

namespace Go.Proofs.Ytognnfknbkedgaa
open Go.RowKit Go.ChangeShapes Go.WideShapes Go.ChangeAt Go.Deep
set_option maxRecDepth 100000
theorem own : ownKnob Try.prog.godebug = none := by kernel_rfl
theorem laid_out : laidOutB Try.prog = true := by kernel_rfl
/-- What a walk is told of a slice of integers that came in: it is nil; or it leads to a row of 'cap' cells, the numbers 'zs' (the first 'len' are its elements, the rest its spare room), each fitting its kind. -/
def IsRow (k : IntKind) (w : World) (a : Option Addr) (len cap : Nat) (zs : List Int) : Prop :=
  (a = none ∧ len = 0 ∧ cap = 0 ∧ zs = []) ∨
  ∃ x, a = some x ∧ len ≤ cap ∧ cap ≤ maxLen ∧ zs.length = cap ∧ (∀ i, i < zs.length → w.cell? (x.add i) = some (.int k (zs.getD i 0))) ∧ ∀ n ∈ zs, (Lit.int k n).wf = true

theorem IsRow.src {k : IntKind} {w : World} {a : Option Addr} {len cap : Nat} {zs : List Int} (h : IsRow k w a len cap zs) : Src w a len cap ((zs.take len).map (Value.int k)) ∧ (∀ n ∈ zs, (Lit.int k n).wf = true) ∧ len ≤ maxLen := by
  rcases h with ⟨rfl, rfl, rfl, rfl⟩ | ⟨x, rfl, h1, h2, h3, h4, h5⟩
  · exact ⟨Src.nil w, by simp, by unfold maxLen; omega⟩
  · refine ⟨⟨by simp; omega, (fun h => by cases h), fun ad had j u hu => ?_⟩, h5, Nat.le_trans h1 h2⟩
    cases had
    have hj : j < ((zs.take len).map (Value.int k)).length := (List.getElem?_eq_some_iff.1 hu).1
    simp at hj
    rw [h4 j (by omega)]
    rw [List.getElem?_map, List.getElem?_take_of_lt (by omega), List.getElem?_eq_getElem (by omega)] at hu
    simp at hu
    simp [List.getD, List.getElem?_eq_getElem (show j < zs.length by omega), hu]

theorem IsRow.le {k : IntKind} {w : World} {a : Option Addr} {len cap : Nat} {zs : List Int} (h : IsRow k w a len cap zs) : len ≤ cap := by
  rcases h with ⟨_, h1, h2, _⟩ | ⟨_, _, h1, _⟩
  · omega
  · exact h1

theorem IsRow.bytes {w : World} {a : Option Addr} {len cap : Nat} {zs : List Int} (h : IsRow .u8 w a len cap zs) : ∃ l, Src w a len cap (bcells l) := by
  obtain ⟨h1, h2, _⟩ := h.src
  refine ⟨(zs.take len).map fun z => UInt8.ofNat z.toNat, ?_⟩
  have e : bcells ((zs.take len).map fun z => UInt8.ofNat z.toNat) = (zs.take len).map (Value.int .u8) := by
    unfold bcells
    rw [List.map_map]
    refine List.map_congr_left fun z hz => ?_
    have hb := bounds_u8 (h2 z (List.mem_of_mem_take hz))
    simp
    omega
  rw [e]
  exact h1

section
variable {H : Type} {enc : TypeId × Value → H} {w : World} {base : Nat} {held : Bool} {r : Reach} {b0 : Nat} {v : Value} {d : DataW H} {p : List MemPlace}
end
theorem okWide_arr {P : Program} {w : World} {r : Reach} {b t n : Nat} {e : TypeId} {v : Value} (ht : P.underlying t = some (.array n e)) (h : Value.okWide P w r b t v) : ∃ cs, v = .agg cs := by
  simp only [Value.okWide, ht] at h
  obtain ⟨cs, h1, _⟩ := h
  exact ⟨cs, h1⟩
section
variable {H : Type} {enc : TypeId × Value → H} {w : World} {base : Nat} {spare : Nat → Bool} {held : Bool}
theorem bytes_of (m : Nat) : ∀ (cs : List Value) (xs : List (DataW H × List MemPlace)), cs.length = xs.length → (∀ i, i < xs.length → DataW.trod enc Try.prog w base spare held m 5 ((cs.drop i).take 1) = xs[i]?) → ∃ l : List UInt8, cs = bcells l
  | [], _, _, _ => ⟨[], rfl⟩
  | c :: r, [], h, _ => by simp at h
  | c :: r, x :: ys, h, k => by
    obtain ⟨l, rfl⟩ := bytes_of m r ys (by simpa using h) (fun i hi => by have := k (i + 1) (by simp; omega); simpa using this)
    obtain ⟨n, e1, _, hw⟩ := DataW.trod_int Try.underlying5 (show DataW.trod enc Try.prog w base spare held m 5 [c] = some x by simpa using k 0 (by simp))
    obtain ⟨h0, h1⟩ := bounds_u8 hw
    simp only [List.cons.injEq, and_true] at e1
    refine ⟨UInt8.ofNat n.toNat :: l, ?_⟩
    rw [e1]
    show _ = Value.int .u8 ((UInt8.ofNat n.toNat).toNat : Int) :: bcells l
    have : (UInt8.ofNat n.toNat).toNat = n.toNat := by simp; omega
    rw [this]
    congr 2
    omega
theorem cellsA : Try.prog.cellsOf 26 = 16 := by kernel_rfl
theorem cells_u8 : Try.prog.cellsOf 5 = 1 := by kernel_rfl
theorem ad_of {fuel : Nat} {cs : List Value} {x : DataW H × List MemPlace} (h : DataW.trod enc Try.prog w base spare held fuel 26 cs = some x) : ∃ a : Ad, cs = acells a := by
  obtain ⟨xs, m, _, _, hl, hn, hel⟩ := DataW.trod_array Try.underlying26 h
  rw [cells_u8] at hel
  obtain ⟨l, rfl⟩ := bytes_of m cs xs (by rw [hl, hn, cellsA]) (fun i hi => by have := hel i (by omega); rwa [Nat.mul_one] at this)
  exact ⟨⟨l, by rw [bcells_length, cellsA] at hl; exact hl⟩, rfl⟩
variable {r : Reach} {b0 : Nat} {v : Value} {d : DataW H} {p : List MemPlace}
set_option maxRecDepth 100000 in
theorem openA (hv : Value.okWide Try.prog w r b0 26 v) (h : DataW.Trod enc Try.prog w base spare held 26 v d p) : ∃ a : Ad, v = (Value.agg (acells a).toArray) := by
  obtain ⟨cs, rfl⟩ := okWide_arr Try.underlying26 hv
  obtain ⟨fuel, hf⟩ := h
  obtain ⟨a, ha⟩ := ad_of hf
  exact ⟨a, by rw [← ha]; simp [Value.cells]⟩
end
/-- The readings of arguments stay where nothing that was there is written. -/
theorem all_stay {H : Type} {enc : TypeId × Value → H} {P : Program} (hl : laidOutB P = true) {W W' : World} (hb : Below W.heap.size W W') : ∀ (ts : List TypeId) (vs : List Value) (ds : List (DataW H)) (p : List MemPlace), (ts.all fun t => P.readableRec t && decide (t < P.types.size)) = true → DataW.TrodAll enc P W 0 (fun _ => true) true ts vs ds p → DataW.TrodAll enc P W' 0 (fun b => decide (b < W.heap.size)) true ts vs ds p
  | [], vs, ds, p, _, h => by
    obtain ⟨rfl, rfl, rfl⟩ := trodAll_nil h
    exact trodAll_mk0
  | t :: ts, vs, ds, p, hr, h => by
    obtain ⟨v0, vs0, d0, ds0, p0, q0, rfl, rfl, rfl, h0, r0⟩ := trodAll_cons h
    simp only [List.all_cons, Bool.and_eq_true, decide_eq_true_eq] at hr
    refine trodAll_cons_mk (Below.trod hl hr.1.1 hr.1.2 h0 hb ?_) (all_stay hl hb ts vs0 ds0 q0 (by simpa using hr.2) r0)
    obtain ⟨m, hm⟩ := h0
    exact DataW.trod_lt m _ _ _ hm
end Go.Proofs.Ytognnfknbkedgaa

namespace Go.Proofs.Ytognnfknbkedgaa
open Go.RowKit Go.ChangeShapes Go.WideShapes Go.ChangeAt Go.Deep
set_option maxRecDepth 100000
section
variable {H : Type} {enc : TypeId × Value → H} {w : World} {base : Nat} {held : Bool}
theorem cellsP : Try.prog.cellsOf 28 = 17 := by kernel_rfl
theorem cellsQ : Try.prog.cellsOf 30 = 34 := by kernel_rfl
theorem cells_int : Try.prog.cellsOf 3 = 1 := by kernel_rfl
theorem cells_u16 : Try.prog.cellsOf 22 = 1 := by kernel_rfl
theorem cells_bool : Try.prog.cellsOf 4 = 1 := by kernel_rfl
theorem cells_I : Try.prog.cellsOf 24 = 8 := by kernel_rfl
theorem cells_L : Try.prog.cellsOf 31 = 1 := by kernel_rfl
theorem cells_T : Try.prog.cellsOf 33 = 68 := by kernel_rfl
theorem cells_u32 : Try.prog.cellsOf 63 = 1 := by kernel_rfl
theorem pf_of {fuel : Nat} {cs : List Value} {x : DataW H × List MemPlace} (h : DataW.trod enc Try.prog w base (fun _ => true) held fuel 28 cs = some x) : ∃ p : Pf, cs = pcells p := by
  obtain ⟨y0, y1, n, _, hl, h0, h1⟩ := trod_struct2 Try.underlying28 h
  dsimp only at h0 h1
  rw [cellsA] at h0
  rw [cells_int] at h1
  rw [cellsP] at hl
  obtain ⟨a, ha⟩ := ad_of h0
  obtain ⟨k, e1, _, hw⟩ := DataW.trod_int Try.underlying3 h1
  refine ⟨⟨a, k⟩, ?_⟩
  rw [pcells, ← ha, ← e1, List.drop_zero]
  have : (cs.drop 16).take 1 = cs.drop 16 := List.take_of_length_le (by simp; omega)
  rw [this, List.take_append_drop]
theorem pr_of {fuel : Nat} {cs : List Value} {x : DataW H × List MemPlace} (h : DataW.trod enc Try.prog w base (fun _ => true) held fuel 30 cs = some x) : ∃ q : Pr, cs = qcells q := by
  obtain ⟨y0, y1, n, _, hl, h0, h1⟩ := trod_struct2 Try.underlying30 h
  dsimp only at h0 h1
  rw [cellsP] at h0 h1
  rw [cellsQ] at hl
  obtain ⟨d, hd⟩ := pf_of h0
  obtain ⟨s, hs⟩ := pf_of h1
  refine ⟨⟨d, s⟩, ?_⟩
  rw [qcells, ← hd, ← hs, List.drop_zero]
  have : (cs.drop 17).take 17 = cs.drop 17 := List.take_of_length_le (by simp; omega)
  rw [this, List.take_append_drop]
theorem id_of {fuel : Nat} {cs : List Value} {x : DataW H × List MemPlace} (h : DataW.trod enc Try.prog w base (fun _ => true) held fuel 24 cs = some x) : ∃ a : Id8, cs = icells a := by
  obtain ⟨xs, m, _, _, hl, hn, hel⟩ := DataW.trod_array Try.underlying24 h
  rw [cells_u8] at hel
  obtain ⟨l, rfl⟩ := bytes_of m cs xs (by rw [hl, hn, cells_I]) (fun i hi => by have := hel i (by omega); rwa [Nat.mul_one] at this)
  exact ⟨⟨l, by rw [bcells_length, cells_I] at hl; exact hl⟩, rfl⟩
theorem st_of {fuel : Nat} {cs : List Value} {x : DataW H × List MemPlace} (h : DataW.trod enc Try.prog w base (fun _ => true) held fuel 31 cs = some x) : ∃ a n c st, cs = [.slice a n c] ∧ Src w a n c (wcells st) := by
  rcases open_ints Try.underlying31 Try.underlying63 cells_u32 h with ⟨hcs, _⟩ | ⟨x, l, c, zs, hcs, _, hl, hm, hz, _, hcell, hwz⟩
  · exact ⟨none, 0, 0, [], hcs, Src.nil w⟩
  · have hr : IsRow .u32 w (some x) l c zs := .inr ⟨_, rfl, hl, hm, by simpa using hz, hcell, hwz⟩
    obtain ⟨h1, h2, _⟩ := hr.src
    refine ⟨some x, l, c, (zs.take l).map fun z => UInt32.ofNat z.toNat, hcs, ?_⟩
    have e : wcells ((zs.take l).map fun z => UInt32.ofNat z.toNat) = (zs.take l).map (Value.int .u32) := by
      unfold wcells
      rw [List.map_map]
      refine List.map_congr_left fun z hz => ?_
      have hb := bounds_u32 (h2 z (List.mem_of_mem_take hz))
      simp
      omega
    rw [e]
    exact h1
theorem drop_split (cs : List Value) (o n m : Nat) (h : o + n = m) : cs.drop o = (cs.drop o).take n ++ cs.drop m := by
  rw [← h, ← List.drop_drop, List.take_append_drop]
theorem nat_of16 {z : Int} (h : (Lit.int .u16 z).wf = true) : ∃ n : Nat, z = n ∧ n < 65536 := by
  obtain ⟨h0, h1⟩ := bounds_u16 h
  exact ⟨z.toNat, by omega, by omega⟩
theorem nat_of8 {z : Int} (h : (Lit.int .u8 z).wf = true) : ∃ n : Nat, z = n ∧ n < 256 := by
  obtain ⟨h0, h1⟩ := bounds_u8 h
  exact ⟨z.toNat, by omega, by omega⟩
theorem tl_of {fuel : Nat} {cs : List Value} {x : DataW H × List MemPlace} (h : DataW.trod enc Try.prog w base (fun _ => true) held fuel 33 cs = some x) : ∃ t : Tl, cs = tcells t ∧ TSrc w t ∧ TFit t.key := by
  obtain ⟨xs, n, _, _, hl, hlen, hf⟩ := DataW.trod_struct Try.underlying33 h
  rw [cells_T] at hl
  match xs, hlen with
  | [y0, y1, y2, y3, y4, y5, y6, y7, y8, y9, y10, y11, y12], _ =>
    have f0 : DataW.trod enc Try.prog w base (fun _ => true) held n 5 ((cs.drop 0).take (Try.prog.cellsOf 5)) = some y0 := hf 0 _ rfl
    have f1 : DataW.trod enc Try.prog w base (fun _ => true) held n 22 ((cs.drop 1).take (Try.prog.cellsOf 22)) = some y1 := hf 1 _ rfl
    have f2 : DataW.trod enc Try.prog w base (fun _ => true) held n 22 ((cs.drop 2).take (Try.prog.cellsOf 22)) = some y2 := hf 2 _ rfl
    have f3 : DataW.trod enc Try.prog w base (fun _ => true) held n 22 ((cs.drop 3).take (Try.prog.cellsOf 22)) = some y3 := hf 3 _ rfl
    have f4 : DataW.trod enc Try.prog w base (fun _ => true) held n 22 ((cs.drop 4).take (Try.prog.cellsOf 22)) = some y4 := hf 4 _ rfl
    have f5 : DataW.trod enc Try.prog w base (fun _ => true) held n 22 ((cs.drop 5).take (Try.prog.cellsOf 22)) = some y5 := hf 5 _ rfl
    have f6 : DataW.trod enc Try.prog w base (fun _ => true) held n 5 ((cs.drop 6).take (Try.prog.cellsOf 5)) = some y6 := hf 6 _ rfl
    have f7 : DataW.trod enc Try.prog w base (fun _ => true) held n 4 ((cs.drop 7).take (Try.prog.cellsOf 4)) = some y7 := hf 7 _ rfl
    have f8 : DataW.trod enc Try.prog w base (fun _ => true) held n 4 ((cs.drop 8).take (Try.prog.cellsOf 4)) = some y8 := hf 8 _ rfl
    have f9 : DataW.trod enc Try.prog w base (fun _ => true) held n 24 ((cs.drop 9).take (Try.prog.cellsOf 24)) = some y9 := hf 9 _ rfl
    have f10 : DataW.trod enc Try.prog w base (fun _ => true) held n 26 ((cs.drop 17).take (Try.prog.cellsOf 26)) = some y10 := hf 10 _ rfl
    have f11 : DataW.trod enc Try.prog w base (fun _ => true) held n 30 ((cs.drop 33).take (Try.prog.cellsOf 30)) = some y11 := hf 11 _ rfl
    have f12 : DataW.trod enc Try.prog w base (fun _ => true) held n 31 ((cs.drop 67).take (Try.prog.cellsOf 31)) = some y12 := hf 12 _ rfl
    rw [cells_u8] at f0 f6
    rw [cells_u16] at f1 f2 f3 f4 f5
    rw [cells_bool] at f7 f8
    rw [cells_I] at f9
    rw [cellsA] at f10
    rw [cellsQ] at f11
    rw [cells_L] at f12
    obtain ⟨z0, e0, _, w0⟩ := DataW.trod_int Try.underlying5 f0
    obtain ⟨z1, e1, _, w1⟩ := DataW.trod_int Try.underlying22 f1
    obtain ⟨z2, e2, _, w2⟩ := DataW.trod_int Try.underlying22 f2
    obtain ⟨z3, e3, _, w3⟩ := DataW.trod_int Try.underlying22 f3
    obtain ⟨z4, e4, _, w4⟩ := DataW.trod_int Try.underlying22 f4
    obtain ⟨z5, e5, _, w5⟩ := DataW.trod_int Try.underlying22 f5
    obtain ⟨z6, e6, _, w6⟩ := DataW.trod_int Try.underlying5 f6
    obtain ⟨b7, e7, _⟩ := DataW.trod_bool Try.underlying4 f7
    obtain ⟨b8, e8, _⟩ := DataW.trod_bool Try.underlying4 f8
    obtain ⟨i9, e9⟩ := id_of f9
    obtain ⟨a10, e10⟩ := ad_of f10
    obtain ⟨q11, e11⟩ := pr_of f11
    obtain ⟨sa, sn, sc, st, e12, hst⟩ := st_of f12
    obtain ⟨n0, rfl, k0⟩ := nat_of8 w0
    obtain ⟨n1, rfl, k1⟩ := nat_of16 w1
    obtain ⟨n2, rfl, k2⟩ := nat_of16 w2
    obtain ⟨n3, rfl, k3⟩ := nat_of16 w3
    obtain ⟨n4, rfl, k4⟩ := nat_of16 w4
    obtain ⟨n5, rfl, k5⟩ := nat_of16 w5
    obtain ⟨n6, rfl, k6⟩ := nat_of8 w6
    refine ⟨⟨n0, n1, n2, n3, n4, n5, n6, b7, b8, i9, a10, q11, sa, sn, sc, st⟩, ?_, hst, ⟨k0, k1, k2, k3, k4, k5, k6⟩⟩
    have g0 := drop_split cs 0 1 1 rfl
    have g1 := drop_split cs 1 1 2 rfl
    have g2 := drop_split cs 2 1 3 rfl
    have g3 := drop_split cs 3 1 4 rfl
    have g4 := drop_split cs 4 1 5 rfl
    have g5 := drop_split cs 5 1 6 rfl
    have g6 := drop_split cs 6 1 7 rfl
    have g7 := drop_split cs 7 1 8 rfl
    have g8 := drop_split cs 8 1 9 rfl
    have g9 := drop_split cs 9 8 17 rfl
    have g10 := drop_split cs 17 16 33 rfl
    have g11 := drop_split cs 33 34 67 rfl
    have g12 := drop_split cs 67 1 68 rfl
    have gl : cs.drop 68 = [] := List.drop_eq_nil_of_le (by omega)
    rw [gl, e12] at g12
    rw [g12, e11] at g11
    rw [g11, e10] at g10
    rw [g10, e9] at g9
    rw [g9, e8] at g8
    rw [g8, e7] at g7
    rw [g7, e6] at g6
    rw [g6, e5] at g5
    rw [g5, e4] at g4
    rw [g4, e3] at g3
    rw [g3, e2] at g2
    rw [g2, e1] at g1
    rw [g1, e0] at g0
    rw [List.drop_zero] at g0
    rw [g0]
    simp [tcells, tnum]
variable {r : Reach} {b0 : Nat} {v : Value} {d : DataW H} {p : List MemPlace}
theorem openT (hv : Value.okWide Try.prog w r b0 33 v) (h : DataW.Trod enc Try.prog w base (fun _ => true) held 33 v d p) : ∃ t : Tl, v = .agg (tcells t).toArray ∧ TSrc w t ∧ TFit t.key := by
  obtain ⟨cs, rfl, _⟩ := okWide_struct Try.underlying33 hv
  obtain ⟨fuel, hf⟩ := h
  obtain ⟨t, ht, h1, h2⟩ := tl_of hf
  exact ⟨t, by rw [← ht]; simp [Value.cells], h1, h2⟩
end
end Go.Proofs.Ytognnfknbkedgaa
