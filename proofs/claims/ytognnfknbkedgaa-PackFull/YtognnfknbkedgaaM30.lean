/-
  The function live of the statements of layer 7 returns true, whatever the memory, and turns nothing that was there.
-/
import Derived.Test.YtognnfknbkedgaaM29
import Derived.Test.YtognnfknbkedgaaM26
namespace Go.Proofs.Ytognnfknbkedgaa
open Go.RowKit
set_option linter.unusedSimpArgs false
set_option maxRecDepth 20000

set_option maxHeartbeats 4000000 in
theorem live7_any (w : World) : Calls Try.prog 17 #[] w fun e w' => e = .returned (.bool true) ∧ Below w.heap.size w w' := by
  obtain ⟨tAq, hA⟩ : ∃ t, t = l7T 32 := ⟨_, rfl⟩
  obtain ⟨tB, hB⟩ : ∃ t, t = l7T 33 := ⟨_, rfl⟩
  obtain ⟨S, hS⟩ : ∃ t, t = lwS := ⟨_, rfl⟩
  obtain ⟨Q, hQ⟩ : ∃ t : Pr, t = ⟨l7P 32, zeroP⟩ := ⟨_, rfl⟩
  have HPK := l7_pack
  have HPA := l7_parse
  have HSZ := l7_size
  have HBD := l7_bad
  have HSM := l7_sames
  have SE := l7SE
  have QE := l7QE
  have BD := l7bd
  have SET := l7set
  have BS := @bsL7
  rw [← hA, ← hB, ← hS] at HPK
  rw [← hA, ← hB] at HSM BS SET
  rw [← hA, ← hB, ← hS] at HPA
  rw [← hA] at HSZ
  rw [← hS] at HBD SE
  rw [← hQ] at QE
  rw [← hA, ← hS, ← hQ] at BD
  have HC33 : Hid (∀ W g, Row W g 33 (tcells tAq) → (∃ v, W.cell? ⟨g, 33, none⟩ = some v) ∧ W.frozen? ⟨g, 33, none⟩ = false) := fun W g r => ⟨⟨.int .u8 32, (r.cell 33).trans (by rw [hA]; rfl)⟩, r.frozen 33⟩
  have HSET : Hid ((tcells tAq).set 33 (.int .u8 33) = tcells tB) := SET
  have HBDH : Hid (∀ w, (Instr.build 33 #[(0, .int .u8 8), (2, .int .u16 100), (3, .int .u16 1), (5, .int .u16 32), (9, .agg #[.int .u8 0, .int .u8 0, .int .u8 0, .int .u8 0, .int .u8 0, .int .u8 0, .int .u8 0, .int .u8 1]), (10, (Value.agg (acells S).toArray)), (11, (Value.agg (qcells Q).toArray))]).run Try.prog w = .ok (.agg (tcells tAq).toArray) w) := BD
  have HBS : Hid (∀ {ops : Array Oper} {rest : List Oper} {op : Oper} {a : Act} {w : World} {Q' : Exit → Act → World → Prop} (x y : Operand) (_ : Region.wanted op (yielded ops a.tmps) = true) (_ : op.op = .buildSlice 41 2 #[(0, x), (1, y)]) (_ : a.eval x = .agg (tcells tAq).toArray) (_ : a.eval y = .agg (tcells tB).toArray)
    (_ : ∀ g W, Below w.heap.size w W → TlW W (some ⟨g, 0, none⟩) 2 [tAq, tB] → wpList Try.prog ops Q' rest (a.put op.dst (.slice (some ⟨g, 0, none⟩) 2 2)) W), wpList Try.prog ops Q' (op :: rest) a w) := BS
  clear hA hB hS hQ SET BD BS
  have hPK : Hid (∀ (W : World) (g : Nat), TlW W (some ⟨g, 0, none⟩) 2 [tAq, tB] → Calls Try.prog 18 #[(Value.agg (acells S).toArray), .int .i64 1000, .slice (some ⟨g, 0, none⟩) 2 2] W fun e w' => ∃ g' c qa qc, e = .returned (.tuple #[.slice (some ⟨g', 0, none⟩) 1 c, .int .i64 0]) ∧ g' < w'.heap.size ∧ w'.cell? ⟨g', 0, none⟩ = some (.slice qa 42 qc) ∧ Src w' qa 42 qc (bcells l7B) ∧ Below W.heap.size W w') := HPK
  have hSZ : Hid (∀ W, Calls Try.prog 20 #[.agg (tcells tAq).toArray] W (Gives W (.int .i64 13))) := HSZ
  have hBD : Hid (∀ (W : World) (g : Nat), Calls Try.prog 18 #[(Value.agg (acells S).toArray), .int .i64 63, .slice (some ⟨g, 0, none⟩) 1 1] W fun e w' => ∃ a n c, e = .returned (.tuple #[.slice a n c, .int .i64 2]) ∧ Below W.heap.size W w') := HBD
  have hPA : Hid (∀ (W : World) (a : Option Addr) (c : Nat), Src W a 42 c (bcells l7B) → Calls Try.prog 14 #[(Value.agg (acells S).toArray), .slice a 42 c] W fun e w' => ∃ a c ts, e = .returned (.tuple #[.slice a 2 c, .int .i64 0]) ∧ TlW w' a 2 ts ∧ Hid (ts.map Tl.key = [tAq, tB].map Tl.key) ∧ Below W.heap.size W w') := HPA
  have hSM : Hid (∀ (W : World) (a : Option Addr) (c g : Nat) (ts : List Tl), TlW W a 2 ts → Hid (ts.map Tl.key = [tAq, tB].map Tl.key) → TlW W (some ⟨g, 0, none⟩) 2 [tAq, tB] → Calls Try.prog 15 #[.slice a 2 c, .slice (some ⟨g, 0, none⟩) 2 2] W fun e w' => e = .returned (.bool true) ∧ Below W.heap.size W w') := HSM
  clear HPK HSZ HBD HPA HSM
  go_enter Try.func17, Try.ntmps17
  go_wp2_with (first
    | (go_at_call 20; have kk := b8; refine (hSZ.out _).mono ?_; rintro e w9 ⟨rfl, b9⟩; have c9 := (b9.cell (p := ⟨gK, 0, none⟩) (Nat.lt_of_lt_of_le hgK (Nat.le_trans d7.size b8.size))).trans c8; have rS9 := rS8.below b9 rS8.lt; have rA9 := rA8.below b9 rA8.lt; have rB9 := rB8.below b9 rB8.lt; have sK9 := sK8.below b9 sK8.lt; have B9 := bt B8 b9)
    | (have kk := b8; refine ldT (.tmp 3) (by rfl) rfl gA tAq rfl rA8 ?_; try simp only [Act.put, List.setIfInBounds_toArray, List.set_cons_zero, List.set_cons_succ])
    | (go_at_call 19; refine (num7 _ _).mono ?_; rintro e wn ⟨rfl, rfl⟩)
    | (go_at_call 18; have kk := d7; refine (hBD.out _ _).mono ?_; rintro e w8 ⟨a8, n8, c8', rfl, b8⟩; have c8 := (b8.cell (p := ⟨gK, 0, none⟩) (Nat.lt_of_lt_of_le hgK d7.size)).trans c7; have rS8 := rS7.below b8 rS7.lt; have rA8 := rA7.below b8 rA7.lt; have rB8 := rB7.below b8 rB7.lt; have sK8 := sK7.below b8 sK7.lt; have B8 := bt B7 b8)
    | (have kk := b6; refine bsT (.tmp 34) (by rfl) rfl tAq rfl ?_; intro g7 w7 hge7 d7 r7; have c7 := (d7.cell (p := ⟨gK, 0, none⟩) hgK).trans cK; have rS7 := rS6.below d7 rS6.lt; have rA7 := rA6.below d7 rA6.lt; have rB7 := rB6.below d7 rB6.lt; have sK7 := sK.below d7 sK.lt; have B7 := bt B6 d7; try simp only [Act.put, List.setIfInBounds_toArray, List.set_cons_zero, List.set_cons_succ])
    | (have kk := b6; refine ldT (.tmp 3) (by rfl) rfl gA tAq rfl rA6 ?_; try simp only [Act.put, List.setIfInBounds_toArray, List.set_cons_zero, List.set_cons_succ])
    | (have kk := b6; refine ldA (.tmp 1) (by rfl) rfl gS 0 S rfl rS6.range ?_; try simp only [Act.put, List.setIfInBounds_toArray, List.set_cons_zero, List.set_cons_succ])
    | (go_at_call 18; have kk := d5; refine (hPK.out _ _ tl5).mono ?_; rintro e w6 ⟨gK, cK', qa, qc, rfl, hgK, cK, sK, b6⟩; have rS6 := rS5.below b6 rS5.lt; have rA6 := rA5.below b6 rA5.lt; have rB6 := rB5.below b6 rB5.lt; have B6 := bt B5 b6)
    | (have kk := rB4; refine HBS.out (.tmp 26) (.tmp 27) (by rfl) rfl rfl rfl ?_; intro g5 w5 d5 tl5; have rS5 := (rS4.setOther gB 33 (.int .u8 33) (fun e => hSB.out e.symm)).below d5 (rS4.setOther gB 33 (.int .u8 33) (fun e => hSB.out e.symm)).lt; have rA5 := (rA4.setOther gB 33 (.int .u8 33) (fun e => hAB.out e.symm)).below d5 (rA4.setOther gB 33 (.int .u8 33) (fun e => hAB.out e.symm)).lt; have rB4' : Row (w4.setCell ⟨gB, 33, none⟩ (.int .u8 33)) gB 33 (tcells tB) := (by have h := q4.set 33 (.int .u8 33); rw [HSET.out] at h; exact h); have rB5 := rB4'.below d5 rB4'.lt; have B5 := bt (B4.setCell (p := ⟨gB, 33, none⟩) hgB.out (.int .u8 33)) d5; clear rB4' rB4 rA4 rS4 B4 q4 c33 f33 kk; try simp only [Act.put, List.setIfInBounds_toArray, List.set_cons_zero, List.set_cons_succ])
    | (have kk := q4; refine ldT (.tmp 4) (by rfl) rfl gB tB rfl (by have h := q4.set 33 (.int .u8 33); rw [HSET.out] at h; exact h) ?_; have rB4 := q4; try simp only [Act.put, List.setIfInBounds_toArray, List.set_cons_zero, List.set_cons_succ])
    | (have kk := q4; refine ldT (.tmp 3) (by rfl) rfl gA tAq rfl (by exact rA4.setOther gB 33 (.int .u8 33) (fun e => hAB.out e.symm)) ?_; try simp only [Act.put, List.setIfInBounds_toArray, List.set_cons_zero, List.set_cons_succ])
    | (have kk := q4; refine ldA (.tmp 1) (by rfl) rfl gS 0 S rfl (by exact (rS4.setOther gB 33 (.int .u8 33) (fun e => hSB.out e.symm)).range) ?_; try simp only [Act.put, List.setIfInBounds_toArray, List.set_cons_zero, List.set_cons_succ])
    | (have kk := q3; refine stT (.tmp 4) (.tmp 19) (by rfl) rfl gB tAq zeroT rfl rfl q3 ?_; intro w4 hg4 q4; obtain ⟨⟨v33, c33⟩, f33⟩ := HC33.out _ _ q4; have B4 := B3.grown hg4 B3.size (fun k hk => by cases hk; exact hgB.out); have rA4 := rA3.grown hg4 (fun e => hAB.out (Option.some.inj e)); have rS4 := rS3.grown hg4 (fun e => hSB.out (Option.some.inj e)); clear hg4 rA3 rS3 B3 q3 kk; try simp only [Act.put, List.setIfInBounds_toArray, List.set_cons_zero, List.set_cons_succ])
    | (have kk := r3; refine alG infoTz (by rfl) rfl ?_; intro gB wB b1 b2 b3 q3; have rA3 := r3.below b3 r3.lt; have rS3 := rS2.below b3 rS2.lt; have hAB : Hid (gA ≠ gB) := Nat.ne_of_lt (Nat.lt_of_lt_of_le r3.lt b1); have hSB : Hid (gS ≠ gB) := Nat.ne_of_lt (Nat.lt_of_lt_of_le rS2.lt b1); have hgB : Hid (w.heap.size ≤ gB) := Nat.le_trans B2.size b1; have B3 := bt B2 b3; clear b1 b2 b3 B2 r3 rS2 kk; try simp only [Act.put, List.setIfInBounds_toArray, List.set_cons_zero, List.set_cons_succ])
    | (have kk := r3; refine ldT (.tmp 3) (by rfl) rfl gA tAq rfl r3 ?_; try simp only [Act.put, List.setIfInBounds_toArray, List.set_cons_zero, List.set_cons_succ])
    | (have kk := rA0; refine stT (.tmp 3) (.tmp 18) (by rfl) rfl gA tAq zeroT rfl rfl rA0 ?_; intro w3 hg3 r3; have rS2 := rS1.grown hg3 (fun e => hSA.out (Option.some.inj e)); have B2 := B1.grown hg3 B1.size (fun k hk => by cases hk; exact hgA.out); clear hg3 rA0 rS1 B1 hSA hgA kk; try simp only [Act.put, List.setIfInBounds_toArray, List.set_cons_zero, List.set_cons_succ])
    | (have kk := rQ1; refine alG infoTz (by rfl) rfl ?_; intro gA wA b1 b2 b3 rA0; have hSA : Hid (gS ≠ gA) := Nat.ne_of_lt (Nat.lt_of_lt_of_le rSq.lt b1); have hgA : Hid (w.heap.size ≤ gA) := Nat.le_trans Bq.size b1; have rS1 := rSq.below b3 rSq.lt; have B1 := bt Bq b3; clear b1 b2 b3 rSq Bq rQ1 kk; try simp only [Act.put, List.setIfInBounds_toArray, List.set_cons_zero, List.set_cons_succ])
    | (have kk := rQ1; refine bdG (v := .agg (tcells tAq).toArray) [(0, .const (.int .u8 8)), (2, .const (.int .u16 100)), (3, .const (.int .u16 1)), (5, .const (.int .u16 32)), (9, .tmp 15), (10, .tmp 16), (11, .tmp 17)] (by rfl) rfl ?rbd ?_; exact HBDH.out _; try simp only [Act.put, List.setIfInBounds_toArray, List.set_cons_zero, List.set_cons_succ])
    | (have kk := rQ1; refine ldQ (.tmp 2) (by rfl) rfl gQ 0 Q rfl rQ1.range ?_; try simp only [Act.put, List.setIfInBounds_toArray, List.set_cons_zero, List.set_cons_succ])
    | (have kk := rQ1; refine ldA (.tmp 1) (by rfl) rfl gS 0 S rfl rSq.range ?_; try simp only [Act.put, List.setIfInBounds_toArray, List.set_cons_zero, List.set_cons_succ])
    | (have kk := rQ0; refine stQ0 (.tmp 2) (.tmp 14) (by rfl) rfl gQ Q (qcells zeroQ) (qcells_len _) rfl (by first | rfl | exact QE) rQ0 ?_; intro wq hgq rQ1; have rSq := rSb.grown hgq (fun e => hSQ.out (Option.some.inj e)); have Bq := Bb.grown hgq Bb.size (fun k hk => by cases hk; exact hgQ.out); clear QE rQ0 rSb Bb hgq hSQ hgQ kk; try simp only [Act.put, List.setIfInBounds_toArray, List.set_cons_zero, List.set_cons_succ])
    | (have kk := rSa; refine alG infoQz (by rfl) rfl ?_; intro gQ wQ b1 b2 b3 rQ0; have hSQ : Hid (gS ≠ gQ) := Nat.ne_of_lt (Nat.lt_of_lt_of_le rSa.lt b1); have hgQ : Hid (w.heap.size ≤ gQ) := Nat.le_trans Ba.size b1; have rSb := rSa.below b3 rSa.lt; have Bb := bt Ba b3; clear b1 b2 b3 rSa Ba kk; try simp only [Act.put, List.setIfInBounds_toArray, List.set_cons_zero, List.set_cons_succ])
    | (refine stA0 (.tmp 1) (.tmp 11) (by rfl) rfl gS S (acells zeroA) (acells_len _) rfl (by first | rfl | exact SE) rS0 ?_; intro wa hga rSa; have Ba := s3.grown hga s3.size (fun k hk => by cases hk; exact s1); clear SE; try simp only [Act.put, List.setIfInBounds_toArray, List.set_cons_zero, List.set_cons_succ])
    | (refine alG infoAz (by rfl) rfl ?_; intro gS wS s1 s2 s3 rS0; try simp only [Act.put, List.setIfInBounds_toArray, List.set_cons_zero, List.set_cons_succ]))
  have rS := rS9.below (bd w9) rS9.lt
  have rA := rA9.below (bd w9) rA9.lt
  have rB := rB9.below (bd w9) rB9.lt
  have sK0 := sK9.below (bd w9) sK9.lt
  have BX := bt B9 (bd w9)
  have cX : w9.drew.cell? ⟨gK, 0, none⟩ = some (.slice qa 42 qc) := c9
  have hgX : gK < w9.drew.heap.size := Nat.lt_of_lt_of_le hgK (Nat.le_trans d7.size (Nat.le_trans b8.size b9.size))
  clear rS9 rA9 rB9 sK9 B9 c9 rS8 rA8 rB8 sK8 B8 c8 rS7 rA7 rB7 sK7 B7 c7 rS6 rA6 rB6 B6 cK sK rS5 rA5 rB5 B5 tl5 hgK d7 b8 b9
  refine wp_region_noPanic ?_
  refine wp_region_held_drew (S := fun W => Row W gS 26 (acells S) ∧ W.cell? ⟨gK, 0, none⟩ = some (.slice qa 42 qc)) (by kernel_rfl) (⟨rS, cX⟩) (fun hHeld => ?_)
  refine tL 0 rfl (yA S (fun W hW => hW.1.range) (by rfl) rfl rfl) ?_
  refine tA 1 ?_
  refine tA 2 ?_
  refine tA 3 ?_ (hv := by intro w hSw; (try dsimp only at hSw); have hm := hSw.2; go_simp <;> with_reducible rfl)
  refine r1 4 fun K hK => ?_
  go_simp
  refine (hPA.out _ _ _ sK0).mono ?_
  rintro e w10 ⟨a10, c10, ts, rfl, tl10, hk10, d10⟩
  have rA10 := rA.below d10 rA.lt
  have rB10 := rB.below d10 rB.lt
  have B10 := bt BX d10
  refine oK hK (by exact ⟨rS.below d10 rS.lt, (d10.cell (p := ⟨gK, 0, none⟩) hgX).trans cX⟩) fun hHeld => ?_
  clear hK K
  refine tA 5 ?_
  refine tA 6 ?_
  refine tA 7 ?_
  refine tA 8 ?_
  refine tA 9 ?_
  refine dN ?_
  refine NoPanic.normal ?_
  clear hHeld
  go_wp2_with (first
    | (go_at_call 15; have kk := d11; refine (hSM.out _ _ _ _ _ (tl10.below d11) hk10 tl11).mono ?_; rintro e w12 ⟨rfl, b12⟩)
    | (refine HBS.out (.tmp 77) (.tmp 78) (by rfl) rfl rfl rfl ?_; intro g11 w11 d11 tl11)
    | (refine ldT (.tmp 4) (by rfl) rfl gB tB rfl rB10 ?_; try simp only [Act.put, List.setIfInBounds_toArray, List.set_cons_zero, List.set_cons_succ])
    | (refine ldT (.tmp 3) (by rfl) rfl gA tAq rfl rA10 ?_)
    | (go_at_call 19; refine (num7 _ _).mono ?_; rintro e wn ⟨rfl, rfl⟩))
  go_ret
  exact ⟨rfl, bt (bt B10 d11) b12⟩
end Go.Proofs.Ytognnfknbkedgaa

namespace Go.Proofs.Ytognnfknbkedgaa
open Go.RowKit
set_option linter.unusedSimpArgs false
set_option maxRecDepth 20000

theorem way_id {k : TK} (h : chkT k = 0) (hw : wayB k = true) : k.id.l ≠ zeroI.l := by
  obtain ⟨_, _, h3, _⟩ := chkT_zero h
  unfold wayB at hw
  simp only [Bool.and_eq_true, decide_eq_true_eq] at hw
  unfold fitB at h3
  rw [if_neg (by omega), if_neg (by omega), if_pos hw.1] at h3
  unfold fitU at h3
  split at h3
  · cases h3
  · rw [if_neg (by omega)] at h3
    unfold nobB at h3
    intro e
    rw [decide_eq_true e] at h3
    simp at h3
end Go.Proofs.Ytognnfknbkedgaa

namespace Go.Proofs.Ytognnfknbkedgaa
open Go.RowKit
set_option linter.unusedSimpArgs false
set_option maxRecDepth 20000

theorem open_pk (l : List UInt8) (h : l.length ≤ 65535) : opE (pkL l) = 0 ∧ opB (pkL l) = l := by
  have e : pkL l = 42 :: 2 :: UInt8.ofNat ((UInt16.ofNat l.length).toNat / 256) :: UInt8.ofNat (UInt16.ofNat l.length).toNat :: l := by simp [pkL, be16]
  have en : (UInt16.ofNat l.length).toNat = l.length := by simp; omega
  rw [en] at e
  have e2 : (UInt8.ofNat (l.length / 256)).toNat * 256 + (UInt8.ofNat l.length).toNat = l.length := by simp; omega
  have e3 : opE (pkL l) = 0 := by
    rw [e]
    simp only [opE]
    rw [if_neg (by simp), if_neg (by simp), if_neg (by rw [e2]; simp)]
  refine ⟨e3, ?_⟩
  unfold opB
  rw [if_pos e3, e]
  simp only
  rw [e2, List.take_of_length_le (Nat.le_refl _)]
/-- What Parse answers of a body. -/
structure ToldP (w : World) (a : Option Addr) (n c : Nat) (ts : List Tl) (src : Ad) (b : List UInt8) : Prop where
  key : ts.map Tl.key = tellL (bgS src) (splL b).1
  tlw : TlW w a n ts
  shape : (a = none ∧ n = 0 ∧ c = 0) ∨ ∃ g, a = some ⟨g, 0, none⟩ ∧ n ≤ c ∧ c ≤ maxLen
  le : n ≤ 100000
  st : ∀ t ∈ ts, t.st.length ≤ 100000
theorem ToldP.below {w w' : World} {a : Option Addr} {n c : Nat} {ts : List Tl} {src : Ad} {b : List UInt8} (h : ToldP w a n c ts src b) (hb : Below w.heap.size w w') : ToldP w' a n c ts src b := ⟨h.key, h.tlw.below hb, h.shape, h.le, h.st⟩
end Go.Proofs.Ytognnfknbkedgaa

namespace Go.Proofs.Ytognnfknbkedgaa
open Go.RowKit
set_option linter.unusedSimpArgs false
set_option maxRecDepth 20000

/-- What was told is what the reader knows. -/
structure Rl (o : TS) (s : St) : Prop where
  r : o.r.l ≠ zeroI.l → s.r = some o.r
  h4 : o.k4 = true → s.h4 = some o.h4
  h6 : o.k6 = true → s.h6 = some o.h6
theorem rl_beg (src : Ad) : Rl (begO src) (bgS src) := by
  unfold begO bgS setHop
  split
  · exact ⟨(fun h => absurd rfl h), (fun _ => rfl), (fun h => by cases h)⟩
  · exact ⟨(fun h => absurd rfl h), (fun h => by cases h), (fun _ => rfl)⟩
theorem tell_no (s : St) (t : UInt8) (l : List UInt8) (ks : List PK) (h : sayB s t.toNat l = false) : tellL s ((t, l) :: ks) = tellL (sayS s t.toNat l) ks := by
  rw [tellL]
  simp only
  rw [h]
  rfl
theorem way_nob {k : TK} (h : chkT k = 0) (hw : wayB k = true) : nobB k.id = false := by
  obtain ⟨_, _, h3, _⟩ := chkT_zero h
  unfold wayB at hw
  simp only [Bool.and_eq_true, decide_eq_true_eq] at hw
  unfold fitB at h3
  rw [if_neg (by omega), if_neg (by omega), if_pos hw.1] at h3
  unfold fitU at h3
  split at h3
  · cases h3
  · rw [if_neg (by omega)] at h3
    simpa using h3
/-- A Tlv's own piece. -/
theorem tell_piece (s : St) (k : TK) (hf : TFit k) (hc : chkT k = 0) (hr : wayB k = true → s.r = some k.id ∧ upHop s (famP k.pr.d) = some k.ad) : tellL s [pieK k] = [k] ∧ tellS s [pieK k] = s := by
  have hok := TOk.of hf hc
  have hty : (pieK k).1.toNat = k.ty := by
    show (UInt8.ofNat k.ty).toNat = k.ty
    have := hf.ty
    simp; omega
  have main : sayB s k.ty (bodL k) = true ∧ sayK s k.ty (bodL k) = k ∧ sayS s k.ty (bodL k) = s := by
    have hS : k.ty ≠ 6 → k.ty ≠ 7 → k.ty ≠ 8 → sayS s k.ty (bodL k) = s := fun a b c => by unfold sayS; rw [if_neg a, if_neg b, if_neg c]
    rcases namB_cases hok.nam with e | e | e | e | e | e | e
    · obtain ⟨a, b⟩ := say_of2 s k hf hc e
      exact ⟨by rw [e]; exact a, by rw [e]; exact b, hS (by omega) (by omega) (by omega)⟩
    · obtain ⟨a, b⟩ := say_of3 s k hf hc e
      exact ⟨by rw [e]; exact a, by rw [e]; exact b, hS (by omega) (by omega) (by omega)⟩
    · obtain ⟨a, b⟩ := say_of4 s k hf hc e
      exact ⟨by rw [e]; exact a, by rw [e]; exact b, hS (by omega) (by omega) (by omega)⟩
    · obtain ⟨a, b⟩ := say_of5 s k hf hc e
      exact ⟨by rw [e]; exact a, by rw [e]; exact b, hS (by omega) (by omega) (by omega)⟩
    · obtain ⟨a, b, c⟩ := say_of8 s k hf hc e hr
      exact ⟨by rw [e]; exact a, by rw [e]; exact b, by rw [e]; exact c⟩
    · obtain ⟨a, b⟩ := say_of9 s k hc e
      exact ⟨by rw [e]; exact a, by rw [e]; exact b, hS (by omega) (by omega) (by omega)⟩
    · obtain ⟨a, b⟩ := say_of10 s k hf hc e
      exact ⟨by rw [e]; exact a, by rw [e]; exact b, hS (by omega) (by omega) (by omega)⟩
  obtain ⟨a, b, c⟩ := main
  have hp : pieK k = ((pieK k).1, bodL k) := rfl
  refine ⟨?_, ?_⟩
  · rw [tell_one, hty]
    show (if sayB s k.ty (bodL k) = true then [sayK s k.ty (bodL k)] else []) = _
    rw [a, b]
    rfl
  · show sayS s (pieK k).1.toNat (bodL k) = s
    rw [hty, c]
/-- A Tlv with what stands in front of it. -/
theorem tell_wit (o : TS) (s : St) (k : TK) (hf : TFit k) (hc : ckP k = 0) (hl : Rl o s) : tellL s (witP o k) = [k] ∧ Rl (witS o k) (tellS s (witP o k)) := by
  have hz := ckP_zero hc
  cases hw : wayB k
  · have e1 : witP o k = [pieK k] := by unfold witP; rw [hw]; rfl
    have e2 : witS o k = o := by unfold witS; rw [hw]; rfl
    rw [e1, e2]
    obtain ⟨a, b⟩ := tell_piece s k hf hz (fun h => by rw [hw] at h; cases h)
    exact ⟨a, by rw [b]; exact hl⟩
  · have hfam : famA k.ad = famP k.pr.d := by
      unfold ckP at hc
      rw [if_neg (fun h => h hz)] at hc
      by_cases h : famA k.ad = famP k.pr.d
      · exact h
      · rw [if_pos ⟨hw, h⟩] at hc; cases hc
    have hid := way_id hz hw
    have hnb := way_nob hz hw
    have e1 : witP o k = rtrP o k ++ (hopP o k ++ [pieK k]) := by unfold witP; rw [hw]; simp
    have e2 : witS o k = hopS (rtrS o k) k := by unfold witS; rw [hw]; rfl
    rw [e1, e2]
    -- the router
    have R : tellL s (rtrP o k) = [] ∧ (tellS s (rtrP o k)).r = some k.id ∧ (tellS s (rtrP o k)).h4 = s.h4 ∧ (tellS s (rtrP o k)).h6 = s.h6 := by
      unfold rtrP
      split
      · rename_i h
        have he : o.r = k.id := Id8.ext (of_decide_eq_true h)
        refine ⟨rfl, ?_, rfl, rfl⟩
        have := hl.r (by rw [he]; exact hid)
        rw [he] at this
        exact this
      · obtain ⟨a, b⟩ := say_of6 s k.id hnb
        have e6 : tellS s [rtrK k.id] = { s with r := some k.id } := b
        rw [e6]
        refine ⟨?_, rfl, rfl, rfl⟩
        show tellL s [((6 : UInt8), (rtrK k.id).2)] = []
        rw [tell_no s 6 _ [] a]
        rfl
    obtain ⟨R1, R2, R3, R4⟩ := R
    rw [tellL_append, tellS_append, R1, List.nil_append]
    generalize tellS s (rtrP o k) = s1 at *
    -- the next hop
    have P : tellL s1 (hopP o k) = [] ∧ (tellS s1 (hopP o k)).r = some k.id ∧ upHop (tellS s1 (hopP o k)) (famP k.pr.d) = some k.ad ∧ (famP k.pr.d = 4 → (tellS s1 (hopP o k)).h6 = s1.h6) ∧ (famP k.pr.d ≠ 4 → (tellS s1 (hopP o k)).h4 = s1.h4) := by
      unfold hopP
      split
      · rename_i h
        refine ⟨rfl, R2, ?_, fun _ => rfl, fun _ => rfl⟩
        unfold hasB at h
        unfold upHop
        show (if famP k.pr.d = 4 then s1.h4 else s1.h6) = _
        split at h
        · rename_i hf4
          simp only [Bool.and_eq_true, decide_eq_true_eq] at h
          rw [if_pos hf4, R3, hl.h4 h.2, Ad.ext h.1]
        · rename_i hf4
          simp only [Bool.and_eq_true, decide_eq_true_eq] at h
          rw [if_neg hf4, R4, hl.h6 h.2, Ad.ext h.1]
      · obtain ⟨a, b⟩ := say_of7 s1 k.ad
        have e7 : tellS s1 [hopK k.ad] = setHop s1 (famA k.ad) k.ad := b
        rw [e7, hfam]
        refine ⟨?_, ?_, ?_, ?_, ?_⟩
        · show tellL s1 [((7 : UInt8), (hopK k.ad).2)] = []
          rw [tell_no s1 7 _ [] a]
          rfl
        · unfold setHop; split <;> exact R2
        · unfold setHop upHop
          split <;> rfl
        · intro h; unfold setHop; rw [if_pos h]
        · intro h; unfold setHop; rw [if_neg h]
    obtain ⟨P1, P2, P3, P4, P5⟩ := P
    rw [tellL_append, tellS_append, P1, List.nil_append]
    generalize tellS s1 (hopP o k) = s2 at *
    obtain ⟨a, b⟩ := tell_piece s2 k hf hz (fun _ => ⟨P2, P3⟩)
    rw [a, b]
    refine ⟨rfl, ?_⟩
    unfold hopS rtrS
    unfold upHop at P3
    split
    · rename_i hf4
      rw [if_pos hf4] at P3
      exact ⟨fun _ => P2, fun _ => P3, fun h => by rw [P4 hf4, R4]; exact hl.h6 h⟩
    · rename_i hf4
      rw [if_neg hf4] at P3
      exact ⟨fun _ => P2, fun h => by rw [P5 hf4, R3]; exact hl.h4 h, fun _ => P3⟩
/-! ### Packets -/
theorem spl_pieceK (t : UInt8) (b l : List UInt8) (ht : t ≠ 0) (hb : b.length ≤ 255) : splL (t :: UInt8.ofNat b.length :: (b ++ l)) = ((t, b) :: (splL l).1, (splL l).2) := by
  have e : (UInt8.ofNat b.length).toNat = b.length := by simp; omega
  have ht' : t.toNat ≠ 0 := fun h => ht (UInt8.toNat_inj.1 h)
  rw [splL_cons, if_neg ht']
  simp only
  rw [e, if_neg (by simp), List.take_left, List.drop_left]
theorem spl_encK : ∀ (ps : List PK), PkOk ps → splL (ps.flatMap encK) = (ps, 0)
  | [], _ => splL_nil
  | (t, b) :: ps, h => by
    obtain ⟨h1, h2⟩ := h (t, b) (by simp)
    have ih := spl_encK ps (fun q hq => h q (by simp [hq]))
    rw [List.flatMap_cons]
    unfold encK
    rw [if_neg h1]
    show splL (t :: UInt8.ofNat b.length :: (b ++ ps.flatMap encK)) = _
    rw [spl_pieceK t b _ h1 h2, ih]
theorem par_pkt (src : Ad) (d : DS) (mtu : Int) (h : DOk d mtu) (hm : mtu ≤ 65539) : parE (pktD d) = 0 ∧ parL src (pktD d) = tellL (bgS src) d.ps ∧ ((pktD d).length : Int) ≤ mtu := by
  have hl := encK_len d.ps h.ok
  have hs := h.sum
  have hr := h.room
  obtain ⟨a, b⟩ := open_pk (d.ps.flatMap encK) (by omega)
  have e := spl_encK d.ps h.ok
  refine ⟨?_, ?_, ?_⟩
  · unfold parE pktD
    rw [a, b, e]
    rfl
  · unfold parL pktD
    rw [b, e]
  · unfold pktD
    rw [pkL_len, hl]
    omega
/-- What holds of a packet under way. -/
structure Dw (src : Ad) (mtu : Int) (d : DS) : Prop where
  ok : DOk d mtu
  rl : Rl d.o (tellS (bgS src) d.ps)
  ne : d.ps ≠ [] → tellL (bgS src) d.ps ≠ []
  beg : d.ps = [] → d = begD src mtu
theorem Dw.begin (src : Ad) {mtu : Int} (h : 64 ≤ mtu) : Dw src mtu (begD src mtu) := ⟨DOk.beg src h, rl_beg src, (fun h => absurd rfl h), (fun _ => rfl)⟩
theorem Dw.tak {src : Ad} {mtu : Int} {d : DS} {k : TK} (h : Dw src mtu d) (hf : TFit k) (hc : ckP k = 0) (hb : takB d k = true) : Dw src mtu (takD d k) ∧ tellL (bgS src) (takD d k).ps = tellL (bgS src) d.ps ++ [k] := by
  obtain ⟨a, b⟩ := tell_wit d.o _ k hf hc h.rl
  have e : tellL (bgS src) (takD d k).ps = tellL (bgS src) d.ps ++ [k] := by
    show tellL (bgS src) (d.ps ++ witP d.o k) = _
    rw [tellL_append, a]
  refine ⟨⟨h.ok.tak (TOk.of hf (ckP_zero hc)) hb, ?_, ?_, ?_⟩, e⟩
  · show Rl (witS d.o k) (tellS (bgS src) (d.ps ++ witP d.o k))
    rw [tellS_append]
    exact b
  · intro _
    rw [e]
    simp
  · intro h0
    have : d.ps ++ witP d.o k = [] := h0
    exact absurd (List.append_eq_nil_iff.1 this).2 (witP_ne _ _)
theorem pak_back (src : Ad) (mtu : Int) (h0 : 64 ≤ mtu) (h1 : mtu ≤ 65539) : ∀ (ks : List TK) (d : DS) (acc : List (List UInt8)), (∀ k ∈ ks, TFit k) → Dw src mtu d → (pakR src mtu d ks acc).2 = 0 → ∃ out, (pakR src mtu d ks acc).1 = acc ++ out ∧ (∀ x ∈ out, parE x = 0 ∧ (x.length : Int) ≤ mtu ∧ parL src x ≠ []) ∧ out.flatMap (parL src) = tellL (bgS src) d.ps ++ ks
  | [], d, acc, _, hd, _ => by
    obtain ⟨p1, p2, p3⟩ := par_pkt src d mtu hd.ok h1
    by_cases h : d.ps = []
    · refine ⟨[], by rw [pakR, if_pos h]; simp, (fun x hx => by cases hx), ?_⟩
      rw [h]
      rfl
    · refine ⟨[pktD d], by rw [pakR, if_neg h], ?_, ?_⟩
      · intro x hx
        simp at hx
        subst hx
        exact ⟨p1, p3, by rw [p2]; exact hd.ne h⟩
      · simp [p2]
  | k :: ks, d, acc, hf, hd, he => by
    have hfk := hf k (by simp)
    have hfs : ∀ q ∈ ks, TFit q := fun q hq => hf q (by simp [hq])
    by_cases hc : ckP k = 0
    · cases ht : takB d k
      · cases ht2 : takB (begD src mtu) k
        · rw [pak_mtu hc ht ht2] at he; cases he
        · rw [pak_next hc ht ht2] at he ⊢
          obtain ⟨q1, q2⟩ := (Dw.begin src h0).tak hfk hc ht2
          obtain ⟨out, o1, o2, o3⟩ := pak_back src mtu h0 h1 ks _ _ hfs q1 he
          obtain ⟨p1, p2, p3⟩ := par_pkt src d mtu hd.ok h1
          have hne : d.ps ≠ [] := fun h => by
            rw [hd.beg h, ht2] at ht
            cases ht
          refine ⟨pktD d :: out, by rw [o1]; simp, ?_, ?_⟩
          · intro x hx
            rcases List.mem_cons.1 hx with rfl | hx
            · exact ⟨p1, p3, by rw [p2]; exact hd.ne hne⟩
            · exact o2 x hx
          · rw [List.flatMap_cons, o3, p2, q2]
            show _ ++ (tellL (bgS src) [] ++ [k] ++ ks) = _
            simp [tellL]
      · rw [pak_yes hc ht] at he ⊢
        obtain ⟨q1, q2⟩ := hd.tak hfk hc ht
        obtain ⟨out, o1, o2, o3⟩ := pak_back src mtu h0 h1 ks _ _ hfs q1 he
        refine ⟨out, o1, o2, ?_⟩
        rw [o3, q2]
        simp
    · rw [pak_bad hc] at he
      exact absurd he hc
/-- What Pack's packets tell. -/
theorem pak_told (src : Ad) (mtu : Int) (ks : List TK) (hf : ∀ k ∈ ks, TFit k) (h : (pakL src mtu ks).2 = 0) : (∀ x ∈ (pakL src mtu ks).1, parE x = 0 ∧ (x.length : Int) ≤ mtu ∧ parL src x ≠ [] ∧ x.length ≤ 100000) ∧ (pakL src mtu ks).1.flatMap (parL src) = ks := by
  unfold pakL at h ⊢
  split at h
  · cases h
  · rename_i hm
    rw [if_neg hm]
    obtain ⟨out, o1, o2, o3⟩ := pak_back src mtu (by omega) (by omega) ks (begD src mtu) [] hf (Dw.begin src (by omega)) h
    rw [o1, List.nil_append]
    refine ⟨fun x hx => ?_, by rw [o3]; rfl⟩
    obtain ⟨a, b, c⟩ := o2 x hx
    exact ⟨a, b, c, by omega⟩
theorem pakR_err (src : Ad) (mtu : Int) : ∀ (ks : List TK) (d : DS) (acc : List (List UInt8)), (pakR src mtu d ks acc).2 ≠ 0 → (pakR src mtu d ks acc).1 = []
  | [], d, acc, h => by rw [pakR] at h; exact absurd rfl h
  | k :: ks, d, acc, h => by
    by_cases hc : ckP k = 0
    · cases ht : takB d k
      · cases ht2 : takB (begD src mtu) k
        · rw [pak_mtu hc ht ht2]
        · rw [pak_next hc ht ht2] at h ⊢
          exact pakR_err src mtu ks _ _ h
      · rw [pak_yes hc ht] at h ⊢
        exact pakR_err src mtu ks _ _ h
    · rw [pak_bad hc]
theorem pak_err (src : Ad) (mtu : Int) (ks : List TK) (h : (pakL src mtu ks).2 ≠ 0) : (pakL src mtu ks).1 = [] := by
  unfold pakL at h ⊢
  split at h
  · rename_i hm; rw [if_pos hm]
  · rename_i hm; rw [if_neg hm]; exact pakR_err src mtu ks _ _ h
end Go.Proofs.Ytognnfknbkedgaa

namespace Go.Proofs.Ytognnfknbkedgaa
open Go.RowKit
set_option linter.unusedSimpArgs false
set_option maxRecDepth 20000

theorem TlW.st67 {w : World} {a : Option Addr} {n : Nat} {ts : List Tl} (h : TlW w a n ts) {j : Nat} (hj : j < ts.length) : ∃ g o, a = some ⟨g, o, none⟩ ∧ w.cell? ⟨g, o + j * 68 + 67, none⟩ = some (.slice ts[j].sa ts[j].sn ts[j].sc) := by
  obtain ⟨g, o, e, _, hr⟩ := h.at hj
  exact ⟨g, o, e, hr 67 _ (tcells_get _)⟩
/-- What huge answers: false says that l is short. -/
def Hugd (w : World) (n : Nat) (ts : List Tl) (e : Ending) (w' : World) : Prop := (e = .returned (.bool false) ∧ Hid (n ≤ 200 ∧ ∀ t ∈ ts, t.sn ≤ 200) ∧ Below w.heap.size w w') ∨ (e = .returned (.bool true) ∧ Below w.heap.size w w')
theorem Hugd.yes {w : World} {n : Nat} {ts : List Tl} {w' : World} (h : Below w.heap.size w w') : Hugd w n ts (.returned (.bool true)) w' := .inr ⟨rfl, h⟩
theorem Hugd.tell {w : World} {n : Nat} {ts : List Tl} {w' : World} (hk : ∀ t ∈ ts, t.sn ≤ 200) (h : Below w.heap.size w w') : Hugd w n ts (.returned (.bool (decide ((200 : Int) < (n : Int))))) w' := by
  by_cases hn : (200 : Int) < (n : Int)
  · rw [decide_eq_true hn]; exact .yes h
  · rw [decide_eq_false hn]; exact .inl ⟨rfl, ⟨by omega, hk⟩, h⟩
theorem huge_any (a : Option Addr) (n c : Nat) (ts : List Tl) (w : World) (hs : TlW w a n ts) (hn : n ≤ 9223372036854775807) :
    Calls Try.prog 16 #[.slice a n c] w (Hugd w n ts) := by
  have HN : Hid (n = ts.length) := hs.len.symm
  go_enter Try.func16, Try.ntmps16
  go_wp2
  go_loopw [3] (fun i wr => ∃ j : Nat, j ≤ n ∧ j ≤ 201 ∧ i = .int .i64 j ∧ Hid (∀ t ∈ ts.take j, t.sn ≤ 200) ∧ Below w.heap.size w wr) (fun i _ => n - (intOf i).toNat)
  case atStart => exact ⟨0, Nat.zero_le _, by omega, rfl, (fun t ht => by simp at ht), Below.refl _ _⟩
  case round =>
    obtain ⟨j, hj, hj2, rfl, hall, hb⟩ := hrel
    by_cases hlt : j < n
    · have hlt' : (j : Int) < (n : Int) := by omega
      by_cases h2 : j ≤ 200
      · have h2' : (j : Int) ≤ 200 := by omega
        have hjk : j < ts.length := by have := HN.out; omega
        obtain ⟨g, o, rfl, c67⟩ := (hs.below hb).st67 hjk
        have HM : Hid (ts[j].sn ≤ 200 → ∀ t ∈ ts.take (j + 1), t.sn ≤ 200) := fun h t ht => by
          rw [List.take_succ_eq_append_getElem hjk] at ht
          rcases List.mem_append.1 ht with h1 | h1
          · exact hall.out t h1
          · simp at h1; subst h1; exact h
        generalize ts[j].sa = sa at *
        generalize ts[j].sn = sn at *
        generalize ts[j].sc = sc at *
        by_cases h3 : 200 < sn
        · have h3' : (200 : Int) < (sn : Int) := by omega
          go_wp2
          go_ret
          exact Hugd.yes hb
        · have h3' : ¬ (200 : Int) < (sn : Int) := by omega
          go_wp2
          go_roundw
          case rel => exact ⟨j + 1, by omega, by omega, by go_num, HM.out (by omega), hb⟩
          case measure => simp [intOf]; omega
      · have h2' : ¬ (j : Int) ≤ 200 := by omega
        have h4 : (200 : Int) < (n : Int) := by omega
        go_wp2
        go_ret
        first | exact Hugd.yes hb | (simp only [h4, decide_true]; exact Hugd.yes hb)
    · have hlt' : ¬ (j : Int) < (n : Int) := by omega
      obtain rfl : n = j := by omega
      have HA : Hid (∀ t ∈ ts, t.sn ≤ 200) := fun t ht => hall.out t (by rw [List.take_of_length_le (by have := HN.out; omega)]; exact ht)
      go_wp2
      go_ret
      exact Hugd.tell HA.out hb
theorem pack_any (src : Ad) (mtu : Int) (al : Option Addr) (n cl : Nat) (ts : List Tl) (w : World) (hs : TlW w al n ts) (hf : ∀ t ∈ ts, TFit t.key ∧ t.sn ≤ 100000) (hn : n ≤ 100000) :
    Calls Try.prog 18 #[(Value.agg (acells src).toArray), .int .i64 mtu, .slice al n cl] w (Packd w (pakL src mtu (ts.map Tl.key))) := by
  by_cases h : mtu < 64 ∨ 65539 < mtu
  · exact pack_bad src mtu al n cl _ w h
  · exact pack_ok src mtu al n cl ts w hs hf hn (by omega) (by omega)
section
variable {ops : Array Oper} {rest : List Oper} {op : Oper} {a : Act} {w : World} {Q : Exit → Act → World → Prop}
end
theorem pak_short (src : Ad) {R : List (List UInt8)} {ks : List TK} (h1 : ∀ x ∈ R, parL src x ≠ []) (h2 : R.flatMap (parL src) = ks) : R.length ≤ ks.length := by
  subst h2
  induction R with
  | nil => simp
  | cons x R ih =>
    have := ih (fun y hy => h1 y (by simp [hy]))
    have hx : 0 < (parL src x).length := List.length_pos_iff.2 (h1 x (by simp))
    simp only [List.flatMap_cons, List.length_append, List.length_cons]
    omega
/-- What holds in a round. -/
structure Bw (w W : World) (src : Ad) (vp : Value) (qs : List Part) (v : Value) (us : List Tl) : Prop where
  bel : Below w.heap.size w W
  rS : Row W w.heap.size 26 (acells src)
  ac : Ac w.heap.size W vp qs
  own : W.ownsRow w.heap.size 33 68 v us.length (tcs us)
  stms : ∀ t ∈ us, Stms w.heap.size W t
section
variable {w W W' : World} {src : Ad} {vp v : Value} {qs : List Part} {us : List Tl}
theorem Bw.below (h : Bw w W src vp qs v us) (hb : Below W.heap.size W W') : Bw w W' src vp qs v us :=
  ⟨bt h.bel hb, h.rS.below hb h.rS.lt, h.ac.below hb, own_keep h.own (grownBy_below none hb) (.inr rfl), fun t ht => own_keep (h.stms t ht) (grownBy_below none hb) (.inr rfl)⟩
theorem Bw.app {v' : Value} {ts : List Tl} {N : Nat} (h : Bw w W src vp qs v us) (hst : ∀ t ∈ ts, Stms w.heap.size W t) (hN : N = ts.length) (own' : W'.ownsRow w.heap.size 33 68 v' (us.length + N) (tcs (us ++ ts))) (hg : W.grownBy W' v.ownBlock) : Bw w W' src vp qs v' (us ++ ts) := by
  refine ⟨h.bel.grown hg h.bel.size (fun k hk => (h.own.lt k hk).1), h.rS.grown hg (own_ne h.own h.rS (by decide)), ⟨own_keep h.ac.own hg (own_apart h.ac.own h.own (by decide)), fun q hq => own_keep (h.ac.bods q hq) hg (own_apart (h.ac.bods q hq) h.own (by decide))⟩, by subst hN; simpa using own', fun t ht => ?_⟩
  have k : Stms w.heap.size W t := by
    rcases List.mem_append.1 ht with h1 | h1
    · exact h.stms t h1
    · exact hst t h1
  exact own_keep k hg (own_apart k h.own (by decide))
end
/-- What Parse answers of a packet that Pack made. -/
def Toldt (w W : World) (src : Ad) (l : List UInt8) (e : Ending) (w' : World) : Prop := ∃ g c N us, e = .returned (.tuple #[.slice (some ⟨g, 0, none⟩) N c, .int .i64 0]) ∧ Hid (N = us.length) ∧ 0 < N ∧ N ≤ 100000 ∧ Hid (us.map Tl.key = parL src l) ∧ (∀ j u, (tcs us)[j]? = some u → w'.cell? ((⟨g, 0, none⟩ : Addr).add j) = some u) ∧ (∀ t ∈ us, Stms w.heap.size w' t) ∧ Below W.heap.size W w'
theorem parse_told (w W : World) (src : Ad) (a : Option Addr) (n c : Nat) (l : List UInt8) (hs : Src W a n c (bcells l)) (hw : w.heap.size ≤ W.heap.size) (hl : l.length ≤ 100000) (he : parE l = 0) (hne : parL src l ≠ []) :
    Calls Try.prog 14 #[(Value.agg (acells src).toArray), .slice a n c] W (Toldt w W src l) := by
  refine (parse_any src a n c l W hs (by have := hs.blen; omega)).mono ?_
  rintro e w' ⟨a', c', ts, rfl, hk, hlen, ht, hb⟩
  rw [he]
  have hp : 0 < ts.length := by
    rcases ts with _ | ⟨t, ts⟩
    · exact absurd hk.symm hne
    · simp
  rcases ht.own.2 with ⟨_, h2⟩ | ⟨g, cap, cur, h1, hr⟩
  · omega
  · injection h1 with h2 h3 h4
    subst h2
    exact ⟨g, c', ts.length, ts, rfl, rfl, hp, by omega, hk, ht.own.cells rfl, fun t h => own_le (ht.stms t h) hw, hb⟩
theorem Ac.at {B : Nat} {W : World} {a : Option Addr} {n c : Nat} {qs : List Part} (h : Ac B W (.slice a n c) qs) {j : Nat} (hj : j < qs.length) : ∃ g, a = some ⟨g, 0, none⟩ ∧ W.cell? ⟨g, j, none⟩ = some (.slice qs[j].a qs[j].n qs[j].c) ∧ g < W.heap.size ∧ Src W qs[j].a qs[j].n qs[j].c (bcells qs[j].l) := by
  rcases h.own.2 with ⟨h1, h2⟩ | ⟨g, cap, cur, h1, hb, hh, hr⟩
  · omega
  · injection h1 with h2 h3 h4
    subst h2
    have hc := h.own.cells rfl j (.slice qs[j].a qs[j].n qs[j].c) (by simp [svcells, hj])
    rw [Addr.add_lit, Nat.zero_add] at hc
    exact ⟨g, rfl, hc, lt_of_block hh, own_srcP (h.bods _ (List.getElem_mem hj))⟩
end Go.Proofs.Ytognnfknbkedgaa

namespace Go.Proofs.Ytognnfknbkedgaa
open Go.RowKit
set_option linter.unusedSimpArgs false
set_option maxRecDepth 20000

/-- Packets of a list of Tlvs, each but the last of which had no room for one Tlv more. -/
def Fl (src : Ad) (mtu : Int) : List TK → List (List UInt8) → Prop
  | _, [] => True
  | _, [_] => True
  | ls, x :: y :: out => (parL src x).length < ls.length ∧ (∃ r, pakL src mtu (ls.take ((parL src x).length + 1)) = (r, 0) ∧ r.length = 2) ∧ Fl src mtu (ls.drop (parL src x).length) (y :: out)
theorem pak_full (src : Ad) (mtu : Int) (h0 : 64 ≤ mtu) (h1 : mtu ≤ 65539) : ∀ (ks pre : List TK) (d : DS) (acc : List (List UInt8)), (∀ k ∈ ks, TFit k) → Dw src mtu d → tellL (bgS src) d.ps = pre → (∀ ks' acc', pakR src mtu (begD src mtu) (pre ++ ks') acc' = pakR src mtu d ks' acc') → (pakR src mtu d ks acc).2 = 0 → ∃ out, (pakR src mtu d ks acc).1 = acc ++ out ∧ Fl src mtu (pre ++ ks) out
  | [], pre, d, acc, _, hd, hp, hr, _ => by
    by_cases h : d.ps = []
    · exact ⟨[], by rw [pakR, if_pos h]; simp, trivial⟩
    · exact ⟨[pktD d], by rw [pakR, if_neg h], trivial⟩
  | k :: ks, pre, d, acc, hf, hd, hp, hr, he => by
    have hfk := hf k (by simp)
    have hfs : ∀ q ∈ ks, TFit q := fun q hq => hf q (by simp [hq])
    by_cases hc : ckP k = 0
    · cases ht : takB d k
      · cases ht2 : takB (begD src mtu) k
        · rw [pak_mtu hc ht ht2] at he; cases he
        · have hpk : pakL src mtu (pre ++ [k]) = ([pktD d, pktD (takD (begD src mtu) k)], 0) := by
            unfold pakL
            have hne : ¬ (takD (begD src mtu) k).ps = [] := fun h => witP_ne _ _ (List.append_eq_nil_iff.1 (show (begD src mtu).ps ++ witP (begD src mtu).o k = [] from h)).2
            rw [if_neg (by omega), hr, pak_next hc ht ht2, pakR, if_neg hne]
            rfl
          rw [pak_next hc ht ht2] at he ⊢
          obtain ⟨q1, q2⟩ := (Dw.begin src h0).tak hfk hc ht2
          have q3 : tellL (bgS src) (takD (begD src mtu) k).ps = [k] := q2
          obtain ⟨out, o1, o2⟩ := pak_full src mtu h0 h1 ks [k] _ (acc ++ [pktD d]) hfs q1 q3 (fun ks' acc' => by show pakR src mtu (begD src mtu) (k :: ks') acc' = _; rw [pak_yes hc ht2]) he
          obtain ⟨out', o1', o2', o3'⟩ := pak_back src mtu h0 h1 ks _ (acc ++ [pktD d]) hfs q1 he
          obtain rfl : out = out' := List.append_cancel_left (o1.symm.trans o1')
          obtain ⟨p1, p2, p3⟩ := par_pkt src d mtu hd.ok h1
          rw [hp] at p2
          refine ⟨pktD d :: out, by rw [o1]; simp, ?_⟩
          cases out with
          | nil => rw [q3] at o3'; cases o3'
          | cons y out =>
            unfold Fl
            rw [p2]
            refine ⟨by simp, ⟨[pktD d, pktD (takD (begD src mtu) k)], ?_, rfl⟩, ?_⟩
            · rw [show (pre ++ k :: ks).take (pre.length + 1) = pre ++ [k] by rw [List.take_append, List.take_of_length_le (by omega)]; simp]
              exact hpk
            · rw [List.drop_left]
              exact o2
      · rw [pak_yes hc ht] at he ⊢
        obtain ⟨q1, q2⟩ := hd.tak hfk hc ht
        obtain ⟨out, o1, o2⟩ := pak_full src mtu h0 h1 ks (pre ++ [k]) _ acc hfs q1 (by rw [q2, hp]) (fun ks' acc' => by rw [List.append_assoc, hr]; show pakR src mtu d (k :: ks') acc' = _; rw [pak_yes hc ht]) he
        exact ⟨out, o1, by simpa using o2⟩
    · rw [pak_bad hc] at he
      exact absurd he hc
theorem pak_fl (src : Ad) (mtu : Int) (ks : List TK) (hf : ∀ k ∈ ks, TFit k) (h : (pakL src mtu ks).2 = 0) : Fl src mtu ks (pakL src mtu ks).1 := by
  unfold pakL at h ⊢
  split at h
  · cases h
  · rename_i hm
    rw [if_neg hm]
    obtain ⟨out, o1, o2⟩ := pak_full src mtu (by omega) (by omega) ks [] (begD src mtu) [] hf (Dw.begin src (by omega)) rfl (fun _ _ => rfl) h
    rw [o1, List.nil_append]
    exact o2
end Go.Proofs.Ytognnfknbkedgaa
