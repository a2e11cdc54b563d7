/-
  The contract of ParseId.
-/
import Derived.Test.YtldpocbnkggnnaaDoorD0
namespace Go.Proofs.YtldpocbnkggnnaaDoor
open Go.RowKit
set_option linter.unusedSimpArgs false
set_option maxRecDepth 20000
theorem Row.setOther {w : World} {g : Nat} {t : TypeId} {cs : List Value} (h : Row w g t cs) (g' j : Nat) (v : Value) (hne : g' ≠ g) : Row (w.setCell ⟨g', j, none⟩ v) g t cs := by
  unfold Row at *
  simp [World.setCell, Array.getElem?_modify, h, hne]
def hexL : List UInt8 := [48, 49, 50, 51, 52, 53, 54, 55, 56, 57, 97, 98, 99, 100, 101, 102]
def dgI (c : UInt8) : Int := Lib.indexByte hexL c
theorem dgI_rng (c : UInt8) : dgI c < 0 ∨ ∃ n : Nat, n < 16 ∧ dgI c = n := by
  have h : ((List.range 256).all fun b => decide (dgI (UInt8.ofNat b) < 0) || decide ((dgI (UInt8.ofNat b)).toNat < 16 ∧ 0 ≤ dgI (UInt8.ofNat b))) = true := by kernel_rfl
  have h1 := List.all_eq_true.1 h c.toNat (List.mem_range.2 c.toNat_lt)
  have e : UInt8.ofNat c.toNat = c := by apply UInt8.toNat.inj; simp
  rw [e] at h1
  rcases Bool.or_eq_true _ _ ▸ h1 with h2 | h2
  · exact .inl (of_decide_eq_true h2)
  · have := of_decide_eq_true h2
    exact .inr ⟨_, this.1, by omega⟩
def okAt (l : List UInt8) (j : Nat) : Prop := 0 ≤ dgI (l.getD (3 * j) 0) ∧ 0 ≤ dgI (l.getD (3 * j + 1) 0) ∧ (j = 0 ∨ l.getD (3 * j - 1) 0 = 58)
def bAt (l : List UInt8) (j : Nat) : UInt8 := UInt8.ofNat (16 * (dgI (l.getD (3 * j) 0)).toNat + (dgI (l.getD (3 * j + 1) 0)).toNat)
instance (l : List UInt8) (j : Nat) : Decidable (okAt l j) := by unfold okAt; infer_instance
def psI (l : List UInt8) : Option (List UInt8) := if l.length = 23 ∧ (List.range 8).all (fun j => decide (okAt l j)) = true then some ((List.range 8).map (bAt l)) else none
def psV : Option (List UInt8) → Value
  | some i => .tuple #[idV i, .bool true]
  | none => .tuple #[idV zero8, .bool false]
theorem getD_byte (t : ByteArray) (j : Nat) (h : j < t.size) : t.data.toList.getD j 0 = t[j] := by
  simp only [List.getD, at_byte t j h, Option.getD_some]
def part8 (l : List UInt8) (j : Nat) : List UInt8 := (List.range j).map (bAt l) ++ List.replicate (8 - j) 0
theorem part8_len (l : List UInt8) (j : Nat) (h : j ≤ 8) : (part8 l j).length = 8 := by simp [part8]; omega
theorem part8_set (l : List UInt8) (j : Nat) (h : j < 8) : (bcells (part8 l j)).set j (.int .u8 ((bAt l j).toNat : Int)) = bcells (part8 l (j + 1)) := by
  have e : part8 l (j + 1) = (part8 l j).set j (bAt l j) := by
    unfold part8
    rw [show 8 - j = (8 - (j + 1)) + 1 by omega, List.replicate_succ, List.range_succ, List.map_append]
    rw [List.set_append_right _ _ (by simp)]
    simp
  rw [e]
  unfold bcells
  rw [List.map_set]
theorem or16 (a b : Nat) (ha : a < 16) (hb : b < 16) : bits BinOp.or IntKind.i64 ((a : Int) * 16) (b : Int) = ((16 * a + b : Nat) : Int) := by
  have h1 : ((List.range 16).all fun a => (List.range 16).all fun b => bits BinOp.or IntKind.i64 ((a : Int) * 16) (b : Int) == ((16 * a + b : Nat) : Int)) = true := by kernel_rfl
  exact eq_of_beq (List.all_eq_true.1 (List.all_eq_true.1 h1 a (List.mem_range.2 ha)) b (List.mem_range.2 hb))
theorem ix_hex (c : UInt8) (w : World) : Calls Tryd.prog 36 #[.string ⟨#[48, 49, 50, 51, 52, 53, 54, 55, 56, 57, 97, 98, 99, 100, 101, 102]⟩, .int .u8 (c.toNat : Int)] w fun e w' => e = .returned (.int .i64 (dgI c)) ∧ w' = w := by
  have hi := Tryd.strings_IndexByte ⟨#[48, 49, 50, 51, 52, 53, 54, 55, 56, 57, 97, 98, 99, 100, 101, 102]⟩ (c.toNat : Int) w
  have e1 : ((c.toNat : Int).toNat.toUInt8) = c := by apply UInt8.toNat.inj; simp
  rw [e1] at hi
  exact hi
theorem bd_zero (w : World) : (Instr.build 39 #[]).run Tryd.prog w = .ok (idV zero8) w := by
  have h : ∀ w, (zeroValue 39).run Tryd.prog w = .ok (idV zero8) w := Tryd.zeroValue39
  simp [Instr.build, Sem.run_bind, h, Result.andThen]
  rfl
set_option maxHeartbeats 1000000 in
theorem parseId_any (t : ByteArray) (w : World) : Calls Tryd.prog 21 #[.string t] w (Gives w (psV (psI t.data.toList))) := by
  by_cases h23 : t.size = 23
  · have HP : Hid (psI t.data.toList = if (List.range 8).all (fun j => decide (okAt t.data.toList j)) = true then some ((List.range 8).map (bAt t.data.toList)) else none) := by
      show _ = _
      unfold psI
      have : t.data.toList.length = 23 := by rw [len_t]; exact h23
      simp only [this, true_and]
    have HG : Hid (∀ j (h : j < t.size), t.data.toList.getD j 0 = t[j]) := getD_byte t
    generalize t.data.toList = l at *
    go_enter Tryd.func21, Tryd.ntmps21
    have m0 : True := trivial
    have m1 : True := trivial
    go_wp2_with (first
      | (have k := m0; clear m0; refine alG infoIz (by rfl) rfl ?_; intro gA wA a1 a2 a3 rA)
      | (have k := m1; clear m1; refine alG infoIz (by rfl) rfl ?_; intro gB wB b1 b2 b3 rB; replace rA := rA.below b3 a2; have hb := bt a3 b3))
    have hne : gA ≠ gB := by omega
    go_loopw [12] (fun i wr => ∃ (j : Nat), j ≤ 8 ∧ i = .int .i64 j ∧ Hid (∀ k, k < j → okAt l k) ∧ Row wr gA 39 (bcells zero8) ∧ Row wr gB 39 (bcells (part8 l j)) ∧ Below w.heap.size w wr) (fun i _ => 8 - (intOf i).toNat)
    case atStart => exact ⟨0, Nat.zero_le _, rfl, (fun k h => by omega), rA, rB, hb⟩
    case round =>
      clear rA rB hb
      rename_i wr
      obtain ⟨j, hj, rfl, hK, rA, rB, hb⟩ := hrel
      by_cases hlt : j < 8
      · have hbz : ∀ W, (Instr.build 39 #[]).run Tryd.prog W = .ok (idV zero8) W := bd_zero
        have w1 : wrap64 ((j : Int) + 1) = (j : Int) + 1 := by unfold wrap64; omega
        have w3 : wrap64 (3 * (j : Int)) = ((3 * j : Nat) : Int) := by unfold wrap64; omega
        have w4 : wrap64 (((3 * j : Nat) : Int) + 1) = ((3 * j + 1 : Nat) : Int) := by unfold wrap64; omega
        have k1 : ((3 * j : Nat) : Int) < (t.size : Int) := by omega
        have k2 : ((3 * j + 1 : Nat) : Int) < (t.size : Int) := by omega
        have g1 := HG.out (3 * j) (by omega)
        have g2 := HG.out (3 * j + 1) (by omega)
        have i1 := ix_hex (t[3 * j]'(by omega))
        have i2 := ix_hex (t[3 * j + 1]'(by omega))
        have m2 : True := trivial
        have HNo : Hid (¬ okAt l j → psI l = none) := fun h => by
          rw [HP.out, if_neg]
          intro h2
          exact h (of_decide_eq_true (List.all_eq_true.1 h2 j (List.mem_range.2 hlt)))
        have HO : Hid (okAt l j ↔ 0 ≤ dgI (t[3 * j]'(by omega)) ∧ 0 ≤ dgI (t[3 * j + 1]'(by omega)) ∧ (j = 0 ∨ l.getD (3 * j - 1) 0 = 58)) := by
          show _ ↔ _
          unfold okAt
          rw [g1, g2]
        have HB : Hid (bAt l j = UInt8.ofNat (16 * (dgI (t[3 * j]'(by omega))).toNat + (dgI (t[3 * j + 1]'(by omega))).toNat)) := by
          show _ = _
          unfold bAt
          rw [g1, g2]
        have q1 := dgI_rng (t[3 * j]'(by omega))
        have q2 := dgI_rng (t[3 * j + 1]'(by omega))
        clear g1 g2
        generalize dgI (t[3 * j]'(by omega)) = x at *
        generalize dgI (t[3 * j + 1]'(by omega)) = y at *
        rcases q1 with q1 | ⟨a, ha, rfl⟩
        · have HF : Hid (psI l = none) := HNo.out (fun h => by have := (HO.out.1 h).1; omega)
          clear HNo HO HB HP q2
          generalize psI l = V at *
          go_wp2_with (first
          | (go_at_call 36; have k := m2; clear m2; refine (i1 _).mono ?_; rintro e w' ⟨rfl, rfl⟩)
          | (go_at_call 36; refine (i2 _).mono ?_; rintro e w' ⟨rfl, rfl⟩)
          | (refine stI (.tmp 2) (.tmp 44) (by rfl) rfl gA zero8 rfl _ rfl rfl rfl rA hb a1 ?_; intro W4 r4 hb4))
          exact bodyPost_ret (retCT rfl _ gA 0 rfl (lvI rfl r4)) rfl ⟨by rw [HF.out]; rfl, hb4⟩
        rcases q2 with q2 | ⟨b, hb16, rfl⟩
        · have HF : Hid (psI l = none) := HNo.out (fun h => by have := (HO.out.1 h).2.1; omega)
          clear HNo HO HB HP
          generalize psI l = V at *
          go_wp2_with (first
          | (go_at_call 36; have k := m2; clear m2; refine (i1 _).mono ?_; rintro e w' ⟨rfl, rfl⟩)
          | (go_at_call 36; refine (i2 _).mono ?_; rintro e w' ⟨rfl, rfl⟩)
          | (refine stI (.tmp 2) (.tmp 44) (by rfl) rfl gA zero8 rfl _ rfl rfl rfl rA hb a1 ?_; intro W4 r4 hb4))
          exact bodyPost_ret (retCT rfl _ gA 0 rfl (lvI rfl r4)) rfl ⟨by rw [HF.out]; rfl, hb4⟩
        have hor := or16 a b ha hb16
        have na : ¬ (a : Int) < 0 := by omega
        have nb : ¬ (b : Int) < 0 := by omega
        have hw16 : wrap64 ((a : Int) * 16) = (a : Int) * 16 := by unfold wrap64; omega
        have hcv : IntKind.u8.wrap ((16 * a + b : Nat) : Int) = ((16 * a + b : Nat) : Int) := by simp [IntKind.wrap, IntKind.signed, IntKind.bits]; omega
        have HB2 : Hid (((bAt l j).toNat : Int) = ((16 * a + b : Nat) : Int)) := by
          show _ = _
          rw [HB.out]
          simp
          omega
        have HS : Hid ((bcells (part8 l j)).set j (.int .u8 (16 * (a : Int) + (b : Int))) = bcells (part8 l (j + 1))) := by
          show _ = _
          rw [show 16 * (a : Int) + (b : Int) = ((bAt l j).toNat : Int) by rw [HB2.out]; omega]
          exact part8_set l j hlt
        have hcl : ∃ u, wr.cell? ⟨gB, j, none⟩ = some u := by
          rw [rB.cell j]
          exact ⟨_, List.getElem?_eq_getElem (by rw [bcells_length, part8_len l j (by omega)]; exact hlt)⟩
        obtain ⟨u, hcl⟩ := hcl
        have hfr := rB.frozen j
        by_cases h0 : j = 0
        · have hOk : Hid (okAt l j) := HO.out.2 ⟨by omega, by omega, .inl h0⟩
          have H0 : Hid (j = 0) := h0
          have h0' : ¬ (0 : Int) < (j : Int) := by omega
          clear HNo HO HB h0
          go_wp2_with (first
          | (go_at_call 36; have k := m2; clear m2; refine (i1 _).mono ?_; rintro e w' ⟨rfl, rfl⟩)
          | (go_at_call 36; refine (i2 _).mono ?_; rintro e w' ⟨rfl, rfl⟩))
          refine ⟨⟨j + 1, by omega, by go_num, fun k hk => ?_, rA.setOther _ _ _ (by omega), by rw [← HS.out]; exact rB.set j _, hb.setCell (p := ⟨gB, j, none⟩) (by show w.heap.size ≤ gB; have := a3.size; omega) _⟩, by simp [intOf]; omega⟩
          by_cases e : k = j
          · rw [e]; exact hOk.out
          · exact hK.out k (by omega)
        · have h0' : (0 : Int) < (j : Int) := by omega
          have w5 : wrap64 (((3 * j : Nat) : Int) - 1) = ((3 * j - 1 : Nat) : Int) := by unfold wrap64; omega
          have k5 : ((3 * j - 1 : Nat) : Int) < (t.size : Int) := by omega
          have g3 := HG.out (3 * j - 1) (by omega)
          by_cases h58 : t[3 * j - 1]'(by omega) = 58
          · have hOk : Hid (okAt l j) := HO.out.2 ⟨by omega, by omega, .inr (by rw [g3, h58])⟩
            have b58 : (((t[3 * j - 1]'(by omega)).toNat : Int) != 58) = false := by rw [h58]; rfl
            clear HNo HO HB g3 h58
            go_wp2_with (first
          | (go_at_call 36; have k := m2; clear m2; refine (i1 _).mono ?_; rintro e w' ⟨rfl, rfl⟩)
          | (go_at_call 36; refine (i2 _).mono ?_; rintro e w' ⟨rfl, rfl⟩))
            refine ⟨⟨j + 1, by omega, by go_num, fun k hk => ?_, rA.setOther _ _ _ (by omega), by rw [← HS.out]; exact rB.set j _, hb.setCell (p := ⟨gB, j, none⟩) (by show w.heap.size ≤ gB; have := a3.size; omega) _⟩, by simp [intOf]; omega⟩
            by_cases e : k = j
            · rw [e]; exact hOk.out
            · exact hK.out k (by omega)
          · have HF : Hid (psI l = none) := HNo.out (fun h => by
              rcases (HO.out.1 h).2.2 with h' | h'
              · exact h0 h'
              · exact h58 (by rw [← g3, h']))
            have b58 : (((t[3 * j - 1]'(by omega)).toNat : Int) != 58) = true := by
              rw [bne_iff_ne]; intro e; exact h58 (UInt8.toNat.inj (by simp; omega))
            clear HNo HO HB HP g3 h58
            generalize psI l = V at *
            go_wp2_with (first
          | (go_at_call 36; have k := m2; clear m2; refine (i1 _).mono ?_; rintro e w' ⟨rfl, rfl⟩)
          | (go_at_call 36; refine (i2 _).mono ?_; rintro e w' ⟨rfl, rfl⟩)
          | (refine stI (.tmp 2) (.tmp 44) (by rfl) rfl gA zero8 rfl _ rfl rfl rfl rA hb a1 ?_; intro W4 r4 hb4))
            exact bodyPost_ret (retCT rfl _ gA 0 rfl (lvI rfl r4)) rfl ⟨by rw [HF.out]; rfl, hb4⟩
      · obtain rfl : j = 8 := by omega
        have HF : Hid (psI l = some (part8 l 8)) := by
          show _ = _
          rw [HP.out, if_pos (List.all_eq_true.2 fun k hk => decide_eq_true (hK.out k (List.mem_range.1 hk)))]
          simp [part8]
        have h88 := part8_len l 8 (by decide)
        clear HP
        generalize psI l = V at *
        generalize part8 l 8 = p8 at *
        go_wp2_with (first
          | (refine ldI (.tmp 4) (by rfl) rfl _ _ p8 h88 rfl rB.range ?_)
          | (refine stI (.tmp 2) (.tmp 53) (by rfl) rfl gA p8 h88 _ rfl rfl rfl rA hb a1 ?_; intro W4 r4 hb4))
        exact bodyPost_ret (retCT rfl _ gA 0 rfl (lvI h88 r4)) rfl ⟨by rw [HF.out]; rfl, hb4⟩
  · have HP : Hid (psI t.data.toList = none) := by
      show _ = _
      unfold psI
      rw [if_neg]
      rintro ⟨h, _⟩
      rw [len_t] at h
      exact h23 h
    have e1 : ((t.size : Int) == 23) = false := by rw [beq_eq_false_iff_ne]; omega
    generalize psI t.data.toList = V at *
    go_enter Tryd.func21, Tryd.ntmps21
    have m0 : True := trivial
    have m1 : True := trivial
    have hbz : ∀ W, (Instr.build 39 #[]).run Tryd.prog W = .ok (idV zero8) W := bd_zero
    go_wp2_with (first
      | (have k := m0; clear m0; refine alG infoIz (by rfl) rfl ?_; intro gA wA a1 a2 a3 rA)
      | (have k := m1; clear m1; refine alG infoIz (by rfl) rfl ?_; intro gB wB b1 b2 b3 rB; replace rA := rA.below b3 a2; have hb := bt a3 b3)
      | (refine stI (.tmp 2) (.tmp 11) (by rfl) rfl gA zero8 rfl _ rfl rfl rfl rA hb a1 ?_; intro W4 r4 hb4))
    exact bodyPost_ret (retCT rfl _ gA 0 rfl (lvI rfl r4)) rfl ⟨by rw [HP.out]; rfl, hb4⟩
end Go.Proofs.YtldpocbnkggnnaaDoor
