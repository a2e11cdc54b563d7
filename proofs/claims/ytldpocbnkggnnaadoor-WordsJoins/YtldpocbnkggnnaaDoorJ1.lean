/-
  The document's word and Join, for every texts.
-/
import Derived.Test.YtldpocbnkggnnaaDoorR1
import Derived.Test.YtldpocbnkggnnaaDoorB1
namespace Go.Proofs.YtldpocbnkggnnaaDoor
open Go.RowKit
set_option linter.unusedSimpArgs false
set_option maxRecDepth 20000
def pl0 (l : List UInt8) : Bool := !decide (l = []) && (!decide (l.head? = some 34) && !decide (l.head? = some 35))
theorem mq_pl (l : List UInt8) : mq l = !(pl0 l && !decide (32 ∈ l)) := by
  unfold mq pl0
  cases decide (l = []) <;> cases decide (l.head? = some 34) <;> cases decide (l.head? = some 35) <;> cases decide (32 ∈ l) <;> rfl
theorem mem_take (l : List UInt8) (j : Nat) (hj : j < l.length) : decide (32 ∈ l.take (j + 1)) = (decide (32 ∈ l.take j) || decide (l[j] = 32)) := by
  rw [List.take_succ_eq_append_getElem hj, Bool.eq_iff_iff]
  simp only [decide_eq_true_eq, Bool.or_eq_true, List.mem_append, List.mem_singleton]
  constructor
  · rintro (h | h)
    · exact .inl h
    · exact .inr h.symm
  · rintro (h | h)
    · exact .inl h
    · exact .inr h.symm
set_option maxHeartbeats 4000000 in
theorem rword_any (t : ByteArray) (w : World) (hlim : t.size ≤ 1000000) : Calls Tryd.prog 34 #[.string t] w fun e w' => e = .returned (.string (str (wrd t.data.toList))) ∧ w' = w := by
  have hl := len_t t
  have HT : Hid (∀ j (h : j < t.size), (t.data.toList.take (j + 1)).flatMap esc1 = (t.data.toList.take j).flatMap esc1 ++ esc1 t[j]) := fun j h => by
    rw [flat_take _ j (by rw [len_t]; exact h)]; rfl
  have HM : Hid (∀ j (h : j < t.size), decide (32 ∈ t.data.toList.take (j + 1)) = (decide (32 ∈ t.data.toList.take j) || decide (t[j] = 32))) := fun j h => mem_take _ j (by rw [len_t]; exact h)
  have HX : Hid (∀ j (h : j < t.size), (t.extract j (j + 1)).data.toList = [t[j]]) := ext_one t
  have HE : Hid (t.data.toList.take t.size = t.data.toList) := List.take_of_length_le (by rw [len_t]; exact Nat.le_refl _)
  have HW : Hid (∀ b, b = (pl0 t.data.toList && !decide (32 ∈ t.data.toList)) → wrd t.data.toList = if b then t.data.toList else quo t.data.toList) := fun b hb => by
    unfold wrd
    rw [mq_pl, ← hb]
    cases b <;> rfl
  have HS : Hid (str t.data.toList = t) := str_t t
  obtain ⟨p, hp⟩ : ∃ p, pl0 t.data.toList = p := ⟨_, rfl⟩
  have hcase : (t.toList.isEmpty = true ∧ p = false) ∨ (t.toList.isEmpty = false ∧ ∃ h : 0 < t.size, ((((t[0].toNat : Int) != 34) = false ∧ p = false) ∨ (((t[0].toNat : Int) != 34) = true ∧ ((t[0].toNat : Int) != 35) = false ∧ p = false) ∨ (((t[0].toNat : Int) != 34) = true ∧ ((t[0].toNat : Int) != 35) = true ∧ p = true))) := by
    by_cases h0 : 0 < t.size
    · right
      have hd := drop_byte t 0 h0
      rw [List.drop_zero] at hd
      refine ⟨by rw [ByteArray.toList_eq, hd]; rfl, h0, ?_⟩
      have hpp : p = (!decide (t[0] = 34) && !decide (t[0] = 35)) := by
        rw [← hp, pl0]
        have e1 : t.data.toList ≠ [] := by rw [hd]; simp
        have e2 : t.data.toList.head? = some t[0] := by rw [hd]; rfl
        rw [decide_eq_false e1, e2]
        simp
      by_cases c1 : t[0] = 34
      · left; exact ⟨by rw [c1]; rfl, by rw [hpp, c1]; rfl⟩
      · have b1 : ((t[0].toNat : Int) != 34) = true := by rw [bne_iff_ne]; intro e; exact c1 (UInt8.toNat.inj (by simp; omega))
        right
        by_cases c2 : t[0] = 35
        · left; exact ⟨b1, by rw [c2]; rfl, by rw [hpp, c2]; rfl⟩
        · right
          have b2 : ((t[0].toNat : Int) != 35) = true := by rw [bne_iff_ne]; intro e; exact c2 (UInt8.toNat.inj (by simp; omega))
          exact ⟨b1, b2, by rw [hpp, decide_eq_false c1, decide_eq_false c2]; rfl⟩
    · left
      have hn : t.data.toList = [] := List.eq_nil_of_length_eq_zero (by rw [len_t]; omega)
      exact ⟨by rw [ByteArray.toList_eq, hn]; rfl, by rw [← hp, hn]; rfl⟩
  rw [hp] at HW
  clear hp
  generalize t.data.toList = l at *
  generalize wrd l = W at *
  have HQ0 : Hid ((⟨#[34]⟩ : ByteArray).data.toList = 34 :: (l.take 0).flatMap esc1) := rfl
  clear hl
  go_enter Tryd.func34, Tryd.ntmps34
  rcases hcase with ⟨e0, hpv⟩ | ⟨e0, hz, ⟨b1, hpv⟩ | ⟨b1, b2, hpv⟩ | ⟨b1, b2, hpv⟩⟩
  all_goals (have HPV : Hid (p = _) := hpv)
  all_goals clear hpv
  all_goals go_wp2
  all_goals
    go_loopw [3, 4, 5] (fun b q i wr => ∃ (j : Nat) (B : Bool) (qt : ByteArray), j ≤ t.size ∧ i = .int .i64 j ∧ b = .bool B ∧ q = .string qt ∧ qt.size ≤ 2 * j + 1 ∧ Hid (qt.data.toList = 34 :: (l.take j).flatMap esc1) ∧ Hid (B = (p && !decide (32 ∈ l.take j))) ∧ w = wr) (fun _ _ i _ => t.size - (intOf i).toNat)
    case atStart => exact ⟨0, _, ⟨#[34]⟩, Nat.zero_le _, rfl, rfl, rfl, by decide, HQ0, (by show _ = _; rw [HPV.out]; simp), rfl⟩
    case round =>
      clear HQ0 HPV
      obtain ⟨j, B, qt, hj, rfl, rfl, rfl, hqs, hQ, hB, rfl⟩ := hrel
      by_cases hlt : j < t.size
      · have v1 : wrap64 ((j : Int) + 1) = (j : Int) + 1 := by unfold wrap64; omega
        have k1 : (j : Int) + 1 ≤ (t.size : Int) := by omega
        have hT := HT.out j hlt
        have hM := HM.out j hlt
        obtain ⟨x1, e1⟩ : ∃ x, t.extract j (j + 1) = x := ⟨_, rfl⟩
        have d1 : x1.data.toList = [t[j]] := by rw [← e1]; exact HX.out j hlt
        have s1 : x1.size = 1 := by rw [← len_t, d1]; rfl
        by_cases hesc : t[j] = 34 ∨ t[j] = 92
        · obtain ⟨x2, e2⟩ : ∃ x, qt ++ ⟨#[92]⟩ = x := ⟨_, rfl⟩
          obtain ⟨x3, e3⟩ : ∃ x, x2 ++ x1 = x := ⟨_, rfl⟩
          have s2 : x2.size = qt.size + 1 := by rw [← e2, ByteArray.size_append]; rfl
          have s3 : x3.size = qt.size + 2 := by rw [← e3, ByteArray.size_append, s2, s1]
          have y1 : ¬ 9223372036854775807 < qt.size + 1 := by omega
          have y2 : ¬ 9223372036854775807 < x2.size + x1.size := by omega
          have hQ3 : Hid (x3.data.toList = 34 :: (l.take (j + 1)).flatMap esc1) := by
            show _ = _
            rw [← e3, app_t, ← e2, app_t, hQ.out, d1, hT, esc1, if_pos hesc]
            simp
          have hB3 : Hid (B = (p && !decide (32 ∈ l.take (j + 1)))) := by
            show _ = _
            have : t[j] ≠ 32 := by rintro h; rw [h] at hesc; revert hesc; decide
            rw [hM, decide_eq_false this, Bool.or_false]
            exact hB.out
          have b32 : ((t[j].toNat : Int) == 32) = false := by
            rcases hesc with h | h <;> rw [h] <;> rfl
          have bb : ((t[j].toNat : Int) == 34) = true ∨ ((t[j].toNat : Int) == 34) = false ∧ ((t[j].toNat : Int) == 92) = true := by
            rcases hesc with h | h
            · left; rw [h]; rfl
            · right; rw [h]; exact ⟨rfl, rfl⟩
          clear hQ hB hT hM d1 hesc
          rcases bb with bb | ⟨bb, bc⟩
          all_goals
            go_wp2
            go_roundw
            case rel => exact ⟨j + 1, B, x3, by omega, by go_num, rfl, by simp, by omega, hQ3, hB3, trivial⟩
            case measure => simp [intOf]; omega
        · obtain ⟨x3, e3⟩ : ∃ x, qt ++ x1 = x := ⟨_, rfl⟩
          have s3 : x3.size = qt.size + 1 := by rw [← e3, ByteArray.size_append, s1]
          have y2 : ¬ 9223372036854775807 < qt.size + x1.size := by omega
          have hQ3 : Hid (x3.data.toList = 34 :: (l.take (j + 1)).flatMap esc1) := by
            show _ = _
            rw [← e3, app_t, hQ.out, d1, hT, esc1, if_neg hesc]
            simp
          have bb : ((t[j].toNat : Int) == 34) = false := by
            rw [beq_eq_false_iff_ne]; intro e; exact hesc (.inl (UInt8.toNat.inj (by simp; omega)))
          have bc : ((t[j].toNat : Int) == 92) = false := by
            rw [beq_eq_false_iff_ne]; intro e; exact hesc (.inr (UInt8.toNat.inj (by simp; omega)))
          by_cases c32 : t[j] = 32
          · have b32 : ((t[j].toNat : Int) == 32) = true := by rw [c32]; rfl
            have hB3 : Hid (false = (p && !decide (32 ∈ l.take (j + 1)))) := by
              show _ = _
              rw [hM, decide_eq_true c32, Bool.or_true, Bool.not_true, Bool.and_false]
            clear hQ hB hT hM d1 hesc c32
            go_wp2
            go_roundw
            case rel => exact ⟨j + 1, false, x3, by omega, by go_num, rfl, by simp, by omega, hQ3, hB3, trivial⟩
            case measure => simp [intOf]; omega
          · have b32 : ((t[j].toNat : Int) == 32) = false := by
              rw [beq_eq_false_iff_ne]; intro e; exact c32 (UInt8.toNat.inj (by simp; omega))
            have hB3 : Hid (B = (p && !decide (32 ∈ l.take (j + 1)))) := by
              show _ = _
              rw [hM, decide_eq_false c32, Bool.or_false]
              exact hB.out
            clear hQ hB hT hM d1 hesc c32
            go_wp2
            go_roundw
            case rel => exact ⟨j + 1, B, x3, by omega, by go_num, rfl, by simp, by omega, hQ3, hB3, trivial⟩
            case measure => simp [intOf]; omega
      · obtain rfl : t.size = j := Nat.le_antisymm (Nat.le_of_not_lt hlt) hj
        have hq := hQ.out
        have hbb := hB.out
        rw [HE.out] at hq hbb
        have hw := HW.out B hbb
        clear hB hQ hbb
        cases B
        · obtain ⟨x3, e3⟩ : ∃ x, qt ++ ⟨#[34]⟩ = x := ⟨_, rfl⟩
          have y2 : ¬ 9223372036854775807 < qt.size + 1 := by omega
          have hx3 : Hid (x3 = str W) := by
            show _ = _
            rw [hw, ← str_t x3]
            congr 1
            rw [← e3, app_t, hq]
            simp [quo]
          clear hq hw
          go_wp2
          go_ret
          exact ⟨by rw [← hx3.out]; rfl, rfl⟩
        · have hx3 : Hid (t = str W) := by show _ = _; rw [hw]; exact HS.out.symm
          clear hq hw
          go_wp2
          go_ret
          exact ⟨by rw [← hx3.out]; rfl, rfl⟩
end Go.Proofs.YtldpocbnkggnnaaDoor
