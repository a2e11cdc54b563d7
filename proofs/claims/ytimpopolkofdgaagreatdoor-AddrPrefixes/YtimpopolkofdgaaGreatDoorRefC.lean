/-
  The document's hex, for every text.
-/
import Derived.Test.YtimpopolkofdgaaGreatDoorRefB
namespace Go.Proofs.YtimpopolkofdgaaGreatDoor
open Go.RowKit
set_option linter.unusedSimpArgs false
/-! ### The document's hex -/
theorem dig_hex (c : UInt8) : (48 ≤ c.toNat ∧ c.toNat ≤ 57 → dig c = some (c.toNat - 48)) ∧ (97 ≤ c.toNat ∧ c.toNat ≤ 102 → dig c = some (c.toNat - 97 + 10)) ∧ (65 ≤ c.toNat ∧ c.toNat ≤ 70 → dig c = some (c.toNat - 65 + 10)) ∧ (¬ (48 ≤ c.toNat ∧ c.toNat ≤ 57) → ¬ (97 ≤ c.toNat ∧ c.toNat ≤ 102) → ¬ (65 ≤ c.toNat ∧ c.toNat ≤ 70) → ∀ d, dig c = some d → 16 ≤ d) := by
  have h : ((List.range 256).all fun b => (!(decide (48 ≤ b) && decide (b ≤ 57)) || dig (UInt8.ofNat b) == some (b - 48)) && ((!(decide (97 ≤ b) && decide (b ≤ 102)) || dig (UInt8.ofNat b) == some (b - 97 + 10)) && ((!(decide (65 ≤ b) && decide (b ≤ 70)) || dig (UInt8.ofNat b) == some (b - 65 + 10)) && ((decide (48 ≤ b) && decide (b ≤ 57)) || ((decide (97 ≤ b) && decide (b ≤ 102)) || ((decide (65 ≤ b) && decide (b ≤ 70)) || (match dig (UInt8.ofNat b) with | some d => decide (16 ≤ d) | none => true))))))) = true := by kernel_rfl
  have h1 := List.all_eq_true.1 h c.toNat (List.mem_range.2 c.toNat_lt)
  have e : UInt8.ofNat c.toNat = c := by apply UInt8.toNat.inj; simp
  rw [e] at h1
  simp only [Bool.and_eq_true, Bool.or_eq_true, Bool.not_eq_true', Bool.and_eq_false_iff, decide_eq_true_eq, decide_eq_false_iff_not, beq_iff_eq] at h1
  obtain ⟨h1, h2, h3, h4⟩ := h1
  refine ⟨fun q => h1.resolve_left (by omega), fun q => h2.resolve_left (by omega), fun q => h3.resolve_left (by omega), fun q1 q2 q3 d hd => ?_⟩
  rcases h4 with h4 | h4 | h4 | h4
  · exact absurd h4 q1
  · exact absurd h4 q2
  · exact absurd h4 q3
  · rw [hd] at h4
    exact of_decide_eq_true h4
def hexS (l : List UInt8) : Option Nat := if l.length ≤ 4 then puE 16 l else none
def hexV (l : List UInt8) : Value := match hexS l with
  | some u => .tuple #[.int .i64 (u : Int), .bool true]
  | none => .tuple #[.int .i64 0, .bool false]
theorem hex_step {l : List UInt8} {j : Nat} {b : UInt8} (n : Nat) (h : l[j]? = some b) (hn : 16 * n + 15 ≤ 65535) : (∀ d, dig b = some d → d < 16 → pu 16 n (l.drop j) = pu 16 (16 * n + d) (l.drop (j + 1))) ∧ ((∀ d, dig b = some d → 16 ≤ d) → pu 16 n (l.drop j) = none) := by
  obtain ⟨hj, rfl⟩ := List.getElem?_eq_some_iff.1 h
  rw [List.drop_eq_getElem_cons hj]
  constructor
  · intro d hd h16
    simp only [pu, hd]
    rw [if_pos ⟨h16, by omega⟩, Nat.mul_comm n 16]
  · intro hd
    simp only [pu]
    cases hx : dig l[j] with
    | none => rfl
    | some d =>
      dsimp only
      rw [if_neg (fun q => by have := hd d hx; omega)]
theorem rhex_any (t : ByteArray) (w : World) : Calls Tryz.prog 89 #[.string t] w fun e w' => e = .returned (hexV t.data.toList) ∧ w = w' := by
  have hl : t.data.toList.length = t.size := Lib.size_eq t
  have hE : t.toList = t.data.toList := ByteArray.toList_eq t
  by_cases h0 : t.data.toList = []
  · have HV : Hid (hexV t.data.toList = .tuple #[.int .i64 0, .bool false]) := by rw [h0]; rfl
    have e0 : t.toList.isEmpty = true := by rw [hE, h0]; rfl
    generalize hexV t.data.toList = V at *
    clear hl hE h0
    go_enter Tryz.func89, Tryz.ntmps89
    go_wp2
    go_ret2
    exact ⟨by rw [HV.out]; rfl, rfl⟩
  have e0 : t.toList.isEmpty = false := by rw [hE]; simpa using h0
  have hp : 0 < t.size := by rw [← hl]; exact List.length_pos_iff.2 h0
  by_cases h4 : 4 < t.size
  · have HV : Hid (hexV t.data.toList = .tuple #[.int .i64 0, .bool false]) := by
      show _ = _
      unfold hexV hexS
      rw [if_neg (by omega)]
    generalize hexV t.data.toList = V at *
    have h4' : (4 : Int) < (t.size : Int) := by omega
    clear hl hE h0 h4
    go_enter Tryz.func89, Tryz.ntmps89
    go_wp2
    go_ret2
    exact ⟨by rw [HV.out]; rfl, rfl⟩
  have h4' : ¬ (4 : Int) < (t.size : Int) := by omega
  have HV : Hid (∀ r, pu 16 0 t.data.toList = r → hexV t.data.toList = match r with | some u => .tuple #[.int .i64 (u : Int), .bool true] | none => .tuple #[.int .i64 0, .bool false]) := fun r h => by
    unfold hexV hexS puE
    rw [if_pos (by omega), if_neg h0, h]
  have HI : Hid (∀ j (h : j < t.size), t.data.toList[j]? = some t[j]) := fun j h => by
    rw [List.getElem?_eq_getElem (by rw [hl]; exact h)]; rfl
  have HL : Hid (t.data.toList.length = t.size) := hl
  generalize hexV t.data.toList = V at *
  generalize t.data.toList = l at *
  clear hl hE h0
  go_enter Tryz.func89, Tryz.ntmps89
  go_wp2
  go_loopw [4, 5] (fun v i wr => ∃ (j n : Nat), j ≤ t.size ∧ i = .int .i64 j ∧ v = .int .i64 n ∧ n < 16 ^ j ∧ pu 16 0 l = pu 16 n (l.drop j) ∧ w = wr) (fun _ i _ => t.size - (intOf i).toNat)
  case atStart => exact ⟨0, 0, Nat.zero_le _, rfl, rfl, by simp, rfl, rfl⟩
  case round =>
    obtain ⟨j, n, hj, rfl, rfl, hn, hd, rfl⟩ := hrel
    by_cases hlt : j < t.size
    · have hn2 : n < 4096 := by
        have : 16 ^ j ≤ 16 ^ 3 := Nat.pow_le_pow_right (by decide) (by omega)
        omega
      have hst := hex_step n (HI.out j hlt) (by omega)
      have hdg := dig_hex t[j]
      have hb8 := t[j].toNat_lt
      generalize hbb : t[j].toNat = b at *
      by_cases c1 : 48 ≤ b ∧ b ≤ 57
      · skip
        have g0 : (48 : Int) ≤ (b : Int) := by omega
        have g1 : (b : Int) ≤ 57 := by omega
        have HF : Hid (pu 16 0 l = pu 16 (16 * n + (b - 48)) (l.drop (j + 1))) := hd.trans (hst.1 _ (hdg.1 c1) (by omega))
        have HP : Hid (16 * n + (b - 48) < 16 ^ (j + 1)) := by
          show _ < _
          rw [Nat.pow_succ]; omega
        have hw8 : IntKind.u8.wrap ((b : Int) - 48) = ((b - 48 : Nat) : Int) := by
          simp [IntKind.wrap, IntKind.signed, IntKind.bits]; omega
        clear hst hd hdg
        go_wp2
        go_roundw
        case rel => exact ⟨j + 1, 16 * n + (b - 48), by omega, by go_num, by go_num, HP.out, HF.out, trivial⟩
        case measure => simp [intOf]; omega
      by_cases c2 : 97 ≤ b ∧ b ≤ 102
      · skip
        have g0 : (48 : Int) ≤ (b : Int) := by omega
        have g1 : ¬ (b : Int) ≤ 57 := by omega
        have g2 : (97 : Int) ≤ (b : Int) := by omega
        have g3 : (b : Int) ≤ 102 := by omega
        have HF : Hid (pu 16 0 l = pu 16 (16 * n + (b - 97 + 10)) (l.drop (j + 1))) := hd.trans (hst.1 _ (hdg.2.1 c2) (by omega))
        have HP : Hid (16 * n + (b - 97 + 10) < 16 ^ (j + 1)) := by
          show _ < _
          rw [Nat.pow_succ]; omega
        have hw8 : IntKind.u8.wrap ((b : Int) - 97) = ((b - 97 : Nat) : Int) := by
          simp [IntKind.wrap, IntKind.signed, IntKind.bits]; omega
        clear hst hd hdg
        go_wp2
        go_roundw
        case rel => exact ⟨j + 1, 16 * n + (b - 97 + 10), by omega, by go_num, by go_num, HP.out, HF.out, trivial⟩
        case measure => simp [intOf]; omega
      by_cases c3 : 65 ≤ b ∧ b ≤ 70
      · skip
        have g0 : (48 : Int) ≤ (b : Int) := by omega
        have g1 : ¬ (b : Int) ≤ 57 := by omega
        have g2 : ¬ (97 : Int) ≤ (b : Int) := by omega
        have g3 : (65 : Int) ≤ (b : Int) := by omega
        have g4 : (b : Int) ≤ 70 := by omega
        have HF : Hid (pu 16 0 l = pu 16 (16 * n + (b - 65 + 10)) (l.drop (j + 1))) := hd.trans (hst.1 _ (hdg.2.2.1 c3) (by omega))
        have HP : Hid (16 * n + (b - 65 + 10) < 16 ^ (j + 1)) := by
          show _ < _
          rw [Nat.pow_succ]; omega
        have hw8 : IntKind.u8.wrap ((b : Int) - 65) = ((b - 65 : Nat) : Int) := by
          simp [IntKind.wrap, IntKind.signed, IntKind.bits]; omega
        clear hst hd hdg
        go_wp2
        go_roundw
        case rel => exact ⟨j + 1, 16 * n + (b - 65 + 10), by omega, by go_num, by go_num, HP.out, HF.out, trivial⟩
        case measure => simp [intOf]; omega
      have HF : Hid (pu 16 0 l = none) := hd.trans (hst.2 (hdg.2.2.2 c1 c2 c3))
      clear hst hd hdg
      have ways : b < 48 ∨ (57 < b ∧ b < 65) ∨ (70 < b ∧ b < 97) ∨ 102 < b := by omega
      rcases ways with h | h | h | h
      · have g0 : ¬ (48 : Int) ≤ (b : Int) := by omega
        have g1 : ¬ (97 : Int) ≤ (b : Int) := by omega
        have g2 : ¬ (65 : Int) ≤ (b : Int) := by omega
        go_wp2
        go_ret2
        exact ⟨by rw [HV.out _ HF.out]; rfl, rfl⟩
      · have g0 : (48 : Int) ≤ (b : Int) := by omega
        have g1 : ¬ (b : Int) ≤ 57 := by omega
        have g2 : ¬ (97 : Int) ≤ (b : Int) := by omega
        have g3 : ¬ (65 : Int) ≤ (b : Int) := by omega
        go_wp2
        go_ret2
        exact ⟨by rw [HV.out _ HF.out]; rfl, rfl⟩
      · have g0 : (48 : Int) ≤ (b : Int) := by omega
        have g1 : ¬ (b : Int) ≤ 57 := by omega
        have g2 : ¬ (97 : Int) ≤ (b : Int) := by omega
        have g3 : (65 : Int) ≤ (b : Int) := by omega
        have g4 : ¬ (b : Int) ≤ 70 := by omega
        go_wp2
        go_ret2
        exact ⟨by rw [HV.out _ HF.out]; rfl, rfl⟩
      · have g0 : (48 : Int) ≤ (b : Int) := by omega
        have g1 : ¬ (b : Int) ≤ 57 := by omega
        have g2 : (97 : Int) ≤ (b : Int) := by omega
        have g3 : ¬ (b : Int) ≤ 102 := by omega
        have g4 : (65 : Int) ≤ (b : Int) := by omega
        have g5 : ¬ (b : Int) ≤ 70 := by omega
        go_wp2
        go_ret2
        exact ⟨by rw [HV.out _ HF.out]; rfl, rfl⟩
    · have HF : Hid (pu 16 0 l = some n) := by
        show _ = _
        rw [hd, List.drop_eq_nil_of_le (by rw [HL.out]; omega)]; rfl
      clear hd
      go_wp2
      go_ret2
      exact ⟨by rw [HV.out _ HF.out]; rfl, rfl⟩
end Go.Proofs.YtimpopolkofdgaaGreatDoor
