/-
  The contract of Number, for every text and every bound.
-/
import Derived.Test.YtldpocbnkggnnaaDoorK5
namespace Go.Proofs.YtldpocbnkggnnaaDoor
open Go.RowKit
set_option linter.unusedSimpArgs false
set_option maxRecDepth 20000
def decGo (acc : Nat) : List UInt8 → Option Nat
  | [] => some acc
  | c :: r => if 48 ≤ c.toNat ∧ c.toNat ≤ 57 then decGo (10 * acc + (c.toNat - 48)) r else none
def decN (l : List UInt8) : Option Nat := if l = [] ∨ 10 < l.length ∨ (l.head? = some 48 ∧ l ≠ [48]) then none else decGo 0 l
def numV (o : Option Nat) (most : Int) : Value :=
  match o with
  | some u => if (u : Int) ≤ most then .tuple #[.int .i64 (u : Int), .bool true] else .tuple #[.int .i64 0, .bool false]
  | none => .tuple #[.int .i64 0, .bool false]
theorem dec_step {l : List UInt8} {j : Nat} {b : UInt8} (n : Nat) (h : l[j]? = some b) : decGo n (l.drop j) = if 48 ≤ b.toNat ∧ b.toNat ≤ 57 then decGo (10 * n + (b.toNat - 48)) (l.drop (j + 1)) else none := by
  obtain ⟨hj, rfl⟩ := List.getElem?_eq_some_iff.1 h
  rw [List.drop_eq_getElem_cons hj]
  rfl
theorem number_any (t : ByteArray) (most : Int) (w : World) : Calls Tryd.prog 19 #[.string t, .int .i64 most] w fun e w' => e = .returned (numV (decN t.data.toList) most) ∧ w' = w := by
  have hl := len_t t
  by_cases h0 : t.size = 0
  · have hn : t.data.toList = [] := List.eq_nil_of_length_eq_zero (by rw [len_t]; omega)
    have e0 : t.toList.isEmpty = true := by rw [ByteArray.toList_eq, hn]; rfl
    have HV : Hid (numV (decN t.data.toList) most = .tuple #[.int .i64 0, .bool false]) := by rw [hn]; rfl
    generalize numV (decN t.data.toList) most = V at *
    clear hl hn h0
    go_enter Tryd.func19, Tryd.ntmps19
    go_wp2
    go_ret2
    exact ⟨by rw [HV.out]; rfl, rfl⟩
  have hne : t.data.toList ≠ [] := by intro h; rw [h] at hl; simp at hl; omega
  have e0 : t.toList.isEmpty = false := by rw [ByteArray.toList_eq]; simpa using hne
  by_cases h3 : 10 < t.size
  · have HV : Hid (numV (decN t.data.toList) most = .tuple #[.int .i64 0, .bool false]) := by
      show _ = _
      unfold decN; rw [if_pos (.inr (.inl (by omega)))]; rfl
    generalize numV (decN t.data.toList) most = V at *
    have h3' : (10 : Int) < (t.size : Int) := by omega
    clear hl hne h0 h3
    go_enter Tryd.func19, Tryd.ntmps19
    go_wp2
    go_ret2
    exact ⟨by rw [HV.out]; rfl, rfl⟩
  have h3' : ¬ (10 : Int) < (t.size : Int) := by omega
  have hp : 0 < t.size := by omega
  have hz : t.data.toList.head? = some t[0] := by
    have := at_byte t 0 hp
    rw [← this]; cases t.data.toList <;> rfl
  by_cases h1 : t[0] = 48 ∧ t.data.toList ≠ [48]
  · have HV : Hid (numV (decN t.data.toList) most = .tuple #[.int .i64 0, .bool false]) := by
      show _ = _
      unfold decN; rw [if_pos (.inr (.inr ⟨by rw [hz, h1.1], h1.2⟩))]; rfl
    generalize numV (decN t.data.toList) most = V at *
    have hb : ((t[0].toNat : Int) == 48) = true := by rw [h1.1]; rfl
    have hq : (t.toList == [48]) = false := by rw [ByteArray.toList_eq]; simpa using h1.2
    clear hl h0 h3 h1 hz hne
    go_enter Tryd.func19, Tryd.ntmps19
    go_wp2
    go_ret2
    exact ⟨by rw [HV.out]; rfl, rfl⟩
  have HN : Hid (decN t.data.toList = decGo 0 t.data.toList) := by
    show _ = _
    unfold decN
    rw [if_neg]
    rintro (h | h | ⟨h, h'⟩)
    · exact hne h
    · omega
    · rw [hz] at h; exact h1 ⟨Option.some.inj h, h'⟩
  have HI : Hid (∀ j (h : j < t.size), t.data.toList[j]? = some t[j]) := at_byte t
  have HL : Hid (t.data.toList.length = t.size) := hl
  have h1' : ((t[0].toNat : Int) == 48) = false ∨ ((t[0].toNat : Int) == 48) = true ∧ (t.toList == [48]) = true := by
    by_cases h : t[0] = 48
    · right
      refine ⟨by rw [h]; rfl, ?_⟩
      rw [ByteArray.toList_eq]
      by_cases h' : t.data.toList = [48]
      · rw [h']; rfl
      · exact absurd ⟨h, h'⟩ h1
    · left
      rw [beq_eq_false_iff_ne]
      intro e
      exact h (UInt8.toNat.inj (by simp; omega))
  have HV : Hid (∀ r, decN t.data.toList = r → numV (decN t.data.toList) most = numV r most) := fun r h => by rw [h]
  generalize numV (decN t.data.toList) most = V at *
  generalize decN t.data.toList = D at *
  generalize t.data.toList = l at *
  clear hl h0 h1 hz hne
  go_enter Tryd.func19, Tryd.ntmps19
  rcases h1' with h1' | ⟨h1', h2'⟩
  all_goals go_wp2
  all_goals
    go_loopw [6, 26] (fun v i wr => ∃ (j n : Nat), j ≤ t.size ∧ i = .int .i64 j ∧ v = .int .i64 n ∧ Hid (n < 10 ^ j) ∧ Hid (decGo 0 l = decGo n (l.drop j)) ∧ w = wr) (fun _ i _ => t.size - (intOf i).toNat)
    case atStart => exact ⟨0, 0, Nat.zero_le _, rfl, rfl, (by decide : 0 < 10 ^ 0), (rfl : _ = _), rfl⟩
    case round =>
      obtain ⟨j, n, hj, rfl, rfl, hn, hd, rfl⟩ := hrel
      by_cases hlt : j < t.size
      · have hst := dec_step n (HI.out j hlt)
        have hn2 : n < 1000000000 := by
          have : 10 ^ j ≤ 10 ^ 9 := Nat.pow_le_pow_right (by decide) (by omega)
          have := hn.out
          omega
        have hb8 := t[j].toNat_lt
        have w1 : wrap64 ((j : Int) + 1) = (j : Int) + 1 := by unfold wrap64; omega
        by_cases c1 : t[j].toNat < 48
        · have c1' : ((t[j].toNat : Nat) : Int) < 48 := by omega
          have HF : Hid (decGo 0 l = none) := by show _ = _; rw [hd.out, hst, if_neg (by omega)]
          clear hst hd
          go_wp2
          go_ret2
          exact ⟨by rw [HV.out none (HN.out.trans HF.out)]; rfl, rfl⟩
        · by_cases c2 : 57 < t[j].toNat
          · have c1' : ¬ ((t[j].toNat : Nat) : Int) < 48 := by omega
            have c2' : (57 : Int) < ((t[j].toNat : Nat) : Int) := by omega
            have HF : Hid (decGo 0 l = none) := by show _ = _; rw [hd.out, hst, if_neg (by omega)]
            clear hst hd
            go_wp2
            go_ret2
            exact ⟨by rw [HV.out none (HN.out.trans HF.out)]; rfl, rfl⟩
          · have c1' : ¬ ((t[j].toNat : Nat) : Int) < 48 := by omega
            have c2' : ¬ (57 : Int) < ((t[j].toNat : Nat) : Int) := by omega
            have HF : Hid (decGo 0 l = decGo (10 * n + (t[j].toNat - 48)) (l.drop (j + 1))) := by show _ = _; rw [hd.out, hst, if_pos (by omega)]
            have HP : Hid (10 * n + (t[j].toNat - 48) < 10 ^ (j + 1)) := by
              show _ < _
              have := hn.out
              rw [Nat.pow_succ]; omega
            have hw8 : IntKind.u8.wrap (((t[j].toNat : Nat) : Int) - 48) = ((t[j].toNat - 48 : Nat) : Int) := by
              simp [IntKind.wrap, IntKind.signed, IntKind.bits]; omega
            clear hst hd
            go_wp2
            go_roundw
            case rel => exact ⟨j + 1, 10 * n + (t[j].toNat - 48), by omega, by go_num, by go_num, HP.out, HF.out, trivial⟩
            case measure => simp [intOf]; omega
      · have HF : Hid (decGo 0 l = some n) := by
          show _ = _
          rw [hd.out, List.drop_eq_nil_of_le (by rw [HL.out]; omega)]; rfl
        have hn2 : n < 10000000000 := by
          have : 10 ^ j ≤ 10 ^ 10 := Nat.pow_le_pow_right (by decide) (by omega)
          have := hn.out
          omega
        clear hd
        by_cases hm : most < (n : Int)
        · go_wp2
          go_ret2
          exact ⟨by rw [HV.out _ (HN.out.trans HF.out)]; show _ = Ending.returned (numV (some n) most); unfold numV; dsimp only; rw [if_neg (by omega)]; rfl, rfl⟩
        · go_wp2
          go_ret2
          exact ⟨by rw [HV.out _ (HN.out.trans HF.out)]; show _ = Ending.returned (numV (some n) most); unfold numV; dsimp only; rw [if_pos (by omega)]; rfl, rfl⟩
end Go.Proofs.YtldpocbnkggnnaaDoor
