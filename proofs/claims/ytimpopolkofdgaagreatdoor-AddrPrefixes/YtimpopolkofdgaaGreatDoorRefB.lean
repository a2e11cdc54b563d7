/-
  The document's Decimal, for every text.
-/
import Derived.Test.YtimpopolkofdgaaGreatDoorNum
namespace Go.Proofs.YtimpopolkofdgaaGreatDoor
open Go.RowKit
set_option linter.unusedSimpArgs false
/-! ### The document's Decimal -/
def decGo (acc : Nat) : List UInt8 → Option Nat
  | [] => some acc
  | c :: r => if 48 ≤ c.toNat ∧ c.toNat ≤ 57 then decGo (10 * acc + (c.toNat - 48)) r else none
theorem or_ge (c : UInt8) : c.toNat ≤ (c ||| 32).toNat ∧ 32 ≤ (c ||| 32).toNat := by
  have h : ((List.range 256).all fun b => decide (b ≤ (UInt8.ofNat b ||| 32).toNat ∧ 32 ≤ (UInt8.ofNat b ||| 32).toNat)) = true := by kernel_rfl
  have h1 := List.all_eq_true.1 h c.toNat (List.mem_range.2 c.toNat_lt)
  have e : UInt8.ofNat c.toNat = c := by apply UInt8.toNat.inj; simp
  rw [e] at h1
  exact of_decide_eq_true h1
theorem pu_dec : ∀ (l : List UInt8) (acc : Nat), (acc + 1) * 10 ^ l.length ≤ 65536 → pu 10 acc l = decGo acc l
  | [], acc, _ => rfl
  | c :: r, acc, h => by
    have hp : 0 < 10 ^ r.length := Nat.pow_pos (by decide)
    have h2 : (acc + 1) * 10 * 10 ^ r.length ≤ 65536 := by
      rw [List.length_cons, Nat.pow_succ] at h
      calc (acc + 1) * 10 * 10 ^ r.length = (acc + 1) * (10 ^ r.length * 10) := by rw [Nat.mul_assoc, Nat.mul_comm 10]
        _ ≤ 65536 := h
    simp only [pu, decGo, dig]
    by_cases hc : 48 ≤ c.toNat ∧ c.toNat ≤ 57
    · rw [if_pos hc, if_pos hc]
      have h3 : (10 * acc + (c.toNat - 48) + 1) * 10 ^ r.length ≤ 65536 := Nat.le_trans (Nat.mul_le_mul_right _ (by omega)) h2
      have h4 : 10 * acc + (c.toNat - 48) + 1 ≤ 65536 := Nat.le_trans (Nat.le_mul_of_pos_right _ hp) h3
      dsimp only
      rw [if_pos ⟨by omega, by omega⟩, show acc * 10 + (c.toNat - 48) = 10 * acc + (c.toNat - 48) by omega]
      exact pu_dec r _ h3
    · rw [if_neg hc, if_neg hc]
      by_cases hd : 97 ≤ (c ||| 32).toNat ∧ (c ||| 32).toNat ≤ 122
      · rw [if_pos hd]
        dsimp only
        rw [if_neg (by omega)]
      · rw [if_neg hd]
theorem num_dec {l : List UInt8} (h3 : l.length ≤ 3) (h0 : l ≠ []) (hz : ¬ (1 < l.length ∧ l[0]? = some 48)) : numS l = decGo 0 l := by
  unfold numS puE
  rw [if_neg h0, pu_dec l 0 ?_]
  · cases decGo 0 l with
    | none => rfl
    | some u => dsimp only; rw [if_neg (fun h => h.elim (fun h => by omega) hz)]
  · have : 10 ^ l.length ≤ 10 ^ 3 := Nat.pow_le_pow_right (by decide) h3
    omega
theorem decGo_le : ∀ (l : List UInt8) (acc u : Nat), decGo acc l = some u → u < (acc + 1) * 10 ^ l.length
  | [], acc, u, h => by cases h; simp
  | c :: r, acc, u, h => by
    simp only [decGo] at h
    split at h
    · have := decGo_le r _ u h
      rw [List.length_cons, Nat.pow_succ]
      refine Nat.lt_of_lt_of_le this ?_
      calc (10 * acc + (c.toNat - 48) + 1) * 10 ^ r.length ≤ ((acc + 1) * 10) * 10 ^ r.length := Nat.mul_le_mul_right _ (by omega)
        _ = (acc + 1) * (10 ^ r.length * 10) := by rw [Nat.mul_assoc, Nat.mul_comm 10]
    · cases h
theorem dec_step {l : List UInt8} {j : Nat} {b : UInt8} (n : Nat) (h : l[j]? = some b) : decGo n (l.drop j) = if 48 ≤ b.toNat ∧ b.toNat ≤ 57 then decGo (10 * n + (b.toNat - 48)) (l.drop (j + 1)) else none := by
  obtain ⟨hj, rfl⟩ := List.getElem?_eq_some_iff.1 h
  rw [List.drop_eq_getElem_cons hj]
  rfl
theorem rdec_any (t : ByteArray) (w : World) : Calls Tryz.prog 61 #[.string t, .int .i64 3] w fun e w' => e = .returned (numV t.data.toList) ∧ w = w' := by
  have hl : t.data.toList.length = t.size := Lib.size_eq t
  have hE : t.toList = t.data.toList := ByteArray.toList_eq t
  by_cases h0 : t.data.toList = []
  · have HV : Hid (numV t.data.toList = .tuple #[.int .i64 0, .bool false]) := by rw [h0]; rfl
    have e0 : t.toList.isEmpty = true := by rw [hE, h0]; rfl
    generalize numV t.data.toList = V at *
    clear hl hE h0
    go_enter Tryz.func61, Tryz.ntmps61
    go_wp2
    go_ret2
    exact ⟨by rw [HV.out]; rfl, rfl⟩
  have e0 : t.toList.isEmpty = false := by rw [hE]; simpa using h0
  have hp : 0 < t.size := by rw [← hl]; exact List.length_pos_iff.2 h0
  by_cases h3 : 3 < t.size
  · have HV : Hid (numV t.data.toList = .tuple #[.int .i64 0, .bool false]) := by
      show _ = _
      unfold numV numS
      cases puE 10 t.data.toList with
      | none => rfl
      | some u => dsimp only; rw [if_pos (.inl (by omega))]
    generalize numV t.data.toList = V at *
    have h3' : (3 : Int) < (t.size : Int) := by omega
    clear hl hE h0 h3
    go_enter Tryz.func61, Tryz.ntmps61
    go_wp2
    go_ret2
    exact ⟨by rw [HV.out]; rfl, rfl⟩
  have h3' : ¬ (3 : Int) < (t.size : Int) := by omega
  have hz := first_byte t hp
  by_cases h1 : 1 < t.size ∧ t[0] = 48
  · have HV : Hid (numV t.data.toList = .tuple #[.int .i64 0, .bool false]) := by
      show _ = _
      unfold numV numS
      cases puE 10 t.data.toList with
      | none => rfl
      | some u => dsimp only; rw [if_pos (.inr ⟨by omega, by rw [hz, h1.2]⟩)]
    generalize numV t.data.toList = V at *
    have h1' : (1 : Int) < (t.size : Int) := by omega
    have hb : ((t[0].toNat : Int) == 48) = true := by rw [h1.2]; rfl
    clear hl hE h0 h3 h1 hz
    go_enter Tryz.func61, Tryz.ntmps61
    go_wp2
    go_ret2
    exact ⟨by rw [HV.out]; rfl, rfl⟩
  have HN : Hid (numS t.data.toList = decGo 0 t.data.toList) := num_dec (by omega) h0 (by rw [hz]; rintro ⟨h, h'⟩; exact h1 ⟨by omega, Option.some.inj h'⟩)
  have HV : Hid (∀ r, numS t.data.toList = r → numV t.data.toList = match r with | some u => .tuple #[.int .i64 (u : Int), .bool true] | none => .tuple #[.int .i64 0, .bool false]) := fun r h => by rw [← h]; rfl
  have HI : Hid (∀ j (h : j < t.size), t.data.toList[j]? = some t[j]) := fun j h => by
    rw [List.getElem?_eq_getElem (by rw [hl]; exact h)]; rfl
  have HL : Hid (t.data.toList.length = t.size) := hl
  have h1' : ¬ 1 < t.size ∨ ((t[0].toNat : Int) == 48) = false := by
    by_cases h : 1 < t.size
    · right
      rw [beq_eq_false_iff_ne]
      intro e
      exact h1 ⟨h, UInt8.toNat.inj (by simp; omega)⟩
    · exact .inl h
  generalize numV t.data.toList = V at *
  generalize t.data.toList = l at *
  clear hl hE h0 h1 hz
  have main : ∀ (K : Act → World → Prop) (a : Act), True := fun _ _ => trivial
  clear main
  go_enter Tryz.func61, Tryz.ntmps61
  rcases h1' with h1' | h1'
  all_goals (try (have h1'' : ¬ (1 : Int) < (t.size : Int) := by omega))
  all_goals go_wp2
  all_goals
    go_loopw [6, 7] (fun v i wr => ∃ (j n : Nat), j ≤ t.size ∧ i = .int .i64 j ∧ v = .int .i64 n ∧ n < 10 ^ j ∧ decGo 0 l = decGo n (l.drop j) ∧ w = wr) (fun _ i _ => t.size - (intOf i).toNat)
    case atStart => exact ⟨0, 0, Nat.zero_le _, rfl, rfl, by simp, rfl, rfl⟩
    case round =>
      obtain ⟨j, n, hj, rfl, rfl, hn, hd, rfl⟩ := hrel
      by_cases hlt : j < t.size
      · have hst := dec_step n (HI.out j hlt)
        have hn2 : n < 100 := by
          have : 10 ^ j ≤ 10 ^ 2 := Nat.pow_le_pow_right (by decide) (by omega)
          omega
        have hb8 := t[j].toNat_lt
        by_cases c1 : t[j].toNat < 48
        · have c1' : ((t[j].toNat : Nat) : Int) < 48 := by omega
          have HF : Hid (decGo 0 l = none) := by show _ = _; rw [hd, hst, if_neg (by omega)]
          clear hst hd
          go_wp2
          go_ret2
          exact ⟨by rw [HV.out none (HN.out.trans HF.out)]; rfl, rfl⟩
        · by_cases c2 : 57 < t[j].toNat
          · have c1' : ¬ ((t[j].toNat : Nat) : Int) < 48 := by omega
            have c2' : (57 : Int) < ((t[j].toNat : Nat) : Int) := by omega
            have HF : Hid (decGo 0 l = none) := by show _ = _; rw [hd, hst, if_neg (by omega)]
            clear hst hd
            go_wp2
            go_ret2
            exact ⟨by rw [HV.out none (HN.out.trans HF.out)]; rfl, rfl⟩
          · have c1' : ¬ ((t[j].toNat : Nat) : Int) < 48 := by omega
            have c2' : ¬ (57 : Int) < ((t[j].toNat : Nat) : Int) := by omega
            have HF : Hid (decGo 0 l = decGo (10 * n + (t[j].toNat - 48)) (l.drop (j + 1))) := by show _ = _; rw [hd, hst, if_pos (by omega)]
            have HP : Hid (10 * n + (t[j].toNat - 48) < 10 ^ (j + 1)) := by
              show _ < _
              rw [Nat.pow_succ]; omega
            have hw8 : IntKind.u8.wrap (((t[j].toNat : Nat) : Int) - 48) = ((t[j].toNat - 48 : Nat) : Int) := by
              simp [IntKind.wrap, IntKind.signed, IntKind.bits]; omega
            clear hst hd
            go_wp2
            go_roundw
            case rel => exact ⟨j + 1, 10 * n + (t[j].toNat - 48), by omega, by go_num, by go_num, HP.out, HF.out, trivial⟩
            case measure => simp [intOf]; omega
      · have HF : Hid (decGo 0 l = some n) := by
          show _ = _
          rw [hd, List.drop_eq_nil_of_le (by rw [HL.out]; omega)]; rfl
        clear hd
        go_wp2
        go_ret2
        exact ⟨by rw [HV.out _ (HN.out.trans HF.out)]; rfl, rfl⟩
end Go.Proofs.YtimpopolkofdgaaGreatDoor
