/-
  The inner ParseUint of package strconv at the bases 10 and 16 and sixteen bits, for every text.
-/
import Derived.Test.YtimpopolkofdgaaGreatDoorBest
import Derived.Lib.ConvBytes
import Derived.Lib.Strings
import Derived.Lib.ParseIntBMem
import Derived.Lib.AtoiErrMem
import Derived.Laws.Strings3
import Derived.Laws.Closers25
import Derived.Laws.Closers25b
namespace Go.Proofs.YtimpopolkofdgaaGreatDoor
open Go.RowKit
set_option linter.unusedSimpArgs false

/-- What a byte is worth as a digit. -/
def dig (c : UInt8) : Option Nat := if 48 ≤ c.toNat ∧ c.toNat ≤ 57 then some (c.toNat - 48) else if 97 ≤ (c ||| 32).toNat ∧ (c ||| 32).toNat ≤ 122 then some ((c ||| 32).toNat - 87) else none
/-- A number in base b, of at most sixteen bits. -/
def pu (b acc : Nat) : List UInt8 → Option Nat
  | [] => some acc
  | c :: r => match dig c with
    | some d => if d < b ∧ acc * b + d ≤ 65535 then pu b (acc * b + d) r else none
    | none => none
def puE (b : Nat) (l : List UInt8) : Option Nat := if l = [] then none else pu b 0 l
/-- What the inner ParseUint answers. -/
def PU (b : Nat) (l : List UInt8) (e : Ending) : Prop :=
  (∃ u, puE b l = some u ∧ e = .returned (.tuple #[.int .u64 (u : Int), .nilIface])) ∨ (puE b l = none ∧ ∃ x k : Int, (k = 1 ∨ k = 2) ∧ e = .returned (.tuple #[.int .u64 x, .iface 125 (.int .i64 k)]))
theorem pu_le (b : Nat) : ∀ (l : List UInt8) (acc u : Nat), acc ≤ 65535 → pu b acc l = some u → u ≤ 65535
  | [], acc, u, h, e => by simp [pu] at e; omega
  | c :: r, acc, u, h, e => by
    simp only [pu] at e
    cases hd : dig c with
    | none => rw [hd] at e; cases e
    | some d =>
      rw [hd] at e
      by_cases hc : d < b ∧ acc * b + d ≤ 65535
      · simp only [if_pos hc] at e
        exact pu_le b r _ u hc.2 e
      · simp only [if_neg hc] at e; cases e
theorem or_bits (c : UInt8) : bits BinOp.or IntKind.u8 (c.toNat : Int) 32 = ((c ||| 32).toNat : Int) := by
  have h : ((List.range 256).all fun b => bits BinOp.or IntKind.u8 (b : Int) 32 == (((b ||| 32) % 256 : Nat) : Int)) = true := by kernel_rfl
  have h1 := List.all_eq_true.1 h c.toNat (List.mem_range.2 c.toNat_lt)
  rw [eq_of_beq h1]
  have : c.toNat ||| 32 < 2 ^ 8 := Nat.or_lt_two_pow (n := 8) c.toNat_lt (by decide)
  have e : (c ||| 32).toNat = c.toNat ||| 32 := by rw [UInt8.toNat_or]; rfl
  rw [e, Nat.mod_eq_of_lt this]
set_option maxRecDepth 100000 in
theorem iparse_empty (b : Int) (w : World) : Calls Tryz.prog 95 #[.string ⟨#[]⟩, .int .i64 b, .int .i64 16] w fun e w' => e = .returned (.tuple #[.int .u64 0, .iface 125 (.int .i64 2)]) ∧ w' = w := by
  go_enter Tryz.func95, Tryz.ntmps95
  go_wp2
  go_ret2
  exact ⟨rfl, rfl⟩

set_option maxHeartbeats 32000000 in
set_option maxRecDepth 100000 in
theorem iparse_10 (t : ByteArray) (hne : t.size ≠ 0) (hmax : t.size ≤ 9223372036854775806) (w : World) :
    Calls Tryz.prog 95 #[.string t, .int .i64 10, .int .i64 16] w fun e w' => PU 10 t.data.toList e ∧ Below w.heap.size w w' := by
  have hemp : t.toList.isEmpty = false := by
    rw [← decide_eq_emptyBytes]
    exact decide_eq_false (fun h => hne (by rw [h]; rfl))
  have hcv := Lib.run_convert_string_bytes (P := Tryz.prog) w 9 83 5 t (u := .string) Tryz.underlying9 Tryz.underlying83 Tryz.underlying5
  have hB : ∀ j, j < t.size → (Lib.bytesWorld w 5 t).cell? ⟨w.heap.size, j, none⟩ = some (.int .u8 (t.data.toList.getD j 0).toNat) := fun j hj => Lib.bytesWorld_cell w 5 t j hj
  have HBW : Hid (Below w.heap.size w (Lib.bytesWorld w 5 t)) := by
    exact Lib.bytesWorld_below w _ t
  obtain ⟨W1, hW1⟩ : ∃ W1, W1 = Lib.bytesWorld w 5 t := ⟨_, rfl⟩
  rw [← hW1] at hcv hB HBW
  clear hW1
  obtain ⟨bs, hL⟩ : ∃ bs, bs = t.data.toList := ⟨_, rfl⟩
  have hLn : bs.length = t.size := by rw [hL, Lib.size_eq]
  rw [← hL] at hB ⊢
  clear hL
  have HP : Hid (puE 10 bs = pu 10 0 bs) := by
    show _ = _
    rw [puE, if_neg]
    rintro rfl
    exact hne (by simpa using hLn.symm)
  have hmv : IntKind.u64.wrap (IntKind.u64.wrap 65536 - 1) = 65535 := by
    rw [IntKind.wrap_u64, IntKind.wrap_u64]
    decide
  go_enter Tryz.func95, Tryz.ntmps95
  go_wp2
  go_loop [12, 13, 101] (fun vu vn vi => ∃ (k acc : Nat) (a : Int), vu = .bool false ∧ vn = .int .u64 a ∧ vi = .int .i64 k ∧ k ≤ t.size ∧ Hid (a = (acc : Int) ∧ acc ≤ 65535 ∧ pu 10 0 bs = pu 10 acc (bs.drop k)))
    (fun _ _ vi => t.size - (intOf vi).toNat)
  case atStart => exact ⟨0, 0, 0, rfl, rfl, rfl, by omega, rfl, by omega, rfl⟩
  case round =>
    obtain ⟨k, acc, a, rfl, rfl, rfl, hk, hh⟩ := hrel
    obtain ⟨ha, hacc, hdec⟩ := hh.out
    clear hh
    have a0 : 0 ≤ a := by omega
    have a1 : a ≤ 65535 := by omega
    by_cases hkn : k < t.size
    · have hc := hB k hkn
      have hdrop : bs.drop k = bs[k]'(by omega) :: bs.drop (k + 1) := List.drop_eq_getElem_cons (by omega)
      have hget : bs.getD k 0 = bs[k]'(by omega) := by simp [List.getD, List.getElem?_eq_getElem (show k < bs.length by omega)]
      rw [hdrop] at hdec
      rw [hget] at hc
      generalize bs[k]'(by omega) = c at hc hdec
      have hc256 : c.toNat < 256 := c.toNat_lt
      clear hB hdrop hget
      by_cases hdig : 48 ≤ c.toNat ∧ c.toNat ≤ 57
      · obtain ⟨hd0, hd1⟩ := hdig
        have hD : dig c = some (c.toNat - 48) := by simp [dig, hd0, hd1]
        by_cases hov : 65535 < acc * 10 + (c.toNat - 48)
        · have hF : pu 10 acc (c :: bs.drop (k + 1)) = none := by simp only [pu, hD]; rw [if_neg (by omega)]
          have HF : Hid (puE 10 bs = none) := HP.out.trans (hdec.trans hF)
          have iov : 65535 < a * 10 + ((c.toNat : Int) - 48) := by omega
          clear hacc hF hov ha hdec hD
          go_wp2
          go_ret2
          exact ⟨.inr ⟨HF.out, _, 1, .inl rfl, rfl⟩, HBW.out⟩
        · have hF : pu 10 acc (c :: bs.drop (k + 1)) = pu 10 (acc * 10 + (c.toNat - 48)) (bs.drop (k + 1)) := by simp only [pu, hD]; rw [if_pos (by omega)]
          have HN : Hid (a * 10 + ((c.toNat : Int) - 48) = ((acc * 10 + (c.toNat - 48) : Nat) : Int) ∧ acc * 10 + (c.toNat - 48) ≤ 65535 ∧ pu 10 0 bs = pu 10 (acc * 10 + (c.toNat - 48)) (bs.drop (k + 1))) := ⟨by omega, by omega, hdec.trans hF⟩
          have iov : a * 10 + ((c.toNat : Int) - 48) ≤ 65535 := by omega
          clear hacc hF hov hdec ha hD
          go_wp2
          refine ⟨⟨k + 1, acc * 10 + (c.toNat - 48), a * 10 + ((c.toNat : Int) - 48), rfl, (by first | rfl | (congr 1; omega)), (by first | rfl | (congr 1; omega)), by omega, HN⟩, by simp [intOf]; omega⟩
      · have hF : pu 10 acc (c :: bs.drop (k + 1)) = none := by
          simp only [pu]
          cases hD : dig c with
          | none => rfl
          | some d =>
            rw [dig, if_neg hdig] at hD
            dsimp only
            rw [if_neg]
            by_cases hl : 97 ≤ (c ||| 32).toNat ∧ (c ||| 32).toNat ≤ 122
            · rw [if_pos hl] at hD
              cases hD
              omega
            · rw [if_neg hl] at hD; cases hD
        have HF : Hid (puE 10 bs = none) := HP.out.trans (hdec.trans hF)
        clear hacc hF ha hdec
        have hor := or_bits c
        generalize hlo : (c ||| 32).toNat = lo at *
        have hl256 : lo < 256 := by rw [← hlo]; exact (c ||| 32).toNat_lt
        have hvu : bits BinOp.or IntKind.u8 95 32 = 127 := by decide
        clear hlo
        go_wp2
        all_goals go_ret2
        all_goals exact ⟨.inr ⟨HF.out, _, 2, .inr rfl, rfl⟩, HBW.out⟩
    · have hkk : k = t.size := by omega
      subst hkk
      have hF : pu 10 acc (bs.drop t.size) = some acc := by rw [List.drop_eq_nil_of_le (by omega)]; rfl
      have HF : Hid (puE 10 bs = some acc) := HP.out.trans (hdec.trans hF)
      subst ha
      clear hacc hF a0 a1 hdec
      go_wp2
      go_ret2
      exact ⟨.inl ⟨acc, HF.out, rfl⟩, HBW.out⟩

set_option maxHeartbeats 32000000 in
set_option maxRecDepth 100000 in
theorem iparse_16 (t : ByteArray) (hne : t.size ≠ 0) (hmax : t.size ≤ 9223372036854775806) (w : World) :
    Calls Tryz.prog 95 #[.string t, .int .i64 16, .int .i64 16] w fun e w' => PU 16 t.data.toList e ∧ Below w.heap.size w w' := by
  have hemp : t.toList.isEmpty = false := by
    rw [← decide_eq_emptyBytes]
    exact decide_eq_false (fun h => hne (by rw [h]; rfl))
  have hcv := Lib.run_convert_string_bytes (P := Tryz.prog) w 9 83 5 t (u := .string) Tryz.underlying9 Tryz.underlying83 Tryz.underlying5
  have hB : ∀ j, j < t.size → (Lib.bytesWorld w 5 t).cell? ⟨w.heap.size, j, none⟩ = some (.int .u8 (t.data.toList.getD j 0).toNat) := fun j hj => Lib.bytesWorld_cell w 5 t j hj
  have HBW : Hid (Below w.heap.size w (Lib.bytesWorld w 5 t)) := by
    exact Lib.bytesWorld_below w _ t
  obtain ⟨W1, hW1⟩ : ∃ W1, W1 = Lib.bytesWorld w 5 t := ⟨_, rfl⟩
  rw [← hW1] at hcv hB HBW
  clear hW1
  obtain ⟨bs, hL⟩ : ∃ bs, bs = t.data.toList := ⟨_, rfl⟩
  have hLn : bs.length = t.size := by rw [hL, Lib.size_eq]
  rw [← hL] at hB ⊢
  clear hL
  have HP : Hid (puE 16 bs = pu 16 0 bs) := by
    show _ = _
    rw [puE, if_neg]
    rintro rfl
    exact hne (by simpa using hLn.symm)
  have hmv : IntKind.u64.wrap (IntKind.u64.wrap 65536 - 1) = 65535 := by
    rw [IntKind.wrap_u64, IntKind.wrap_u64]
    decide
  go_enter Tryz.func95, Tryz.ntmps95
  go_wp2
  go_loop [12, 13, 101] (fun vu vn vi => ∃ (k acc : Nat) (a : Int), vu = .bool false ∧ vn = .int .u64 a ∧ vi = .int .i64 k ∧ k ≤ t.size ∧ Hid (a = (acc : Int) ∧ acc ≤ 65535 ∧ pu 16 0 bs = pu 16 acc (bs.drop k)))
    (fun _ _ vi => t.size - (intOf vi).toNat)
  case atStart => exact ⟨0, 0, 0, rfl, rfl, rfl, by omega, rfl, by omega, rfl⟩
  case round =>
    obtain ⟨k, acc, a, rfl, rfl, rfl, hk, hh⟩ := hrel
    obtain ⟨ha, hacc, hdec⟩ := hh.out
    clear hh
    have a0 : 0 ≤ a := by omega
    have a1 : a ≤ 65535 := by omega
    by_cases hkn : k < t.size
    · have hc := hB k hkn
      have hdrop : bs.drop k = bs[k]'(by omega) :: bs.drop (k + 1) := List.drop_eq_getElem_cons (by omega)
      have hget : bs.getD k 0 = bs[k]'(by omega) := by simp [List.getD, List.getElem?_eq_getElem (show k < bs.length by omega)]
      rw [hdrop] at hdec
      rw [hget] at hc
      generalize bs[k]'(by omega) = c at hc hdec
      have hc256 : c.toNat < 256 := c.toNat_lt
      clear hB hdrop hget
      by_cases hdig : 48 ≤ c.toNat ∧ c.toNat ≤ 57
      · obtain ⟨hd0, hd1⟩ := hdig
        have hD : dig c = some (c.toNat - 48) := by simp [dig, hd0, hd1]
        by_cases hov : 65535 < acc * 16 + (c.toNat - 48)
        · have hF : pu 16 acc (c :: bs.drop (k + 1)) = none := by simp only [pu, hD]; rw [if_neg (by omega)]
          have HF : Hid (puE 16 bs = none) := HP.out.trans (hdec.trans hF)
          have iov : 65535 < a * 16 + ((c.toNat : Int) - 48) := by omega
          clear hacc hF hov ha hdec hD
          go_wp2
          go_ret2
          exact ⟨.inr ⟨HF.out, _, 1, .inl rfl, rfl⟩, HBW.out⟩
        · have hF : pu 16 acc (c :: bs.drop (k + 1)) = pu 16 (acc * 16 + (c.toNat - 48)) (bs.drop (k + 1)) := by simp only [pu, hD]; rw [if_pos (by omega)]
          have HN : Hid (a * 16 + ((c.toNat : Int) - 48) = ((acc * 16 + (c.toNat - 48) : Nat) : Int) ∧ acc * 16 + (c.toNat - 48) ≤ 65535 ∧ pu 16 0 bs = pu 16 (acc * 16 + (c.toNat - 48)) (bs.drop (k + 1))) := ⟨by omega, by omega, hdec.trans hF⟩
          have iov : a * 16 + ((c.toNat : Int) - 48) ≤ 65535 := by omega
          clear hacc hF hov hdec ha hD
          go_wp2
          refine ⟨⟨k + 1, acc * 16 + (c.toNat - 48), a * 16 + ((c.toNat : Int) - 48), rfl, (by first | rfl | (congr 1; omega)), (by first | rfl | (congr 1; omega)), by omega, HN⟩, by simp [intOf]; omega⟩
      by_cases hlet : 97 ≤ (c ||| 32).toNat ∧ (c ||| 32).toNat ≤ 102
      · have hD : dig c = some ((c ||| 32).toNat - 87) := by rw [dig, if_neg hdig, if_pos ⟨hlet.1, by omega⟩]
        have hor := or_bits c
        generalize hlo : (c ||| 32).toNat = lo at *
        clear hlo
        obtain ⟨hl0, hl1⟩ := hlet
        have h95 : ¬ c.toNat = 95 := by
          intro h
          rw [h] at hor
          have : bits BinOp.or IntKind.u8 ((95 : Nat) : Int) 32 = 127 := by decide
          omega
        have i95 : ((c.toNat : Int) == 95) = false := by simp; omega
        have inot : (c.toNat : Int) < 48 ∨ 57 < (c.toNat : Int) := by omega
        have j0 : (97 : Int) ≤ (lo : Int) := by omega
        have j1 : (lo : Int) ≤ 102 := by omega
        by_cases hov : 65535 < acc * 16 + (lo - 87)
        · have hF : pu 16 acc (c :: bs.drop (k + 1)) = none := by simp only [pu, hD]; rw [if_neg (by omega)]
          have HF : Hid (puE 16 bs = none) := HP.out.trans (hdec.trans hF)
          have iov : 65535 < a * 16 + ((lo : Int) - 97 + 10) := by omega
          clear hacc hF hov ha hdec hD h95 hdig
          rcases inot with inot | inot
          all_goals go_wp2
          all_goals go_ret2
          all_goals exact ⟨.inr ⟨HF.out, _, 1, .inl rfl, rfl⟩, HBW.out⟩
        · have hF : pu 16 acc (c :: bs.drop (k + 1)) = pu 16 (acc * 16 + (lo - 87)) (bs.drop (k + 1)) := by simp only [pu, hD]; rw [if_pos (by omega)]
          have HN : Hid (a * 16 + ((lo : Int) - 97 + 10) = ((acc * 16 + (lo - 87) : Nat) : Int) ∧ acc * 16 + (lo - 87) ≤ 65535 ∧ pu 16 0 bs = pu 16 (acc * 16 + (lo - 87)) (bs.drop (k + 1))) := ⟨by omega, by omega, hdec.trans hF⟩
          have iov : a * 16 + ((lo : Int) - 97 + 10) ≤ 65535 := by omega
          clear hacc hF hov hdec ha hD h95 hdig
          rcases inot with inot | inot
          all_goals go_wp2
          all_goals refine ⟨⟨k + 1, acc * 16 + (lo - 87), a * 16 + ((lo : Int) - 97 + 10), rfl, (by first | rfl | (congr 1; omega)), (by first | rfl | (congr 1; omega)), by omega, HN⟩, by simp [intOf]; omega⟩
      · have hF : pu 16 acc (c :: bs.drop (k + 1)) = none := by
          simp only [pu]
          cases hD : dig c with
          | none => rfl
          | some d =>
            rw [dig, if_neg hdig] at hD
            dsimp only
            rw [if_neg]
            by_cases hl : 97 ≤ (c ||| 32).toNat ∧ (c ||| 32).toNat ≤ 122
            · rw [if_pos hl] at hD
              cases hD
              exact fun q => hlet ⟨hl.1, by omega⟩
            · rw [if_neg hl] at hD; cases hD
        have HF : Hid (puE 16 bs = none) := HP.out.trans (hdec.trans hF)
        clear hacc hF ha hdec
        have hor := or_bits c
        generalize hlo : (c ||| 32).toNat = lo at *
        have hl256 : lo < 256 := by rw [← hlo]; exact (c ||| 32).toNat_lt
        have hvu : bits BinOp.or IntKind.u8 95 32 = 127 := by decide
        clear hlo
        go_wp2
        all_goals go_ret2
        all_goals exact ⟨.inr ⟨HF.out, _, 2, .inr rfl, rfl⟩, HBW.out⟩
    · have hkk : k = t.size := by omega
      subst hkk
      have hF : pu 16 acc (bs.drop t.size) = some acc := by rw [List.drop_eq_nil_of_le (by omega)]; rfl
      have HF : Hid (puE 16 bs = some acc) := HP.out.trans (hdec.trans hF)
      subst ha
      clear hacc hF a0 a1 hdec
      go_wp2
      go_ret2
      exact ⟨.inl ⟨acc, HF.out, rfl⟩, HBW.out⟩
end Go.Proofs.YtimpopolkofdgaaGreatDoor
