/-
  The contracts of printable, allPrintable and follows, for every text.
-/
import Derived.Test.YtldpocbnkggnnaaDoorP
import Derived.Test.YtldpocbnkggnnaaDoorShelf
namespace Go.Proofs.YtldpocbnkggnnaaDoor
open Go.RowKit
set_option linter.unusedSimpArgs false

theorem prn_any (c : UInt8) (w : World) : Calls Tryd.prog 45 #[.int .u8 (c.toNat : Int)] w fun e w' => e = .returned (.bool (prn c)) ∧ w' = w := by
  have HP : Hid (prn c = (decide (32 ≤ c.toNat) && decide (c.toNat ≤ 126))) := rfl
  generalize prn c = p at *
  generalize c.toNat = n at *
  by_cases h1 : 32 ≤ n
  · have h1' : (32 : Int) ≤ (n : Int) := by omega
    by_cases h2 : n ≤ 126
    · have h2' : (n : Int) ≤ 126 := by omega
      go_enter Tryd.func45, Tryd.ntmps45
      go_wp2
      go_ret
      exact ⟨by rw [HP.out]; simp [h1, h2], rfl⟩
    · have h2' : ¬ (n : Int) ≤ 126 := by omega
      go_enter Tryd.func45, Tryd.ntmps45
      go_wp2
      go_ret
      exact ⟨by rw [HP.out]; simp [h1, h2], rfl⟩
  · have h1' : ¬ (32 : Int) ≤ (n : Int) := by omega
    go_enter Tryd.func45, Tryd.ntmps45
    go_wp2
    go_ret
    exact ⟨by rw [HP.out]; simp [h1], rfl⟩
theorem allPrn_any (t : ByteArray) (w : World) (hlim : t.size ≤ 1000000) : Calls Tryd.prog 27 #[.string t] w fun e w' => e = .returned (.bool (t.data.toList.all prn)) ∧ w' = w := by
  have HD : Hid (∀ j (h : j < t.size), t.data.toList.drop j = t[j] :: t.data.toList.drop (j + 1)) := drop_byte t
  have HE : Hid (t.data.toList.drop t.size = []) := by show _ = _; rw [← len_t]; simp
  generalize t.data.toList = l at *
  go_enter Tryd.func27, Tryd.ntmps27
  go_wp2
  go_loopw [6] (fun i wr => ∃ (j : Nat), j ≤ t.size ∧ i = .int .i64 j ∧ Hid (l.all prn = (l.drop j).all prn) ∧ w = wr) (fun i _ => t.size - (intOf i).toNat)
  case atStart => exact ⟨0, Nat.zero_le _, rfl, (rfl : _ = _), rfl⟩
  case round =>
    obtain ⟨j, hj, rfl, hA, rfl⟩ := hrel
    by_cases hlt : j < t.size
    · have HA : Hid (l.all prn = (prn t[j] && (l.drop (j + 1)).all prn)) := by show _ = _; rw [hA.out, HD.out j hlt]; rfl
      clear hA
      cases hp : prn t[j]
      · rw [hp] at HA
        have hc := prn_any t[j] w
        rw [hp] at hc
        go_wp2_with (go_at_call 45; refine hc.mono ?_; rintro e w' ⟨rfl, rfl⟩)
        go_ret
        exact ⟨by rw [HA.out]; rfl, rfl⟩
      · rw [hp] at HA
        have hc := prn_any t[j] w
        rw [hp] at hc
        go_wp2_with (go_at_call 45; refine hc.mono ?_; rintro e w' ⟨rfl, rfl⟩)
        go_roundw
        case rel => exact ⟨j + 1, by omega, by go_num, (HA.out.trans (by simp) : _ = _), trivial⟩
        case measure => simp [intOf]; omega
    · obtain rfl : t.size = j := by omega
      go_wp2
      go_ret
      exact ⟨by rw [hA.out, HE.out]; rfl, rfl⟩
theorem idx_mem (l : List UInt8) (c : UInt8) : (Lib.indexByte l c < 0 ∧ c ∉ l) ∨ (¬ Lib.indexByte l c < 0 ∧ c ∈ l) := by
  induction l with
  | nil => left; simp [Lib.indexByte]
  | cons b l ih =>
    by_cases h : b = c
    · subst h; right; simp [Lib.indexByte]
    · have h' : (b == c) = false := by simpa using h
      have hg := Lib.indexByte_ge l c
      rcases ih with ⟨h1, h2⟩ | ⟨h1, h2⟩
      · left
        have : Lib.indexByte l c = -1 := by omega
        simp [Lib.indexByte, h', this, h2]
        exact fun e => h e.symm
      · right
        have h3 : (Lib.indexByte l c == -1) = false := by rw [beq_eq_false_iff_ne]; omega
        simp only [Lib.indexByte, h', h3, List.mem_cons, h2, or_true, and_true]
        simp
        omega
theorem follows_any (t s : ByteArray) (w : World) : Calls Tryd.prog 52 #[.string t, .string s] w fun e w' => e = .returned (.int .i64 (fol t.data.toList s.data.toList : Nat)) ∧ w' = w := by
  by_cases h0 : 0 < t.size
  · have HF : Hid (fol t.data.toList s.data.toList = if prn t[0] then (if t[0] ∈ s.data.toList then 0 else 80) else 81) := by
      show _ = _
      have := drop_byte t 0 h0
      rw [List.drop_zero] at this
      rw [this]; rfl
    have e0 : t.toList.isEmpty = false := by rw [ByteArray.toList_eq]; simp; intro h; have := len_t t; simp [h] at this; omega
    have hi := Tryd.strings_IndexByte s (t[0].toNat : Int) w
    have e1 : ((t[0].toNat : Int).toNat.toUInt8) = t[0] := by apply UInt8.toNat.inj; simp
    rw [e1] at hi
    clear e1
    cases hp : prn t[0]
    · rw [hp] at HF
      have hc := prn_any t[0] w
      rw [hp] at hc
      generalize fol t.data.toList s.data.toList = F at *
      go_enter Tryd.func52, Tryd.ntmps52
      go_wp2_with (go_at_call 45; refine hc.mono ?_; rintro e w' ⟨rfl, rfl⟩)
      go_ret
      exact ⟨by rw [HF.out]; rfl, rfl⟩
    · rw [hp] at HF
      have hc := prn_any t[0] w
      rw [hp] at hc
      generalize fol t.data.toList s.data.toList = F at *
      rcases idx_mem s.data.toList t[0] with ⟨k1, k2⟩ | ⟨k1, k2⟩
      all_goals
        generalize Lib.indexByte s.data.toList t[0] = ix at *
        have K2 : Hid _ := k2
        clear k2
        go_enter Tryd.func52, Tryd.ntmps52
        go_wp2_with (first
          | (go_at_call 45; refine hc.mono ?_; rintro e w' ⟨rfl, rfl⟩)
          | (go_at_call 36; refine hi.mono ?_; rintro e w' ⟨rfl, rfl⟩))
        go_ret
        exact ⟨by rw [HF.out]; first | (rw [if_pos K2.out]; rfl) | (rw [if_neg K2.out]; rfl), rfl⟩
  · have e0 : t.toList.isEmpty = true := by rw [ByteArray.toList_eq, List.isEmpty_iff]; exact List.eq_nil_of_length_eq_zero (by rw [len_t]; omega)
    have HF : Hid (fol t.data.toList s.data.toList = 80) := by
      show _ = _
      have : t.data.toList = [] := List.eq_nil_of_length_eq_zero (by rw [len_t]; omega)
      rw [this]; rfl
    generalize fol t.data.toList s.data.toList = F at *
    go_enter Tryd.func52, Tryd.ntmps52
    go_wp2
    go_ret
    exact ⟨by rw [HF.out]; rfl, rfl⟩
end Go.Proofs.YtldpocbnkggnnaaDoor
