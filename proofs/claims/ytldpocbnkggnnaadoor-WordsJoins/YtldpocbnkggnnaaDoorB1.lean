/-
  The contract of the law's printable.
-/
import Derived.Test.YtldpocbnkggnnaaDoorB0
namespace Go.Proofs.YtldpocbnkggnnaaDoor
open Go.RowKit
set_option linter.unusedSimpArgs false
set_option maxRecDepth 20000
def tot (ws : List (List UInt8)) : Nat := (ws.map List.length).sum
theorem tot_take (ws : List (List UInt8)) (j : Nat) (hj : j < ws.length) : tot (ws.take (j + 1)) = tot (ws.take j) + ws[j].length := by
  unfold tot
  rw [List.take_succ_eq_append_getElem hj, List.map_append, List.sum_append]
  simp only [List.map_cons, List.map_nil, List.sum_cons, List.sum_nil, Nat.add_zero]
theorem tot_le (ws : List (List UInt8)) (hx : ∀ x ∈ ws, x.length ≤ 140737488355328) : ∀ j, tot (ws.take j) ≤ j * 140737488355328
  | 0 => by simp [tot]
  | j + 1 => by
    have ih := tot_le ws hx j
    by_cases hj : j < ws.length
    · rw [tot_take ws j hj, Nat.succ_mul]
      exact Nat.add_le_add ih (hx ws[j] (List.getElem_mem hj))
    · rw [List.take_of_length_le (by omega)] at ih ⊢
      exact Nat.le_trans ih (Nat.mul_le_mul_right _ (by omega))
theorem tot_300 (ws : List (List UInt8)) (hx : ∀ x ∈ ws, x.length ≤ 140737488355328) (j : Nat) (hj : j ≤ 300) : tot (ws.take j) ≤ 42221246506598400 :=
  Nat.le_trans (tot_le ws hx j) (Nat.le_trans (Nat.mul_le_mul_right _ hj) (by decide))
/-- What printable tells if it is true. -/
def Prn (ws : List (List UInt8)) : Prop := (∀ x ∈ ws, x.all prn = true) ∧ ws.length ≤ 300 ∧ tot ws ≤ 70000
def PrnPost (ws : List (List UInt8)) (w : World) (e : Ending) (w' : World) : Prop := ∃ B : Bool, e = .returned (.bool B) ∧ (B = true → Prn ws) ∧ w' = w
theorem mem_tot : ∀ (ws : List (List UInt8)) (x : List UInt8), x ∈ ws → x.length ≤ tot ws
  | y :: ws, x, h => by
    rcases List.mem_cons.1 h with rfl | h
    · simp [tot]
    · have := mem_tot ws x h
      simp [tot] at this ⊢
      omega
set_option maxHeartbeats 1000000 in
theorem printable_any (ws : List (List UInt8)) (a : Option Addr) (n c : Nat) (w : World) (hs : Src w a n c (scells ws)) (hn : n ≤ 140737488355328) (hx : ∀ x ∈ ws, x.length ≤ 140737488355328) :
    Calls Tryd.prog 16 #[.slice a n c] w (PrnPost ws w) := by
  have HN : Hid (n = ws.length) := hs.slen
  have HT : Hid (∀ j (h : j < ws.length), tot (ws.take (j + 1)) = tot (ws.take j) + ws[j].length) := tot_take ws
  have HL : Hid (∀ j, j ≤ 300 → tot (ws.take j) ≤ 42221246506598400) := tot_300 ws hx
  obtain ⟨M, hM⟩ : ∃ M, M = 70000 := ⟨_, rfl⟩
  have HM : Hid (M = 70000) := hM
  clear hM
  have HX : Hid (∀ j (h : j < ws.length), ws[j].length ≤ 140737488355328) := fun j h => hx _ (List.getElem_mem h)
  have HS : Hid (Src w a n c (scells ws)) := hs
  clear hx hs
  go_enter Tryd.func16, Tryd.ntmps16
  go_wp2
  go_loopw [3, 4] (fun v i wr => ∃ (j : Nat) (s : Int), j ≤ n ∧ i = .int .i64 j ∧ v = .int .i64 s ∧ Hid (j ≤ 300 → s = tot (ws.take j)) ∧ Hid (∀ x ∈ ws.take j, (x.take M).all prn = true) ∧ w = wr) (fun _ i _ => n - (intOf i).toNat)
  case atStart => exact ⟨0, 0, Nat.zero_le _, rfl, rfl, (fun _ => rfl), (fun x hx => by simp at hx), rfl⟩
  case round =>
    obtain ⟨j, s, hj, rfl, rfl, hS, hP, rfl⟩ := hrel
    by_cases hlt : j < n
    · have j1 : j < ws.length := by have := HN.out; omega
      have w1 : wrap64 ((j : Int) + 1) = (j : Int) + 1 := by unfold wrap64; omega
      cases a with
      | none => exact absurd (HS.out.bare rfl).1 (by omega)
      | some a =>
      have c1 := HS.out.textAt j j1
      have hXj := HX.out j j1
      have hTj := HT.out j j1
      have hP2 : Hid ((ws[j].take M).all prn = true → ∀ x ∈ ws.take (j + 1), (x.take M).all prn = true) := fun h x hx => by
        rw [List.take_succ_eq_append_getElem j1] at hx
        rcases List.mem_append.1 hx with hx | hx
        · exact hP.out x hx
        · simp at hx; rw [hx]; exact h
      obtain ⟨x, hx⟩ : ∃ x, x = ws[j] := ⟨_, rfl⟩
      rw [← hx] at c1 hXj hTj hP2
      clear hx hP
      obtain ⟨t, ht⟩ : ∃ t, t = str x := ⟨_, rfl⟩
      have HTS : Hid (t.size = x.length) := by show _ = _; rw [ht, ← len_t]
      have htl : t.size ≤ 140737488355328 := by rw [HTS.out]; exact hXj
      have HI : Hid (∀ j (h : j < t.size), x[j]? = some t[j]) := fun j h => by rw [← at_byte t j h, ht]
      rw [← ht] at c1
      obtain ⟨s2, hs2⟩ : ∃ s2, wrap64 (s + (t.size : Int)) = s2 := ⟨_, rfl⟩
      have hS2 : Hid (j + 1 ≤ 300 → s2 = tot (ws.take (j + 1))) := fun h => by
        have e := hS.out (by omega)
        have h3 := HL.out j (by omega)
        have h4 := HTS.out
        rw [← hs2, hTj, e]
        unfold wrap64
        omega
      clear hS hTj ht
      go_wp2
      go_loopw [5] (fun i wr => ∃ (k : Nat), k ≤ t.size ∧ k ≤ 70000 ∧ i = .int .i64 k ∧ Hid ((x.take k).all prn = true) ∧ w = wr) (fun i _ => t.size - (intOf i).toNat)
      case atStart => exact ⟨0, Nat.zero_le _, Nat.zero_le _, rfl, (rfl : _ = _), rfl⟩
      case round =>
        obtain ⟨k, hk, hk7, rfl, hA, rfl⟩ := hrel
        have w2 : wrap64 ((k : Int) + 1) = (k : Int) + 1 := by unfold wrap64; omega
        by_cases h1 : k < t.size
        · by_cases h2 : k < 70000
          · have hA2 : Hid ((x.take (k + 1)).all prn = prn t[k]) := by
              show _ = _
              have hkx : k < x.length := by rw [← HTS.out]; exact h1
              have := HI.out k h1
              rw [List.getElem?_eq_getElem hkx] at this
              rw [List.take_succ_eq_append_getElem hkx, List.all_append, hA.out, Option.some.inj this]
              simp
            have hp : prn t[k] = (decide (32 ≤ t[k].toNat) && decide (t[k].toNat ≤ 126)) := rfl
            rw [hp] at hA2
            clear hp
            have h1' : (k : Int) < (t.size : Int) := by omega
            have h2' : (k : Int) < 70000 := by omega
            by_cases c2 : t[k].toNat < 32
            · have c2' : (t[k].toNat : Int) < 32 := by omega
              go_wp2
              go_ret
              exact ⟨false, rfl, (fun h => by cases h), rfl⟩
            · have c2' : ¬ (t[k].toNat : Int) < 32 := by omega
              by_cases c3 : 126 < t[k].toNat
              · have c3' : (126 : Int) < (t[k].toNat : Int) := by omega
                go_wp2
                go_ret
                exact ⟨false, rfl, (fun h => by cases h), rfl⟩
              · have c3' : ¬ (126 : Int) < (t[k].toNat : Int) := by omega
                have hA3 : Hid ((x.take (k + 1)).all prn = true) := hA2.out.trans (by rw [decide_eq_true (by omega), decide_eq_true (by omega)]; rfl)
                clear hA hA2
                go_wp2
                go_roundw
                case rel => exact ⟨k + 1, by omega, by omega, by go_num, hA3, trivial⟩
                case measure => simp [intOf]; omega
          · have h2' : ¬ (k : Int) < 70000 := by omega
            have h1' : (k : Int) < (t.size : Int) := by omega
            have hA3 : Hid ((x.take M).all prn = true) := by show _ = _; rw [HM.out, show 70000 = k by omega]; exact hA.out
            go_wp2
            go_roundw
            case rel => exact ⟨j + 1, s2, by omega, by go_num, by rw [hs2], hS2, hP2.out hA3.out, trivial⟩
            case measure => simp [intOf]; omega
        · have h1' : ¬ (k : Int) < (t.size : Int) := by omega
          have hA3 : Hid ((x.take M).all prn = true) := by
            show _ = _
            have := hA.out
            rw [List.take_of_length_le (by rw [← HTS.out]; omega)] at this
            rw [List.take_of_length_le (by rw [← HTS.out, HM.out]; omega)]
            exact this
          go_wp2
          go_roundw
          case rel => exact ⟨j + 1, s2, by omega, by go_num, by rw [hs2], hS2, hP2.out hA3.out, trivial⟩
          case measure => simp [intOf]; omega
    · obtain rfl : n = j := by omega
      have HP : Hid (s ≤ 70000 → n ≤ 300 → Prn ws) := fun h1 h2 => by
        have e := hS.out h2
        have hp := hP.out
        rw [List.take_of_length_le (by rw [HN.out]; exact Nat.le_refl _)] at e hp
        refine ⟨fun x hx => ?_, by rw [← HN.out]; exact h2, by omega⟩
        have h3 := mem_tot ws x hx
        have := hp x hx
        rwa [List.take_of_length_le (by rw [HM.out]; omega)] at this
      clear hS hP
      by_cases h1 : s ≤ 70000
      · by_cases h2 : n ≤ 300
        · have h2' : (n : Int) ≤ 300 := by omega
          go_wp2
          go_ret
          exact ⟨true, rfl, fun _ => HP.out h1 h2, rfl⟩
        · have h2' : ¬ (n : Int) ≤ 300 := by omega
          go_wp2
          go_ret
          exact ⟨false, rfl, (fun h => by cases h), rfl⟩
      · go_wp2
        go_ret
        exact ⟨false, rfl, (fun h => by cases h), rfl⟩
end Go.Proofs.YtldpocbnkggnnaaDoor
