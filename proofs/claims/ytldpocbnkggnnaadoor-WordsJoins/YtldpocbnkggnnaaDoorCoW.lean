/-
  The walk of WordsComments.
-/
import Derived.Test.YtldpocbnkggnnaaDoorLv
namespace Go.Proofs.YtldpocbnkggnnaaDoor
open Go.RowKit
set_option linter.unusedSimpArgs false
set_option maxRecDepth 20000
def thenW (A : Ans) (x : List UInt8) : Ans := if A.2 = 0 then wd .gap x A.1 else ([], A.2)
theorem plain_wd : ∀ (s x : List UInt8), (∀ c ∈ s, c ≠ 34 ∧ c ≠ 35) → (∀ o, wd .gap (s ++ 32 :: x) o = thenW (wd .gap s o) x) ∧ ∀ a o, wd (.word a) (s ++ 32 :: x) o = thenW (wd (.word a) s o) x
  | [], x, _ => ⟨fun o => by simp [wd, thenW, prn_32], fun a o => by simp [wd, thenW, prn_32]⟩
  | c :: s, x, h => by
    obtain ⟨ih1, ih2⟩ := plain_wd s x (fun d hd => h d (by simp [hd]))
    obtain ⟨h1, h2⟩ := h c (by simp)
    refine ⟨fun o => ?_, fun a o => ?_⟩
    · simp only [List.cons_append, wd, if_neg h1, if_neg h2]
      by_cases hp : prn c = true
      · by_cases hc : c = 32
        · simp only [hp, hc, if_true]; exact ih1 o
        · simp only [hp, if_true, if_neg hc]; exact ih2 _ o
      · simp [hp, thenW]
    · simp only [List.cons_append, wd]
      by_cases hp : prn c = true
      · by_cases hc : c = 32
        · simp only [hp, hc, if_true]; exact ih1 _
        · simp only [hp, if_true, if_neg hc]; exact ih2 _ o
      · simp [hp, thenW]
theorem pad_wd (x : List UInt8) (o : List (List UInt8)) : ∀ n, wd .gap (List.replicate n 32 ++ x) o = wd .gap x o
  | 0 => rfl
  | n + 1 => by
    rw [List.replicate_succ, List.cons_append]
    have : wd .gap (32 :: (List.replicate n 32 ++ x)) o = wd .gap (List.replicate n 32 ++ x) o := by simp [wd, prn_32]
    rw [this, pad_wd x o n]
def tailC : List UInt8 := [35, 32, 97, 110, 100, 32, 109, 111, 114, 101, 32, 34, 32, 104, 101, 114, 101]
theorem tail_wd (o : List (List UInt8)) : wd .gap tailC o = (o, 0) := by
  rw [rest_wd tailC o (.inr rfl), if_pos (by decide)]
theorem wd_err : ∀ (l : List UInt8) (s : At) (o : List (List UInt8)), (wd s l o).2 = 0 ∨ (wd s l o).1 = []
  | [], s, o => by cases s <;> simp [wd]
  | c :: r, s, o => by
    have ih := wd_err r
    cases s <;> simp only [wd] <;> repeat' split
    all_goals first
      | exact ih _ _
      | (right; rfl)
theorem com_same (s : List UInt8) (n : Nat) (hs : s.length ≤ 900) (hn : n ≤ 20) (h : ∀ c ∈ s, c ≠ 34 ∧ c ≠ 35) : wordsL (List.replicate n 32 ++ s ++ [32] ++ List.replicate n 32 ++ tailC) = wordsL s := by
  have e : List.replicate n 32 ++ s ++ [32] ++ List.replicate n 32 ++ tailC = List.replicate n 32 ++ (s ++ 32 :: (List.replicate n 32 ++ tailC)) := by simp
  unfold wordsL
  rw [if_neg (by simp [tailC]; omega), if_neg (by omega), e, pad_wd, (plain_wd s _ h).1, thenW]
  by_cases h0 : (wd .gap s []).2 = 0
  · rw [if_pos h0, pad_wd, tail_wd, ← h0]
  · rw [if_neg h0]
    rcases wd_err s .gap [] with h1 | h1
    · exact absurd h1 h0
    · exact Prod.ext h1.symm rfl
theorem words_few (l : List UInt8) : (wordsL l).1.length ≤ 1025 := by
  unfold wordsL
  split
  · simp
  · have := wd_out l .gap []
    simp at this ⊢
    omega
theorem com_walk (t : ByteArray) (n : Int) (w : World) (hM : Ml w) (hL : ∀ W, Below w.heap.size w W → Calls Tryd.prog 8 #[] W fun e w' => e = .returned (.bool true) ∧ Below W.heap.size W w') :
    Calls Tryd.prog 6 #[.string t, .int .i64 n] w fun e w' => e = .returned (.bool true) ∧ Below w.heap.size w w' := by
  have HI : Hid (∀ j (h : j < t.size), t.data.toList[j]? = some t[j]) := at_byte t
  have HL := len_t t
  by_cases h1 : 900 < t.size
  · have h1' : (900 : Int) < (t.size : Int) := by omega
    go_enter Tryd.func6, Tryd.ntmps6
    go_wp2_with (go_at_call 8; refine (hL _ (Below.refl _ _)).mono ?_; rintro e w' ⟨rfl, hb⟩)
    go_ret
    exact ⟨rfl, hb⟩
  have h1' : ¬ (900 : Int) < (t.size : Int) := by omega
  by_cases h2 : n < 0
  · go_enter Tryd.func6, Tryd.ntmps6
    go_wp2_with (go_at_call 8; refine (hL _ (Below.refl _ _)).mono ?_; rintro e w' ⟨rfl, hb⟩)
    go_ret
    exact ⟨rfl, hb⟩
  by_cases h3 : 20 < n
  · go_enter Tryd.func6, Tryd.ntmps6
    go_wp2_with (go_at_call 8; refine (hL _ (Below.refl _ _)).mono ?_; rintro e w' ⟨rfl, hb⟩)
    go_ret
    exact ⟨rfl, hb⟩
  obtain ⟨m, rfl⟩ : ∃ m : Nat, n = m := ⟨n.toNat, by omega⟩
  have hm : m ≤ 20 := by omega
  obtain ⟨l, hl⟩ : ∃ l, t.data.toList = l := ⟨_, rfl⟩
  rw [hl] at HI HL
  have HD : Hid (t.data.toList = l) := hl
  have HLL : Hid (l.length = t.size) := HL
  clear hl HL
  go_enter Tryd.func6, Tryd.ntmps6
  go_wp2
  go_loopw [5] (fun i wr => ∃ (j : Nat), j ≤ t.size ∧ i = .int .i64 j ∧ Hid (∀ c ∈ l.take j, c ≠ 34 ∧ c ≠ 35) ∧ w = wr) (fun i _ => t.size - (intOf i).toNat)
  case atStart => exact ⟨0, Nat.zero_le _, rfl, (by simp : ∀ c ∈ l.take 0, c ≠ 34 ∧ c ≠ 35), rfl⟩
  case round =>
    obtain ⟨j, hj, rfl, hC, rfl⟩ := hrel
    have w1 : wrap64 ((j : Int) + 1) = (j : Int) + 1 := by unfold wrap64; omega
    by_cases hlt : j < t.size
    · by_cases c1 : t[j] = 35
      · have b1 : ((t[j].toNat : Int) == 35) = true := by rw [c1]; rfl
        go_wp2_with (go_at_call 8; refine (hL _ (Below.refl _ _)).mono ?_; rintro e w' ⟨rfl, hb⟩)
        go_ret
        exact ⟨rfl, hb⟩
      · have b1 : ((t[j].toNat : Int) == 35) = false := by
          rw [beq_eq_false_iff_ne]; intro e; exact c1 (UInt8.toNat.inj (by simp; omega))
        by_cases c2 : t[j] = 34
        · have b2 : ((t[j].toNat : Int) == 34) = true := by rw [c2]; rfl
          go_wp2_with (go_at_call 8; refine (hL _ (Below.refl _ _)).mono ?_; rintro e w' ⟨rfl, hb⟩)
          go_ret
          exact ⟨rfl, hb⟩
        · have b2 : ((t[j].toNat : Int) == 34) = false := by
            rw [beq_eq_false_iff_ne]; intro e; exact c2 (UInt8.toNat.inj (by simp; omega))
          have hC2 : Hid (∀ c ∈ l.take (j + 1), c ≠ 34 ∧ c ≠ 35) := by
            intro c hc
            have hjl : j < l.length := by rw [HLL.out]; exact hlt
            rw [List.take_succ_eq_append_getElem hjl] at hc
            rcases List.mem_append.1 hc with hc | hc
            · exact hC.out c hc
            · have := HI.out j hlt
              rw [List.getElem?_eq_getElem hjl] at this
              have := Option.some.inj this
              simp at hc
              rw [hc, this]
              exact ⟨c2, c1⟩
          clear hC c1 c2
          go_wp2
          go_roundw
          case rel => exact ⟨j + 1, by omega, by go_num, hC2, trivial⟩
          case measure => simp [intOf]; omega
    · obtain rfl : t.size = j := by omega
      have hC2 : Hid (∀ c ∈ l, c ≠ 34 ∧ c ≠ 35) := by
        have := hC.out
        rwa [List.take_of_length_le (by rw [HLL.out]; exact Nat.le_refl _)] at this
      have HS : Hid (wordsL (List.replicate m 32 ++ l ++ [32] ++ List.replicate m 32 ++ tailC) = wordsL l) := com_same l m (by rw [HLL.out]; omega) hm hC2.out
      have hW := words_l t (wordsL l) (by rw [HD.out]) w hM
      have hAl : (wordsL l).1.length ≤ 140737488355328 := Nat.le_trans (words_few l) (by decide)
      clear hC hC2
      generalize wordsL l = A at *
      have w0 : Below w.heap.size w w := Below.refl _ _
      go_wp2_with (go_at_call 9; have k := w0; clear w0; refine hW.mono ?_; rintro e w2 ⟨a2, c2, rfl, hO2, hs2, hb2⟩)
      clear hW hO2
      go_loopw [8, 9] (fun p i wr => ∃ (j : Nat) (pt : ByteArray), j ≤ m ∧ i = .int .i64 j ∧ p = .string pt ∧ pt.size = j ∧ Hid (pt.data.toList = List.replicate j 32) ∧ w2 = wr) (fun _ i _ => m - (intOf i).toNat)
      case atStart => exact ⟨0, ⟨#[]⟩, Nat.zero_le _, rfl, rfl, rfl, (rfl : _ = _), rfl⟩
      case round =>
        obtain ⟨j, pt, hj, rfl, rfl, hps, hp, rfl⟩ := hrel
        have w1 : wrap64 ((j : Int) + 1) = (j : Int) + 1 := by unfold wrap64; omega
        by_cases hlt : j < m
        · obtain ⟨p2, hp2⟩ : ∃ p2, pt ++ ⟨#[32]⟩ = p2 := ⟨_, rfl⟩
          have hsz : ¬ 9223372036854775807 < pt.size + 1 := by omega
          have H2 : Hid (p2.data.toList = List.replicate (j + 1) 32) := by
            show _ = _
            rw [← hp2, app_t, hp.out, List.replicate_succ']
          have H3 : p2.size = j + 1 := by rw [← len_t, H2.out]; simp
          go_wp2
          go_roundw
          case rel => exact ⟨j + 1, p2, by omega, by go_num, by simp, H3, H2, trivial⟩
          case measure => simp [intOf]; omega
        · obtain rfl : m = j := by omega
          obtain ⟨x1, e1⟩ : ∃ x, pt ++ t = x := ⟨_, rfl⟩
          obtain ⟨x2, e2⟩ : ∃ x, x1 ++ ⟨#[32]⟩ = x := ⟨_, rfl⟩
          obtain ⟨x3, e3⟩ : ∃ x, x2 ++ pt = x := ⟨_, rfl⟩
          obtain ⟨x4, e4⟩ : ∃ x, x3 ++ ⟨#[35, 32, 97, 110, 100, 32, 109, 111, 114, 101, 32, 34, 32, 104, 101, 114, 101]⟩ = x := ⟨_, rfl⟩
          have z1 : x1.size = m + t.size := by rw [← e1, ByteArray.size_append]; omega
          have z2 : x2.size = m + t.size + 1 := by rw [← e2, ByteArray.size_append]; show x1.size + 1 = _; omega
          have z3 : x3.size = m + t.size + 1 + m := by rw [← e3, ByteArray.size_append]; omega
          have y1 : ¬ 9223372036854775807 < pt.size + t.size := by omega
          have y2 : ¬ 9223372036854775807 < x1.size + 1 := by omega
          have y3 : ¬ 9223372036854775807 < x2.size + pt.size := by omega
          have y4 : ¬ 9223372036854775807 < x3.size + 17 := by omega
          have hW := words_l x4 A (by rw [← e4, app_t, ← e3, app_t, ← e2, app_t, ← e1, app_t, hp.out, HD.out]; exact HS.out) w2 (hM.keep hb2)
          have hT := fun W a b c d h1 h2 hn => texts_any A.1 A.1 a b A.1.length c A.1.length d W h1 h2 hn hn
          rw [decide_eq_true rfl] at hT
          have hN := fun W => num_any (A.2 : Int) W
          have HA : Hid (A = A) := rfl
          generalize A.2 = en at *
          generalize A.1.length = an at *
          generalize A.1 = aw at *
          clear z1 z2 z3 HS HI
          go_wp2_with (first
            | (go_at_call 9; refine hW.mono ?_; rintro e w3 ⟨a3, c3, rfl, hO3, hs3, hb3⟩; replace hs2 := hs2.stay hb3; clear hW hO3)
            | (go_at_call 13; refine (hT _ _ _ _ _ hs2 hs3 hAl).mono ?_; rintro e w4 ⟨rfl, hb4⟩)
            | (go_at_call 14; refine (hN _).mono ?_; rintro e w5 ⟨rfl, rfl⟩)
            | (go_at_call 8; refine (hL _ (bt (bt hb2 hb3) hb4)).mono ?_; rintro e w6 ⟨rfl, hb6⟩))
          go_ret
          exact ⟨rfl, bt (bt (bt hb2 hb3) hb4) hb6⟩
end Go.Proofs.YtldpocbnkggnnaaDoor
