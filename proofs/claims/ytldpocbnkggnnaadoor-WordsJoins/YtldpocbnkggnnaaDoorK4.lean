/-
  The contracts of Texts, num, mustQuote, quote, Join: for every texts.
-/
import Derived.Test.YtldpocbnkggnnaaDoorK3
namespace Go.Proofs.YtldpocbnkggnnaaDoor
open Go.RowKit
set_option linter.unusedSimpArgs false
set_option maxRecDepth 20000

theorem num_any (x : Int) (w : World) : Calls Tryd.prog 14 #[.int .i64 x] w fun e w' => e = .returned (.int .i64 x) ∧ w' = w := by
  go_enter Tryd.func14, Tryd.ntmps14
  go_wp2
  go_ret
  exact ⟨rfl, rfl⟩
theorem Src.textAt {w : World} {ad : Addr} {n c : Nat} {l : List (List UInt8)} (h : Src w (some ad) n c (scells l)) (j : Nat) (hj : j < l.length) : w.cell? (ad.add j) = some (.string (str l[j])) :=
  h.cell ad rfl j _ (by simp [scells, hj])
theorem texts_any (ws vs : List (List UInt8)) (a b : Option Addr) (n c m d : Nat) (w : World) (ha : Src w a n c (scells ws)) (hb : Src w b m d (scells vs)) (hn : n ≤ 140737488355328) (hm : m ≤ 140737488355328) :
    Calls Tryd.prog 13 #[.slice a n c, .slice b m d] w fun e w' => e = .returned (.bool (decide (ws = vs))) ∧ Below w.heap.size w w' := by
  have HN : Hid (n = ws.length) := ha.slen
  have HM : Hid (m = vs.length) := hb.slen
  obtain ⟨B, hB⟩ : ∃ B, B = decide (ws = vs) := ⟨_, rfl⟩
  rw [← hB]
  have HB : Hid (B = decide (ws = vs)) := hB
  clear hB
  by_cases hnm : n = m
  · subst hnm
    have e1 : ((n : Int) == (n : Int)) = true := by simp
    go_enter Tryd.func13, Tryd.ntmps13
    go_wp2
    go_loopw [5] (fun i wr => ∃ (j : Nat), j ≤ n ∧ i = .int .i64 j ∧ Hid (B = decide (ws.drop j = vs.drop j)) ∧ Below w.heap.size w wr) (fun i _ => n - (intOf i).toNat)
    case atStart => exact ⟨0, Nat.zero_le _, rfl, HB.out, Below.refl _ _⟩
    case round =>
      obtain ⟨j, hj, rfl, hE, hw⟩ := hrel
      by_cases hlt : j < n
      · cases a with
        | none => exact absurd (ha.bare rfl).1 (by omega)
        | some a =>
        cases b with
        | none => exact absurd (hb.bare rfl).1 (by omega)
        | some b =>
        have j1 : j < ws.length := by have := HN.out; omega
        have j2 : j < vs.length := by have := HM.out; omega
        have c1 := (ha.stay hw).textAt j j1
        have c2 := (hb.stay hw).textAt j j2
        have hE2 : Hid (B = decide (ws[j] = vs[j] ∧ ws.drop (j + 1) = vs.drop (j + 1))) := by
          show _ = _
          rw [hE.out, decide_eq_decide, List.drop_eq_getElem_cons j1, List.drop_eq_getElem_cons j2]
          exact ⟨fun h => List.cons.inj h, fun h => by rw [h.1, h.2]⟩
        clear hE
        obtain ⟨x, hx⟩ : ∃ x, x = ws[j] := ⟨_, rfl⟩
        obtain ⟨y, hy⟩ : ∃ y, y = vs[j] := ⟨_, rfl⟩
        rw [← hx] at c1 hE2
        rw [← hy] at c2 hE2
        clear hx hy
        have w1 : wrap64 ((j : Int) + 1) = (j : Int) + 1 := by unfold wrap64; omega
        by_cases hxy : x = y
        · subst hxy
          generalize str x = sx at *
          go_wp2
          go_quiet (fail)
          go_wp2
          go_roundw
          case rel => exact ⟨j + 1, by omega, by simp, by show _ = _; rw [hE2.out]; simp, below_drewN hw _⟩
          case measure => simp [intOf]; omega
        · have hne2 : ((str x).toList == (str y).toList) = false := by rw [ByteArray.toList_eq, ByteArray.toList_eq]; simpa using hxy
          have hE3 : Hid (B = false) := by show _ = _; rw [hE2.out]; simp [hxy]
          clear hE2 hxy
          generalize str x = sx at *
          generalize str y = sy at *
          go_wp2
          go_quiet (fail)
          go_wp2
          go_ret
          exact ⟨by rw [hE3.out]; rfl, below_drewN hw _⟩
      · obtain rfl : n = j := by omega
        have hE3 : Hid (B = true) := by show _ = _; rw [hE.out, List.drop_eq_nil_of_le (by have := HN.out; omega), List.drop_eq_nil_of_le (by have := HM.out; omega)]; rfl
        clear hE
        go_wp2
        go_ret
        exact ⟨by rw [hE3.out]; rfl, hw⟩
  · have e1 : ((n : Int) == (m : Int)) = false := by rw [beq_eq_false_iff_ne]; omega
    have hE3 : Hid (B = false) := by show _ = _; rw [HB.out]; simp; intro h; exact hnm (by rw [HN.out, HM.out, h])
    clear HB
    go_enter Tryd.func13, Tryd.ntmps13
    go_wp2
    go_ret
    exact ⟨by rw [hE3.out]; rfl, Below.refl _ _⟩
/-- Must a word be quoted? -/
def mq (l : List UInt8) : Bool := decide (l = []) || (decide (l.head? = some 34) || (decide (l.head? = some 35) || decide (32 ∈ l)))
theorem mustQuote_any (t : ByteArray) (w : World) : Calls Tryd.prog 32 #[.string t] w fun e w' => e = .returned (.bool (mq t.data.toList)) ∧ w' = w := by
  by_cases h0 : 0 < t.size
  · have hd := drop_byte t 0 h0
    rw [List.drop_zero] at hd
    have e0 : t.toList.isEmpty = false := by rw [ByteArray.toList_eq, hd]; rfl
    have HF : Hid (mq t.data.toList = (decide (t[0] = 34) || (decide (t[0] = 35) || decide (32 ∈ t.data.toList)))) := by
      show _ = _
      unfold mq
      have e1 : t.data.toList ≠ [] := by rw [hd]; simp
      have e2 : t.data.toList.head? = some t[0] := by rw [hd]; rfl
      rw [decide_eq_false e1, e2]
      simp
    have hi := Tryd.strings_Contains_one t 32 w
    generalize mq t.data.toList = M at *
    clear hd
    by_cases c1 : t[0] = 34
    · have b1 : ((t[0].toNat : Int) == 34) = true := by rw [c1]; rfl
      go_enter Tryd.func32, Tryd.ntmps32
      go_wp2
      go_ret
      exact ⟨by rw [HF.out, c1]; rfl, rfl⟩
    · have b1 : ((t[0].toNat : Int) == 34) = false := by
        rw [beq_eq_false_iff_ne]; intro e; exact c1 (UInt8.toNat.inj (by simp; omega))
      by_cases c2 : t[0] = 35
      · have b2 : ((t[0].toNat : Int) == 35) = true := by rw [c2]; rfl
        go_enter Tryd.func32, Tryd.ntmps32
        go_wp2
        go_ret
        exact ⟨by rw [HF.out, c2]; rfl, rfl⟩
      · have b2 : ((t[0].toNat : Int) == 35) = false := by
          rw [beq_eq_false_iff_ne]; intro e; exact c2 (UInt8.toNat.inj (by simp; omega))
        have HF2 : Hid (M = decide (32 ∈ t.data.toList)) := by show _ = _; rw [HF.out, decide_eq_false c1, decide_eq_false c2]; rfl
        have HI : Hid (decide (0 ≤ Lib.indexByte t.data.toList 32) = decide (32 ∈ t.data.toList)) := by
          show _ = _
          rcases idx_mem t.data.toList 32 with ⟨k1, k2⟩ | ⟨k1, k2⟩
          · rw [decide_eq_false k2, decide_eq_false (by omega)]
          · rw [decide_eq_true k2, decide_eq_true (by omega)]
        rw [HI.out, ← HF2.out] at hi
        clear HI HF HF2 c1 c2
        go_enter Tryd.func32, Tryd.ntmps32
        go_wp2_with (go_at_call 47; refine hi.mono ?_; rintro e w' ⟨rfl, rfl⟩)
        go_ret
        exact ⟨rfl, rfl⟩
  · have hn : t.data.toList = [] := List.eq_nil_of_length_eq_zero (by rw [len_t]; omega)
    have e0 : t.toList.isEmpty = true := by rw [ByteArray.toList_eq, hn]; rfl
    rw [hn]
    go_enter Tryd.func32, Tryd.ntmps32
    go_wp2
    go_ret
    exact ⟨rfl, rfl⟩
end Go.Proofs.YtldpocbnkggnnaaDoor
