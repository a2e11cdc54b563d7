/-
  The document's in, Name, full, local and Family: they answer, for every input.
-/
import Derived.Test.YtacadlbhgelncaaCtb
namespace Go.Proofs.Ytacadlbhgelncaa
open Lk (Hi hcs hcs_one)
open Rk (Rt rcs rtV)
open Go.RowKit
set_option linter.unusedSimpArgs false
set_option maxRecDepth 20000
/-- It answers a bool, and makes memory alone. -/
def SomeB (w : World) (e : Ending) (w' : World) : Prop := ∃ b : Bool, e = .returned (.bool b) ∧ Below w.heap.size w w'
/-- It answers a number, and makes memory alone. -/
def SomeI (w : World) (e : Ending) (w' : World) : Prop := ∃ z : Int, e = .returned (.int .i64 z) ∧ Below w.heap.size w w'
theorem w64 (z : Int) (h : -9223372036854775808 ≤ z) (h' : z ≤ 9223372036854775807) : wrap64 z = z := by unfold wrap64; omega
/-- Whether a number lies between two. -/
def InB (n l m : Int) (w : World) (e : Ending) (w' : World) : Prop := ∃ b : Bool, e = .returned (.bool b) ∧ (b = true → l ≤ n ∧ n ≤ m) ∧ w = w'
theorem rin_is (n l m : Int) (w : World) : Calls Try.prog 47 #[.int .i64 n, .int .i64 l, .int .i64 m] w (InB n l m w) := by
  by_cases h1 : l ≤ n
  · by_cases h2 : n ≤ m
    · go_enter Try.func47, Try.ntmps47
      go_wp2
      go_ret
      exact ⟨true, by first | rfl | simp_all, fun _ => ⟨h1, h2⟩, rfl⟩
    · go_enter Try.func47, Try.ntmps47
      go_wp2
      go_ret
      exact ⟨false, by first | rfl | simp_all, fun h => (by cases h), rfl⟩
  · go_enter Try.func47, Try.ntmps47
    go_wp2
    go_ret
    exact ⟨false, by first | rfl | simp_all, fun h => (by cases h), rfl⟩
set_option maxHeartbeats 4000000 in
theorem rname_any (s : ByteArray) (w : World) : Calls Try.prog 61 #[.string s] w (SomeB w) := by
  by_cases hlen : 15 < (s.size : Int)
  · go_enter Try.func61, Try.ntmps61
    go_wp2
    all_goals
      go_ret
      exact ⟨_, rfl, Below.refl _ _⟩
  · go_enter Try.func61, Try.ntmps61
    go_wp2
    · go_ret
      exact ⟨_, rfl, Below.refl _ _⟩
    · go_ret
      exact ⟨_, rfl, Below.refl _ _⟩
    go_loopw [3] (fun i wr => ∃ j : Nat, j ≤ s.size ∧ i = .int .i64 j ∧ w = wr) (fun i _ => s.size - (intOf i).toNat)
    case atStart => exact ⟨0, Nat.zero_le _, rfl, rfl⟩
    case round =>
      obtain ⟨j, hj, rfl, rfl⟩ := hrel
      by_cases hlt : j < s.size
      · have hlt1 : (j : Int) < (s.size : Int) := Int.ofNat_lt.2 hlt
        have hwj : wrap64 ((j : Int) + 1) = (j : Int) + 1 := w64 _ (by omega) (by omega)
        have HT : Hid (j + 1 ≤ s.size ∧ s.size - ((j : Int) + 1).toNat < s.size - ((j : Int)).toNat) := by
          constructor <;> omega
        clear hlt hj hlen
        go_upto_region 7 with fail
        apply wp_region_lit
        refine cutB 7 21 6 (fun _ W => w = W) ?_ ?_
        · simp only [List.take_succ_cons, List.take_zero]
          go_wp2
          all_goals exact CutQ.normal ⟨by kernel_rfl, by kernel_rfl, _, rfl, rfl⟩
        · intro xs0 b W hl0 hPB
          obtain ⟨y21, xs1, rfl, hl1⟩ := len_s hl0
          obtain ⟨y22, xs2, rfl, hl2⟩ := len_s hl1
          obtain ⟨y23, xs3, rfl, hl3⟩ := len_s hl2
          obtain ⟨y24, xs4, rfl, hl4⟩ := len_s hl3
          obtain ⟨y25, xs5, rfl, hl5⟩ := len_s hl4
          obtain ⟨y26, xs6, rfl, hl6⟩ := len_s hl5
          obtain rfl := len_z hl6
          clear hl0 hl1 hl2 hl3 hl4 hl5 hl6
          simp only [List.drop_succ_cons, List.drop_zero]
          simp only [over, List.cons_append, List.nil_append, Act.put, List.setIfInBounds_toArray, List.set_cons_zero, List.set_cons_succ, Nat.reduceAdd]
          obtain rfl := hPB
          refine cutB 8 28 7 (fun _ W => w = W) ?_ ?_
          · simp only [List.take_succ_cons, List.take_zero]
            cases b with
            | true =>
              go_wp2
              all_goals exact CutQ.normal ⟨by kernel_rfl, by kernel_rfl, _, rfl, rfl⟩
            | false =>
              go_wp2
              all_goals exact CutQ.normal ⟨by kernel_rfl, by kernel_rfl, _, rfl, rfl⟩
          · intro xs0 b W hl0 hPB
            obtain ⟨y28, xs1, rfl, hl1⟩ := len_s hl0
            obtain ⟨y29, xs2, rfl, hl2⟩ := len_s hl1
            obtain ⟨y30, xs3, rfl, hl3⟩ := len_s hl2
            obtain ⟨y31, xs4, rfl, hl4⟩ := len_s hl3
            obtain ⟨y32, xs5, rfl, hl5⟩ := len_s hl4
            obtain ⟨y33, xs6, rfl, hl6⟩ := len_s hl5
            obtain ⟨y34, xs7, rfl, hl7⟩ := len_s hl6
            obtain rfl := len_z hl7
            clear hl0 hl1 hl2 hl3 hl4 hl5 hl6 hl7
            simp only [List.drop_succ_cons, List.drop_zero]
            simp only [over, List.cons_append, List.nil_append, Act.put, List.setIfInBounds_toArray, List.set_cons_zero, List.set_cons_succ, Nat.reduceAdd]
            obtain rfl := hPB
            refine cutB 8 36 7 (fun _ W => w = W) ?_ ?_
            · simp only [List.take_succ_cons, List.take_zero]
              cases b with
              | true =>
                go_wp2
                all_goals exact CutQ.normal ⟨by kernel_rfl, by kernel_rfl, _, rfl, rfl⟩
              | false =>
                go_wp2
                all_goals exact CutQ.normal ⟨by kernel_rfl, by kernel_rfl, _, rfl, rfl⟩
            · intro xs0 b W hl0 hPB
              obtain ⟨y36, xs1, rfl, hl1⟩ := len_s hl0
              obtain ⟨y37, xs2, rfl, hl2⟩ := len_s hl1
              obtain ⟨y38, xs3, rfl, hl3⟩ := len_s hl2
              obtain ⟨y39, xs4, rfl, hl4⟩ := len_s hl3
              obtain ⟨y40, xs5, rfl, hl5⟩ := len_s hl4
              obtain ⟨y41, xs6, rfl, hl6⟩ := len_s hl5
              obtain ⟨y42, xs7, rfl, hl7⟩ := len_s hl6
              obtain rfl := len_z hl7
              clear hl0 hl1 hl2 hl3 hl4 hl5 hl6 hl7
              simp only [List.drop_succ_cons, List.drop_zero]
              simp only [over, List.cons_append, List.nil_append, Act.put, List.setIfInBounds_toArray, List.set_cons_zero, List.set_cons_succ, Nat.reduceAdd]
              obtain rfl := hPB
              refine cutB 4 44 3 (fun _ W => w = W) ?_ ?_
              · simp only [List.take_succ_cons, List.take_zero]
                cases b with
                | true =>
                  go_wp2
                  all_goals exact CutQ.normal ⟨by kernel_rfl, by kernel_rfl, _, rfl, rfl⟩
                | false =>
                  go_wp2
                  all_goals exact CutQ.normal ⟨by kernel_rfl, by kernel_rfl, _, rfl, rfl⟩
              · intro xs0 b W hl0 hPB
                obtain ⟨y44, xs1, rfl, hl1⟩ := len_s hl0
                obtain ⟨y45, xs2, rfl, hl2⟩ := len_s hl1
                obtain ⟨y46, xs3, rfl, hl3⟩ := len_s hl2
                obtain rfl := len_z hl3
                clear hl0 hl1 hl2 hl3
                simp only [List.drop_succ_cons, List.drop_zero]
                simp only [over, List.cons_append, List.nil_append, Act.put, List.setIfInBounds_toArray, List.set_cons_zero, List.set_cons_succ, Nat.reduceAdd]
                obtain rfl := hPB
                refine cutB 4 48 3 (fun _ W => w = W) ?_ ?_
                · simp only [List.take_succ_cons, List.take_zero]
                  cases b with
                  | true =>
                    go_wp2
                    all_goals exact CutQ.normal ⟨by kernel_rfl, by kernel_rfl, _, rfl, rfl⟩
                  | false =>
                    go_wp2
                    all_goals exact CutQ.normal ⟨by kernel_rfl, by kernel_rfl, _, rfl, rfl⟩
                · intro xs0 b W hl0 hPB
                  obtain ⟨y48, xs1, rfl, hl1⟩ := len_s hl0
                  obtain ⟨y49, xs2, rfl, hl2⟩ := len_s hl1
                  obtain ⟨y50, xs3, rfl, hl3⟩ := len_s hl2
                  obtain rfl := len_z hl3
                  clear hl0 hl1 hl2 hl3
                  simp only [List.drop_succ_cons, List.drop_zero]
                  simp only [over, List.cons_append, List.nil_append, Act.put, List.setIfInBounds_toArray, List.set_cons_zero, List.set_cons_succ, Nat.reduceAdd]
                  obtain rfl := hPB
                  cases b with
                  | true =>
                    go_wp2
                    go_roundw
                    case rel => exact ⟨j + 1, HT.out.1, by rw [hwj]; simp, trivial⟩
                    case measure =>
                      rw [hwj]
                      simp only [intOf]
                      exact HT.out.2
                  | false =>
                    go_wp2
                    · go_ret
                      exact ⟨_, rfl, Below.refl _ _⟩
                    · go_roundw
                      case rel => exact ⟨j + 1, HT.out.1, by rw [hwj]; simp, trivial⟩
                      case measure =>
                        rw [hwj]
                        simp only [intOf]
                        exact HT.out.2
      · go_wp2
        go_ret
        exact ⟨_, rfl, Below.refl _ _⟩
theorem rfull_some (l : List UInt8) (hl : l.length = 8) (w : World) : Calls Try.prog 43 #[.agg (bcells l).toArray] w (SomeB w) := by
  have hb := ba w (.cells (bcells l).toArray 32)
  have hA := Row.new w 32 (bcells l)
  go_enter Try.func43, Try.ntmps43
  go_wp2
  refine name_world (R := fun W => Code.wp _ _ _ _ W) (P := fun W => Below w.heap.size w W ∧ Row W w.heap.size 32 (bcells l)) _ ⟨hb, hA⟩ ?_
  clear hb hA
  rintro X ⟨hb, hA⟩
  go_loopw [3] (fun i wr => ∃ j : Nat, j ≤ 8 ∧ i = .int .i64 j ∧ X = wr) (fun i _ => 8 - (intOf i).toNat)
  case atStart => exact ⟨0, by omega, rfl, rfl⟩
  case round =>
    obtain ⟨j, hj, rfl, rfl⟩ := hrel
    by_cases hlt : j < 8
    · obtain ⟨b, hbj⟩ : ∃ b, l[j]? = some b := ⟨_, List.getElem?_eq_getElem (by omega)⟩
      have hc : X.cell? ⟨w.heap.size, j, none⟩ = some (.int .u8 b.toNat) := (hA.cell j).trans (bcells_get hbj)
      have hj8 : (j : Int) < 8 := by omega
      clear hbj hA hl
      cases hz : ((b.toNat : Int) != 255) with
      | true =>
        go_wp2
        go_ret
        exact ⟨_, rfl, hb⟩
      | false =>
        go_wp2
        go_roundw
        case rel => exact ⟨j + 1, by omega, by go_num, trivial⟩
        case measure => simp [intOf]; omega
    · obtain rfl : j = 8 := by omega
      clear hA
      go_wp2
      go_ret
      exact ⟨_, rfl, hb⟩
set_option maxHeartbeats 4000000 in
theorem rlocal_some (a : Ad) (w : World) : Calls Try.prog 62 #[(Value.agg (acells a).toArray)] w (SomeB w) := by
  have hb := ba w (.cells (acells a).toArray 29)
  have hA := LA.new w a 29
  go_enter Try.func62, Try.ntmps62
  go_wp2
  refine name_world (R := fun W => Code.wp _ _ _ _ W) (P := fun W => Below w.heap.size w W ∧ LA W w.heap.size 0 a) _ ⟨hb, hA⟩ ?_
  clear hb hA
  rintro X ⟨hb, hA⟩
  go_loopw [3] (fun i wr => ∃ j : Nat, j ≤ 8 ∧ i = .int .i64 j ∧ X = wr) (fun i _ => 8 - (intOf i).toNat)
  case atStart => exact ⟨0, by omega, rfl, rfl⟩
  case round =>
    obtain ⟨j, hj, rfl, rfl⟩ := hrel
    by_cases hlt : j < 8
    · obtain ⟨b, hbj⟩ : ∃ b, a.l[j]? = some b := ⟨_, List.getElem?_eq_getElem (by rw [a.len]; omega)⟩
      have hc : X.cell? ⟨w.heap.size, j, none⟩ = some (.int .u8 b.toNat) := by simpa using hA j _ (bcells_get hbj)
      have hj8 : (j : Int) < 8 := by omega
      have hJ : Hid (j + 1 ≤ 8) := hlt
      clear hbj hA hj
      rcases Nat.lt_trichotomy j 1 with h1 | h1 | h1
      · obtain rfl : j = 0 := by omega
        clear h1 hlt hj8
        cases hz : ((b.toNat : Int) != 254) with
        | true =>
          go_wp2
          go_ret
          exact ⟨_, rfl, hb⟩
        | false =>
          go_wp2
          go_roundw
          case rel => exact ⟨0 + 1, hJ.out, by go_num, trivial⟩
          case measure => have := hJ.out; simp [intOf] <;> omega
      · subst h1
        clear hlt hj8
        cases hz : ((b.toNat : Int) != 128) with
        | true =>
          go_wp2
          go_ret
          exact ⟨_, rfl, hb⟩
        | false =>
          go_wp2
          go_roundw
          case rel => exact ⟨1 + 1, hJ.out, by go_num, trivial⟩
          case measure => have := hJ.out; simp [intOf] <;> omega
      · have e0 : ((j : Int) == 0) = false := by simp; omega
        have e1 : ((j : Int) == 1) = false := by simp; omega
        have e2 : (1 : Int) < (j : Int) := by omega
        clear h1 hlt
        cases hz : ((b.toNat : Int) != 0) with
        | true =>
          go_wp2
          go_ret
          exact ⟨_, rfl, hb⟩
        | false =>
          go_wp2
          go_roundw
          case rel => exact ⟨j + 1, hJ.out, by go_num, trivial⟩
          case measure => have := hJ.out; simp [intOf] <;> omega
    · obtain rfl : j = 8 := by omega
      clear hA
      go_wp2
      go_ret
      exact ⟨_, rfl, hb⟩
set_option maxHeartbeats 4000000 in
theorem rfam_some (a : Ad) (w : World) : Calls Try.prog 63 #[(Value.agg (acells a).toArray)] w (SomeI w) := by
  have hb := ba w (.cells (acells a).toArray 29)
  have hA := LA.new w a 29
  go_enter Try.func63, Try.ntmps63
  go_wp2
  refine name_world (R := fun W => Code.wp _ _ _ _ W) (P := fun W => Below w.heap.size w W ∧ LA W w.heap.size 0 a) _ ⟨hb, hA⟩ ?_
  clear hb hA
  rintro X ⟨hb, hA⟩
  go_loopw [3] (fun i wr => ∃ j : Nat, j ≤ 12 ∧ i = .int .i64 j ∧ X = wr) (fun i _ => 12 - (intOf i).toNat)
  case atStart => exact ⟨0, by omega, rfl, rfl⟩
  case round =>
    obtain ⟨j, hj, rfl, rfl⟩ := hrel
    by_cases hlt : j < 12
    · obtain ⟨b, hbj⟩ : ∃ b, a.l[j]? = some b := ⟨_, List.getElem?_eq_getElem (by rw [a.len]; omega)⟩
      have hc : X.cell? ⟨w.heap.size, j, none⟩ = some (.int .u8 b.toNat) := by simpa using hA j _ (bcells_get hbj)
      have hj8 : (j : Int) < 12 := by omega
      have hJ : Hid (j + 1 ≤ 12) := hlt
      clear hbj hA hj
      by_cases h1 : j < 10
      · have e0 : (j : Int) < 10 := by omega
        have e1 : ¬ (10 : Int) ≤ (j : Int) := by omega
        clear h1 hlt
        cases hz : ((b.toNat : Int) != 0) with
        | true =>
          go_wp2
          go_ret
          exact ⟨_, rfl, hb⟩
        | false =>
          go_wp2
          go_roundw
          case rel => exact ⟨j + 1, hJ.out, by go_num, trivial⟩
          case measure => have := hJ.out; simp [intOf] <;> omega
      · have e0 : ¬ (j : Int) < 10 := by omega
        have e1 : (10 : Int) ≤ (j : Int) := by omega
        clear h1 hlt
        cases hz : ((b.toNat : Int) != 255) with
        | true =>
          go_wp2
          go_ret
          exact ⟨_, rfl, hb⟩
        | false =>
          go_wp2
          go_roundw
          case rel => exact ⟨j + 1, hJ.out, by go_num, trivial⟩
          case measure => have := hJ.out; simp [intOf] <;> omega
    · obtain rfl : j = 12 := by omega
      clear hA
      go_wp2
      go_ret
      exact ⟨_, rfl, hb⟩
end Go.Proofs.Ytacadlbhgelncaa
