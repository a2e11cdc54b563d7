/-
  The document's Name, bits and in of package culvertref09: they answer, for every input.
-/
import Derived.Test.YtfohknbgfpbmiaaRl
import Derived.Test.YtfohknbgfpbmiaaRfT
import Derived.Test.YtfohknbgfpbmiaaSum
import Derived.Deep.CutBlock
namespace Go.Proofs.Ytfohknbgfpbmiaa
open Go.RowKit
set_option linter.unusedSimpArgs false
set_option maxRecDepth 20000
/-- It answers a bool, and makes memory alone. -/
def SomeB (w : World) (e : Ending) (w' : World) : Prop := ∃ b : Bool, e = .returned (.bool b) ∧ Below w.heap.size w w'
/-- It answers a number, and makes memory alone. -/
def SomeI (w : World) (e : Ending) (w' : World) : Prop := ∃ z : Int, e = .returned (.int .i64 z) ∧ Below w.heap.size w w'
theorem rin_any (n l m : Int) (w : World) : Calls Try.prog 27 #[.int .i64 n, .int .i64 l, .int .i64 m] w (SomeB w) := by
  go_enter Try.func27, Try.ntmps27
  go_wp2
  all_goals
    go_ret
    exact ⟨_, rfl, Below.refl _ _⟩
theorem rbits_any (p : Pf) (w : World) : Calls Try.prog 29 #[(Value.agg (pcells p).toArray)] w (fun e w' => ∃ a b : Int, e = .returned (.tuple #[.int .i64 a, .int .i64 b]) ∧ Below w.heap.size w w') := by
  have hP := LP.new w p 26
  have hF := rpfam_any p
  have HL : Hid (∀ W, Below (w.alloc (.cells (pcells p).toArray 26)).heap.size (w.alloc (.cells (pcells p).toArray 26)) W → W.cell? ⟨w.heap.size, 16, none⟩ = some (.int .i64 p.n)) := fun W h => by
    have := (hP.below h (by simp)).n
    simpa using this
  go_enter Try.func29, Try.ntmps29
  go_wp2_with (first
    | (refine ldP (.tmp 1) rfl rfl _ _ p rfl hP ?_)
    | (go_at_call 24; refine (hF _).mono ?_; rintro e w1 ⟨rfl, hB1⟩; have c1 := HL.out _ hB1))
  all_goals
    go_ret2
    exact ⟨_, _, rfl, bt (ba _ _) hB1⟩
set_option maxHeartbeats 4000000 in
theorem rname_any (s : ByteArray) (w : World) : Calls Try.prog 28 #[.string s] w (SomeB w) := by
  by_cases hlen : 15 < (s.size : Int)
  · go_enter Try.func28, Try.ntmps28
    go_wp2
    all_goals
      go_ret
      exact ⟨_, rfl, Below.refl _ _⟩
  · go_enter Try.func28, Try.ntmps28
    go_wp2
    · go_ret
      exact ⟨_, rfl, Below.refl _ _⟩
    · go_ret
      exact ⟨_, rfl, Below.refl _ _⟩
    go_loopw [3] (fun i wr => ∃ j : Nat, j ≤ s.size ∧ i = .int .i64 j ∧ w = wr) (fun i _ => s.size - (intOf i).toNat)
    case atStart => exact ⟨0, Nat.zero_le _, rfl, rfl⟩
    case round =>
      obtain ⟨j, hj, rfl, rfl⟩ := hrel
      by_cases hlt : j < s.size
      · have hlt1 : (j : Int) < (s.size : Int) := Int.ofNat_lt.2 hlt
        have hwj : wrap64 ((j : Int) + 1) = (j : Int) + 1 := w64 _ (by omega) (by omega)
        have HT : Hid (j + 1 ≤ s.size ∧ s.size - ((j : Int) + 1).toNat < s.size - ((j : Int)).toNat) := by
          constructor <;> omega
        clear hlt hj hlen
        go_upto_region 7 with fail
        apply wp_region_lit
        refine cutB 7 21 6 (fun _ W => w = W) ?_ ?_
        · simp only [List.take_succ_cons, List.take_zero]
          go_wp2
          all_goals exact CutQ.normal ⟨by kernel_rfl, by kernel_rfl, _, rfl, rfl⟩
        · intro xs0 b W hl0 hPB
          obtain ⟨y21, xs1, rfl, hl1⟩ := len_s hl0
          obtain ⟨y22, xs2, rfl, hl2⟩ := len_s hl1
          obtain ⟨y23, xs3, rfl, hl3⟩ := len_s hl2
          obtain ⟨y24, xs4, rfl, hl4⟩ := len_s hl3
          obtain ⟨y25, xs5, rfl, hl5⟩ := len_s hl4
          obtain ⟨y26, xs6, rfl, hl6⟩ := len_s hl5
          obtain rfl := len_z hl6
          clear hl0 hl1 hl2 hl3 hl4 hl5 hl6
          simp only [List.drop_succ_cons, List.drop_zero]
          simp only [over, List.cons_append, List.nil_append, Act.put, List.setIfInBounds_toArray, List.set_cons_zero, List.set_cons_succ, Nat.reduceAdd]
          obtain rfl := hPB
          refine cutB 8 28 7 (fun _ W => w = W) ?_ ?_
          · simp only [List.take_succ_cons, List.take_zero]
            cases b with
            | true =>
              go_wp2
              all_goals exact CutQ.normal ⟨by kernel_rfl, by kernel_rfl, _, rfl, rfl⟩
            | false =>
              go_wp2
              all_goals exact CutQ.normal ⟨by kernel_rfl, by kernel_rfl, _, rfl, rfl⟩
          · intro xs0 b W hl0 hPB
            obtain ⟨y28, xs1, rfl, hl1⟩ := len_s hl0
            obtain ⟨y29, xs2, rfl, hl2⟩ := len_s hl1
            obtain ⟨y30, xs3, rfl, hl3⟩ := len_s hl2
            obtain ⟨y31, xs4, rfl, hl4⟩ := len_s hl3
            obtain ⟨y32, xs5, rfl, hl5⟩ := len_s hl4
            obtain ⟨y33, xs6, rfl, hl6⟩ := len_s hl5
            obtain ⟨y34, xs7, rfl, hl7⟩ := len_s hl6
            obtain rfl := len_z hl7
            clear hl0 hl1 hl2 hl3 hl4 hl5 hl6 hl7
            simp only [List.drop_succ_cons, List.drop_zero]
            simp only [over, List.cons_append, List.nil_append, Act.put, List.setIfInBounds_toArray, List.set_cons_zero, List.set_cons_succ, Nat.reduceAdd]
            obtain rfl := hPB
            refine cutB 8 36 7 (fun _ W => w = W) ?_ ?_
            · simp only [List.take_succ_cons, List.take_zero]
              cases b with
              | true =>
                go_wp2
                all_goals exact CutQ.normal ⟨by kernel_rfl, by kernel_rfl, _, rfl, rfl⟩
              | false =>
                go_wp2
                all_goals exact CutQ.normal ⟨by kernel_rfl, by kernel_rfl, _, rfl, rfl⟩
            · intro xs0 b W hl0 hPB
              obtain ⟨y36, xs1, rfl, hl1⟩ := len_s hl0
              obtain ⟨y37, xs2, rfl, hl2⟩ := len_s hl1
              obtain ⟨y38, xs3, rfl, hl3⟩ := len_s hl2
              obtain ⟨y39, xs4, rfl, hl4⟩ := len_s hl3
              obtain ⟨y40, xs5, rfl, hl5⟩ := len_s hl4
              obtain ⟨y41, xs6, rfl, hl6⟩ := len_s hl5
              obtain ⟨y42, xs7, rfl, hl7⟩ := len_s hl6
              obtain rfl := len_z hl7
              clear hl0 hl1 hl2 hl3 hl4 hl5 hl6 hl7
              simp only [List.drop_succ_cons, List.drop_zero]
              simp only [over, List.cons_append, List.nil_append, Act.put, List.setIfInBounds_toArray, List.set_cons_zero, List.set_cons_succ, Nat.reduceAdd]
              obtain rfl := hPB
              refine cutB 4 44 3 (fun _ W => w = W) ?_ ?_
              · simp only [List.take_succ_cons, List.take_zero]
                cases b with
                | true =>
                  go_wp2
                  all_goals exact CutQ.normal ⟨by kernel_rfl, by kernel_rfl, _, rfl, rfl⟩
                | false =>
                  go_wp2
                  all_goals exact CutQ.normal ⟨by kernel_rfl, by kernel_rfl, _, rfl, rfl⟩
              · intro xs0 b W hl0 hPB
                obtain ⟨y44, xs1, rfl, hl1⟩ := len_s hl0
                obtain ⟨y45, xs2, rfl, hl2⟩ := len_s hl1
                obtain ⟨y46, xs3, rfl, hl3⟩ := len_s hl2
                obtain rfl := len_z hl3
                clear hl0 hl1 hl2 hl3
                simp only [List.drop_succ_cons, List.drop_zero]
                simp only [over, List.cons_append, List.nil_append, Act.put, List.setIfInBounds_toArray, List.set_cons_zero, List.set_cons_succ, Nat.reduceAdd]
                obtain rfl := hPB
                refine cutB 4 48 3 (fun _ W => w = W) ?_ ?_
                · simp only [List.take_succ_cons, List.take_zero]
                  cases b with
                  | true =>
                    go_wp2
                    all_goals exact CutQ.normal ⟨by kernel_rfl, by kernel_rfl, _, rfl, rfl⟩
                  | false =>
                    go_wp2
                    all_goals exact CutQ.normal ⟨by kernel_rfl, by kernel_rfl, _, rfl, rfl⟩
                · intro xs0 b W hl0 hPB
                  obtain ⟨y48, xs1, rfl, hl1⟩ := len_s hl0
                  obtain ⟨y49, xs2, rfl, hl2⟩ := len_s hl1
                  obtain ⟨y50, xs3, rfl, hl3⟩ := len_s hl2
                  obtain rfl := len_z hl3
                  clear hl0 hl1 hl2 hl3
                  simp only [List.drop_succ_cons, List.drop_zero]
                  simp only [over, List.cons_append, List.nil_append, Act.put, List.setIfInBounds_toArray, List.set_cons_zero, List.set_cons_succ, Nat.reduceAdd]
                  obtain rfl := hPB
                  cases b with
                  | true =>
                    go_wp2
                    go_roundw
                    case rel => exact ⟨j + 1, HT.out.1, by rw [hwj]; simp, trivial⟩
                    case measure =>
                      rw [hwj]
                      simp only [intOf]
                      exact HT.out.2
                  | false =>
                    go_wp2
                    · go_ret
                      exact ⟨_, rfl, Below.refl _ _⟩
                    · go_roundw
                      case rel => exact ⟨j + 1, HT.out.1, by rw [hwj]; simp, trivial⟩
                      case measure =>
                        rw [hwj]
                        simp only [intOf]
                        exact HT.out.2
      · go_wp2
        go_ret
        exact ⟨_, rfl, Below.refl _ _⟩
end Go.Proofs.Ytfohknbgfpbmiaa
