/-
  The contracts of huge and of the document's Same.
-/
import Derived.Test.YtgkonglkfjbmnaaPure
import Derived.Test.YtgkonglkfjbmnaaRefO
namespace Go.Proofs.Ytgkonglkfjbmnaa
open Go.RowKit
set_option linter.unusedSimpArgs false

/-- The sum that huge makes, as Go reckons it. -/
def sumW (ps : List Pc) : Int := ps.foldl (fun z p => wrap64 (z + (p.n : Int))) 0
theorem sumW_take (ps : List Pc) (j : Nat) (hj : j < ps.length) : sumW (ps.take (j + 1)) = wrap64 (sumW (ps.take j) + (ps[j].n : Int)) := by
  unfold sumW
  rw [List.take_succ_eq_append_getElem hj, List.foldl_append]
  rfl
def hugB (ps : List Pc) : Bool := decide (300 < ps.length) || decide (70000 < sumW ps)
theorem huge_any (a : Option Addr) (n c : Nat) (ps : List Pc) (w : World) (hs : Rws w a n ps) :
    Calls Try.prog 14 #[.slice a n c] w fun e w' => e = .returned (.bool (hugB ps)) ∧ w = w' := by
  have HN : Hid (n = ps.length) := hs.len.symm
  obtain ⟨B, HB⟩ : ∃ B, Hid (B = hugB ps) := ⟨_, rfl⟩
  rw [← HB.out]
  go_enter Try.func14, Try.ntmps14
  go_wp2
  go_loopw [3, 4] (fun v i wr => ∃ (j : Nat) (z : Int), j ≤ n ∧ j ≤ 301 ∧ i = .int .i64 j ∧ v = .int .i64 z ∧ Hid (z = sumW (ps.take j)) ∧ w = wr) (fun _ i _ => 302 - (intOf i).toNat)
  case atStart => exact ⟨0, 0, Nat.zero_le _, by decide, rfl, rfl, (rfl : _ = _), rfl⟩
  case round =>
    obtain ⟨j, z, hj, hj2, rfl, rfl, hz, rfl⟩ := hrel
    by_cases hlt : j < n
    · by_cases h3 : j ≤ 300
      · have hjk : j < ps.length := by have := HN.out; omega
        obtain ⟨g, o, rfl, c0, c1⟩ := hs.at hjk
        have HT : Hid (sumW (ps.take (j + 1)) = wrap64 (z + (ps[j].n : Int))) := by show _ = _; rw [sumW_take ps j hjk, ← hz.out]
        generalize ps[j].t.toNat = pt at *
        generalize ps[j].a = pa at *
        generalize ps[j].n = pn at *
        generalize ps[j].c = pc at *
        go_wp2
        go_roundw
        case rel => exact ⟨j + 1, _, by omega, by omega, by go_num, rfl, HT.out.symm, trivial⟩
        case measure => simp [intOf]; omega
      · have h300 : (300 : Int) < (n : Int) := by omega
        obtain rfl : B = true := by rw [HB.out]; unfold hugB; rw [decide_eq_true (by have := HN.out; omega)]; rfl
        go_wp2
        go_ret
        exact ⟨rfl, rfl⟩
    · obtain rfl : n = j := by omega
      by_cases h300 : 300 < n
      · have h300' : (300 : Int) < (n : Int) := by omega
        obtain rfl : B = true := by rw [HB.out]; unfold hugB; rw [decide_eq_true (by have := HN.out; omega)]; rfl
        go_wp2
        go_ret
        exact ⟨rfl, rfl⟩
      · have h300' : ¬ (300 : Int) < (n : Int) := by omega
        obtain rfl : B = decide (70000 < z) := by
          rw [HB.out, hz.out]; unfold hugB; rw [decide_eq_false (by have := HN.out; omega), List.take_of_length_le (by have := HN.out; omega)]; rfl
        go_wp2
        go_ret
        exact ⟨rfl, rfl⟩

theorem same_yes (a : Option Addr) (n c : Nat) (ps : List Pc) (b : Option Addr) (m d : Nat) (qs : List Pc) (w : World) (hs : Rws w a n ps) (ht : Rws w b m qs) (he : keys ps = keys qs) (hn : n ≤ 140737488355328) :
    Calls Try.prog 21 #[.slice a n c, .slice b m d] w fun e w' => e = .returned (.bool true) ∧ Below w.heap.size w w' := by
  have hl : ps.length = qs.length := by rw [← keys_len, he, keys_len]
  obtain rfl : n = m := by rw [← hs.len, ← ht.len, hl]
  have HN : Hid (n = ps.length) := hs.len.symm
  have HE : Hid (∀ j (h1 : j < ps.length) (h2 : j < qs.length), ps[j].t = qs[j].t ∧ ps[j].l = qs[j].l) := by
    intro j h1 h2
    have e1 : (keys ps)[j]? = some (ps[j].t, ps[j].l) := by simp [keys, h1]
    have e2 : (keys qs)[j]? = some (qs[j].t, qs[j].l) := by simp [keys, h2]
    rw [he, e2] at e1
    simp at e1
    exact ⟨e1.1.symm, e1.2.symm⟩
  clear hl he
  go_enter Try.func21, Try.ntmps21
  go_wp2
  go_loopw [5] (fun i wr => ∃ j : Nat, j ≤ n ∧ i = .int .i64 j ∧ Below w.heap.size w wr) (fun i _ => n - (intOf i).toNat)
  case atStart => exact ⟨0, Nat.zero_le _, rfl, Below.refl _ _⟩
  case round =>
    obtain ⟨j, hj, rfl, hb⟩ := hrel
    by_cases hlt : j < n
    · have h1 : j < ps.length := by have := HN.out; omega
      have h2 : j < qs.length := by have := ht.len; omega
      obtain ⟨g, o, rfl, c0, c1⟩ := (hs.below hb).at h1
      obtain ⟨g', o', rfl, d0, d1⟩ := (ht.below hb).at h2
      obtain ⟨e1, e2⟩ := HE.out j h1 h2
      have s1 := (hs.below hb).body ps[j] (List.getElem_mem h1)
      have s2 := (ht.below hb).body qs[j] (List.getElem_mem h2)
      rw [e1] at c0
      rw [e2] at s1
      clear e1 e2
      generalize qs[j].t.toNat = t at *
      generalize ps[j].a = pa at *
      generalize ps[j].n = pn at *
      generalize ps[j].c = pc at *
      generalize qs[j].a = qa at *
      generalize qs[j].n = qn at *
      generalize qs[j].c = qc at *
      generalize qs[j].l = L at *
      have st1 : ∀ k, (convert 22 9 (.slice pa pn pc)).run Try.prog (wr.drewN k) = .ok (.string ⟨L.toArray⟩) (wr.drewN k) := fun k => (s1.grown (grownBy_drewN _ _ none) (fun _ _ _ => by simp)).str
      have st2 : ∀ k, (convert 22 9 (.slice qa qn qc)).run Try.prog (wr.drewN k) = .ok (.string ⟨L.toArray⟩) (wr.drewN k) := fun k => (s2.grown (grownBy_drewN _ _ none) (fun _ _ _ => by simp)).str
      go_wp2
      go_quiet (fail)
      go_wp2
      go_roundw
      case rel => exact ⟨j + 1, by omega, by go_num, below_drewN hb _⟩
      case measure => simp [intOf]; omega
    · obtain rfl : n = j := by omega
      go_wp2
      go_ret
      exact ⟨rfl, hb⟩
end Go.Proofs.Ytgkonglkfjbmnaa
