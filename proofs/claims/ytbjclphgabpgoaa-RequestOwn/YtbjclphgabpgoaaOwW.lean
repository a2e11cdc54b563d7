/-
  The walk of RequestOwn.
-/
import Derived.Test.YtbjclphgabpgoaaR6
import Derived.Test.YtbjclphgabpgoaaArgs
namespace Go.Proofs.Ytbjclphgabpgoaa
open Go.RowKit Go.Maps
set_option linter.unusedSimpArgs false
set_option linter.unusedVariables false
set_option maxRecDepth 20000
theorem less_self (a : Int) : Sn.lessB a a = false := by unfold Sn.lessB; simp
theorem own_self (a : Int) : ownZ a a = a := by unfold ownZ; rw [less_self]; rfl
theorem own_less {o a : Int} (h : Sn.lessB o a = true) (ho : 0 ≤ o) (ho' : o ≤ 65535) : ownZ o a = (o + 1) % 65536 ∧ ¬ ownZ o a = o ∧ ¬ a = o ∧ ¬ 32768 ≤ (a - o) % 65536 := by
  unfold ownZ
  rw [if_pos h]
  unfold Sn.lessB at h
  unfold Sn.plusZ
  simp at h
  refine ⟨rfl, by omega, ?_, by omega⟩
  rintro rfl
  simp at h
theorem own_same {o a : Int} (h : Sn.lessB o a = false) : ownZ o a = o := by unfold ownZ; rw [h]; rfl
theorem own_far {s z m : Int} {j : Nat} (h : (z - s) % 65536 ≤ (j : Int)) (e : m = (z + 1) % 65536) : (m - s) % 65536 ≤ ((j + 1 : Nat) : Int) := by omega
set_option maxHeartbeats 4000000 in
theorem own_walk (hLv : ∀ w, Calls Try.prog 9 #[] w (Gives w (.bool true))) (s : Int) (ad : Option Addr) (c : Nat) (l : List Int) (w : World) (hs : 0 ≤ s ∧ s ≤ 65535) (hl : NsW w ad l) (hb : ∀ x ∈ l, 0 ≤ x ∧ x ≤ 65535) :
    Calls Try.prog 7 #[.int .u16 s, .slice ad l.length c] w (Gives w (.bool true)) := by
  by_cases hc : 150 < l.length
  · have hc' : (150 : Int) < (l.length : Int) := by omega
    clear hc hl hb
    go_enter Try.func7, Try.ntmps7
    go_wp2_with (go_at_call 9; refine (hLv _).mono ?_; rintro e w' ⟨rfl, hw⟩)
    go_ret
    exact ⟨rfl, hw⟩
  · have hc' : ¬ (150 : Int) < (l.length : Int) := by omega
    have HL : Hid (l.length ≤ 150) := by show _ ≤ _; omega
    have HS : Hid (0 ≤ s ∧ s ≤ 65535) := hs
    clear hc hs
    go_enter Try.func7, Try.ntmps7
    go_wp2_with fail
    clear hc'
    go_loopw [5, 6] (fun n i wr => ∃ (j : Nat) (z : Int), j ≤ l.length ∧ n = .int .u16 z ∧ i = .int .i64 j ∧ (0 ≤ z ∧ z ≤ 65535) ∧ (z - s) % 65536 ≤ (j : Int) ∧ w = wr) (fun _ i _ => l.length - (intOf i).toNat)
    case atStart => exact ⟨0, s, Nat.zero_le _, rfl, rfl, HS.out, by simp, rfl⟩
    case round =>
      obtain ⟨j, z, hj, rfl, rfl, hz, hd, rfl⟩ := hrel
      by_cases hlt : j < l.length
      · obtain ⟨g, o, rfl, hq⟩ := hl.at_ hlt
        have hba := hb _ (List.getElem_mem hlt)
        have hji : (j : Int) < (l.length : Int) := by omega
        have hw64 : wrap64 ((j : Int) + 1) = (j : Int) + 1 := by have := HL.out; unfold wrap64; omega
        have HM : Hid (l.length - ((j : Int) + 1).toNat < l.length - ((j : Int)).toNat) := by show _ < _; omega
        have HJ : Hid (j + 1 ≤ l.length) := hlt
        generalize l[j] = a at *
        have hO := fun W => own_any z a W
        cases hB : Sn.lessB z a with
        | true =>
          obtain ⟨e1, e2, e3, e4⟩ := own_less hB hz.1 hz.2
          simp only [e1] at hO e2
          have HZ : Hid (0 ≤ (z + 1) % 65536 ∧ (z + 1) % 65536 ≤ 65535) := by show _ ∧ _; omega
          have HF : Hid (((z + 1) % 65536 - s) % 65536 ≤ ((j + 1 : Nat) : Int)) := own_far hd rfl
          have hm : ownZ ((z + 1) % 65536) ((z + 1) % 65536) = (z + 1) % 65536 := own_self _
          have e5 : ¬ (32768 : Int) ≤ IntKind.u16.wrap (a - z) := by rw [Sn.wrap16]; exact e4
          have e6 : IntKind.u16.wrap (z + 1) = (z + 1) % 65536 := Sn.wrap16 _
          generalize (z + 1) % 65536 = m at *
          have e7 : (m != z) = true := by simp [e2]
          have e8 : (a == z) = false := by simp [e3]
          have hO2 := fun W => own_any m m W
          simp only [hm] at hO2
          clear hl hb hj hz hd hba hlt hB e1 e4 hm
          have hm := True.intro
          go_wp2_with (first
            | (have kk := hmm; go_at_call 11; with_reducible refine (hO2 _).mono ?_; rintro e w' ⟨rfl, rfl⟩)
            | (go_at_call 11; with_reducible refine (hO _).mono ?_; rintro e w' ⟨rfl, rfl⟩; have hmm := hm))
          go_roundw
          case rel => exact ⟨j + 1, _, HJ.out, rfl, by first | rfl | go_num, HZ.out, HF.out, trivial⟩
          case measure => (try rw [hw64]); simp only [intOf]; exact HM.out
        | false =>
          have e1 := own_same hB
          simp only [e1] at hO
          have HZ : Hid (0 ≤ z ∧ z ≤ 65535) := hz
          have HF : Hid ((z - s) % 65536 ≤ ((j + 1 : Nat) : Int)) := by show _ ≤ _; omega
          have hm : ownZ z z = z := own_self _
          have hO2 := fun W => own_any z z W
          simp only [hm] at hO2
          clear hl hb hj hz hd hba hlt hB e1 hm
          have hm := True.intro
          go_wp2_with (first
            | (have kk := hmm; go_at_call 11; with_reducible refine (hO2 _).mono ?_; rintro e w' ⟨rfl, rfl⟩)
            | (go_at_call 11; with_reducible refine (hO _).mono ?_; rintro e w' ⟨rfl, rfl⟩; have hmm := hm))
          go_roundw
          case rel => exact ⟨j + 1, _, HJ.out, rfl, by first | rfl | go_num, HZ.out, HF.out, trivial⟩
          case measure => (try rw [hw64]); simp only [intOf]; exact HM.out
      · have hjl : j = l.length := by omega
        subst hjl
        have h3 : ¬ (l.length : Int) < (l.length : Int) := by omega
        have h5 : IntKind.u16.wrap (z - s) ≤ (l.length : Int) := by rw [Sn.wrap16]; exact hd
        have h6 : wrap64 (IntKind.u16.wrap (z - s)) ≤ (l.length : Int) := by
          have := HL.out
          rw [Sn.wrap16]
          unfold wrap64
          omega
        clear hlt hb hl hd
        go_wp2_with (go_at_call 9; refine (hLv _).mono ?_; rintro e w' ⟨rfl, hw⟩)
        go_ret
        exact ⟨rfl, hw⟩
end Go.Proofs.Ytbjclphgabpgoaa
