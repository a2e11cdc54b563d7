/-
  The document's Family, for every address.
-/
import Derived.Test.YtfohknbgfpbmiaaPair
namespace Go.Proofs.Ytfohknbgfpbmiaa
open Go.RowKit
set_option linter.unusedSimpArgs false
/-! ### The document's Family -/
theorem fam_cut (a : Ad) (i : Nat) : (cutA a 96).l[i]? = if i < 12 then a.l[i]? else if i < 16 then some 0 else none := by
  simp only [cutA, List.getElem?_mapIdx]
  by_cases h : i < 12
  · rw [if_pos h]
    cases hb : a.l[i]? with
    | none => rfl
    | some b => rw [Option.map_some, keepB_all (by omega)]
  · rw [if_neg h]
    by_cases h' : i < 16
    · rw [if_pos h', List.getElem?_eq_getElem (by rw [a.len]; exact h'), Option.map_some, show 96 - 8 * i = 0 by omega, keepB_none]
    · rw [if_neg h', List.getElem?_eq_none (by rw [a.len]; omega)]; rfl
def famC (i : Nat) : UInt8 := if i < 10 then 0 else 255
theorem map_get (i : Nat) : mapA.l[i]? = if i < 12 then some (famC i) else if i < 16 then some 0 else none := by
  match i with
  | 0 | 1 | 2 | 3 | 4 | 5 | 6 | 7 | 8 | 9 | 10 | 11 | 12 | 13 | 14 | 15 => rfl
  | i + 16 => rw [if_neg (by omega), if_neg (by omega)]; rfl
theorem fam_yes {a : Ad} (h : ∀ i, i < 12 → a.l[i]? = some (famC i)) : famA a = 4 := by
  unfold famA
  rw [if_pos]
  apply List.ext_getElem?
  intro i
  rw [fam_cut, map_get]
  split
  · exact h i ‹_›
  · rfl
theorem fam_no {a : Ad} {i : Nat} {b : UInt8} (hi : i < 12) (h : a.l[i]? = some b) (hb : b ≠ famC i) : famA a = 6 := by
  unfold famA
  rw [if_neg]
  intro e
  have := congrArg (fun l => l[i]?) e
  rw [fam_cut, map_get, if_pos hi, if_pos hi, h] at this
  exact hb (Option.some.inj this)
theorem rfamily_any (a : Ad) (w : World) : Calls Try.prog 35 #[(Value.agg (acells a).toArray)] w (Gives w (.int .i64 (famA a))) := by
  have hb := ba w (.cells (acells a).toArray 24)
  have hA := LA.new w a 24
  have HN : Hid (∀ i b, i < 12 → a.l[i]? = some b → b ≠ famC i → famA a = 6) := fun i b => fam_no
  have HY : Hid ((∀ i, i < 12 → a.l[i]? = some (famC i)) → famA a = 4) := fam_yes
  generalize famA a = f at *
  go_enter Try.func35, Try.ntmps35
  go_wp2
  refine name_world (R := fun W => Code.wp _ _ _ _ W) (P := fun W => Below w.heap.size w W ∧ LA W w.heap.size 0 a) _ ⟨hb, hA⟩ ?_
  clear hb hA
  rintro X ⟨hb, hA⟩
  go_loopw [3] (fun i wr => ∃ j : Nat, j ≤ 12 ∧ i = .int .i64 j ∧ (∀ i, i < j → a.l[i]? = some (famC i)) ∧ X = wr) (fun i _ => 12 - (intOf i).toNat)
  case atStart => exact ⟨0, by omega, rfl, (fun i hi => by omega), rfl⟩
  case round =>
    obtain ⟨j, hj, rfl, hok, rfl⟩ := hrel
    by_cases hlt : j < 12
    · obtain ⟨b, hbj⟩ : ∃ b, a.l[j]? = some b := ⟨_, List.getElem?_eq_getElem (by rw [a.len]; omega)⟩
      have hc : X.cell? ⟨w.heap.size, j, none⟩ = some (.int .u8 b.toNat) := by simpa using hA j _ (bcells_get hbj)
      have HB : Hid (b ≠ famC j → f = 6) := HN.out j b hlt hbj
      have HE : Hid (b = famC j → ∀ i, i < j + 1 → a.l[i]? = some (famC i)) := fun h i hi => by
        by_cases hij : i < j
        · exact hok i hij
        · obtain rfl : i = j := by omega
          rw [hbj, h]
      clear hok hbj hA HN HY
      have hz := b.toNat_lt
      by_cases h10 : j < 10
      · have e0 : famC j = 0 := by unfold famC; rw [if_pos h10]
        rw [e0] at HB HE
        by_cases hb0 : b = 0
        · have e1 : ((b.toNat : Int) != 0) = false := by subst hb0; rfl
          have h10' : ¬ (10 : Int) ≤ (j : Int) := by omega
          go_wp2
          go_roundw
          case rel => exact ⟨j + 1, by omega, by go_num, HE.out hb0, trivial⟩
          case measure => simp [intOf]; omega
        · have e1 : ((b.toNat : Int) != 0) = true := by
            have : b.toNat ≠ 0 := fun h => hb0 (UInt8.toNat.inj h)
            simpa using this
          have e6 := HB.out hb0
          clear HB HE
          go_wp2
          go_ret
          exact ⟨by first | rfl | (rw [e6]; rfl), hb⟩
      · have e0 : famC j = 255 := by unfold famC; rw [if_neg h10]
        rw [e0] at HB HE
        by_cases hb0 : b = 255
        · have e1 : ((b.toNat : Int) != 255) = false := by subst hb0; rfl
          go_wp2
          go_roundw
          case rel => exact ⟨j + 1, by omega, by go_num, HE.out hb0, trivial⟩
          case measure => simp [intOf]; omega
        · have e1 : ((b.toNat : Int) != 255) = true := by
            have : b.toNat ≠ 255 := fun h => hb0 (UInt8.toNat.inj h)
            simp only [bne_iff_ne, ne_eq]; omega
          have e6 := HB.out hb0
          clear HB HE
          go_wp2
          go_ret
          exact ⟨by first | rfl | (rw [e6]; rfl), hb⟩
    · obtain rfl : j = 12 := by omega
      have e4 := HY.out hok
      go_wp2
      go_ret
      exact ⟨by first | rfl | (rw [e4]; rfl), hb⟩
end Go.Proofs.Ytfohknbgfpbmiaa
