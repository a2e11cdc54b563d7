/-
  The document's Masked, for every address.
-/
import Derived.Test.YtfohknbgfpbmiaaPair
namespace Go.Proofs.Ytfohknbgfpbmiaa
open Go.RowKit
set_option linter.unusedSimpArgs false
set_option maxRecDepth 20000
/-- A byte whose bits from lo on, below hi, are cleared. -/
def clB (lo hi : Nat) (b : UInt8) : UInt8 := UInt8.ofNat (b.toNat - b.toNat % 2 ^ (8 - lo) + b.toNat % 2 ^ (8 - hi))
theorem clB_start (n : Nat) (b : UInt8) : clB n n b = b := by
  apply UInt8.toNat.inj
  unfold clB
  have := Nat.mod_le b.toNat (2 ^ (8 - n))
  rw [Nat.sub_add_cancel this]
  simp
theorem clB_end (lo hi : Nat) (b : UInt8) (h : 8 ≤ hi) : clB lo hi b = keepB lo b := by
  unfold clB keepB
  rw [show 8 - hi = 0 by omega, Nat.pow_zero, Nat.mod_one, Nat.add_zero]
theorem clB_other (lo h1 h2 : Nat) (b : UInt8) (h : 8 - h1 = 8 - h2) : clB lo h1 b = clB lo h2 b := by
  unfold clB
  rw [h]
theorem clB_step (lo r : Nat) (b : UInt8) (h1 : lo ≤ r) (h2 : r < 8) : bits BinOp.andNot IntKind.u8 ((clB lo r b).toNat : Int) (128 / 2 ^ r) = ((clB lo (r + 1) b).toNat : Int) := by
  have h : ((List.range 8).all fun r => (List.range 8).all fun lo => decide (r < lo) || (List.range 256).all fun b => bits BinOp.andNot IntKind.u8 (((b - b % 2 ^ (8 - lo) + b % 2 ^ (8 - r)) % 256 : Nat) : Int) (128 / 2 ^ r) == (((b - b % 2 ^ (8 - lo) + b % 2 ^ (8 - (r + 1))) % 256 : Nat) : Int)) = true := by kernel_rfl
  have q1 := List.all_eq_true.1 (List.all_eq_true.1 h r (List.mem_range.2 h2)) lo (List.mem_range.2 (by omega))
  rw [decide_eq_false (by omega), Bool.false_or] at q1
  have q2 := eq_of_beq (List.all_eq_true.1 q1 b.toNat (List.mem_range.2 b.toNat_lt))
  simpa [clB] using q2
/-- An address whose bits from n on, below j, are cleared. -/
def mkA (a : Ad) (n j : Nat) : Ad := ⟨a.l.mapIdx (fun t b => clB (n - 8 * t) (j - 8 * t) b), by simp [a.len]⟩
theorem mk_get (a : Ad) (n j t : Nat) : (mkA a n j).l[t]? = (a.l[t]?).map fun b => clB (n - 8 * t) (j - 8 * t) b := by
  unfold mkA
  simp
theorem mk_start (a : Ad) (n : Nat) : mkA a n n = a := by
  apply Ad.ext
  apply List.ext_getElem?
  intro t
  rw [mk_get]
  cases a.l[t]? with
  | none => rfl
  | some b => rw [Option.map_some, clB_start]
theorem mk_end (a : Ad) (n : Nat) : mkA a n 128 = cutA a n := by
  apply Ad.ext
  apply List.ext_getElem?
  intro t
  rw [mk_get]
  simp only [cutA, List.getElem?_mapIdx]
  by_cases ht : t < 16
  · rw [List.getElem?_eq_getElem (by rw [a.len]; exact ht), Option.map_some, Option.map_some, clB_end _ _ _ (by omega)]
  · rw [List.getElem?_eq_none (by rw [a.len]; omega)]; rfl
theorem mk_step (a : Ad) (n k r : Nat) (b : UInt8) (_hn : n ≤ 8 * k + r) (hr : r < 8) (hb : a.l[k]? = some b) : (acells (mkA a n (8 * k + r))).set k (.int .u8 ((clB (n - 8 * k) (r + 1) b).toNat : Int)) = acells (mkA a n (8 * k + r + 1)) := by
  apply List.ext_getElem?
  intro t
  have hk16 : k < 16 := by have := (List.getElem?_eq_some_iff.1 hb).1; rw [a.len] at this; exact this
  rw [List.getElem?_set]
  have hg : ∀ j, (acells (mkA a n j))[t]? = (a.l[t]?).map fun b => Value.int .u8 ((clB (n - 8 * t) (j - 8 * t) b).toNat : Int) := fun j => by
    unfold acells bcells
    rw [List.getElem?_map, mk_get]
    cases a.l[t]? <;> rfl
  by_cases h : k = t
  · subst h
    rw [if_pos rfl, if_pos (by rw [acells_len]; exact hk16), hg, hb, Option.map_some, show 8 * k + r + 1 - 8 * k = r + 1 by omega]
  · rw [if_neg h, hg, hg]
    cases a.l[t]? with
    | none => rfl
    | some c => rw [Option.map_some, Option.map_some, clB_other _ _ (8 * k + r + 1 - 8 * t) _ (by omega)]
theorem rmasked_any (a : Ad) (n : Nat) (hn : n ≤ 128) (w : World) : Calls Try.prog 40 #[(Value.agg (acells a).toArray), .int .i64 (n : Int)] w (Gives w (Value.agg (acells (cutA a n)).toArray)) := by
  go_enter Try.func40, Try.ntmps40
  go_wp2
  have q2 := Row.new (w.alloc (.cells (acells a).toArray 24)) 24 (acells zeroA)
  simp only [World.size_alloc] at q2
  refine name_world (R := fun W => Code.wp _ _ _ _ W) (P := fun W => Below w.heap.size w W ∧ Row W w.heap.size 24 (acells a) ∧ Row W (w.heap.size + 1) 24 (acells zeroA)) _ ⟨bt (ba _ _) (ba _ _), (Row.new _ _ _).alloc _, q2⟩ ?_
  clear q2
  rintro X ⟨hb, hA, hZ⟩
  go_loopw [5] (fun i wr => ∃ j : Nat, n ≤ j ∧ j ≤ 128 ∧ i = .int .i64 j ∧ Row wr w.heap.size 24 (acells (mkA a n j)) ∧ Row wr (w.heap.size + 1) 24 (acells zeroA) ∧ Below w.heap.size w wr) (fun i _ => 128 - (intOf i).toNat)
  case atStart => exact ⟨n, Nat.le_refl _, hn, rfl, by rw [mk_start]; exact hA, hZ, hb⟩
  case round =>
    clear hA hZ hb
    obtain ⟨j, hnj, hj, rfl, hA, hZ, hb⟩ := hrel
    by_cases hlt : j < 128
    · obtain ⟨k, hk⟩ : ∃ k : Nat, k = j / 8 := ⟨_, rfl⟩
      obtain ⟨r, hr⟩ : ∃ r : Nat, r = j % 8 := ⟨_, rfl⟩
      have h1 : Int.tdiv (j : Int) 8 = (k : Int) := by rw [Int.tdiv_eq_ediv_of_nonneg (by omega)]; omega
      have h2 : Int.tmod (j : Int) 8 = (r : Int) := by rw [Int.tmod_eq_emod_of_nonneg (by omega)]; omega
      have hk16 : (k : Int) < 16 := by omega
      obtain ⟨b, hbk⟩ : ∃ b, a.l[k]? = some b := ⟨_, List.getElem?_eq_getElem (by rw [a.len]; omega)⟩
      have ej : j = 8 * k + r := by omega
      have hc : wr.cell? ⟨w.heap.size, k, none⟩ = some (.int .u8 ((clB (n - 8 * k) r b).toNat : Int)) := by
        rw [hA.cell]
        unfold acells bcells
        rw [List.getElem?_map, mk_get, hbk]
        simp only [Option.map_some]
        rw [ej, show 8 * k + r - 8 * k = r by omega]
      have hf := hA.frozen k
      have HS := clB_step (n - 8 * k) r b (by omega) (by omega)
      have HM : Hid (∀ v, v = ((clB (n - 8 * k) (r + 1) b).toNat : Int) → (acells (mkA a n j)).set k (.int .u8 v) = acells (mkA a n (j + 1))) := fun v hv => by
        rw [hv, ej]
        exact mk_step a n k r b (by omega) (by omega) hbk
      have hz := (clB (n - 8 * k) r b).toNat_lt
      generalize (clB (n - 8 * k) r b).toNat = C at *
      generalize ((clB (n - 8 * k) (r + 1) b).toNat : Int) = D at *
      have hr8 : r < 8 := by omega
      have HA : Hid (Row wr w.heap.size 24 (acells (mkA a n j))) := hA
      clear hk hr hbk ej hA
      rcases (show r = 0 ∨ r = 1 ∨ r = 2 ∨ r = 3 ∨ r = 4 ∨ r = 5 ∨ r = 6 ∨ r = 7 by omega) with rfl | rfl | rfl | rfl | rfl | rfl | rfl | rfl
      all_goals
        simp at HS
        go_wp2
        go_roundw
        case rel => exact ⟨j + 1, by omega, by omega, by go_num, HM.out D rfl ▸ HA.out.set k _, hZ.setOther _ k _ (by omega), hb.setCell (p := ⟨w.heap.size, k, none⟩) (Nat.le_refl _) _⟩
        case measure => simp [intOf]; omega
    · obtain rfl : j = 128 := by omega
      rw [mk_end] at hA
      go_wp2_with (first
        | (refine ldA (.tmp 2) rfl rfl _ _ (cutA a n) rfl hA.range ?_)
        | (refine stA (.tmp 4) (.tmp 23) rfl rfl _ _ (cutA a n) rfl rfl (hZ.there (by rw [acells_len]; omega)) ?_))
      exact bodyPost_ret (retC rfl _ _ 0 rfl (lvA (LA.stored (hZ.there (by rw [acells_len]; omega))))) rfl ⟨rfl, below_setCells _ (by omega) _ _ _ hb⟩
end Go.Proofs.Ytfohknbgfpbmiaa
