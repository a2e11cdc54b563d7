/-
  addr.longestZeros: what it answers for every address.
-/
import Derived.Test.YtimpopolkofdgaaGreatDoorPrefix
namespace Go.Proofs.YtimpopolkofdgaaGreatDoor
open Go.RowKit Go.Shelf
set_option linter.unusedSimpArgs false
set_option maxRecDepth 20000
/-- How many bytes the zero groups take with which some bytes begin. -/
def zrl : List UInt8 → Nat
  | a :: b :: r => if a = 0 ∧ b = 0 then zrl r + 2 else 0
  | _ => 0
/-- The longest run of zero groups among those that begin in the first k groups. -/
def lzF (l : List UInt8) : Nat → Nat × Nat
  | 0 => (0, 0)
  | k + 1 => if 4 ≤ zrl (l.drop (2 * k)) ∧ (lzF l k).2 - (lzF l k).1 < zrl (l.drop (2 * k)) then (2 * k, 2 * k + zrl (l.drop (2 * k))) else lzF l k
theorem zrl_two (l : List UInt8) (j : Nat) (x y : UInt8) (hx : l[j]? = some x) (hy : l[j + 1]? = some y) : zrl (l.drop j) = if x = 0 ∧ y = 0 then zrl (l.drop (j + 2)) + 2 else 0 := by
  obtain ⟨h1, e1⟩ := List.getElem?_eq_some_iff.1 hx
  obtain ⟨h2, e2⟩ := List.getElem?_eq_some_iff.1 hy
  rw [List.drop_eq_getElem_cons h1, List.drop_eq_getElem_cons h2, e1, e2]
  rfl
theorem zrl_le : ∀ (l : List UInt8), zrl l ≤ l.length
  | [] => by simp [zrl]
  | [_] => by simp [zrl]
  | a :: b :: r => by
    have := zrl_le r
    simp only [zrl]
    split <;> simp <;> omega
theorem lzF_le (l : List UInt8) (hl : l.length = 16) : ∀ k, 2 * k ≤ 16 → (lzF l k).1 ≤ (lzF l k).2 ∧ (lzF l k).2 ≤ 16
  | 0, _ => by simp [lzF]
  | k + 1, h => by
    have ih := lzF_le l hl k (by omega)
    have := zrl_le (l.drop (2 * k))
    simp only [lzF]
    split
    · simp at this ⊢; omega
    · exact ih
theorem lz_end {l : List UInt8} {k i j m f t x y : Nat} (hI : i = 2 * k) (HF : lzF l (k + 1) = if 4 ≤ m ∧ t - f < m then (i, j) else (f, t)) (hi : i < 16) (hxy : (x, y) = if 4 ≤ m ∧ t - f < m then (i, j) else (f, t)) :
    (∃ k, k ≤ 8 ∧ Value.int .i64 ((i : Int) + 2) = .int .i64 ((2 * k : Nat) : Int) ∧ Value.int .i64 (x : Int) = .int .i64 ((lzF l k).1 : Int) ∧ Value.int .i64 (y : Int) = .int .i64 ((lzF l k).2 : Int)) ∧ 16 - (intOf (.int .i64 ((i : Int) + 2))).toNat < 16 - (intOf (.int .i64 (i : Int))).toNat :=
  ⟨⟨k + 1, by omega, by congr 1; omega, by rw [HF, ← hxy], by rw [HF, ← hxy]⟩, by simp [intOf]; omega⟩
set_option maxHeartbeats 4000000 in
theorem lz_any (a : Ad) (w : World) : Calls Tryz.prog 78 #[(Value.agg (acells a).toArray)] w (Gives w (.tuple #[.int .i64 ((lzF a.l 8).1 : Int), .int .i64 ((lzF a.l 8).2 : Int)])) := by
  have hA := LA.new w a 23
  have HB : Hid (Below w.heap.size w (w.alloc (.cells (acells a).toArray 23))) := ba _ _
  have hcell : ∀ j x, a.l[j]? = some x → (w.alloc (.cells (acells a).toArray 23)).cell? ⟨w.heap.size, j, none⟩ = some (.int .u8 (x.toNat : Int)) := fun j x hx => by simpa using hA j _ (bcells_get hx)
  have HL : Hid (a.l.length = 16) := a.len
  clear hA
  go_enter Tryz.func78, Tryz.ntmps78
  go_wp2
  obtain ⟨W, hW⟩ : ∃ W, W = w.alloc (.cells (acells a).toArray 23) := ⟨_, rfl⟩
  rw [← hW] at hcell HB ⊢
  clear hW
  go_loop [4, 2, 3] (fun vi vf vt => ∃ k : Nat, k ≤ 8 ∧ vi = .int .i64 ((2 * k : Nat) : Int) ∧ vf = .int .i64 ((lzF a.l k).1 : Int) ∧ vt = .int .i64 ((lzF a.l k).2 : Int)) (fun vi _ _ => 16 - (intOf vi).toNat)
  case atStart => exact ⟨0, by omega, rfl, rfl, rfl⟩
  case round =>
    obtain ⟨k, hk, rfl, rfl, rfl⟩ := hrel
    have hle := lzF_le a.l HL.out k (by omega)
    obtain ⟨i, hi⟩ : ∃ i, i = 2 * k := ⟨_, rfl⟩
    have HI : Hid (i = 2 * k) := hi
    have HS : Hid (lzF a.l (k + 1) = if 4 ≤ zrl (a.l.drop i) ∧ (lzF a.l k).2 - (lzF a.l k).1 < zrl (a.l.drop i) then (i, i + zrl (a.l.drop i)) else lzF a.l k) := by
      show _ = _
      rw [hi]; rfl
    rw [← hi]
    clear hi
    obtain ⟨f, hf⟩ : ∃ f, f = (lzF a.l k).1 := ⟨_, rfl⟩
    obtain ⟨t, ht⟩ : ∃ t, t = (lzF a.l k).2 := ⟨_, rfl⟩
    have HP : Hid (lzF a.l k = (f, t)) := by show _ = _; rw [hf, ht]
    rw [← hf, ← ht] at hle
    rw [← hf, ← ht]
    clear hf ht
    by_cases hlt : i < 16
    · go_wp2
      go_loop [5] (fun vj => ∃ m : Nat, vj = .int .i64 ((i + m : Nat) : Int) ∧ i + m ≤ 16 ∧ m % 2 = 0 ∧ Hid (zrl (a.l.drop i) = m + zrl (a.l.drop (i + m)))) (fun vj => 16 - (intOf vj).toNat)
      case atStart => exact ⟨0, rfl, by omega, rfl, by show _ = _; simp⟩
      case round =>
        obtain ⟨m, rfl, hm, hm2, HZ⟩ := hrel
        obtain ⟨j, hj⟩ : ∃ j, j = i + m := ⟨_, rfl⟩
        have HJ : Hid (j = i + m) := hj
        rw [← hj] at HZ hm
        rw [← hj]
        clear hj
        have exitZ : Hid (zrl (a.l.drop j) = 0 → lzF a.l (k + 1) = if 4 ≤ m ∧ t - f < m then (i, j) else (f, t)) := fun h => by
          rw [HS.out, HP.out, HZ.out, h, HJ.out]
          rfl
        have j0 : (0 : Int) ≤ (j : Int) := by omega
        by_cases hj16 : j < 16
        · obtain ⟨x, hx⟩ : ∃ x, a.l[j]? = some x := ⟨_, List.getElem?_eq_getElem (by rw [HL.out]; omega)⟩
          obtain ⟨y, hy⟩ : ∃ y, a.l[j + 1]? = some y := ⟨_, List.getElem?_eq_getElem (by rw [HL.out]; have := HI.out; have := HJ.out; omega)⟩
          have cx := hcell j x hx
          have cy := hcell (j + 1) y hy
          have hz := zrl_two a.l j x y hx hy
          have j1 : (j : Int) < 16 := by omega
          have j2 : (j : Int) + 1 < 16 := by have := HI.out; have := HJ.out; omega
          have j3 : (0 : Int) ≤ (j : Int) + 1 := by omega
          by_cases hx0 : x = 0
          · by_cases hy0 : y = 0
            · rw [if_pos ⟨hx0, hy0⟩] at hz
              have HZ' : Hid (zrl (a.l.drop i) = (m + 2) + zrl (a.l.drop (i + (m + 2)))) := by
                show _ = _
                rw [HZ.out, hz, HJ.out]; rw [show i + m + 2 = i + (m + 2) by omega]; omega
              subst hx0 hy0
              clear hz hx hy exitZ hcell
              go_wp2
              have e0 := HI.out
              have e1 := HJ.out
              exact ⟨⟨m + 2, by congr 1; omega, by omega, by omega, HZ'⟩, by simp [intOf]; omega⟩
            · rw [if_neg (fun q => hy0 q.2)] at hz
              have HF : Hid (lzF a.l (k + 1) = _) := exitZ.out hz
              have hyn : ((y.toNat : Int) == 0) = false := by
                have : y.toNat ≠ 0 := fun h => hy0 (UInt8.toNat_inj.1 h)
                simp; omega
              subst hx0
              clear hz hx hy exitZ hcell hy0 HZ HS
              go_wp2
              all_goals (refine lz_end HI.out HF.out hlt ?_; have e1 := HJ.out; first | rw [if_pos (by omega)] | rw [if_neg (by omega)])
          · rw [if_neg (fun q => hx0 q.1)] at hz
            have HF : Hid (lzF a.l (k + 1) = _) := exitZ.out hz
            have hxn : ((x.toNat : Int) == 0) = false := by
              have : x.toNat ≠ 0 := fun h => hx0 (UInt8.toNat_inj.1 h)
              simp; omega
            clear hz hx hy exitZ hcell hx0 HZ HS
            go_wp2
            all_goals (refine lz_end HI.out HF.out hlt ?_; have e1 := HJ.out; first | rw [if_pos (by omega)] | rw [if_neg (by omega)])
        · have hz : zrl (a.l.drop j) = 0 := by rw [List.drop_eq_nil_of_le (by rw [HL.out]; omega)]; rfl
          have HF : Hid (lzF a.l (k + 1) = _) := exitZ.out hz
          have j1 : (16 : Int) ≤ (j : Int) := by omega
          clear hz exitZ hcell HZ HS
          go_wp2
          all_goals (refine lz_end HI.out HF.out hlt ?_; have e1 := HJ.out; first | rw [if_pos (by omega)] | rw [if_neg (by omega)])
    · have e8 : k = 8 := by have := HI.out; omega
      subst e8
      go_wp2
      go_ret2
      rw [HP.out]
      exact ⟨rfl, HB.out⟩
end Go.Proofs.YtimpopolkofdgaaGreatDoor
