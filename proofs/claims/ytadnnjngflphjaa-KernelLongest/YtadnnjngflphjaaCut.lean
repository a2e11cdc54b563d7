/-
  addr.cut: the first bits of an address, for every address and every number of bits.
-/
import Derived.Test.YtadnnjngflphjaaRet
namespace Go.Proofs.Ytadnnjngflphjaa.Fa
open Go.RowKit
set_option linter.unusedSimpArgs false
/-- The first k bits of a byte. -/
def keepB (k : Nat) (b : UInt8) : UInt8 := UInt8.ofNat (b.toNat - b.toNat % 2 ^ (8 - k))
/-- The first n bits of an address. -/
def cutA (a : Ad) (n : Nat) : Ad := ⟨a.l.mapIdx (fun i b => keepB (n - 8 * i) b), by simp [a.len]⟩
theorem keepB_all {k : Nat} (h : 8 ≤ k) (b : UInt8) : keepB k b = b := by
  have : 8 - k = 0 := by omega
  simp [keepB, this, Nat.mod_one]
theorem keepB_none (b : UInt8) : keepB 0 b = 0 := by
  have h : b.toNat % 2 ^ (8 - 0) = b.toNat := Nat.mod_eq_of_lt b.toNat_lt
  unfold keepB
  rw [h, Nat.sub_self]; rfl

theorem keepB_bits (b : UInt8) (r : Nat) (hr : r < 8) : bits BinOp.andNot IntKind.u8 (b.toNat : Int) (255 / 2 ^ r) = ((keepB r b).toNat : Int) := by
  have h : ((List.range 8).all fun r => (List.range 256).all fun b => bits BinOp.andNot IntKind.u8 (b : Int) (255 / 2 ^ r) == (((b - b % 2 ^ (8 - r)) % 256 : Nat) : Int)) = true := by kernel_rfl
  have h1 := List.all_eq_true.1 (List.all_eq_true.1 h r (by simp [hr])) b.toNat (List.mem_range.2 b.toNat_lt)
  rw [eq_of_beq h1]
  simp [keepB]
theorem cut_get (a : Ad) (n i : Nat) : (acells (cutA a n))[i]? = (a.l[i]?).map fun b => Value.int .u8 ((keepB (n - 8 * i) b).toNat : Int) := by
  unfold acells bcells cutA
  cases h : a.l[i]? <;> simp [h]
theorem splice_get (a : Ad) (k i : Nat) (hk : k ≤ 16) : (splice (acells zeroA) 0 ((acells a).take k))[i]? = if i < k then (acells a)[i]? else (acells zeroA)[i]? := by
  have hl : ((acells a).take k).length = k := by simp [acells_len]; omega
  simp only [splice, List.take_zero, List.nil_append, Nat.zero_add, hl]
  by_cases h : i < k
  · rw [List.getElem?_append_left (by omega), List.getElem?_take, if_pos h, if_pos h]
  · rw [List.getElem?_append_right (by omega), hl, List.getElem?_drop, if_neg h]
    congr 1; omega
theorem zero_get (i : Nat) (hi : i < 16) : (acells zeroA)[i]? = some (.int .u8 0) := by
  have h : acells zeroA = List.replicate 16 (.int .u8 0) := rfl
  rw [h, List.getElem?_replicate, if_pos hi]
theorem cut_cells (a : Ad) (k r : Nat) (hk : 8 * k + r ≤ 128) (hr : r < 8) (Z : List Value) (hZ : Z = splice (acells zeroA) 0 ((acells a).take k)) :
    (r = 0 → acells (cutA a (8 * k + r)) = Z) ∧ ∀ b, a.l[k]? = some b → acells (cutA a (8 * k + r)) = Z.set k (.int .u8 (bits BinOp.andNot IntKind.u8 (b.toNat : Int) (255 / 2 ^ r))) := by
  have hz : Z.length = 16 := by rw [hZ, length_splice _ _ _ (by simp [acells_len]; omega), acells_len]
  have key : ∀ i, i ≠ k ∨ r = 0 → (acells (cutA a (8 * k + r)))[i]? = Z[i]? := by
    intro i hi
    rw [cut_get, hZ, splice_get a k i (by omega)]
    by_cases h16 : i < 16
    · obtain ⟨c, hc⟩ : ∃ c, a.l[i]? = some c := ⟨_, List.getElem?_eq_getElem (by rw [a.len]; omega)⟩
      by_cases hik : i < k
      · rw [if_pos hik, hc, Option.map_some, keepB_all (by omega)]
        exact (bcells_get hc).symm
      · rw [if_neg hik, zero_get i h16, hc, Option.map_some, show 8 * k + r - 8 * i = 0 by omega, keepB_none]; rfl
    · rw [if_neg (by omega), List.getElem?_eq_none (by rw [a.len]; omega), List.getElem?_eq_none (by rw [acells_len]; omega)]; rfl
  refine ⟨fun h0 => List.ext_getElem? fun i => key i (.inr h0), fun b hb => List.ext_getElem? fun i => ?_⟩
  have hk16 : k < 16 := by have := (List.getElem?_eq_some_iff.1 hb).1; rw [a.len] at this; exact this
  rw [List.getElem?_set]
  by_cases hik : k = i
  · subst hik
    rw [if_pos rfl, if_pos (by omega), cut_get, hb, Option.map_some, show 8 * k + r - 8 * k = r by omega, keepB_bits b r hr]
  · rw [if_neg hik]
    exact key i (.inl fun h => hik h.symm)

theorem cut_any (a : Ad) (k r : Nat) (hk : 8 * k + r ≤ 128) (hr : r < 8) (w : World) : Calls Try.prog 42 #[(Value.agg (acells a).toArray), .int .i64 ((8 * k + r : Nat) : Int)] w (Gives w (Value.agg (acells (cutA a (8 * k + r))).toArray)) := by
  obtain ⟨n, hn⟩ : ∃ n : Nat, n = 8 * k + r := ⟨_, rfl⟩
  have h1 : Int.tdiv (n : Int) 8 = (k : Int) := by rw [Int.tdiv_eq_ediv_of_nonneg (by omega)]; omega
  have h2 : Int.tmod (n : Int) 8 = (r : Int) := by rw [Int.tmod_eq_emod_of_nonneg (by omega)]; omega
  have hk0 : (0 : Int) ≤ (k : Int) := by omega
  have hk' : (k : Int) ≤ 16 := by omega
  have HN : Hid (n = 8 * k + r) := hn
  rw [← hn]
  clear hn
  go_enter Try.func42, Try.ntmps42
  go_wp2
  refine name_world (R := fun W => Code.wp _ _ _ _ W) (P := fun W => Below w.heap.size w W ∧ LA W w.heap.size 0 a ∧ Row W (w.heap.size + 2) 31 (acells zeroA) ∧ Row W (w.heap.size + 1) 31 (acells zeroA) ∧ W.heap.size = w.heap.size + 3) _ ?_ ?_
  · have q1 := Row.new (w.alloc (.cells (acells a).toArray 31)) 31 (acells zeroA)
    have q2 := Row.new ((w.alloc (.cells (acells a).toArray 31)).alloc (.cells (acells zeroA).toArray 31)) 31 (acells zeroA)
    simp only [World.size_alloc] at q1 q2
    exact ⟨(((Below.refl _ _).alloc (Nat.le_refl _) _).alloc (by simp) _).alloc (by simp; omega) _, ((LA.new w a _).alloc _).alloc _, q2, q1.alloc _, by simp⟩
  rintro W ⟨hB, hA, hg, hg1, hs⟩
  have hBd : Below (w.heap.size + 2) W W.drew := (Below.refl _ _).drew
  go_region_held3 (fun w' => Below (w.heap.size + 2) W w') (first | assumption | exact hB2) (first | (refine step_copy_splice rfl (.tmp 12) (.tmp 14) 89 89 rfl 5 Try.underlying89 (by kernel_rfl) _ _ _ _ _ _ rfl rfl (w.heap.size + 2) 0 (acells zeroA) 31 hg ((acells a).take k) (by simp [acells_len]) (fun _ => ⟨rfl, _, rfl, fun j v hv => by rw [Addr.add_mid]; exact hA j v (take_get hv)⟩) (by simp [acells_len]; omega) (fun v hv => acells_one a v (List.mem_of_mem_take hv)) (w.heap.size + 2) W hBd (Nat.le_refl _) ?_; intro W2 HG2 hB2))
  have hA2 : LA W2 w.heap.size 0 a := hA.below hB2 (by omega)
  have hg2 : Row W2 (w.heap.size + 1) 31 (acells zeroA) := hg1.below hB2 (by omega)
  have hB3 : Below w.heap.size w W2 := hB.trans (Below.mono hB2 (by omega))
  clear hBd hg hA hg1 hB
  clear hB2
  obtain ⟨Z, hZ⟩ : ∃ Z, Z = splice (acells zeroA) 0 ((acells a).take k) := ⟨_, rfl⟩
  rw [← hZ] at HG2
  have HZ : Hid (Z = _) := hZ
  clear hZ
  by_cases h0 : r = 0
  · subst h0
    have hR : Row W2 (w.heap.size + 1 + 1) 31 (acells (cutA a n)) := by
      have := (cut_cells a k 0 hk (by omega) Z HZ.out).1 rfl
      rw [← HN.out] at this
      rw [this]; exact HG2.out
    clear HG2
    go_wp2_with (first
      | (refine ldA (.tmp 5) rfl rfl _ _ (cutA a n) rfl hR.range ?_)
      | (refine stA (.tmp 4) (.tmp 26) rfl rfl _ _ (cutA a n) rfl rfl (hg2.there (by rw [acells_len]; omega)) ?_))
    exact bodyPost_ret (retC rfl _ _ 0 rfl (lvA (LA.stored (hg2.there (by rw [acells_len]; omega))))) rfl ⟨rfl, below_setCells _ (by omega) _ _ _ hB3⟩
  · have h0' : (0 : Int) < (r : Int) := by omega
    have hk16 : (k : Int) < 16 := by omega
    obtain ⟨b, hb⟩ : ∃ b, a.l[k]? = some b := ⟨_, List.getElem?_eq_getElem (by rw [a.len]; omega)⟩
    have hc : W2.cell? ⟨w.heap.size, k, none⟩ = some (.int .u8 b.toNat) := by simpa using hA2 k _ (bcells_get hb)
    have hR : Row W2 (w.heap.size + 1 + 1) 31 Z := HG2.out
    have hzl : ∃ v, Z[k]? = some v := by rw [HZ.out, splice_get a k k (by omega), if_neg (by omega), zero_get k (by omega)]; exact ⟨_, rfl⟩
    obtain ⟨v, hv⟩ := hzl
    have hd : W2.cell? ⟨w.heap.size + 1 + 1, k, none⟩ = some v := (hR.cell k).trans hv
    have hf : W2.frozen? ⟨w.heap.size + 1 + 1, k, none⟩ = false := hR.frozen k
    clear HG2
    go_wp2
    go_region
    have e1 : acells (cutA a n) = Z.set k (.int .u8 (bits BinOp.andNot IntKind.u8 (b.toNat : Int) (255 / 2 ^ r))) := by rw [HN.out]; exact (cut_cells a k r hk hr Z HZ.out).2 b hb
    refine name_world (R := fun W => Exit.then _ _ _ _ W) (P := fun W3 => Below w.heap.size w W3 ∧ Row W3 (w.heap.size + 1) 31 (acells zeroA) ∧ Row W3 (w.heap.size + 1 + 1) 31 (acells (cutA a n))) _ ⟨(hB3.setCell (p := ⟨w.heap.size + 1 + 1, k, none⟩) (by simp; omega) _).drew, (hg2.setOther _ k _ (by omega)).drew, by rw [e1]; exact (hR.set k _).drew⟩ ?_
    rintro W3 ⟨hB4, hg4, hR4⟩
    clear hR hd hf hc hB3 hg2 hA2
    go_wp2_with (first
      | (refine ldA (.tmp 5) rfl rfl _ _ (cutA a n) rfl hR4.range ?_)
      | (refine stA (.tmp 4) (.tmp 26) rfl rfl _ _ (cutA a n) rfl rfl (hg4.there (by rw [acells_len]; omega)) ?_))
    exact bodyPost_ret (retC rfl _ _ 0 rfl (lvA (LA.stored (hg4.there (by rw [acells_len]; omega))))) rfl ⟨rfl, below_setCells _ (by omega) _ _ _ hB4⟩
end Go.Proofs.Ytadnnjngflphjaa.Fa
