/-
  Distances, metrics and slices of them as arguments: what their readings are; readings that stay.
-/
import Derived.Test.YtodemeilmaoodaaSSum
import Derived.OpenShut
import Derived.ChangeOld
import Derived.ShutString
import Derived.Deep.SlicePairs
namespace Go.Proofs.Ytodemeilmaoodaa
open Go.RowKit Go.ChangeShapes Go.WideShapes Go.ChangeAt Go.Deep
theorem own : ownKnob Try.prog.godebug = none := by kernel_rfl
theorem laid_out : laidOutB Try.prog = true := by kernel_rfl
section
variable {H : Type} {enc : TypeId × Value → H} {w : World} {base : Nat} {spare : Nat → Bool} {held : Bool} {r : Reach} {b0 : Nat} {v : Value} {d : DataW H} {p : List MemPlace}
theorem cellsD : Try.prog.cellsOf 33 = 2 := by kernel_rfl
theorem cells16 : Try.prog.cellsOf 22 = 1 := by kernel_rfl
theorem d_of {fuel : Nat} {cs : List Value} {x : DataW H × List MemPlace} (h : DataW.trod enc Try.prog w base spare held fuel 33 cs = some x) : ∃ a b : Int, cs = [.int .u16 a, .int .u16 b] ∧ (0 ≤ a ∧ a ≤ 65535) ∧ 0 ≤ b ∧ b ≤ 65535 := by
  obtain ⟨y0, y1, n, _, hl, h0, h1⟩ := trod_struct2 Try.underlying33 h
  dsimp only at h0 h1
  rw [cells16] at h0 h1
  rw [cellsD] at hl
  match cs, hl with
  | [c, d], _ =>
    obtain ⟨k, e1, _, hw⟩ := DataW.trod_int Try.underlying22 h0
    obtain ⟨k', e1', _, hw'⟩ := DataW.trod_int Try.underlying22 h1
    simp at e1 e1'
    exact ⟨k, k', by rw [e1, e1'], bounds_u16 hw, bounds_u16 hw'⟩
set_option maxRecDepth 100000 in
theorem openD (hv : Value.okWide Try.prog w r b0 33 v) (h : DataW.Trod enc Try.prog w base spare held 33 v d p) : ∃ a b : Int, v = .agg #[.int .u16 a, .int .u16 b] ∧ (0 ≤ a ∧ a ≤ 65535) ∧ 0 ≤ b ∧ b ≤ 65535 := by
  obtain ⟨cs, rfl, _⟩ := okWide_struct Try.underlying33 hv
  obtain ⟨fuel, hf⟩ := h
  obtain ⟨a, b, ha, hb⟩ := d_of hf
  simp [Value.cells] at ha
  refine ⟨a, b, ?_, hb⟩
  congr 1
  cases cs; simp_all
theorem openM (hv : Value.okWide Try.prog w r b0 23 v) (h : DataW.Trod enc Try.prog w base spare held 23 v d p) : ∃ (ad : Option Addr) (len cap : Nat) (l : List Nat), v = .slice ad len cap ∧ len ≤ 9223372036854775807 ∧ Mts w ad len l := by
  obtain ⟨ad, len, cap, rfl⟩ := okWide_slice Try.underlying23 hv
  obtain ⟨fuel, hf⟩ := h
  rcases open_ints Try.underlying23 Try.underlying22 (by kernel_rfl) hf with ⟨hcs, _⟩ | ⟨x, l, c, zs, hcs, _, hl, hm, hz, _, hcell, hwz⟩
  · simp [Value.cells] at hcs
    obtain ⟨rfl, rfl, rfl⟩ := hcs
    exact ⟨none, 0, 0, [], rfl, by omega, rfl, fun _ => rfl, (fun _ h => by cases h), fun _ h => by cases h⟩
  · simp [Value.cells] at hcs
    obtain ⟨rfl, rfl, rfl⟩ := hcs
    have hlz : len ≤ zs.length := by rw [hz]; split <;> omega
    have hg : ∀ i, i < len → ∃ h : i < zs.length, zs.getD i 0 = zs[i] ∧ 0 ≤ zs[i] ∧ zs[i] ≤ 65535 := fun i hi => by
      have h : i < zs.length := by omega
      exact ⟨h, by simp [h], bounds_u16 (hwz _ (List.getElem_mem h))⟩
    refine ⟨_, len, cap, (zs.take len).map Int.toNat, rfl, by unfold maxLen at hm; omega, by simp; omega, (fun h => by cases h), ?_, ?_⟩
    · intro y hy
      obtain ⟨z, hzm, rfl⟩ := List.mem_map.1 hy
      have := bounds_u16 (hwz z (List.mem_of_mem_take hzm))
      omega
    · intro ad had j hj
      cases had
      have hj' : j < len := by simp at hj; omega
      obtain ⟨h, e, l0, l1⟩ := hg j hj'
      rw [hcell j h, e]
      congr 2
      simp
      omega
set_option maxRecDepth 100000 in
/-- A slice of distances as an argument. -/
theorem openL (hv : Value.okWide Try.prog w r b0 40 v) (h : DataW.Trod enc Try.prog w base spare held 40 v d p) : ∃ (ad : Option Addr) (len cap : Nat) (qs : List (Int × Int)), v = .slice ad len cap ∧ qs.length = len ∧ (∀ q ∈ qs, (0 ≤ q.1 ∧ q.1 ≤ 65535) ∧ 0 ≤ q.2 ∧ q.2 ≤ 65535) ∧ (len = 0 ∨ ∃ g o, ad = some ⟨g, o, none⟩ ∧ g < w.heap.size ∧ ∀ j q, qs[j]? = some q → w.rangeAt g (o + j * 2) [.int .u16 q.1, .int .u16 q.2]) := by
  obtain ⟨ad, len, cap, rfl⟩ := okWide_slice Try.underlying40 hv
  obtain ⟨fuel, hf⟩ := h
  rcases open_slice Try.underlying40 hf with ⟨hcs, _⟩ | ⟨a, len', cap', m, n, D, Pl, hcs, _, hl, _, hmm, _, hx⟩
  · simp [Value.cells] at hcs
    obtain ⟨rfl, rfl, rfl⟩ := hcs
    exact ⟨none, 0, 0, [], rfl, rfl, (fun _ h => by cases h), .inl rfl⟩
  · simp [Value.cells] at hcs
    obtain ⟨rfl, rfl, rfl⟩ := hcs
    by_cases h0 : len = 0
    · subst h0
      exact ⟨_, 0, cap, [], rfl, rfl, (fun _ h => by cases h), .inl rfl⟩
    · have hm : len ≤ m := by rw [hmm]; split <;> omega
      have each : ∀ i, i < len → ∃ q : Int × Int, ((0 ≤ q.1 ∧ q.1 ≤ 65535) ∧ 0 ≤ q.2 ∧ q.2 ≤ 65535) ∧ ∀ k, k < 2 → w.cell? ((a.add (i * 2)).add k) = [Value.int .u16 q.1, Value.int .u16 q.2][k]? := fun i hi => by
        obtain ⟨cs', k1, k2⟩ := hx i (by omega)
        obtain ⟨x, y, rfl, hb⟩ := d_of k2
        rw [cellsD] at k1
        obtain ⟨_, _, hc⟩ := World.cells?_some k1
        exact ⟨(x, y), hb, hc⟩
      obtain ⟨f, hf'⟩ := choose_lt each
      obtain ⟨b, o, x⟩ := a
      have hx0 : x = none := by
        have h1 := (hf' 0 (by omega)).2 0 (by omega)
        cases x with
        | none => rfl
        | some y =>
          have := World.cell?_spot h1
          simp [Addr.add] at this
      subst hx0
      have hc : ∀ j, j < len → ∀ k, k < 2 → w.cell? ⟨b, o + j * 2 + k, none⟩ = [Value.int .u16 (f j).1, Value.int .u16 (f j).2][k]? := fun j hj k hk => by
        have := (hf' j hj).2 k hk
        rw [add_add, Go.WideShapes.add_plain] at this
        rw [Nat.add_assoc]; exact this
      refine ⟨_, len, cap, (List.range len).map f, rfl, by simp, ?_, .inr ⟨b, o, rfl, ?_, fun j q hq => ?_⟩⟩
      · intro q hq
        obtain ⟨i, hi, rfl⟩ := List.mem_map.1 hq
        exact (hf' i (List.mem_range.1 hi)).1
      · exact World.block_lt_of_cell? _ _ (hc 0 (by omega) 0 (by omega))
      · rw [List.getElem?_map] at hq
        by_cases hj : j < len
        · rw [List.getElem?_range hj] at hq
          cases hq
          intro k u hu
          rw [hc j hj k (by have := (List.getElem?_eq_some_iff.1 hu).1; simpa using this)]
          exact hu
        · rw [List.getElem?_eq_none (by simp; omega)] at hq
          cases hq
end
/-- The readings of arguments stay where nothing that was there is written. -/
theorem all_stay {H : Type} {enc : TypeId × Value → H} {P : Program} (hl : laidOutB P = true) {W W' : World} (hb : Below W.heap.size W W') : ∀ (ts : List TypeId) (vs : List Value) (ds : List (DataW H)) (p : List MemPlace), (ts.all fun t => P.readableRec t && decide (t < P.types.size)) = true → DataW.TrodAll enc P W 0 (fun _ => true) true ts vs ds p → DataW.TrodAll enc P W' 0 (fun b => decide (b < W.heap.size)) true ts vs ds p
  | [], vs, ds, p, _, h => by
    obtain ⟨rfl, rfl, rfl⟩ := trodAll_nil h
    exact trodAll_mk0
  | t :: ts, vs, ds, p, hr, h => by
    obtain ⟨v0, vs0, d0, ds0, p0, q0, rfl, rfl, rfl, h0, r0⟩ := trodAll_cons h
    simp only [List.all_cons, Bool.and_eq_true, decide_eq_true_eq] at hr
    refine trodAll_cons_mk (Below.trod hl hr.1.1 hr.1.2 h0 hb ?_) (all_stay hl hb ts vs0 ds0 q0 (by simpa using hr.2) r0)
    obtain ⟨m, hm⟩ := h0
    exact DataW.trod_lt m _ _ _ hm
end Go.Proofs.Ytodemeilmaoodaa
