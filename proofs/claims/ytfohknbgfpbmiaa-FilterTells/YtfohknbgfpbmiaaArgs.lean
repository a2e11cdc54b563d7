/-
  Addresses, prefixes and pairs as arguments: what their readings are; readings that stay.
-/
import Derived.Test.YtfohknbgfpbmiaaWh
import Derived.OpenShut
import Derived.ChangeOld
import Derived.Below
import Derived.SizedLaws
import Derived.ShutString
import Derived.Deep.Slices
namespace Go.Proofs.Ytfohknbgfpbmiaa
theorem okWide_arr {P : Program} {w : World} {r : Reach} {b t n : Nat} {e : TypeId} {v : Value} (ht : P.underlying t = some (.array n e)) (h : Value.okWide P w r b t v) : ∃ cs, v = .agg cs := by
  simp only [Value.okWide, ht] at h
  obtain ⟨cs, h1, _⟩ := h
  exact ⟨cs, h1⟩
open Go.RowKit Go.ChangeShapes Go.WideShapes Go.ChangeAt Go.Deep
theorem own : ownKnob Try.prog.godebug = none := by kernel_rfl
theorem laid_out : laidOutB Try.prog = true := by kernel_rfl
theorem nat_of16 {z : Int} (h : (Lit.int .u16 z).wf = true) : ∃ n : Nat, z = n ∧ n < 65536 := by
  obtain ⟨h0, h1⟩ := bounds_u16 h
  exact ⟨z.toNat, by omega, by omega⟩
section
variable {H : Type} {enc : TypeId × Value → H} {w : World} {base : Nat} {spare : Nat → Bool} {held : Bool}
theorem bytes_of (m : Nat) : ∀ (cs : List Value) (xs : List (DataW H × List MemPlace)), cs.length = xs.length → (∀ i, i < xs.length → DataW.trod enc Try.prog w base spare held m 5 ((cs.drop i).take 1) = xs[i]?) → ∃ l : List UInt8, cs = bcells l
  | [], _, _, _ => ⟨[], rfl⟩
  | c :: r, [], h, _ => by simp at h
  | c :: r, x :: ys, h, k => by
    obtain ⟨l, rfl⟩ := bytes_of m r ys (by simpa using h) (fun i hi => by have := k (i + 1) (by simp; omega); simpa using this)
    obtain ⟨n, e1, _, hw⟩ := DataW.trod_int Try.underlying5 (show DataW.trod enc Try.prog w base spare held m 5 [c] = some x by simpa using k 0 (by simp))
    obtain ⟨h0, h1⟩ := bounds_u8 hw
    simp only [List.cons.injEq, and_true] at e1
    refine ⟨UInt8.ofNat n.toNat :: l, ?_⟩
    rw [e1]
    show _ = Value.int .u8 ((UInt8.ofNat n.toNat).toNat : Int) :: bcells l
    have : (UInt8.ofNat n.toNat).toNat = n.toNat := by simp; omega
    rw [this]
    congr 2
    omega
theorem cellsA : Try.prog.cellsOf 24 = 16 := by kernel_rfl
theorem cellsP : Try.prog.cellsOf 26 = 17 := by kernel_rfl
theorem cellsQ : Try.prog.cellsOf 28 = 34 := by kernel_rfl
theorem cells_u8 : Try.prog.cellsOf 5 = 1 := by kernel_rfl
theorem cells_int : Try.prog.cellsOf 3 = 1 := by kernel_rfl
theorem ad_of {fuel : Nat} {cs : List Value} {x : DataW H × List MemPlace} (h : DataW.trod enc Try.prog w base spare held fuel 24 cs = some x) : ∃ a : Ad, cs = acells a := by
  obtain ⟨xs, m, _, _, hl, hn, hel⟩ := DataW.trod_array Try.underlying24 h
  rw [cells_u8] at hel
  obtain ⟨l, rfl⟩ := bytes_of m cs xs (by rw [hl, hn, cellsA]) (fun i hi => by have := hel i (by omega); rwa [Nat.mul_one] at this)
  exact ⟨⟨l, by rw [bcells_length, cellsA] at hl; exact hl⟩, rfl⟩
theorem pf_of {fuel : Nat} {cs : List Value} {x : DataW H × List MemPlace} (h : DataW.trod enc Try.prog w base spare held fuel 26 cs = some x) : ∃ p : Pf, cs = pcells p ∧ -9223372036854775808 ≤ p.n ∧ p.n ≤ 9223372036854775807 := by
  obtain ⟨y0, y1, n, _, hl, h0, h1⟩ := trod_struct2 Try.underlying26 h
  dsimp only at h0 h1
  rw [cellsA] at h0
  rw [cells_int] at h1
  rw [cellsP] at hl
  obtain ⟨a, ha⟩ := ad_of h0
  obtain ⟨k, e1, _, hw⟩ := DataW.trod_int Try.underlying3 h1
  refine ⟨⟨a, k⟩, ?_, bounds_i64 hw⟩
  rw [pcells, ← ha, ← e1, List.drop_zero]
  have : (cs.drop 16).take 1 = cs.drop 16 := List.take_of_length_le (by simp; omega)
  rw [this, List.take_append_drop]
theorem pr_of {fuel : Nat} {cs : List Value} {x : DataW H × List MemPlace} (h : DataW.trod enc Try.prog w base spare held fuel 28 cs = some x) : ∃ q : Pr, cs = qcells q ∧ (-9223372036854775808 ≤ q.d.n ∧ q.d.n ≤ 9223372036854775807) ∧ -9223372036854775808 ≤ q.s.n ∧ q.s.n ≤ 9223372036854775807 := by
  obtain ⟨y0, y1, n, _, hl, h0, h1⟩ := trod_struct2 Try.underlying28 h
  dsimp only at h0 h1
  rw [cellsP] at h0 h1
  rw [cellsQ] at hl
  obtain ⟨d, hd, d1⟩ := pf_of h0
  obtain ⟨s, hs, s1⟩ := pf_of h1
  refine ⟨⟨d, s⟩, ?_, d1, s1⟩
  rw [qcells, ← hd, ← hs, List.drop_zero]
  have : (cs.drop 17).take 17 = cs.drop 17 := List.take_of_length_le (by simp; omega)
  rw [this, List.take_append_drop]
theorem cells_bool : Try.prog.cellsOf 4 = 1 := by kernel_rfl
theorem cells_str : Try.prog.cellsOf 9 = 1 := by kernel_rfl
theorem cells_I : Try.prog.cellsOf 30 = 8 := by kernel_rfl
theorem cells_R : Try.prog.cellsOf 41 = 50 := by kernel_rfl
theorem id_of {fuel : Nat} {cs : List Value} {x : DataW H × List MemPlace} (h : DataW.trod enc Try.prog w base spare held fuel 30 cs = some x) : ∃ a : Id8, cs = icells a := by
  obtain ⟨xs, m, _, _, hl, hn, hel⟩ := DataW.trod_array Try.underlying30 h
  rw [cells_u8] at hel
  obtain ⟨l, rfl⟩ := bytes_of m cs xs (by rw [hl, hn, cells_I]) (fun i hi => by have := hel i (by omega); rwa [Nat.mul_one] at this)
  exact ⟨⟨l, by rw [bcells_length, cells_I] at hl; exact hl⟩, rfl⟩
theorem drop_split (cs : List Value) (o n m : Nat) (h : o + n = m) : cs.drop o = (cs.drop o).take n ++ cs.drop m := by
  rw [← h, ← List.drop_drop, List.take_append_drop]
theorem ru_of {fuel : Nat} {cs : List Value} {x : DataW H × List MemPlace} (h : DataW.trod enc Try.prog w base spare held fuel 41 cs = some x) : ∃ r : Ru, cs = rcells r := by
  obtain ⟨xs, n, _, _, hl, hlen, hf⟩ := DataW.trod_struct Try.underlying41 h
  rw [cells_R] at hl
  match xs, hlen with
  | [y0, y1, y2, y3, y4, y5, y6, y7, y8, y9, y10], _ =>
    have f0 : DataW.trod enc Try.prog w base spare held n 3 ((cs.drop 0).take (Try.prog.cellsOf 3)) = some y0 := hf 0 _ rfl
    have f1 : DataW.trod enc Try.prog w base spare held n 9 ((cs.drop 1).take (Try.prog.cellsOf 9)) = some y1 := hf 1 _ rfl
    have f2 : DataW.trod enc Try.prog w base spare held n 26 ((cs.drop 2).take (Try.prog.cellsOf 26)) = some y2 := hf 2 _ rfl
    have f3 : DataW.trod enc Try.prog w base spare held n 4 ((cs.drop 19).take (Try.prog.cellsOf 4)) = some y3 := hf 3 _ rfl
    have f4 : DataW.trod enc Try.prog w base spare held n 3 ((cs.drop 20).take (Try.prog.cellsOf 3)) = some y4 := hf 4 _ rfl
    have f5 : DataW.trod enc Try.prog w base spare held n 3 ((cs.drop 21).take (Try.prog.cellsOf 3)) = some y5 := hf 5 _ rfl
    have f6 : DataW.trod enc Try.prog w base spare held n 26 ((cs.drop 22).take (Try.prog.cellsOf 26)) = some y6 := hf 6 _ rfl
    have f7 : DataW.trod enc Try.prog w base spare held n 4 ((cs.drop 39).take (Try.prog.cellsOf 4)) = some y7 := hf 7 _ rfl
    have f8 : DataW.trod enc Try.prog w base spare held n 30 ((cs.drop 40).take (Try.prog.cellsOf 30)) = some y8 := hf 8 _ rfl
    have f9 : DataW.trod enc Try.prog w base spare held n 4 ((cs.drop 48).take (Try.prog.cellsOf 4)) = some y9 := hf 9 _ rfl
    have f10 : DataW.trod enc Try.prog w base spare held n 3 ((cs.drop 49).take (Try.prog.cellsOf 3)) = some y10 := hf 10 _ rfl
    rw [cells_int] at f0
    rw [cells_str] at f1
    rw [cellsP] at f2
    rw [cells_bool] at f3
    rw [cells_int] at f4
    rw [cells_int] at f5
    rw [cellsP] at f6
    rw [cells_bool] at f7
    rw [cells_I] at f8
    rw [cells_bool] at f9
    rw [cells_int] at f10
    obtain ⟨z0, e0, _, _⟩ := DataW.trod_int Try.underlying3 f0
    obtain ⟨z1, e1, _⟩ := DataW.trod_string Try.underlying9 f1
    obtain ⟨z2, e2, _⟩ := pf_of f2
    obtain ⟨z3, e3, _⟩ := DataW.trod_bool Try.underlying4 f3
    obtain ⟨z4, e4, _, _⟩ := DataW.trod_int Try.underlying3 f4
    obtain ⟨z5, e5, _, _⟩ := DataW.trod_int Try.underlying3 f5
    obtain ⟨z6, e6, _⟩ := pf_of f6
    obtain ⟨z7, e7, _⟩ := DataW.trod_bool Try.underlying4 f7
    obtain ⟨z8, e8⟩ := id_of f8
    obtain ⟨z9, e9, _⟩ := DataW.trod_bool Try.underlying4 f9
    obtain ⟨z10, e10, _, _⟩ := DataW.trod_int Try.underlying3 f10
    refine ⟨⟨z0, z1, z2, z3, z4, z5, z6, z7, z8, z9, z10⟩, ?_⟩
    have g0 := drop_split cs 0 1 1 rfl
    have g1 := drop_split cs 1 1 2 rfl
    have g2 := drop_split cs 2 17 19 rfl
    have g3 := drop_split cs 19 1 20 rfl
    have g4 := drop_split cs 20 1 21 rfl
    have g5 := drop_split cs 21 1 22 rfl
    have g6 := drop_split cs 22 17 39 rfl
    have g7 := drop_split cs 39 1 40 rfl
    have g8 := drop_split cs 40 8 48 rfl
    have g9 := drop_split cs 48 1 49 rfl
    have g10 := drop_split cs 49 1 50 rfl
    have gl : cs.drop 50 = [] := List.drop_eq_nil_of_le (by omega)
    rw [gl, e10] at g10
    rw [g10, e9] at g9
    rw [g9, e8] at g8
    rw [g8, e7] at g7
    rw [g7, e6] at g6
    rw [g6, e5] at g5
    rw [g5, e4] at g4
    rw [g4, e3] at g3
    rw [g3, e2] at g2
    rw [g2, e1] at g1
    rw [g1, e0] at g0
    rw [List.drop_zero] at g0
    rw [g0]
    simp [rcells]
variable {r : Reach} {b0 : Nat} {v : Value} {d : DataW H} {p : List MemPlace}
set_option maxRecDepth 100000 in
theorem openA (hv : Value.okWide Try.prog w r b0 24 v) (h : DataW.Trod enc Try.prog w base spare held 24 v d p) : ∃ a : Ad, v = (Value.agg (acells a).toArray) := by
  obtain ⟨cs, rfl⟩ := okWide_arr Try.underlying24 hv
  obtain ⟨fuel, hf⟩ := h
  obtain ⟨a, ha⟩ := ad_of hf
  exact ⟨a, by rw [← ha]; simp [Value.cells]⟩
set_option maxRecDepth 100000 in
theorem openP (hv : Value.okWide Try.prog w r b0 26 v) (h : DataW.Trod enc Try.prog w base spare held 26 v d p) : ∃ a : Pf, v = (Value.agg (pcells a).toArray) ∧ -9223372036854775808 ≤ a.n ∧ a.n ≤ 9223372036854775807 := by
  obtain ⟨cs, rfl, _⟩ := okWide_struct Try.underlying26 hv
  obtain ⟨fuel, hf⟩ := h
  obtain ⟨a, ha, hb⟩ := pf_of hf
  exact ⟨a, by rw [← ha]; simp [Value.cells], hb⟩
set_option maxRecDepth 100000 in
theorem openQ (hv : Value.okWide Try.prog w r b0 28 v) (h : DataW.Trod enc Try.prog w base spare held 28 v d p) : ∃ a : Pr, v = (Value.agg (qcells a).toArray) ∧ (-9223372036854775808 ≤ a.d.n ∧ a.d.n ≤ 9223372036854775807) ∧ -9223372036854775808 ≤ a.s.n ∧ a.s.n ≤ 9223372036854775807 := by
  obtain ⟨cs, rfl, _⟩ := okWide_struct Try.underlying28 hv
  obtain ⟨fuel, hf⟩ := h
  obtain ⟨a, ha, hb⟩ := pr_of hf
  exact ⟨a, by rw [← ha]; simp [Value.cells], hb⟩
set_option maxRecDepth 100000 in
theorem openI (hv : Value.okWide Try.prog w r b0 30 v) (h : DataW.Trod enc Try.prog w base spare held 30 v d p) : ∃ a : Id8, v = idV a := by
  obtain ⟨cs, rfl⟩ := okWide_arr Try.underlying30 hv
  obtain ⟨fuel, hf⟩ := h
  obtain ⟨a, ha⟩ := id_of hf
  exact ⟨a, by rw [idV, ← ha]; simp [Value.cells]⟩
set_option maxRecDepth 100000 in
/-- A slice of rules as an argument. -/
theorem openL (hv : Value.okWide Try.prog w r b0 22 v) (h : DataW.Trod enc Try.prog w base spare held 22 v d p) : ∃ (ad : Option Addr) (len cap : Nat) (qs : List Ru), v = .slice ad len cap ∧ RlW w ad len qs ∧ len ≤ cap ∧ (ad = none → cap = 0) := by
  obtain ⟨ad, len, cap, rfl⟩ := okWide_slice Try.underlying22 hv
  obtain ⟨fuel, hf⟩ := h
  rcases open_slice Try.underlying22 hf with ⟨hcs, _⟩ | ⟨a, len', cap', m, n, D, Pl, hcs, _, hl, _, hmm, _, hx⟩
  · simp [Value.cells] at hcs
    obtain ⟨rfl, rfl, rfl⟩ := hcs
    exact ⟨none, 0, 0, [], rfl, RlW.nil _ _, Nat.le_refl _, fun _ => rfl⟩
  · simp [Value.cells] at hcs
    obtain ⟨rfl, rfl, rfl⟩ := hcs
    by_cases h0 : len = 0
    · subst h0
      exact ⟨_, 0, cap, [], rfl, RlW.nil _ _, Nat.zero_le _, fun h => by cases h⟩
    · have hm : len ≤ m := by rw [hmm]; split <;> omega
      have each : ∀ i, i < len → ∃ q : Ru, ∀ k, k < 50 → w.cell? ((a.add (i * 50)).add k) = (rcells q)[k]? := fun i hi => by
        obtain ⟨cs', k1, k2⟩ := hx i (by omega)
        obtain ⟨q, rfl⟩ := ru_of k2
        rw [cells_R] at k1
        obtain ⟨_, _, hc⟩ := World.cells?_some k1
        exact ⟨q, hc⟩
      haveI : Inhabited Ru := ⟨zeroR⟩
      obtain ⟨f, hf'⟩ := choose_lt each
      obtain ⟨b, o, x⟩ := a
      have hx0 : x = none := by
        have h1 := hf' 0 (by omega) 0 (by omega)
        obtain ⟨u, hu⟩ : ∃ u, (rcells (f 0))[0]? = some u := ⟨_, List.getElem?_eq_getElem (by rw [rcells_len]; omega)⟩
        rw [hu] at h1
        cases x with
        | none => rfl
        | some y =>
          have := World.cell?_spot h1
          simp [Addr.add] at this
      subst hx0
      have hc : ∀ j, j < len → ∀ k, k < 50 → w.cell? ⟨b, o + j * 50 + k, none⟩ = (rcells (f j))[k]? := fun j hj k hk => by
        have := hf' j hj k hk
        rw [add_add, Go.WideShapes.add_plain] at this
        rw [Nat.add_assoc]; exact this
      refine ⟨_, len, cap, (List.range len).map f, rfl, ⟨by simp, fun _ => ⟨b, o, rfl, ?_, fun j q hq => ?_⟩⟩, hl, fun h => by cases h⟩
      · have h1 := hc 0 (by omega) 0 (by omega)
        obtain ⟨u, hu⟩ : ∃ u, (rcells (f 0))[0]? = some u := ⟨_, List.getElem?_eq_getElem (by rw [rcells_len]; omega)⟩
        rw [hu] at h1
        exact World.block_lt_of_cell? _ _ h1
      · rw [List.getElem?_map] at hq
        by_cases hj : j < len
        · rw [List.getElem?_range hj] at hq
          cases hq
          intro k u hu
          rw [hc j hj k (by have := (List.getElem?_eq_some_iff.1 hu).1; rw [rcells_len] at this; exact this)]
          exact hu
        · rw [List.getElem?_eq_none (by simp; omega)] at hq
          cases hq
end
/-- The readings of arguments stay where nothing that was there is written. -/
theorem all_stay {H : Type} {enc : TypeId × Value → H} {P : Program} (hl : laidOutB P = true) {W W' : World} (hb : Below W.heap.size W W') : ∀ (ts : List TypeId) (vs : List Value) (ds : List (DataW H)) (p : List MemPlace), (ts.all fun t => P.readableRec t && decide (t < P.types.size)) = true → DataW.TrodAll enc P W 0 (fun _ => true) true ts vs ds p → DataW.TrodAll enc P W' 0 (fun b => decide (b < W.heap.size)) true ts vs ds p
  | [], vs, ds, p, _, h => by
    obtain ⟨rfl, rfl, rfl⟩ := trodAll_nil h
    exact trodAll_mk0
  | t :: ts, vs, ds, p, hr, h => by
    obtain ⟨v0, vs0, d0, ds0, p0, q0, rfl, rfl, rfl, h0, r0⟩ := trodAll_cons h
    simp only [List.all_cons, Bool.and_eq_true, decide_eq_true_eq] at hr
    refine trodAll_cons_mk (Below.trod hl hr.1.1 hr.1.2 h0 hb ?_) (all_stay hl hb ts vs0 ds0 q0 (by simpa using hr.2) r0)
    obtain ⟨m, hm⟩ := h0
    exact DataW.trod_lt m _ _ _ hm
end Go.Proofs.Ytfohknbgfpbmiaa
