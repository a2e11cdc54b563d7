/-
  Arguments: an entry, entries: what their readings are; readings that stay.
-/
import Derived.Test.YtadnnjngflphjaaF7
import Derived.OpenShut
import Derived.ChangeOld
import Derived.Below
import Derived.SizedLaws
import Derived.ShutString
import Derived.Deep.Slices
import Derived.Deep.SlicePairs
namespace Go.Proofs.Ytadnnjngflphjaa
open Go.RowKit Go.Maps
set_option linter.unusedSimpArgs false
set_option linter.unusedVariables false
set_option maxRecDepth 20000
theorem okWide_arr {P : Program} {w : World} {r : Reach} {b t n : Nat} {e : TypeId} {v : Value} (ht : P.underlying t = some (.array n e)) (h : Value.okWide P w r b t v) : ∃ cs, v = .agg cs := by
  simp only [Value.okWide, ht] at h
  obtain ⟨cs, h1, _⟩ := h
  exact ⟨cs, h1⟩
open Go.RowKit Go.ChangeShapes Go.WideShapes Go.ChangeAt Go.Deep
theorem own : ownKnob Try.prog.godebug = none := by kernel_rfl
theorem laid_out : laidOutB Try.prog = true := by kernel_rfl
section
variable {H : Type} {enc : TypeId × Value → H} {w : World} {base : Nat} {spare : Nat → Bool} {held : Bool}
theorem bytes_of (m : Nat) : ∀ (cs : List Value) (xs : List (DataW H × List MemPlace)), cs.length = xs.length → (∀ i, i < xs.length → DataW.trod enc Try.prog w base spare held m 5 ((cs.drop i).take 1) = xs[i]?) → ∃ l : List UInt8, cs = bcells l
  | [], _, _, _ => ⟨[], rfl⟩
  | c :: r, [], h, _ => by simp at h
  | c :: r, x :: ys, h, k => by
    obtain ⟨l, rfl⟩ := bytes_of m r ys (by simpa using h) (fun i hi => by have := k (i + 1) (by simp; omega); simpa using this)
    obtain ⟨n, e1, _, hw⟩ := DataW.trod_int Try.underlying5 (show DataW.trod enc Try.prog w base spare held m 5 [c] = some x by simpa using k 0 (by simp))
    obtain ⟨h0, h1⟩ := bounds_u8 hw
    simp only [List.cons.injEq, and_true] at e1
    refine ⟨UInt8.ofNat n.toNat :: l, ?_⟩
    rw [e1]
    show _ = Value.int .u8 ((UInt8.ofNat n.toNat).toNat : Int) :: bcells l
    have : (UInt8.ofNat n.toNat).toNat = n.toNat := by simp; omega
    rw [this]
    congr 2
    omega
theorem cellsA : Try.prog.cellsOf 31 = 16 := by kernel_rfl
theorem cellsP : Try.prog.cellsOf 33 = 17 := by kernel_rfl
theorem cellsQ : Try.prog.cellsOf 35 = 34 := by kernel_rfl
theorem cells_u8 : Try.prog.cellsOf 5 = 1 := by kernel_rfl
theorem cells_int : Try.prog.cellsOf 3 = 1 := by kernel_rfl
theorem ad_of {fuel : Nat} {cs : List Value} {x : DataW H × List MemPlace} (h : DataW.trod enc Try.prog w base spare held fuel 31 cs = some x) : ∃ a : Ad, cs = acells a := by
  obtain ⟨xs, m, _, _, hl, hn, hel⟩ := DataW.trod_array Try.underlying31 h
  rw [cells_u8] at hel
  obtain ⟨l, rfl⟩ := bytes_of m cs xs (by rw [hl, hn, cellsA]) (fun i hi => by have := hel i (by omega); rwa [Nat.mul_one] at this)
  exact ⟨⟨l, by rw [bcells_length, cellsA] at hl; exact hl⟩, rfl⟩
theorem pf_of {fuel : Nat} {cs : List Value} {x : DataW H × List MemPlace} (h : DataW.trod enc Try.prog w base spare held fuel 33 cs = some x) : ∃ p : Pf, cs = pcells p ∧ -9223372036854775808 ≤ p.n ∧ p.n ≤ 9223372036854775807 := by
  obtain ⟨y0, y1, n, _, hl, h0, h1⟩ := trod_struct2 Try.underlying33 h
  dsimp only at h0 h1
  rw [cellsA] at h0
  rw [cells_int] at h1
  rw [cellsP] at hl
  obtain ⟨a, ha⟩ := ad_of h0
  obtain ⟨k, e1, _, hw⟩ := DataW.trod_int Try.underlying3 h1
  refine ⟨⟨a, k⟩, ?_, bounds_i64 hw⟩
  rw [pcells, ← ha, ← e1, List.drop_zero]
  have : (cs.drop 16).take 1 = cs.drop 16 := List.take_of_length_le (by simp; omega)
  rw [this, List.take_append_drop]
theorem pr_of {fuel : Nat} {cs : List Value} {x : DataW H × List MemPlace} (h : DataW.trod enc Try.prog w base spare held fuel 35 cs = some x) : ∃ q : Pr, cs = qcells q ∧ (-9223372036854775808 ≤ q.d.n ∧ q.d.n ≤ 9223372036854775807) ∧ -9223372036854775808 ≤ q.s.n ∧ q.s.n ≤ 9223372036854775807 := by
  obtain ⟨y0, y1, n, _, hl, h0, h1⟩ := trod_struct2 Try.underlying35 h
  dsimp only at h0 h1
  rw [cellsP] at h0 h1
  rw [cellsQ] at hl
  obtain ⟨d, hd, d1⟩ := pf_of h0
  obtain ⟨s, hs, s1⟩ := pf_of h1
  refine ⟨⟨d, s⟩, ?_, d1, s1⟩
  rw [qcells, ← hd, ← hs, List.drop_zero]
  have : (cs.drop 17).take 17 = cs.drop 17 := List.take_of_length_le (by simp; omega)
  rw [this, List.take_append_drop]
theorem drop_split (cs : List Value) (o n m : Nat) (h : o + n = m) : cs.drop o = (cs.drop o).take n ++ cs.drop m := by
  rw [← h, ← List.drop_drop, List.take_append_drop]
theorem wfQ_of {q : Pr} (h1 : -9223372036854775808 ≤ q.d.n) (h2 : q.d.n ≤ 9223372036854775807) (h3 : -9223372036854775808 ≤ q.s.n) (h4 : q.s.n ≤ 9223372036854775807) : wfQ q := by
  constructor
  · unfold wfI
    simp [Lit.wf, IntKind.min, IntKind.max, IntKind.signed, IntKind.bits]
    omega
  · unfold wfI
    simp [Lit.wf, IntKind.min, IntKind.max, IntKind.signed, IntKind.bits]
    omega
theorem cells_E : Try.prog.cellsOf 37 = 51 := by kernel_rfl
/-- What of an entry is known. -/
def En.fit (n : En) : Prop := wfQ n.p ∧ (Lit.int .i64 n.i).wf = true
theorem en_of {fuel : Nat} {cs : List Value} {x : DataW H × List MemPlace} (h : DataW.trod enc Try.prog w base spare held fuel 37 cs = some x) : ∃ a : En, cs = ecs a ∧ a.fit := by
  obtain ⟨xs, n, _, _, hl, hlen, hf⟩ := DataW.trod_struct Try.underlying37 h
  rw [cells_E] at hl
  match xs, hlen with
  | [y0, y1, y2], _ =>
    have f0 : DataW.trod enc Try.prog w base spare held n 35 ((cs.drop 0).take (Try.prog.cellsOf 35)) = some y0 := hf 0 _ rfl
    have f1 : DataW.trod enc Try.prog w base spare held n 3 ((cs.drop 34).take (Try.prog.cellsOf 3)) = some y1 := hf 1 _ rfl
    have f2 : DataW.trod enc Try.prog w base spare held n 31 ((cs.drop 35).take (Try.prog.cellsOf 31)) = some y2 := hf 2 _ rfl
    rw [cellsQ] at f0
    rw [cells_int] at f1
    rw [cellsA] at f2
    obtain ⟨z0, e0, b0⟩ := pr_of f0
    obtain ⟨z1, e1, _, b1⟩ := DataW.trod_int Try.underlying3 f1
    obtain ⟨z2, e2⟩ := ad_of f2
    replace b1 : (Lit.int .i64 z1).wf = true := b1
    refine ⟨⟨z0, z1, z2⟩, ?_, wfQ_of b0.1.1 b0.1.2 b0.2.1 b0.2.2, b1⟩
    have g0 := drop_split cs 0 34 34 rfl
    have g1 := drop_split cs 34 1 35 rfl
    have g2 := drop_split cs 35 16 51 rfl
    have gl : cs.drop 51 = [] := List.drop_eq_nil_of_le (by omega)
    rw [gl, e2] at g2
    rw [g2, e1] at g1
    rw [g1, e0] at g0
    rw [List.drop_zero] at g0
    rw [g0]
    simp [ecs]
variable {r : Reach} {b0 : Nat} {v : Value} {d : DataW H} {p : List MemPlace}
set_option maxRecDepth 100000 in
theorem openE (hv : Value.okWide Try.prog w r b0 37 v) (h : DataW.Trod enc Try.prog w base spare held 37 v d p) : ∃ n : En, v = eV n ∧ n.fit := by
  obtain ⟨cs, rfl, _⟩ := okWide_struct Try.underlying37 hv
  obtain ⟨fuel, hf⟩ := h
  obtain ⟨n, ha, hb⟩ := en_of hf
  exact ⟨n, by rw [eV, ← ha]; simp [Value.cells], hb⟩
set_option maxRecDepth 100000 in
theorem openG {α : Type} (E : α → List Value) (s : Nat) (z : α) (P : α → Prop) {T ST : TypeId} (hU : Try.prog.underlying ST = some (.slice T)) (hs : Try.prog.cellsOf T = s) (s0 : 0 < s) (hE : ∀ q, (E q).length = s)
    (hel : ∀ {fuel : Nat} {cs : List Value} {x : DataW H × List MemPlace}, DataW.trod enc Try.prog w base (fun _ => true) held fuel T cs = some x → ∃ q, cs = E q ∧ P q)
    (hv : Value.okWide Try.prog w r b0 ST v) (h : DataW.Trod enc Try.prog w base (fun _ => true) held ST v d p) : ∃ (ad : Option Addr) (len cap : Nat) (l : List α), v = .slice ad len cap ∧ l.length = len ∧ (∀ q ∈ l, P q) ∧ (l = [] ∨ ∃ b o, ad = some ⟨b, o, none⟩ ∧ b < w.heap.size ∧ ∀ (j : Nat) (q : α), l[j]? = some q → w.rangeAt b (o + j * s) (E q)) ∧ len ≤ cap ∧ cap ≤ maxLen := by
  obtain ⟨ad, len, cap, rfl⟩ := okWide_slice hU hv
  obtain ⟨fuel, hf⟩ := h
  rcases open_slice hU hf with ⟨hcs, _⟩ | ⟨a, len', cap', m, n, D, Pl, hcs, _, hl, hmx, hmm, _, hx⟩
  · simp [Value.cells] at hcs
    obtain ⟨rfl, rfl, rfl⟩ := hcs
    exact ⟨none, 0, 0, [], rfl, rfl, (fun _ h => by cases h), .inl rfl, Nat.le_refl _, Nat.zero_le _⟩
  · simp [Value.cells] at hcs
    obtain ⟨rfl, rfl, rfl⟩ := hcs
    by_cases h0 : len = 0
    · subst h0
      exact ⟨_, 0, cap, [], rfl, rfl, (fun _ h => by cases h), .inl rfl, Nat.zero_le _, by omega⟩
    · have hm : len ≤ m := by rw [hmm]; split <;> omega
      have each : ∀ i, i < len → ∃ q : α, P q ∧ ∀ k, k < s → w.cell? ((a.add (i * s)).add k) = (E q)[k]? := fun i hi => by
        obtain ⟨cs', k1, k2⟩ := hx i (by omega)
        obtain ⟨q, rfl, hb1⟩ := hel k2
        rw [hs] at k1
        obtain ⟨_, _, hc⟩ := World.cells?_some k1
        exact ⟨q, hb1, hc⟩
      have each' : ∀ i, ∃ q : α, i < len → P q ∧ ∀ k, k < s → w.cell? ((a.add (i * s)).add k) = (E q)[k]? := fun i => by
        by_cases hi : i < len
        · obtain ⟨q, hq⟩ := each i hi
          exact ⟨q, fun _ => hq⟩
        · exact ⟨z, fun h => absurd h hi⟩
      obtain ⟨f, hf'⟩ := Classical.axiomOfChoice each'
      obtain ⟨b, o, x⟩ := a
      have h2 : (E (f 0))[0]? = some ((E (f 0))[0]'(by rw [hE]; exact s0)) := List.getElem?_eq_getElem _
      have hx0 : x = none := by
        have h1 := (hf' 0 (by omega)).2 0 s0
        rw [h2] at h1
        have := World.cell?_spot h1
        simpa [Addr.add] using this
      subst hx0
      have hc : ∀ j, j < len → ∀ k, k < s → w.cell? ⟨b, o + j * s + k, none⟩ = (E (f j))[k]? := fun j hj k hk => by
        have := (hf' j hj).2 k hk
        rw [add_add, Go.WideShapes.add_plain] at this
        rw [Nat.add_assoc]; exact this
      refine ⟨_, len, cap, (List.range len).map f, rfl, by simp, ?_, .inr ⟨b, o, rfl, ?_, fun j q hq => ?_⟩, by omega, by omega⟩
      · intro q hq
        obtain ⟨i, hi, rfl⟩ := List.mem_map.1 hq
        exact (hf' i (List.mem_range.1 hi)).1
      · have h1 := hc 0 (by omega) 0 s0
        exact World.block_lt_of_cell? _ _ (h1.trans h2)
      · rw [List.getElem?_map] at hq
        by_cases hj : j < len
        · rw [List.getElem?_range hj] at hq
          cases hq
          intro k u hu
          rw [hc j hj k (by have := (List.getElem?_eq_some_iff.1 hu).1; rwa [hE] at this)]
          exact hu
        · rw [List.getElem?_eq_none (by simp; omega)] at hq
          cases hq
set_option maxRecDepth 100000 in
theorem openEs (hv : Value.okWide Try.prog w r b0 27 v) (h : DataW.Trod enc Try.prog w base (fun _ => true) held 27 v d p) : ∃ (ad : Option Addr) (cap : Nat) (l : List En), v = .slice ad l.length cap ∧ EsW w ad l ∧ (∀ x ∈ l, x.fit) ∧ l.length ≤ maxLen := by
  obtain ⟨ad, len, cap, l, rfl, h1, h2, h3, h4, h5⟩ := openG ecs 51 zeroE En.fit Try.underlying27 cells_E (by omega) ecs_len (fun h => en_of h) hv h
  subst h1
  exact ⟨ad, cap, l, rfl, ⟨h3⟩, h2, by omega⟩
set_option maxRecDepth 100000 in
theorem openA (hv : Value.okWide Try.prog w r b0 31 v) (h : DataW.Trod enc Try.prog w base spare held 31 v d p) : ∃ a : Ad, v = (Value.agg (acells a).toArray) := by
  obtain ⟨cs, rfl⟩ := okWide_arr Try.underlying31 hv
  obtain ⟨fuel, hf⟩ := h
  obtain ⟨a, ha⟩ := ad_of hf
  exact ⟨a, by rw [← ha]; simp [Value.cells]⟩
theorem cells_O : Try.prog.cellsOf 39 = 52 := by kernel_rfl
/-- What of an operation is known. -/
def Oq.fit (o : Oq) : Prop := o.e.fit ∧ (Lit.int .i64 o.k).wf = true
theorem op_of {fuel : Nat} {cs : List Value} {x : DataW H × List MemPlace} (h : DataW.trod enc Try.prog w base spare held fuel 39 cs = some x) : ∃ a : Oq, cs = pcs a ∧ a.fit := by
  obtain ⟨y0, y1, n, _, hl, h0, h1⟩ := trod_struct2 Try.underlying39 h
  dsimp only at h0 h1
  rw [cells_int] at h0
  rw [cells_E] at h1
  rw [cells_O] at hl
  obtain ⟨k, e0, _, b0⟩ := DataW.trod_int Try.underlying3 h0
  replace b0 : (Lit.int .i64 k).wf = true := b0
  obtain ⟨e, e1, f⟩ := en_of h1
  refine ⟨⟨k, e⟩, ?_, f, b0⟩
  have g0 := drop_split cs 0 1 1 rfl
  have g1 := drop_split cs 1 51 52 rfl
  have gl : cs.drop 52 = [] := List.drop_eq_nil_of_le (by omega)
  rw [gl, e1, List.append_nil] at g1
  rw [g1, e0] at g0
  rw [List.drop_zero] at g0
  rw [g0]
  rfl
set_option maxRecDepth 100000 in
theorem openO (hv : Value.okWide Try.prog w r b0 39 v) (h : DataW.Trod enc Try.prog w base spare held 39 v d p) : ∃ n : Oq, v = oV n ∧ n.fit := by
  obtain ⟨cs, rfl, _⟩ := okWide_struct Try.underlying39 hv
  obtain ⟨fuel, hf⟩ := h
  obtain ⟨n, ha, hb⟩ := op_of hf
  exact ⟨n, by rw [oV, ← ha]; simp [Value.cells], hb⟩
end
set_option maxRecDepth 100000 in
/-- The readings of arguments stay where nothing that was there is written. -/
theorem all_stay {H : Type} {enc : TypeId × Value → H} {P : Program} (hl : laidOutB P = true) {W W' : World} (hb : Below W.heap.size W W') : ∀ (ts : List TypeId) (vs : List Value) (ds : List (DataW H)) (p : List MemPlace), (ts.all fun t => P.readableRec t && decide (t < P.types.size)) = true → DataW.TrodAll enc P W 0 (fun _ => true) true ts vs ds p → DataW.TrodAll enc P W' 0 (fun b => decide (b < W.heap.size)) true ts vs ds p
  | [], vs, ds, p, _, h => by
    obtain ⟨rfl, rfl, rfl⟩ := trodAll_nil h
    exact trodAll_mk0
  | t :: ts, vs, ds, p, hr, h => by
    obtain ⟨v0, vs0, d0, ds0, p0, q0, rfl, rfl, rfl, h0, r0⟩ := trodAll_cons h
    simp only [List.all_cons, Bool.and_eq_true, decide_eq_true_eq] at hr
    refine trodAll_cons_mk (Below.trod hl hr.1.1 hr.1.2 h0 hb ?_) (all_stay hl hb ts vs0 ds0 q0 (by simpa using hr.2) r0)
    obtain ⟨m, hm⟩ := h0
    exact DataW.trod_lt m _ _ _ hm
end Go.Proofs.Ytadnnjngflphjaa
