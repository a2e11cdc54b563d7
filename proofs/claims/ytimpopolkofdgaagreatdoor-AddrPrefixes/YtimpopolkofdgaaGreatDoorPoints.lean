/-
  addr.parsePoints, for every text.
-/
import Derived.Test.YtimpopolkofdgaaGreatDoorSt
namespace Go.Proofs.YtimpopolkofdgaaGreatDoor
open Go.RowKit Go.Shelf
set_option linter.unusedSimpArgs false
attribute [local go_sem] Oper.semAt_some

/-- The numbers of an address with points, one by one. -/
def ptsGo : List (List UInt8) → List UInt8 → Option (List UInt8)
  | [], acc => if acc.length = 4 then some acc else none
  | p :: ps, acc => match numS p with
    | some v => if v ≤ 255 ∧ acc.length < 4 then ptsGo ps (acc ++ [UInt8.ofNat v]) else none
    | none => none
def ptA (acc : List UInt8) : Ad := ⟨([0, 0, 0, 0, 0, 0, 0, 0, 0, 0, 255, 255] ++ acc ++ [0, 0, 0, 0]).take 16, by simp⟩
def pts (s : List UInt8) : Option Ad := (ptsGo (pieces 46 s) []).map ptA
/-- What a reading of an address answers. -/
def PO (r : Option Ad) (e : Ending) : Prop := (∃ a, r = some a ∧ e = .returned (.tuple #[(Value.agg (acells a).toArray), .bool true])) ∨ (r = none ∧ ∃ a, e = .returned (.tuple #[(Value.agg (acells a).toArray), .bool false]))

theorem storedRow (w : World) (cs : List Value) (t : TypeId) (q : Ad) (h : cs.length = 16) : Below w.heap.size w ((w.alloc (.cells cs.toArray t)).setCells w.heap.size 0 (acells q)) ∧ Row ((w.alloc (.cells cs.toArray t)).setCells w.heap.size 0 (acells q)) w.heap.size t (acells q) ∧ ((w.alloc (.cells cs.toArray t)).setCells w.heap.size 0 (acells q)).heap.size = w.heap.size + 1 := by
  refine ⟨below_setCells _ (Nat.le_refl _) _ _ _ (ba w _), (Row.new w t cs).setCells _ (by rw [acells_len, h]), ?_⟩
  have key : ∀ (ds : List Value) (o : Nat) (X : World), (X.setCells w.heap.size o ds).heap.size = X.heap.size := by
    intro ds
    induction ds with
    | nil => intro o X; rfl
    | cons d ds ih => intro o X; rw [World.setCells, ih]; simp
  rw [key]; simp
theorem ptA_set (acc : List UInt8) (b : UInt8) (h : acc.length < 4) : acells (ptA (acc ++ [b])) = (acells (ptA acc)).set (12 + acc.length) (.int .u8 b.toNat) := by
  match acc, h with
  | [], _ => rfl
  | [_], _ => rfl
  | [_, _], _ => rfl
  | [_, _, _], _ => rfl
/-- What holds while the answer is laid. -/
structure PtS (X : World) (B2 Ba D : Nat) (acc : List UInt8) (n : Int) : Prop where
  a : Row X Ba 23 (acells (ptA acc))
  b : Row X (Ba + 1) 3 [.int .i64 n]
  c : ∃ cs, cs.length = 16 ∧ Row X B2 23 cs
  d : ∃ v, Row X (B2 + 1) 4 [v]
  e : X.heap[D]? = some (.deferred (some []))
theorem heap_setCells (g D : Nat) (h : g ≠ D) : ∀ (ds : List Value) (o : Nat) (X : World), (X.setCells g o ds).heap[D]? = X.heap[D]?
  | [], _, _ => rfl
  | d :: ds, o, X => by
    rw [World.setCells, heap_setCells g D h ds (o + 1) _]
    simp [World.setCell, Array.getElem?_modify, h]
theorem PtS.set2 {X : World} {B2 Ba D : Nat} {acc : List UInt8} {n : Int} {c : Ad} {cs : List Value} (h : PtS X B2 Ba D acc n) (h1 : B2 + 1 < Ba) (h2 : B2 < D) (hl : cs.length = 16) (hr : Row X B2 23 cs) : PtS (X.setCells B2 0 (acells c)) B2 Ba D acc n :=
  ⟨h.a.setCellsOther _ (by omega) _ _, h.b.setCellsOther _ (by omega) _ _, ⟨_, acells_len c, hr.setCells _ (by rw [acells_len, hl])⟩, let ⟨v, hv⟩ := h.d; ⟨v, hv.setCellsOther _ (by omega) _ _⟩, (heap_setCells B2 D (by omega) _ _ X).trans h.e⟩
theorem PtS.set3 {X : World} {B2 Ba D : Nat} {acc : List UInt8} {n : Int} {u v : Value} (h : PtS X B2 Ba D acc n) (h1 : B2 + 1 < Ba) (h2 : B2 + 1 < D) (hr : Row X (B2 + 1) 4 [u]) : PtS (X.setCell ⟨B2 + 1, 0, none⟩ v) B2 Ba D acc n :=
  ⟨h.a.setOther _ _ _ (by omega), h.b.setOther _ _ _ (by omega), let ⟨cs, h3, h4⟩ := h.c; ⟨cs, h3, h4.setOther _ _ _ (by omega)⟩, ⟨v, hr.set 0 v⟩, by
    have : ¬ B2 + 1 = D := by omega
    simp [World.setCell, Array.getElem?_modify, this, h.e]⟩
theorem lvB {W : World} {b : Nat} {c : Bool} {t : TypeId} (h : Row W b t [.bool c]) : (loadVar 4 ⟨b, 0, none⟩).run Tryz.prog W = .ok (.bool c) W := by
  have h0 := h.cell 0
  simp only [List.getElem?_cons_zero] at h0
  clear h
  go_simp
theorem po_of {s acc : List UInt8} {n : Int} (h : ptsGo (pieces 46 s) [] = if acc.length = 4 then some acc else none) (hn : ((12 + acc.length : Nat) : Int) = n) : PO (pts s) (.returned (.tuple #[(Value.agg (acells (ptA acc)).toArray), .bool (n == 16)])) := by
  by_cases h4 : acc.length = 4
  · rw [if_pos h4] at h
    refine .inl ⟨ptA acc, by rw [pts, h]; rfl, ?_⟩
    have : (n == 16) = true := by simp; omega
    rw [this]
  · rw [if_neg h4] at h
    refine .inr ⟨by rw [pts, h]; rfl, ptA acc, ?_⟩
    have : (n == 16) = false := by simp; omega
    rw [this]
theorem size_setCells (g : Nat) : ∀ (ds : List Value) (o : Nat) (X : World), (X.setCells g o ds).heap.size = X.heap.size
  | [], _, _ => rfl
  | d :: ds, o, X => by rw [World.setCells, size_setCells g ds (o + 1) _]; simp
theorem wide_andR {l k : Nat} {p : Prop} (h : p) : (Fence.wide.inRound l).fn k ∧ p := ⟨trivial, h⟩
theorem wide_and {k : Nat} {p : Prop} (h : p) : Fence.wide.fn k ∧ p := ⟨trivial, h⟩

set_option maxRecDepth 100000 in
set_option maxHeartbeats 4000000 in
theorem points_any (s : List UInt8) (w : World) (hG : Glob w) (hs8 : 8 ≤ w.heap.size) (hl : s.length ≤ 1000000) :
    Calls Tryz.prog 48 #[.string (str s)] w fun e w' => PO (pts s) e ∧ Below w.heap.size w w' := by
  have hf := run_fieldA
  have hA := any_any 4
  rw [show anyP 4 = ⟨mapA, 96⟩ from rfl] at hA
  refine (callsIn_wide (n := 9)).1 ?_
  refine callsIn_of_wp_marks Tryz.func48 rfl trivial ?_ rfl
  simp only [Tryz.ntmps48, List.size_toArray, List.length_cons, List.length_nil, Nat.reduceAdd, Nat.reduceSub, Array.replicate_succ, Array.replicate_zero, List.push_toArray, List.append_toArray, List.nil_append, List.cons_append]
  gi_wp2_with (first
    | ((with_reducible show wpListIn _ _ _ _ _ _ _ _); refine stAh (.tmp 4) (.tmp 10) rfl rfl _ _ mapA rfl rfl (Row.there (Row.new _ _ _) (by simp)) ?_; intro w3 hw3; have hst := hw3.out ▸ storedRow w1 _ _ mapA (by simp); clear hw3; obtain ⟨hB3, hR3, hs3⟩ := hst)
    | ((with_reducible refine wide_and ?_); gi_at_call 73; refine (callsIn_wide.2 (parts_any _ _ _)).mono ?_; rintro e w2 ⟨rfl, rfl⟩)
    | ((with_reducible refine wide_and ?_); gi_at_call 22; refine (callsIn_wide.2 (hA _)).mono ?_; rintro e w1 ⟨rfl, hB1⟩))
  refine name_world (R := fun W => Code.wpIn _ _ _ _ _ _ W) (P := fun W => Below w.heap.size w W ∧ Row W w.heap.size 23 (acells zeroA) ∧ Row W (w.heap.size + 1) 4 [.bool false] ∧ Row W w1.heap.size 23 (acells mapA) ∧ Row W (w1.heap.size + 1) 3 [.int .i64 12] ∧ W.cell? ⟨w1.heap.size + 1 + 1, 0, none⟩ = some (.string (str s)) ∧ W.cell? ⟨w1.heap.size + 1 + 1 + 1, 0, none⟩ = some (.string ⟨#[46]⟩) ∧ w1.heap.size + 1 + 1 + 1 < W.heap.size ∧ w.heap.size + 1 < w1.heap.size) _ ?_ ?_
  · have q1 := Row.new w 23 (acells zeroA)
    have q2 := Row.new (w.alloc (.cells (acells zeroA).toArray 23)) 4 [.bool false]
    have q5 := Row.new w3 3 [.int .i64 12]
    have q6 := Row.new (w3.alloc (.cells #[.int .i64 12] 3)) 9 [.string (str s)]
    have q7 := Row.new ((w3.alloc (.cells #[.int .i64 12] 3)).alloc (.cells #[.string (str s)] 9)) 9 [.string ⟨#[46]⟩]
    simp only [World.size_alloc, hs3] at q2 q5 q6 q7
    have z1 := hB1.size
    simp only [World.size_alloc] at z1
    have hB1' : Below w.heap.size w w1 := bt (bt (ba w _) (ba _ _)) hB1
    refine ⟨bt (bt (bt (bt hB1' hB3) (ba _ _)) (ba _ _)) (ba _ _), ((((((q1.alloc _).below hB1 (by simp; omega)).below hB3 (by omega)).alloc _).alloc _).alloc _), ((((q2.below hB1 (by simp)).below hB3 (by omega)).alloc _).alloc _).alloc _, ((hR3.alloc _).alloc _).alloc _, (q5.alloc _).alloc _, (q6.alloc _).cell 0, q7.cell 0, by simp [hs3], by omega⟩
  clear hB1 hB3 hR3 hs3 w3
  rintro W0 ⟨hB0, r0, r1, r2, r3, c0, c1, hsz, hw1⟩
  have hG0 : Glob W0 := hG.keep hB0 hs8
  refine wpIn_rangeFunc_ownF (F := Fence.wide) rfl (by decide) (gf := 87) (lb := #[.pointer (some ⟨w1.heap.size + 1 + 1, 0, none⟩), .pointer (some ⟨w1.heap.size + 1 + 1 + 1, 0, none⟩)]) rfl trivial (enters_of Tryz.func87 (by kernel_rfl) rfl)
    (parts_stops 8 (by decide) (w1.heap.size + 1 + 1) (w1.heap.size + 1 + 1 + 1) w.heap.size s 46 W0 hl hs8 (by omega) (by omega) hB0.size hG0 c0 c1) kept_t (kept_b hB0.size (by omega)) (Below.refl _ _) (fun _ => rfl)
    (fun pre W => ∃ acc : List UInt8, acc.length ≤ 4 ∧ (∀ ps, ptsGo (pre.map tr ++ ps) [] = ptsGo ps acc) ∧ Row W w.heap.size 23 (acells zeroA) ∧ Row W (w.heap.size + 1) 4 [.bool false] ∧ Row W w1.heap.size 23 (acells (ptA acc)) ∧ Row W (w1.heap.size + 1) 3 [.int .i64 ((12 + acc.length : Nat) : Int)] ∧ Below w.heap.size w W ∧ w1.heap.size + 1 + 1 + 1 < W.heap.size)
    (fun c pre W => c = .ret ∧ (∀ ps, ptsGo (pre.map tr ++ ps) [] = none) ∧ (∃ a, Row W w.heap.size 23 (acells a)) ∧ Row W (w.heap.size + 1) 4 [.bool false] ∧ Below w.heap.size w W ∧ w1.heap.size + 1 + 1 + 1 < W.heap.size)
    (fun pre A B row hs hg hr => by
      obtain ⟨acc, i1, i2, i3, i4, i5, i6, i7, i8⟩ := hs
      have k : ∀ r, row = some r → ∃ o : Obj, A.heap[r]? = some o ∧ o.isCells = false := fun r e => (hr r e).2
      exact ⟨acc, i1, i2, i3.kept hg k, i4.kept hg k, i5.kept hg k, i6.kept hg k, i7.grown hg i7.size (fun r e => Nat.le_trans hB0.size (hr r e).1), Nat.lt_of_lt_of_le i8 hg.size⟩)
    (fun c pre A B row hs hg hr => by
      obtain ⟨i1, i2, ⟨a, i3⟩, i4, i7, i8⟩ := hs
      have k : ∀ r, row = some r → ∃ o : Obj, A.heap[r]? = some o ∧ o.isCells = false := fun r e => (hr r e).2
      exact ⟨i1, i2, ⟨a, i3.kept hg k⟩, i4.kept hg k, i7.grown hg i7.size (fun r e => Nat.le_trans hB0.size (hr r e).1), Nat.lt_of_lt_of_le i8 hg.size⟩)
    ⟨[], by simp, fun ps => rfl, r0, r1, r2, r3, hB0, hsz⟩
    (fun x => { tmps := #[.string (str s), undef, .pointer (some ⟨w.heap.size, 0, none⟩), .pointer (some ⟨w.heap.size + 1, 0, none⟩), .pointer (some ⟨w1.heap.size, 0, none⟩), .pointer (some ⟨w1.heap.size + 1, 0, none⟩), .string (str (tr x)), undef, undef, .agg (pcells ⟨mapA, 96⟩).toArray, .agg (acells mapA).toArray, .string (str s), .func (.func 87) #[] #[.pointer (some ⟨w1.heap.size + 1 + 1, 0, none⟩), .pointer (some ⟨w1.heap.size + 1 + 1 + 1, 0, none⟩)], .string (str (tr x)), undef, undef, undef, undef, undef, undef, undef, undef, undef, undef, undef, undef, undef, undef, undef, undef, undef, undef, undef, undef, undef, undef, undef, undef, undef], defers := [] }) ?assign ?body ?done ?stop
  case assign =>
    intro l x W K hK
    gi_wp2
    exact hK
  case body =>
    rintro l pre x W ⟨acc, i1, i2, i3, i4, i5, i6, i7, i8⟩ _
    have hGW : Glob W := hG.keep i7 hs8
    have hN := number_any (str (tr x)) W hGW (by omega) (by have := tr_len x; show (tr x).length ≤ _; exact this)
    rw [show (str (tr x)).data.toList = tr x from rfl] at hN
    obtain ⟨n, hn⟩ : ∃ n : Int, ((12 + acc.length : Nat) : Int) = n := ⟨_, rfl⟩
    rw [hn] at i6
    have c5 := i6.cell 0
    simp only [List.getElem?_cons_zero] at c5
    have hd : 1 ≤ 9 - 1 - 1 := by decide
    cases hx : numS (tr x) with
    | none =>
      rw [numV, hx] at hN
      dsimp only at hN
      have HX : Hid (∀ ps, ptsGo ((pre ++ [x]).map tr ++ ps) [] = none) := fun ps => by
        rw [List.map_append, List.append_assoc, i2]
        simp only [List.map_cons, List.map_nil, List.cons_append, List.nil_append, ptsGo, hx]
      clear hx hn
      gi_wp2_with (first
        | ((with_reducible show wpListIn _ _ _ _ _ _ _ _); refine ldAi (.tmp 4) (by rfl) rfl _ _ (ptA acc) rfl (i5.below hB1 (by omega)).range ?_)
        | ((with_reducible show wpListIn _ _ _ _ _ _ _ _); refine stAh (.tmp 2) (.tmp 29) (by rfl) rfl _ _ (ptA acc) rfl rfl ((i3.below hB1 (by omega)).there (by rw [acells_len]; omega)) ?_; intro w3 hw3; have d4 : Row w3 (w.heap.size + 1) 4 [.bool false] := (by rw [hw3.out]; exact (i4.below hB1 (by omega)).setCellsOther _ (by omega) _ _); have d4c := d4.cell 0; have d4f := d4.frozen 0; simp only [List.getElem?_cons_zero] at d4c)
        | ((with_reducible refine wide_and ?_); gi_at_call 59; refine (CallsIn.inRound l (callsIn_wide.2 hN)).mono ?_; rintro e wn ⟨rfl, hB1⟩; have c6 := (hB1.cell (p := ⟨w1.heap.size + 1, 0, none⟩) (by show w1.heap.size + 1 < _; omega)).trans c5))
      all_goals exact ⟨(keeps_below hB1).trans ((by rw [hw3.out]; exact keeps_setCells _ _ _ _ : KeepsOthers wn w3).trans (KeepsOthers.setCell _ _ _)), rfl, HX.out, ⟨ptA acc, by
          refine Row.setOther ?_ _ _ _ (by omega)
          rw [hw3.out]
          exact (i3.below hB1 (by omega)).setCells _ (by rw [acells_len, acells_len])⟩, d4.set 0 _, (by
          refine Below.setCell (p := ⟨w.heap.size + 1, 0, none⟩) ?_ (by simp) _
          rw [hw3.out]
          exact below_setCells _ (Nat.le_refl _) _ _ _ (i7.trans (hB1.mono i7.size))), by
          have e1 : w3.heap.size = wn.heap.size := by rw [hw3.out, size_setCells]
          have := hB1.size
          simp only [World.size_setCell]
          omega⟩
    | some v =>
      rw [numV, hx] at hN
      dsimp only at hN
      obtain ⟨m, hm⟩ : ∃ m : Nat, 12 + acc.length = m := ⟨_, rfl⟩
      obtain rfl : n = (m : Int) := by rw [← hn, hm]
      by_cases hv : 255 < v
      · have HX : Hid (∀ ps, ptsGo ((pre ++ [x]).map tr ++ ps) [] = none) := fun ps => by
          rw [List.map_append, List.append_assoc, i2]
          simp only [List.map_cons, List.map_nil, List.cons_append, List.nil_append, ptsGo, hx]
          rw [if_neg (fun q => absurd q.1 (by omega))]
        have hv' : (255 : Int) < (v : Int) := by omega
        clear hx hn hm
        gi_wp2_with (first
          | ((with_reducible show wpListIn _ _ _ _ _ _ _ _); refine ldAi (.tmp 4) (by rfl) rfl _ _ (ptA acc) rfl (i5.below hB1 (by omega)).range ?_)
          | ((with_reducible show wpListIn _ _ _ _ _ _ _ _); refine stAh (.tmp 2) (.tmp 29) (by rfl) rfl _ _ (ptA acc) rfl rfl ((i3.below hB1 (by omega)).there (by rw [acells_len]; omega)) ?_; intro w3 hw3; have d4 : Row w3 (w.heap.size + 1) 4 [.bool false] := (by rw [hw3.out]; exact (i4.below hB1 (by omega)).setCellsOther _ (by omega) _ _); have d4c := d4.cell 0; have d4f := d4.frozen 0; simp only [List.getElem?_cons_zero] at d4c)
          | ((with_reducible refine wide_and ?_); gi_at_call 59; refine (CallsIn.inRound l (callsIn_wide.2 hN)).mono ?_; rintro e wn ⟨rfl, hB1⟩; have c6 := (hB1.cell (p := ⟨w1.heap.size + 1, 0, none⟩) (by show w1.heap.size + 1 < _; omega)).trans c5))
        all_goals exact ⟨(keeps_below hB1).trans ((by rw [hw3.out]; exact keeps_setCells _ _ _ _ : KeepsOthers wn w3).trans (KeepsOthers.setCell _ _ _)), rfl, HX.out, ⟨ptA acc, by
            refine Row.setOther ?_ _ _ _ (by omega)
            rw [hw3.out]
            exact (i3.below hB1 (by omega)).setCells _ (by rw [acells_len, acells_len])⟩, d4.set 0 _, (by
            refine Below.setCell (p := ⟨w.heap.size + 1, 0, none⟩) ?_ (by simp) _
            rw [hw3.out]
            exact below_setCells _ (Nat.le_refl _) _ _ _ (i7.trans (hB1.mono i7.size))), by
            have e1 : w3.heap.size = wn.heap.size := by rw [hw3.out, size_setCells]
            have := hB1.size
            simp only [World.size_setCell]
            omega⟩
      · by_cases h4 : acc.length = 4
        · have HX : Hid (∀ ps, ptsGo ((pre ++ [x]).map tr ++ ps) [] = none) := fun ps => by
            rw [List.map_append, List.append_assoc, i2]
            simp only [List.map_cons, List.map_nil, List.cons_append, List.nil_append, ptsGo, hx]
            rw [if_neg (fun q => absurd q.2 (by omega))]
          have hv' : decide ((255 : Int) < (v : Int)) = false := by simp; omega
          have hm' : ((m : Int) == 16) = true := by simp; omega
          clear hx hn
          gi_wp2_with (first
            | ((with_reducible show wpListIn _ _ _ _ _ _ _ _); refine ldAi (.tmp 4) (by rfl) rfl _ _ (ptA acc) rfl (i5.below hB1 (by omega)).range ?_)
            | ((with_reducible show wpListIn _ _ _ _ _ _ _ _); refine stAh (.tmp 2) (.tmp 29) (by rfl) rfl _ _ (ptA acc) rfl rfl ((i3.below hB1 (by omega)).there (by rw [acells_len]; omega)) ?_; intro w3 hw3; have d4 : Row w3 (w.heap.size + 1) 4 [.bool false] := (by rw [hw3.out]; exact (i4.below hB1 (by omega)).setCellsOther _ (by omega) _ _); have d4c := d4.cell 0; have d4f := d4.frozen 0; simp only [List.getElem?_cons_zero] at d4c)
            | ((with_reducible refine wide_and ?_); gi_at_call 59; refine (CallsIn.inRound l (callsIn_wide.2 hN)).mono ?_; rintro e wn ⟨rfl, hB1⟩; have c6 := (hB1.cell (p := ⟨w1.heap.size + 1, 0, none⟩) (by show w1.heap.size + 1 < _; omega)).trans c5))
          all_goals exact ⟨(keeps_below hB1).trans ((by rw [hw3.out]; exact keeps_setCells _ _ _ _ : KeepsOthers wn w3).trans (KeepsOthers.setCell _ _ _)), rfl, HX.out, ⟨ptA acc, by
              refine Row.setOther ?_ _ _ _ (by omega)
              rw [hw3.out]
              exact (i3.below hB1 (by omega)).setCells _ (by rw [acells_len, acells_len])⟩, d4.set 0 _, (by
              refine Below.setCell (p := ⟨w.heap.size + 1, 0, none⟩) ?_ (by simp) _
              rw [hw3.out]
              exact below_setCells _ (Nat.le_refl _) _ _ _ (i7.trans (hB1.mono i7.size))), by
              have e1 : w3.heap.size = wn.heap.size := by rw [hw3.out, size_setCells]
              have := hB1.size
              simp only [World.size_setCell]
              omega⟩
        · have HX : Hid (∀ ps, ptsGo ((pre ++ [x]).map tr ++ ps) [] = ptsGo ps (acc ++ [UInt8.ofNat v])) := fun ps => by
            rw [List.map_append, List.append_assoc, i2]
            simp only [List.map_cons, List.map_nil, List.cons_append, List.nil_append, ptsGo, hx]
            rw [if_pos ⟨by omega, by omega⟩]
          have hv' : decide ((255 : Int) < (v : Int)) = false := by simp; omega
          have hm' : ((m : Int) == 16) = false := by simp; omega
          have hm16 : (m : Int) < 16 := by omega
          have hm0 : (0 : Int) ≤ (m : Int) := by omega
          have HV : Hid (IntKind.u8.wrap (v : Int) = ((UInt8.ofNat v).toNat : Int)) := by
            show _ = _
            rw [IntKind.wrap_u8]
            simp
          have hwv := HV.out
          generalize hbv : ((UInt8.ofNat v).toNat : Int) = bv at hwv HV
          obtain ⟨old, hold⟩ : ∃ u, (acells (ptA acc))[m]? = some u := ⟨_, List.getElem?_eq_getElem (by rw [acells_len]; omega)⟩
          have HS : Hid (acells (ptA (acc ++ [UInt8.ofNat v])) = (acells (ptA acc)).set m (.int .u8 bv)) := by
            show _ = _
            rw [← hbv, ← hm]
            exact ptA_set acc _ (by omega)
          have HM : Hid (12 + acc.length = m) := hm
          clear hx hn hm hv hbv
          gi_wp2_with ((with_reducible refine wide_and ?_); gi_at_call 59; refine (CallsIn.inRound l (callsIn_wide.2 hN)).mono ?_; rintro e wn ⟨rfl, hB1⟩; have j5 : Row wn w1.heap.size 23 (acells (ptA acc)) := i5.below hB1 (by omega); have j6 : Row wn (w1.heap.size + 1) 3 [.int .i64 (m : Int)] := i6.below hB1 (by omega); have c6 := j6.cell 0; have f6 := j6.frozen 0; have c7 := (j5.cell m).trans hold; have f7 := j5.frozen m; simp only [List.getElem?_cons_zero] at c6)
          have z1 := hB1.size
          have k5 : Row (wn.setCell ⟨w1.heap.size, m, none⟩ (.int .u8 bv)) w1.heap.size 23 (acells (ptA (acc ++ [UInt8.ofNat v]))) := by rw [HS.out]; exact j5.set m _
          have k6 := j6.setOther w1.heap.size m (.int .u8 bv) (by omega)
          have e6 : ((m : Int) + 1) = ((12 + (acc ++ [UInt8.ofNat v]).length : Nat) : Int) := by have := HM.out; simp; omega
          refine ⟨(keeps_below hB1).trans ((KeepsOthers.setCell _ _ _).trans (KeepsOthers.setCell _ _ _)), ⟨?_, ?_⟩, acc ++ [UInt8.ofNat v], by simp; omega, HX.out, ?_, ?_, k5.setOther _ _ _ (by omega), ?_, ?_, ?_⟩
          · exact ((hB1.mono (show w.heap.size ≤ W.heap.size by omega)).setCell (p := ⟨w1.heap.size, m, none⟩) (by show w.heap.size ≤ w1.heap.size; omega) _).setCell (p := ⟨w1.heap.size + 1, 0, none⟩) (by show w.heap.size ≤ w1.heap.size + 1; omega) _
          · refine Eq.trans ?_ (hB1.block (w1.heap.size + 1 + 1 + 1) i8)
            have n1 : ¬ w1.heap.size + 1 = w1.heap.size + 1 + 1 + 1 := by omega
            have n2 : ¬ w1.heap.size = w1.heap.size + 1 + 1 + 1 := by omega
            simp [World.setCell, Array.getElem?_modify, n1, n2]
          · exact ((i3.below hB1 (by omega)).setOther _ _ _ (by omega)).setOther _ _ _ (by omega)
          · exact ((i4.below hB1 (by omega)).setOther _ _ _ (by omega)).setOther _ _ _ (by omega)
          · rw [← e6]; exact k6.set 0 _
          · exact ((i7.trans (hB1.mono i7.size)).setCell (p := ⟨w1.heap.size, m, none⟩) (by show w.heap.size ≤ w1.heap.size; omega) _).setCell (p := ⟨w1.heap.size + 1, 0, none⟩) (by show w.heap.size ≤ w1.heap.size + 1; omega) _
          · simp only [World.size_setCell]; omega
  case done =>
    rintro D ys W hD rfl ⟨acc, i1, i2, i3, i4, i5, i6, i7, i8⟩ hK
    have HF : Hid (ptsGo (pieces 46 s) [] = if acc.length = 4 then some acc else none) := by
      have := i2 []
      rw [List.append_nil, pieces_tr 46 s hl] at this
      exact this
    obtain ⟨n, hn⟩ : ∃ n : Int, ((12 + acc.length : Nat) : Int) = n := ⟨_, rfl⟩
    rw [hn] at i6
    have c6 := i6.cell 0
    simp only [List.getElem?_cons_zero] at c6
    have HN : Hid (((12 + acc.length : Nat) : Int) = n) := hn
    clear hn i2
    gi_wp2
    refine wpIn_wide.2 ?_
    have HK : Hid (∀ X, Below w.heap.size w X → PtS X w.heap.size w1.heap.size D acc n → Below w.heap.size w X ∧ LA X w1.heap.size 0 (ptA acc) ∧ X.cell? ⟨w1.heap.size + 1, 0, none⟩ = some (.int .i64 n) ∧ PtS X w.heap.size w1.heap.size D acc n) :=
      fun X h k => ⟨h, k.a.range, k.b.cell 0, k⟩
    have hP0 : PtS W w.heap.size w1.heap.size D acc n := ⟨i5, i6, ⟨_, acells_len _, i3⟩, ⟨_, i4⟩, hK⟩
    refine wp_region_noPanic ?_
    refine wp_region_held_drew (S := fun X => Below w.heap.size w X ∧ LA X w1.heap.size 0 (ptA acc) ∧ X.cell? ⟨w1.heap.size + 1, 0, none⟩ = some (.int .i64 n) ∧ PtS X w.heap.size w1.heap.size D acc n) (by kernel_rfl) (HK.out _ i7.drew ⟨i5.drew, i6.drew, ⟨_, acells_len _, i3.drew⟩, ⟨_, i4.drew⟩, hK⟩) (fun hHeld => ?_)
    refine take_lit (i := 0) rfl (by kernel_rfl) (by kernel_rfl) (by kernel_rfl) (fun _ _ _ h => h) (yA (ptA acc) (fun w h => h.2.1) (by rfl) rfl rfl) (by assumption) ?_
    try simp only [Act.put, List.setIfInBounds_toArray, List.set_cons_zero, List.set_cons_succ]
    refine take_lit (i := 1) (v := ?_) rfl (by kernel_rfl) (by kernel_rfl) (by kernel_rfl) (fun _ _ _ h => h) (Or.inl ⟨by rfl, ?_⟩) (by assumption) ?_
    rotate_left
    · (intro w hSw; (try dsimp only at hSw); go_simp <;> with_reducible rfl)
    try simp only [Act.put, List.setIfInBounds_toArray, List.set_cons_zero, List.set_cons_succ]
    refine take_lit (i := 2) (v := ?_) rfl (by kernel_rfl) (by kernel_rfl) (by kernel_rfl) (fun _ _ _ h => h) (Or.inl ⟨by rfl, ?_⟩) (by assumption) ?_
    rotate_left
    · (intro w hSw; (try dsimp only at hSw); go_simp <;> with_reducible rfl)
    try simp only [Act.put, List.setIfInBounds_toArray, List.set_cons_zero, List.set_cons_succ]
    refine wpAnyH_ready (rs := [3]) (by kernel_rfl) (by simp) ?_
    refine cons_lit rfl (fun K hK => ?_) ?_
    · skip
      obtain ⟨cs, hcs, q2⟩ := hHeld.2.2.2.c
      refine stepA (.tmp 2) (.tmp 36) rfl (by rfl) w.heap.size (ptA acc) (q2.there (by omega)) rfl rfl ?_
      intro W3 HW3
      have hP3 : PtS W3 w.heap.size w1.heap.size D acc n := by rw [HW3.out]; exact hHeld.2.2.2.set2 (by omega) (by omega) hcs q2
      have z2 : Row W3 w.heap.size 23 (acells (ptA acc)) := by rw [HW3.out]; exact q2.setCells _ (by rw [acells_len, hcs])
      have y2 : ∀ v, Row _ (w.heap.size + 1) 4 [v] → Row W3 (w.heap.size + 1) 4 [v] := fun v h => by rw [HW3.out]; exact h.setCellsOther _ (by omega) _ _
      have hB3 : Below w.heap.size w W3 := by rw [HW3.out]; exact below_setCells _ (Nat.le_refl _) _ _ _ hHeld.1
      refine hK.out _ _ ?_ (fun hHeld => ?_)
      · exact HK.out _ hB3 hP3
      clear hK K
      try simp only [Act.put, List.setIfInBounds_toArray, List.set_cons_zero, List.set_cons_succ]
      refine wpAnyH_ready (rs := [4]) (by kernel_rfl) (by simp) ?_
      refine cons_lit rfl (fun K hK => ?_) ?_
      · skip
        obtain ⟨v4, q4⟩ := hHeld.2.2.2.d
        refine stepB (.tmp 3) (.tmp 38) rfl (by rfl) (w.heap.size + 1) (n == 16) v4 (q4.cell 0) (q4.frozen 0) rfl rfl ?_
        intro W4 HW4
        have hP4 : PtS W4 w.heap.size w1.heap.size D acc n := by rw [HW4.out]; exact hHeld.2.2.2.set3 (by omega) (by omega) q4
        have z3 : Row W4 (w.heap.size + 1) 4 [.bool (n == 16)] := by rw [HW4.out]; exact q4.set 0 _
        have y3 : ∀ cs, Row _ w.heap.size 23 cs → Row W4 w.heap.size 23 cs := fun cs h => by rw [HW4.out]; exact h.setOther _ _ _ (by omega)
        have hB4 : Below w.heap.size w W4 := by rw [HW4.out]; exact hHeld.1.setCell (p := ⟨w.heap.size + 1, 0, none⟩) (by simp) _
        refine hK.out _ _ ?_ (fun hHeld => ?_)
        · exact HK.out _ hB4 hP4
        clear hK K
        try simp only [Act.put, List.setIfInBounds_toArray, List.set_cons_zero, List.set_cons_succ]
        refine wpAnyH_done (by kernel_rfl) ?_ _
        refine NoPanic.normal ?_
        first | have e2 := y3 _ z2 | have e2 := z2
        first | have e3 := y2 _ z3 | have e3 := z3
        have hKD := hHeld.2.2.2.e
        have hBE := hHeld.1
        clear hHeld
        go_wp2
        gi_wp2
        refine ⟨by simp, .inl ⟨_, _, rfl, run_takeDeferred hKD, ?_⟩⟩
        refine ⟨_, retCC rfl _ _ 0 _ 0 rfl rfl (lvA (e2.kept (grownBy_putObj' _ D (.deferred none)) (fun r e => by cases e; exact ⟨_, hKD, rfl⟩)).range) (lvB (e3.kept (grownBy_putObj' _ D (.deferred none)) (fun r e => by cases e; exact ⟨_, hKD, rfl⟩))), ?_, hBE.trans (belowK_b (w := w) (Nat.le_refl _) _ D _ _ (by omega) hKD rfl rfl)⟩
        exact po_of HF.out HN.out
      exact AllReadyH.nil
    exact AllReadyH.nil
  case stop =>
    rintro D c pre W hD hpre ⟨rfl, i2, ⟨a, i3⟩, i4, i7, i8⟩ hK
    gi_wp2
    refine ⟨by simp, .inl ⟨_, _, rfl, run_takeDeferred hK, ?_⟩⟩
    have kk := grownBy_putObj' W D (.deferred none)
    have k : ∀ r, some D = some r → ∃ o : Obj, W.heap[r]? = some o ∧ o.isCells = false := fun r e => by cases e; exact ⟨_, hK, rfl⟩
    refine ⟨_, retCC rfl _ _ 0 _ 0 rfl rfl (lvA (i3.kept kk k).range) (lvB (i4.kept kk k)), .inr ⟨?_, a, rfl⟩, i7.trans (belowK_b (w := w) (Nat.le_refl _) W D _ _ (by omega) hK rfl rfl)⟩
    obtain ⟨t, ht⟩ := hpre
    have h1 := i2 (t.map tr)
    rw [← List.map_append, ht, pieces_tr 46 s hl] at h1
    rw [pts, h1]
    rfl
end Go.Proofs.YtimpopolkofdgaaGreatDoor
