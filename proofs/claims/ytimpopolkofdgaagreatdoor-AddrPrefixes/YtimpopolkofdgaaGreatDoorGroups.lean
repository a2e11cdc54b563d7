/-
  addr.groups, for every text.
-/
import Derived.Test.YtimpopolkofdgaaGreatDoorPoints
import Derived.Maps.AppendAt
namespace Go.Proofs.YtimpopolkofdgaaGreatDoor
open Go.RowKit Go.Shelf
set_option linter.unusedSimpArgs false
attribute [local go_sem] Oper.semAt_some

/-- The bytes of groups, one group after the other. -/
def grpGo : List (List UInt8) → List UInt8 → Option (List UInt8)
  | [], acc => some acc
  | p :: ps, acc => match puE 16 p with
    | some u => if p.length ≤ 4 ∧ acc.length ≠ 16 then grpGo ps (acc ++ [UInt8.ofNat (u / 256), UInt8.ofNat u]) else none
    | none => none
def grp (s : List UInt8) : Option (List UInt8) := if s = [] then some [] else grpGo (pieces 58 s) []
theorem grpGo_len : ∀ (ps : List (List UInt8)) (acc l : List UInt8), acc.length ≤ 16 → acc.length % 2 = 0 → grpGo ps acc = some l → l.length ≤ 16 ∧ l.length % 2 = 0
  | [], acc, l, h, h2, e => by simp [grpGo] at e; subst e; exact ⟨h, h2⟩
  | p :: ps, acc, l, h, h2, e => by
    simp only [grpGo] at e
    cases hu : puE 16 p with
    | none => rw [hu] at e; cases e
    | some u =>
      rw [hu] at e
      by_cases hc : p.length ≤ 4 ∧ acc.length ≠ 16
      · simp only [if_pos hc] at e
        exact grpGo_len ps _ l (by simp; omega) (by simp; omega) e
      · simp only [if_neg hc] at e; cases e
/-- A slice of bytes in new memory. -/
def NewB (n0 : Nat) (W : World) (v : Value) (l : List UInt8) : Prop := W.ownsRow n0 5 1 v l.length (bcells l)
/-- What groups answers. -/
def GO (n0 : Nat) (r : Option (List UInt8)) (e : Ending) (W : World) : Prop := (∃ l v, r = some l ∧ e = .returned (.tuple #[v, .bool true]) ∧ NewB n0 W v l) ∨ (r = none ∧ e = .returned (.tuple #[.slice none 0 0, .bool false]))
theorem Row.keptOwn {W W' : World} {B n0 k : Nat} {t : TypeId} {cs xs : List Value} {v : Value} (h : Row W B t cs) (ho : W.ownsRow n0 5 1 v k xs) (ht : t ≠ 5) (hg : W.grownBy W' v.ownBlock) : Row W' B t cs := by
  refine (hg.block B h.lt ?_).trans h
  intro e
  rcases ho.2 with ⟨rfl, _⟩ | ⟨g, cap, cur, rfl, _, hgb, _⟩
  · simp [Value.ownBlock] at e
  · simp only [Value.ownBlock, Option.some.injEq] at e
    subst e
    rw [h] at hgb
    cases hgb
    exact ht rfl
theorem own_below {W W' : World} {n0 k : Nat} {xs : List Value} {v : Value} (ho : W.ownsRow n0 5 1 v k xs) (hb : Below W.heap.size W W') : W'.ownsRow n0 5 1 v k xs :=
  ho.kept (row := none) ⟨hb.os, hb.tape, hb.output, hb.size, fun i hi _ => hb.block i hi⟩ (by cases v.ownBlock <;> simp)
theorem own_keptN {W W' : World} {n0 k : Nat} {xs : List Value} {v : Value} {row : Option Nat} (ho : W.ownsRow n0 5 1 v k xs) (hg : W.grownBy W' row) (hr : ∀ r, row = some r → ∃ o : Obj, W.heap[r]? = some o ∧ o.isCells = false) : W'.ownsRow n0 5 1 v k xs := by
  refine ho.kept hg ?_
  rcases ho.2 with ⟨rfl, _⟩ | ⟨g, cap, cur, rfl, _, hgb, _⟩
  · exact .inl rfl
  · refine .inr fun e => ?_
    obtain ⟨o, h1, h2⟩ := hr g e.symm
    rw [hgb] at h1
    cases h1
    cases h2
theorem own_setCell {W : World} {n0 k B : Nat} {t : TypeId} {cs xs : List Value} {v : Value} (ho : W.ownsRow n0 5 1 v k xs) (h : Row W B t cs) (ht : t ≠ 5) (u : Value) : (W.setCell ⟨B, 0, none⟩ u).ownsRow n0 5 1 v k xs := by
  refine ho.kept (grownBy_setCell' W B u) ?_
  rcases ho.2 with ⟨rfl, _⟩ | ⟨g, cap, cur, rfl, _, hgb, _⟩
  · exact .inl rfl
  · refine .inr fun e => ?_
    simp only [Value.ownBlock, Option.some.injEq] at e
    subst e
    rw [h] at hgb
    cases hgb
    exact ht rfl
theorem own_base {W : World} {n0 k : Nat} {xs : List Value} {v : Value} (ho : W.ownsRow n0 5 1 v k xs) : ∀ j, v.ownBlock = some j → n0 ≤ j := fun j e => by
  rcases ho.2 with ⟨rfl, _⟩ | ⟨g, cap, cur, rfl, hb, _⟩
  · cases e
  · simp only [Value.ownBlock, Option.some.injEq] at e; omega
theorem keeps_own {W W' : World} {n0 k : Nat} {xs : List Value} {v : Value} (ho : W.ownsRow n0 5 1 v k xs) (hg : W.grownBy W' v.ownBlock) : KeepsOthers W W' :=
  KeepsOthers.of_grownBy hg fun j o ej hj => by
    rcases ho.2 with ⟨rfl, _⟩ | ⟨g, cap, cur, rfl, _, hgb, _⟩
    · cases ej
    · simp only [Value.ownBlock, Option.some.injEq] at ej
      subst ej
      rw [hgb] at hj
      cases hj
      rfl
theorem info_u8 : (Tryz.prog.info? 5).map (fun i => (i.zero, i.size, i.bytes)) = some (some (.int .u8 0), 1, 1) := by kernel_rfl
theorem lvS {W : World} {b : Nat} {a : Option Addr} {n c : Nat} {t : TypeId} (h : Row W b t [.slice a n c]) : (loadVar 83 ⟨b, 0, none⟩).run Tryz.prog W = .ok (.slice a n c) W := by
  have h0 := h.cell 0
  simp only [List.getElem?_cons_zero] at h0
  clear h
  go_simp
theorem own_slice {W : World} {n0 k : Nat} {xs : List Value} {v : Value} (ho : W.ownsRow n0 5 1 v k xs) : ∃ a c, v = .slice a k c := by
  rcases ho.2 with ⟨rfl, rfl⟩ | ⟨g, cap, cur, rfl, _⟩
  · exact ⟨none, 0, rfl⟩
  · exact ⟨_, _, rfl⟩

set_option maxRecDepth 100000 in
set_option maxHeartbeats 4000000 in
theorem groups_some (s : List UInt8) (w : World) (hG : Glob w) (hs8 : 8 ≤ w.heap.size) (hl : s.length ≤ 1000000) (hne : s ≠ []) :
    Calls Tryz.prog 75 #[.string (str s)] w fun e w' => GO w.heap.size (grp s) e w' ∧ Below w.heap.size w w' := by
  have hemp : s.isEmpty = false := by cases s with
    | nil => exact absurd rfl hne
    | cons _ _ => rfl
  refine (callsIn_wide (n := 9)).1 ?_
  refine callsIn_of_wp_marks Tryz.func75 rfl trivial ?_ rfl
  simp only [Tryz.ntmps75, List.size_toArray, List.length_cons, List.length_nil, Nat.reduceAdd, Nat.reduceSub, Array.replicate_succ, Array.replicate_zero, List.push_toArray, List.append_toArray, List.nil_append, List.cons_append]
  gi_wp2_with ((with_reducible refine wide_and ?_); gi_at_call 73; refine (callsIn_wide.2 (parts_any _ _ _)).mono ?_; rintro e w2 ⟨rfl, rfl⟩)
  refine name_world (R := fun W => Code.wpIn _ _ _ _ _ _ W) (P := fun W => Row W w.heap.size 83 [.slice none 0 0] ∧ Row W (w.heap.size + 1) 4 [.bool false] ∧ Row W (w.heap.size + 1 + 1) 83 [.slice none 0 0] ∧ Row W (w.heap.size + 1 + 1 + 1) 9 [.string (str s)] ∧ Row W (w.heap.size + 1 + 1 + 1 + 1) 9 [.string ⟨#[58]⟩] ∧ Below w.heap.size w W) _ ?_ ?_
  · have q1 := Row.new w 83 [.slice none 0 0]
    have q2 := Row.new (w.alloc (.cells #[.slice none 0 0] 83)) 4 [.bool false]
    have q3 := Row.new ((w.alloc (.cells #[.slice none 0 0] 83)).alloc (.cells #[.bool false] 4)) 83 [.slice none 0 0]
    have q4 := Row.new (((w.alloc (.cells #[.slice none 0 0] 83)).alloc (.cells #[.bool false] 4)).alloc (.cells #[.slice none 0 0] 83)) 9 [.string (str s)]
    have q5 := Row.new ((((w.alloc (.cells #[.slice none 0 0] 83)).alloc (.cells #[.bool false] 4)).alloc (.cells #[.slice none 0 0] 83)).alloc (.cells #[.string (str s)] 9)) 9 [.string ⟨#[58]⟩]
    simp only [World.size_alloc] at q2 q3 q4 q5
    exact ⟨(((q1.alloc _).alloc _).alloc _).alloc _, ((q2.alloc _).alloc _).alloc _, (q3.alloc _).alloc _, q4.alloc _, q5, bt (bt (bt (bt (ba _ _) (ba _ _)) (ba _ _)) (ba _ _)) (ba _ _)⟩
  rintro W0 ⟨r0, r1, r2, r3, r4, hB0⟩
  have hG0 : Glob W0 := hG.keep hB0 hs8
  have z4 := r4.lt
  have c3 := r3.cell 0
  have c4 := r4.cell 0
  simp only [List.getElem?_cons_zero] at c3 c4
  refine wpIn_rangeFunc_ownF (F := Fence.wide) rfl (by decide) (gf := 87) (lb := #[.pointer (some ⟨w.heap.size + 1 + 1 + 1, 0, none⟩), .pointer (some ⟨w.heap.size + 1 + 1 + 1 + 1, 0, none⟩)]) rfl trivial (enters_of Tryz.func87 (by kernel_rfl) rfl)
    (parts_stops 8 (by decide) (w.heap.size + 1 + 1 + 1) (w.heap.size + 1 + 1 + 1 + 1) w.heap.size s 58 W0 hl hs8 (by omega) (by omega) hB0.size hG0 c3 c4) kept_t (kept_b hB0.size (by omega)) (Below.refl _ _) (fun _ => rfl)
    (fun pre W => ∃ (acc : List UInt8) (v : Value), acc.length ≤ 16 ∧ acc.length % 2 = 0 ∧ (∀ ps, grpGo (pre.map tr ++ ps) [] = grpGo ps acc) ∧ Row W w.heap.size 83 [.slice none 0 0] ∧ Row W (w.heap.size + 1) 4 [.bool false] ∧ Row W (w.heap.size + 1 + 1) 83 [v] ∧ W.ownsRow w.heap.size 5 1 v acc.length (bcells acc) ∧ Row W (w.heap.size + 1 + 1 + 1 + 1) 9 [.string ⟨#[58]⟩] ∧ Below w.heap.size w W)
    (fun c pre W => c = .ret ∧ (∀ ps, grpGo (pre.map tr ++ ps) [] = none) ∧ Row W w.heap.size 83 [.slice none 0 0] ∧ Row W (w.heap.size + 1) 4 [.bool false] ∧ Below w.heap.size w W)
    (fun pre A B row hs hg hr => by
      obtain ⟨acc, v, i1, i0, i2, i3, i4, i5, i6, i7, i8⟩ := hs
      have k : ∀ r, row = some r → ∃ o : Obj, A.heap[r]? = some o ∧ o.isCells = false := fun r e => (hr r e).2
      exact ⟨acc, v, i1, i0, i2, i3.kept hg k, i4.kept hg k, i5.kept hg k, own_keptN i6 hg k, i7.kept hg k, i8.grown hg i8.size (fun r e => Nat.le_trans hB0.size (hr r e).1)⟩)
    (fun c pre A B row hs hg hr => by
      obtain ⟨i1, i2, i3, i4, i7⟩ := hs
      have k : ∀ r, row = some r → ∃ o : Obj, A.heap[r]? = some o ∧ o.isCells = false := fun r e => (hr r e).2
      exact ⟨i1, i2, i3.kept hg k, i4.kept hg k, i7.grown hg i7.size (fun r e => Nat.le_trans hB0.size (hr r e).1)⟩)
    ⟨[], .slice none 0 0, by simp, rfl, fun ps => rfl, r0, r1, r2, World.ownsRow_nil _ _ _ _, r4, hB0⟩
    (fun x => { tmps := #[.string (str s), undef, .pointer (some ⟨w.heap.size, 0, none⟩), .pointer (some ⟨w.heap.size + 1, 0, none⟩), .pointer (some ⟨w.heap.size + 1 + 1, 0, none⟩), .string (str (tr x)), undef, undef, .string (str s), .bool false, .string (str s), .func (.func 87) #[] #[.pointer (some ⟨w.heap.size + 1 + 1 + 1, 0, none⟩), .pointer (some ⟨w.heap.size + 1 + 1 + 1 + 1, 0, none⟩)], .string (str (tr x)), undef, undef, undef, undef, undef, undef, undef, undef, undef, undef, undef, undef, undef, undef, undef, undef, undef, undef, undef, undef, undef, undef, undef, undef, undef, undef], defers := [] }) ?assign ?body ?done ?stop
  case assign =>
    intro l x W K hK
    gi_wp2
    exact hK
  case body =>
    rintro l pre x W ⟨acc, v, i1, i0, i2, i3, i4, i5, i6, i7, i8⟩ _
    obtain ⟨va, vc, rfl⟩ := own_slice i6
    have hGW : Glob W := hG.keep i8 hs8
    have z7 := i7.lt
    have hN := parse16 (str (tr x)) W hGW (by omega) (by have := tr_len x; show (tr x).length ≤ _; exact this)
    rw [show (str (tr x)).data.toList = tr x from rfl] at hN
    have HL : Hid ((str (tr x)).size = (tr x).length) := rfl
    have hd : 1 ≤ 9 - 1 - 1 := by decide
    rcases Decidable.em (∃ u, puE 16 (tr x) = some u ∧ (tr x).length ≤ 4 ∧ acc.length ≠ 16) with ⟨u, hu, h4, h16⟩ | hbad
    · have HX : Hid (∀ ps, grpGo ((pre ++ [x]).map tr ++ ps) [] = grpGo ps (acc ++ [UInt8.ofNat (u / 256), UInt8.ofNat u])) := fun ps => by
        rw [List.map_append, List.append_assoc, i2]
        simp only [List.map_cons, List.map_nil, List.cons_append, List.nil_append, grpGo, hu]
        rw [if_pos ⟨h4, h16⟩]
      have hN' := hN.mono (R' := fun e w' => e = .returned (.tuple #[.int .u64 (u : Int), .nilIface]) ∧ Below W.heap.size W w') fun e w' h => by
        refine ⟨?_, h.2⟩
        rcases h.1 with ⟨u', h1, h2⟩ | ⟨h1, _⟩
        · rw [hu] at h1; cases h1; exact h2
        · rw [hu] at h1; cases h1
      have g4 : decide ((4 : Int) < ((tr x).length : Int)) = false := by simp; omega
      have g16 : ((acc.length : Int) == 16) = false := by simp; omega
      obtain ⟨hb, hhb⟩ : ∃ hb : Int, ((UInt8.ofNat (u / 256)).toNat : Int) = hb := ⟨_, rfl⟩
      obtain ⟨lb, hlb⟩ : ∃ lb : Int, ((UInt8.ofNat u).toNat : Int) = lb := ⟨_, rfl⟩
      have hU := puE_le hu
      have w1 : IntKind.u8.wrap ((u : Int) / 256) = hb := by rw [← hhb, IntKind.wrap_u8]; simp
      have w2 : IntKind.u8.wrap (u : Int) = lb := by rw [← hlb, IntKind.wrap_u8]; simp
      have HC : Hid (bcells (acc ++ [UInt8.ofNat (u / 256), UInt8.ofNat u]) = bcells acc ++ [.int .u8 hb, .int .u8 lb]) := by
        show _ = _
        rw [bcells_append, ← hhb, ← hlb]; rfl
      obtain ⟨i0', hi, hz0, hz1, hz2⟩ := info_parts info_u8
      clear hN hhb hlb hu h4
      gi_wp2_with (first
        | ((with_reducible refine wide_and ?_); gi_at_call 82; refine (CallsIn.inRound l (callsIn_wide.2 hN')).mono ?_; rintro e wn ⟨rfl, hB1⟩; have j5 := i5.below hB1 (by omega); have j6 := own_below i6 hB1; have c5 := j5.cell 0; simp only [List.getElem?_cons_zero] at c5)
        | (gi_at_builtin; (refine wpListIn_append_own _ rfl _ _ 83 rfl w.heap.size 5 i0' (.int .u8 0) 1 1 Tryz.underlying83 hi hz0 hz1 hz2 rfl (by decide) _ _ _ rfl (j6.alloc _) ⟨wn.heap.size, 0, none⟩ 2 2 [.int .u8 hb, .int .u8 lb] rfl rfl (fun j u hj => by rw [Addr.add_mid]; simpa using (Row.new wn 5 [.int .u8 hb, .int .u8 lb]).range j u hj) (by simp [Value.oneCell']) (by unfold maxLen; omega) (by omega) (by have := hB1.size; simp; omega) ?_); intro v' w3 hown' hgrow _; obtain ⟨g', cap', rfl⟩ := ownsRow_succ hown'; have m5 := (j5.alloc (.cells #[.int .u8 hb, .int .u8 lb] 5)).keptOwn (j6.alloc _) (by decide) hgrow; have c6 := m5.cell 0; have f6 := m5.frozen 0; simp only [List.getElem?_cons_zero] at c6))
      have j3 := ((i3.below hB1 (by omega)).alloc (.cells #[.int .u8 hb, .int .u8 lb] 5)).keptOwn (j6.alloc _) (by decide) hgrow
      have j4 := ((i4.below hB1 (by omega)).alloc (.cells #[.int .u8 hb, .int .u8 lb] 5)).keptOwn (j6.alloc _) (by decide) hgrow
      have j7 := ((i7.below hB1 (by omega)).alloc (.cells #[.int .u8 hb, .int .u8 lb] 5)).keptOwn (j6.alloc _) (by decide) hgrow
      have zz := hB1.size
      have bW : Below w.heap.size W w3 := ((hB1.mono (by omega)).alloc (by omega) _).grown hgrow (by simp; omega) (fun k e => own_base j6 k e)
      refine ⟨(keeps_below hB1).trans ((KeepsOthers.alloc _ _).trans ((keeps_own (j6.alloc _) hgrow).trans (KeepsOthers.setCell _ _ _))), ⟨bW.setCell (p := ⟨w.heap.size + 1 + 1, 0, none⟩) (by show w.heap.size ≤ w.heap.size + 1 + 1; omega) _, (j7.setOther _ _ _ (by omega)).trans i7.symm⟩, acc ++ [UInt8.ofNat (u / 256), UInt8.ofNat u], _, by simp; omega, by simp; omega, HX.out, j3.setOther _ _ _ (by omega), j4.setOther _ _ _ (by omega), m5.set 0 _, ?_, j7.setOther _ _ _ (by omega), (i8.trans bW).setCell (p := ⟨w.heap.size + 1 + 1, 0, none⟩) (by show w.heap.size ≤ w.heap.size + 1 + 1; omega) _⟩
      rw [HC.out]
      have := own_setCell hown' m5 (by decide) (.slice (some ⟨g', 0, none⟩) (acc.length + 1 + 1) cap')
      simpa using this
    · have HX : Hid (∀ ps, grpGo ((pre ++ [x]).map tr ++ ps) [] = none) := fun ps => by
        rw [List.map_append, List.append_assoc, i2]
        simp only [List.map_cons, List.map_nil, List.cons_append, List.nil_append, grpGo]
        cases hu : puE 16 (tr x) with
        | none => rfl
        | some u => dsimp only; rw [if_neg (fun q => hbad ⟨u, hu, q.1, q.2⟩)]
      have c5' := i5.cell 0
      simp only [List.getElem?_cons_zero] at c5'
      cases hu : puE 16 (tr x) with
      | none =>
        have hN' := hN.mono (R' := fun e w' => (∃ (xx : Int) (NN : Nat), e = .returned (.tuple #[.int .u64 xx, .iface 127 (.pointer (some ⟨NN, 0, none⟩))])) ∧ Below W.heap.size W w') fun e w' h => by
          refine ⟨?_, h.2⟩
          rcases h.1 with ⟨u', h1, h2⟩ | ⟨h1, h2⟩
          · rw [hu] at h1; cases h1
          · exact h2
        clear hN hbad hu
        gi_wp2_with ((with_reducible refine wide_and ?_); gi_at_call 82; refine (CallsIn.inRound l (callsIn_wide.2 hN')).mono ?_; rintro e wn ⟨⟨xx, NN, rfl⟩, hB1⟩; have c5 := (hB1.cell (p := ⟨w.heap.size + 1 + 1, 0, none⟩) (by show w.heap.size + 1 + 1 < _; omega)).trans c5'; have d3 := (i3.below hB1 (by omega)).cell 0; have d4 := (i4.below hB1 (by omega)).cell 0; have f3 := (i3.below hB1 (by omega)).frozen 0; have f4 := (i4.below hB1 (by omega)).frozen 0; simp only [List.getElem?_cons_zero] at d3 d4)
        exact ⟨(keeps_below hB1).trans ((KeepsOthers.setCell _ _ _).trans (KeepsOthers.setCell _ _ _)), rfl, HX.out, ((i3.below hB1 (by omega)).set 0 _).setOther _ _ _ (by omega), ((i4.below hB1 (by omega)).setOther _ _ _ (by omega)).set 0 _, ((i8.trans (hB1.mono i8.size)).setCell (p := ⟨w.heap.size, 0, none⟩) (Nat.le_refl _) _).setCell (p := ⟨w.heap.size + 1, 0, none⟩) (by show w.heap.size ≤ w.heap.size + 1; omega) _⟩
      | some u =>
        have hN' := hN.mono (R' := fun e w' => e = .returned (.tuple #[.int .u64 (u : Int), .nilIface]) ∧ Below W.heap.size W w') fun e w' h => by
          refine ⟨?_, h.2⟩
          rcases h.1 with ⟨u', h1, h2⟩ | ⟨h1, _⟩
          · rw [hu] at h1; cases h1; exact h2
          · rw [hu] at h1; cases h1
        by_cases h4 : (tr x).length ≤ 4
        · have g4 : decide ((4 : Int) < ((tr x).length : Int)) = false := by simp; omega
          have h16 : acc.length = 16 := Decidable.byContradiction fun h3 => hbad ⟨u, hu, h4, h3⟩
          have g16 : ((acc.length : Int) == 16) = true := by simp; omega
          clear hN hbad hu h4 h16
          gi_wp2_with ((with_reducible refine wide_and ?_); gi_at_call 82; refine (CallsIn.inRound l (callsIn_wide.2 hN')).mono ?_; rintro e wn ⟨rfl, hB1⟩; have c5 := (hB1.cell (p := ⟨w.heap.size + 1 + 1, 0, none⟩) (by show w.heap.size + 1 + 1 < _; omega)).trans c5'; have d3 := (i3.below hB1 (by omega)).cell 0; have d4 := (i4.below hB1 (by omega)).cell 0; have f3 := (i3.below hB1 (by omega)).frozen 0; have f4 := (i4.below hB1 (by omega)).frozen 0; simp only [List.getElem?_cons_zero] at d3 d4)
          exact ⟨(keeps_below hB1).trans ((KeepsOthers.setCell _ _ _).trans (KeepsOthers.setCell _ _ _)), rfl, HX.out, ((i3.below hB1 (by omega)).set 0 _).setOther _ _ _ (by omega), ((i4.below hB1 (by omega)).setOther _ _ _ (by omega)).set 0 _, ((i8.trans (hB1.mono i8.size)).setCell (p := ⟨w.heap.size, 0, none⟩) (Nat.le_refl _) _).setCell (p := ⟨w.heap.size + 1, 0, none⟩) (by show w.heap.size ≤ w.heap.size + 1; omega) _⟩
        · have g4 : decide ((4 : Int) < ((tr x).length : Int)) = true := by simp; omega
          clear hN hbad hu h4
          gi_wp2_with ((with_reducible refine wide_and ?_); gi_at_call 82; refine (CallsIn.inRound l (callsIn_wide.2 hN')).mono ?_; rintro e wn ⟨rfl, hB1⟩; have c5 := (hB1.cell (p := ⟨w.heap.size + 1 + 1, 0, none⟩) (by show w.heap.size + 1 + 1 < _; omega)).trans c5'; have d3 := (i3.below hB1 (by omega)).cell 0; have d4 := (i4.below hB1 (by omega)).cell 0; have f3 := (i3.below hB1 (by omega)).frozen 0; have f4 := (i4.below hB1 (by omega)).frozen 0; simp only [List.getElem?_cons_zero] at d3 d4)
          exact ⟨(keeps_below hB1).trans ((KeepsOthers.setCell _ _ _).trans (KeepsOthers.setCell _ _ _)), rfl, HX.out, ((i3.below hB1 (by omega)).set 0 _).setOther _ _ _ (by omega), ((i4.below hB1 (by omega)).setOther _ _ _ (by omega)).set 0 _, ((i8.trans (hB1.mono i8.size)).setCell (p := ⟨w.heap.size, 0, none⟩) (Nat.le_refl _) _).setCell (p := ⟨w.heap.size + 1, 0, none⟩) (by show w.heap.size ≤ w.heap.size + 1; omega) _⟩
  case done =>
    rintro D ys W hD rfl ⟨acc, v, i1, i0, i2, i3, i4, i5, i6, i7, i8⟩ hK
    obtain ⟨va, vc, rfl⟩ := own_slice i6
    have HF : Hid (grpGo (pieces 58 s) [] = some acc) := by
      have := i2 []
      rw [List.append_nil, pieces_tr 58 s hl] at this
      exact this
    have c5 := i5.cell 0
    have d3 := i3.cell 0
    have d4 := i4.cell 0
    have f3 := i3.frozen 0
    have f4 := i4.frozen 0
    simp only [List.getElem?_cons_zero] at c5 d3 d4
    clear i2
    gi_wp2
    have k3 := (i3.set 0 (.slice va acc.length vc)).setOther (w.heap.size + 1) 0 (.bool true) (by omega)
    have k4 := (i4.setOther w.heap.size 0 (.slice va acc.length vc) (by omega)).set 0 (.bool true)
    have k6 := own_setCell (own_setCell i6 i3 (by decide) (.slice va acc.length vc)) (i4.setOther w.heap.size 0 (.slice va acc.length vc) (by omega)) (by decide) (.bool true)
    have kD : ((W.setCell ⟨w.heap.size, 0, none⟩ (.slice va acc.length vc)).setCell ⟨w.heap.size + 1, 0, none⟩ (.bool true)).heap[D]? = some (.deferred (some [])) := by
      have n1 : ¬ w.heap.size + 1 = D := by omega
      have n2 : ¬ w.heap.size = D := by omega
      simp [World.setCell, Array.getElem?_modify, n1, n2, hK]
    have kB := (i8.setCell (p := ⟨w.heap.size, 0, none⟩) (Nat.le_refl _) (.slice va acc.length vc)).setCell (p := ⟨w.heap.size + 1, 0, none⟩) (by show w.heap.size ≤ w.heap.size + 1; omega) (.bool true)
    refine ⟨by simp, .inl ⟨_, _, rfl, run_takeDeferred kD, ?_⟩⟩
    have kk := grownBy_putObj' ((W.setCell ⟨w.heap.size, 0, none⟩ (.slice va acc.length vc)).setCell ⟨w.heap.size + 1, 0, none⟩ (.bool true)) D (.deferred none)
    have k : ∀ r, some D = some r → ∃ o : Obj, ((W.setCell ⟨w.heap.size, 0, none⟩ (.slice va acc.length vc)).setCell ⟨w.heap.size + 1, 0, none⟩ (.bool true)).heap[r]? = some o ∧ o.isCells = false := fun r e => by cases e; exact ⟨_, kD, rfl⟩
    exact ⟨_, retCC rfl _ _ 0 _ 0 rfl rfl (lvS (k3.kept kk k)) (lvB (k4.kept kk k)), .inl ⟨acc, _, by rw [grp, if_neg hne, HF.out], rfl, own_keptN k6 kk k⟩, kB.trans (belowK_b (w := w) (Nat.le_refl _) _ D _ _ (by omega) kD rfl rfl)⟩
  case stop =>
    rintro D c pre W hD hpre ⟨rfl, i2, i3, i4, i7⟩ hK
    gi_wp2
    refine ⟨by simp, .inl ⟨_, _, rfl, run_takeDeferred hK, ?_⟩⟩
    have kk := grownBy_putObj' W D (.deferred none)
    have k : ∀ r, some D = some r → ∃ o : Obj, W.heap[r]? = some o ∧ o.isCells = false := fun r e => by cases e; exact ⟨_, hK, rfl⟩
    refine ⟨_, retCC rfl _ _ 0 _ 0 rfl rfl (lvS (i3.kept kk k)) (lvB (i4.kept kk k)), .inr ⟨?_, rfl⟩, i7.trans (belowK_b (w := w) (Nat.le_refl _) W D _ _ (by omega) hK rfl rfl)⟩
    obtain ⟨t, ht⟩ := hpre
    have h1 := i2 (t.map tr)
    rw [← List.map_append, ht, pieces_tr 58 s hl] at h1
    rw [grp, if_neg hne, h1]
theorem groups_nil (w : World) : Calls Tryz.prog 75 #[.string (str [])] w fun e w' => GO w.heap.size (grp []) e w' ∧ Below w.heap.size w w' := by
  go_enter Tryz.func75, Tryz.ntmps75
  go_wp2
  have q1 := Row.new w 83 [.slice none 0 0]
  have q2 := Row.new (w.alloc (.cells #[.slice none 0 0] 83)) 4 [.bool true]
  simp only [World.size_alloc] at q2
  exact bodyPost_ret (retCC rfl _ _ 0 _ 0 rfl rfl (lvS (q1.alloc _)) (lvB q2)) rfl ⟨.inl ⟨[], _, rfl, rfl, World.ownsRow_nil _ _ _ _⟩, bt (ba _ _) (ba _ _)⟩
theorem groups_any (s : List UInt8) (w : World) (hG : Glob w) (hs8 : 8 ≤ w.heap.size) (hl : s.length ≤ 1000000) :
    Calls Tryz.prog 75 #[.string (str s)] w fun e w' => GO w.heap.size (grp s) e w' ∧ Below w.heap.size w w' := by
  by_cases h : s = []
  · subst h; exact groups_nil w
  · exact groups_some s w hG hs8 hl h
end Go.Proofs.YtimpopolkofdgaaGreatDoor
