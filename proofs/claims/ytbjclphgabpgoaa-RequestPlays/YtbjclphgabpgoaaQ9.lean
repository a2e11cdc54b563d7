/-
  What the calls of RequestPlays answer where the document's list is the table's in order.
-/
import Derived.Test.YtbjclphgabpgoaaQ8
import Derived.Test.YtbjclphgabpgoaaRL
import Derived.Test.YtbjclphgabpgoaaArgs
namespace Go.Proofs.Ytbjclphgabpgoaa
open Go.RowKit Go.Maps Go.Shelf
set_option linter.unusedSimpArgs false
set_option linter.unusedVariables false
set_option maxRecDepth 20000
/-- Where the two tables lie. -/
structure Cn (w : World) (t mb r : Nat) : Prop where
  tr : t ≠ r
  mr : mb ≠ r
  wm : w.heap.size ≤ mb
  wr : w.heap.size ≤ r
/-- The law under way: both tables, and the act. -/
structure St (w : World) (t mb r g9 : Nat) (most : Int) (a : Ac) (L K : List Sr) (W : World) : Prop where
  tb : Tb W t mb most L
  rb : Rb W w.heap.size r most K
  be : Below w.heap.size w W
  row : Row W g9 44 (acs a)
section
variable {w : World} {t mb r g9 : Nat} {most : Int} {a : Ac} {L L1 K : List Sr} {W : World}
theorem St.below {W' : World} (s : St w t mb r g9 most a L K W) (h : Below W.heap.size W W') : St w t mb r g9 most a L K W' :=
  ⟨s.tb.below h, s.rb.below h, bt s.be h, s.row.below h s.row.lt⟩
theorem act_ne (s : St w t mb r g9 most a L K W) : g9 ≠ r := fun e => by
  obtain ⟨_, _, h5, _⟩ := s.rb.ex
  have h4 := s.row
  unfold Row at h4 h5
  rw [e, h5] at h4
  injection h4 with h4
  injection h4 with _ h6 _
  exact absurd h6 (by decide)
theorem St.turn {W' : World} {L' : List Sr} (c : Cn w t mb r) (s : St w t mb r g9 most a L K W) (h : Turn W W' t mb most L') : St w t mb r g9 most a L' K W' :=
  ⟨h.tb, s.rb.turn h s.tb.map, h.below s.be c.wm s.be.size, h.row s.row (s.tb.map.ne_row s.row)⟩
theorem St.rturn {W' : World} {K' : List Sr} (c : Cn w t mb r) (s : St w t mb r g9 most a L K W) (hR : Rb W' w.heap.size r most K') (h : RTurn W W' w.heap.size r) : St w t mb r g9 most a L K' W' :=
  ⟨h.tb s.tb c.tr c.mr, hR, h.below s.be (Nat.le_refl _) c.wr s.be.size, h.row s.row (act_ne s) (by decide)⟩
theorem st_ask (c : Cn w t mb r) (s : St w t mb r g9 most a L K W) (now : Int) (ha : AcFit a) (t0 : 0 ≤ now) (t1 : now ≤ 562949953421312) (hl : L.length < 1000000) :
    Calls Try.prog 13 #[.pointer (some ⟨t, 0, none⟩), .int .i64 now, (Value.agg (qcells a.p).toArray), idV a.i, .int .u16 a.s] W fun e w' => e = .returned (.tuple #[.bool (askB most L a.p a.i a.s), .int .i64 (askE most L a.p a.i)]) ∧ St w t mb r g9 most a (askL most L now a.p a.i a.s) K w' := by
  refine (ask_any s.tb now a.p a.i a.s ha.q t0 t1 ha.s0 ha.s1 hl).mono ?_
  rintro e w' ⟨rfl, hT⟩
  exact ⟨rfl, s.turn c hT⟩
theorem st_rask (c : Cn w t mb r) (s : St w t mb r g9 most a L1 K W) (now : Int) (ha : AcFit a) (t0 : 0 ≤ now) (t1 : now ≤ 562949953421312) (hr : Rel L K) (hl : K.length < 1000000) :
    Calls Try.prog 14 #[.pointer (some ⟨r, 0, none⟩), .int .i64 now, (Value.agg (qcells a.p).toArray), idV a.i, .int .u16 a.s] W fun e w' => e = .returned (.tuple #[.bool (askB most L a.p a.i a.s), .int .i64 (askE most L a.p a.i)]) ∧ ∃ KK, Rel (askL most L now a.p a.i a.s) KK ∧ St w t mb r g9 most a L1 KK w' := by
  refine (rask_any s.rb now a.p a.i a.s _ rfl s.be.size t0 t1 ha.s0 ha.s1 hl).mono ?_
  rintro e w' ⟨b, z, K', rfl, hP, hR, hT⟩
  obtain ⟨rfl, rfl, hr'⟩ := rel_ask hr hP
  exact ⟨rfl, K', hr', s.rturn c hR hT⟩
theorem st_met (c : Cn w t mb r) (s : St w t mb r g9 most a L K W) (ha : AcFit a) :
    Calls Try.prog 16 #[.pointer (some ⟨t, 0, none⟩), (Value.agg (qcells a.p).toArray), idV a.i, dV a.s a.m] W fun e w' => e = .returned (.bool (metB L a.p a.i a.s a.m)) ∧ St w t mb r g9 most a (metL L a.p a.i a.s a.m) K w' := by
  refine (met_any s.tb a.p a.i a.s a.m ha.q).mono ?_
  rintro e w' ⟨rfl, hT⟩
  exact ⟨rfl, s.turn c hT⟩
theorem st_rmet (c : Cn w t mb r) (s : St w t mb r g9 most a L1 K W) (ha : AcFit a) (hr : Rel L K) :
    Calls Try.prog 17 #[.pointer (some ⟨r, 0, none⟩), (Value.agg (qcells a.p).toArray), idV a.i, dV a.s a.m] W fun e w' => e = .returned (.bool (metB L a.p a.i a.s a.m)) ∧ ∃ KK, Rel (metL L a.p a.i a.s a.m) KK ∧ St w t mb r g9 most a L1 KK w' := by
  refine (rmet_any s.rb a.p a.i a.s a.m s.be.size ha.s0 ha.s1).mono ?_
  rintro e w' ⟨z, K', rfl, hP, hR, hT⟩
  obtain ⟨rfl, hr'⟩ := rel_met hr hP
  exact ⟨rfl, K', hr', s.rturn c hR hT⟩
theorem bsQ2 (p q : Pr) (w : World) : (Instr.buildSlice 82 2 #[(0, (Value.agg (qcells p).toArray)), (1, (Value.agg (qcells q).toArray))]).run Try.prog w = .ok (.slice (some ⟨w.heap.size, 0, none⟩) 2 2) (w.alloc (.cells (qcells p ++ qcells q).toArray 38)) := by
  induction p using Pr.lits with | h =>
  induction q using Pr.lits with | h =>
  show _ = _
  kernel_rfl
theorem qs_two {w : World} {g : Nat} {p q : Pr} (h : Row w g 38 (qcells p ++ qcells q)) : QsW w (some ⟨g, 0, none⟩) [p, q] :=
  ⟨.inr ⟨g, 0, rfl, ⟨_, _, _, h⟩, fun k x hk => by
    match k, hk with
    | 0, rfl => exact rangeAt_left h.range
    | 1, rfl => exact rangeAt_right h.range (qcells_len p)⟩⟩
theorem st_fg {g : Nat} (c : Cn w t mb r) (s : St w t mb r g9 most a L K W) (ha : AcFit a) (h : Row W g 38 (qcells a.p ++ qcells a.p)) :
    Calls Try.prog 18 #[.pointer (some ⟨t, 0, none⟩), .slice (some ⟨g, 0, none⟩) 2 2] W fun e w' => e = .returned (.int .i64 ((fgN L [a.p, a.p] : Nat) : Int)) ∧ St w t mb r g9 most a (fgL L [a.p, a.p]) K w' := by
  refine (forget_any s.tb (some ⟨g, 0, none⟩) 2 [a.p, a.p] (qs_two h) (by intro p hp; simp at hp; rw [hp]; exact ha.q) (by simp)).mono ?_
  rintro e w' ⟨rfl, hT⟩
  exact ⟨rfl, s.turn c hT⟩
theorem st_rfg (c : Cn w t mb r) (s : St w t mb r g9 most a L1 K W) (hr : Rel L K) :
    Calls Try.prog 19 #[.pointer (some ⟨r, 0, none⟩), (Value.agg (qcells a.p).toArray)] W fun e w' => e = .returned (.int .i64 ((fgN L [a.p, a.p] : Nat) : Int)) ∧ ∃ KK, Rel (fgL L [a.p, a.p]) KK ∧ St w t mb r g9 most a L1 KK w' := by
  refine (rforget_any s.rb a.p s.be.size).mono ?_
  rintro e w' ⟨rfl, hR, hT⟩
  obtain ⟨e1, hr'⟩ := rel_forget hr a.p
  exact ⟨by rw [e1], _, hr', s.rturn c hR hT⟩
theorem st_tick (c : Cn w t mb r) (s : St w t mb r g9 most a L K W) (now : Int) (t0 : 0 ≤ now) (t1 : now ≤ 562949953421312) (hr : Rel L K) (hl : L.length ≤ 100000) :
    Calls Try.prog 20 #[.pointer (some ⟨t, 0, none⟩), .int .i64 now] W fun e w' => ∃ a1 c1 a2 c2 L', e = .returned (.tuple #[.slice a1 (agR now K).length c1, .slice a2 (goR now K).length c2]) ∧ Rel L' (leftR now K) ∧ St w t mb r g9 most a L' K w' ∧ kN.Own w' w.heap.size (.slice a1 (agR now K).length c1) (agR now K) ∧ kN.Own w' w.heap.size (.slice a2 (goR now K).length c2) (goR now K) := by
  refine (tick_any s.tb now t0 t1 hl).mono ?_
  rintro e w' ⟨a1, c1, a2, c2, G, hp, ha, rfl, hT, hO⟩
  obtain ⟨e1, e2, hr'⟩ := rel_tick hr hp ha hT.tb.map.nd
  rw [e1, e2] at hO ⊢
  exact ⟨a1, c1, a2, c2, _, rfl, hr', s.turn c hT, Kd.own_up hO.l s.be.size, Kd.own_up hO.g s.be.size⟩
theorem st_rtick {a1 a2 : Option Addr} {c1 c2 : Nat} (c : Cn w t mb r) (s : St w t mb r g9 most a L1 K W) (now : Int) (t0 : 0 ≤ now) (t1 : now ≤ 562949953421312) (h1 : kN.Own W w.heap.size (.slice a1 (agR now K).length c1) (agR now K)) (h2 : kN.Own W w.heap.size (.slice a2 (goR now K).length c2) (goR now K)) :
    Calls Try.prog 21 #[.pointer (some ⟨r, 0, none⟩), .int .i64 now] W fun e w' => ∃ a3 c3 a4 c4, e = .returned (.tuple #[.slice a3 (agR now K).length c3, .slice a4 (goR now K).length c4]) ∧ St w t mb r g9 most a L1 (leftR now K) w' ∧ SsW w' a1 (agR now K) ∧ SsW w' a3 (agR now K) ∧ SsW w' a2 (goR now K) ∧ SsW w' a4 (goR now K) := by
  refine (rtick_any s.rb now s.be.size t0 t1).mono ?_
  rintro e w' ⟨a3, c3, a4, c4, rfl, g1, g2, hR, hT, hg⟩
  obtain ⟨_, _, hrow, _⟩ := s.rb.ex
  have o1 : kN.Own w' w.heap.size (.slice a1 (agR now K).length c1) (agR now K) := World.ownsRow.kept h1 hg (.inr (own_ne_row h1 hrow (by decide)))
  have o2 : kN.Own w' w.heap.size (.slice a2 (goR now K).length c2) (goR now K) := World.ownsRow.kept h2 hg (.inr (own_ne_row h2 hrow (by decide)))
  have f : ∀ {B : Nat} {ad : Option Addr} {cc : Nat} {G : List Sr}, kN.Own w' B (.slice ad G.length cc) G → SsW w' ad G := fun h => by
    obtain ⟨a5, c5, e5, s5⟩ := SsW.own h
    cases e5
    exact s5
  exact ⟨a3, c3, a4, c4, rfl, s.rturn c hR hT, f o1, f g1, f o2, f g2⟩
theorem st_next (s : St w t mb r g9 most a L K W) : Calls Try.prog 23 #[.pointer (some ⟨t, 0, none⟩)] W fun e w' => ∃ f b, e = .returned (.tuple #[.int .i64 f, .bool b]) ∧ NextIs L f b ∧ St w t mb r g9 most a L K w' := by
  refine (next_any s.tb).mono ?_
  rintro e w' ⟨f, b, rfl, hN, hB⟩
  exact ⟨f, b, rfl, hN, s.below hB⟩
theorem st_rnext {f : Int} {b : Bool} (s : St w t mb r g9 most a L K W) (hr : Rel L K) (hN : NextIs L f b) : Calls Try.prog 24 #[.pointer (some ⟨r, 0, none⟩)] W fun e w' => e = .returned (.tuple #[.int .i64 f, .bool b]) ∧ W = w' := by
  refine (rnext_any s.rb).mono ?_
  rintro e w' ⟨f', b', rfl, hN', rfl⟩
  obtain ⟨rfl, rfl⟩ := rel_next hr hN hN'
  exact ⟨rfl, rfl⟩
theorem st_list (s : St w t mb r g9 most a L K W) (hr : Rel L K) : Calls Try.prog 25 #[.pointer (some ⟨t, 0, none⟩)] W fun e w' => ∃ aL cL, e = .returned (.slice aL K.length cL) ∧ SsW w' aL K ∧ Below W.heap.size W w' := by
  refine (list_any s.tb).mono ?_
  rintro e w' ⟨a1, c1, G, rfl, g1, g2, g3, g4⟩
  obtain rfl := rel_list hr g1 g2
  obtain ⟨a5, c5, e5, s5⟩ := SsW.own g3
  cases e5
  exact ⟨a1, c1, rfl, s5, g4⟩
theorem St.kept (s : St w t mb r g9 most a L K W) : ∃ ad c, Row W r 31 [.int .i64 most, .slice ad K.length c] ∧ ∀ W', Below W.heap.size W W' → SsW W' ad K := by
  obtain ⟨ad, c, h1, h2⟩ := s.rb.ex
  obtain ⟨a5, c5, e5, s5⟩ := SsW.own h2
  cases e5
  exact ⟨ad, c, h1, fun W' h => s5.below h⟩
/-- What is known of the time and the list behind j acts. -/
structure PgI (j : Nat) (now : Int) (L : List Sr) : Prop where
  t0 : 0 ≤ now
  t1 : now ≤ j * 1073741824
  ll : L.length ≤ j
theorem PgI.step {j : Nat} {now : Int} {L L' : List Sr} {a : Ac} (h : PgI j now L) (ha : AcOk a) (hl : L'.length ≤ L.length + 1) : PgI (j + 1) (now + a.g) L' := by
  obtain ⟨a0, a1⟩ := ha
  have t0 := h.t0
  have t1 := h.t1
  have ll := h.ll
  exact ⟨by omega, by omega, by omega⟩
theorem askL_le1 {most : Int} {L : List Sr} {now : Int} {p : Pr} {i : Id8} {s : Int} : (askL most L now p i s).length ≤ L.length + 1 := by
  unfold askL
  split
  · exact putN_le
  · omega
theorem metL_le1 {L : List Sr} {p : Pr} {i : Id8} {a b : Int} : (metL L p i a b).length ≤ L.length + 1 := by
  unfold metL
  split
  · exact Nat.le_succ_of_le delN_le
  · omega
theorem fgL_le1 {L : List Sr} {P : List Pr} : (fgL L P).length ≤ L.length + 1 := Nat.le_succ_of_le (List.length_filter_le _ _)
theorem left_le1 {L L' K : List Sr} {now : Int} (h : Rel L K) (h' : Rel L' (leftR now K)) : L'.length ≤ L.length + 1 := by
  have h1 := h.pm.length_eq
  have h2 := h'.pm.length_eq
  have h3 := leftR_len now K
  omega
end
end Go.Proofs.Ytbjclphgabpgoaa
