/-
  What the calls of RoutePlays answer where the document's list is the table's in order.
-/
import Derived.Test.YthofoocknmkdjaaM22
import Derived.Test.YthofoocknmkdjaaM23
import Derived.Test.YthofoocknmkdjaaM10
import Derived.Test.YthofoocknmkdjaaM02
namespace Go.Proofs.Ythofoocknmkdjaa
open Go.RowKit Go.Maps Go.Shelf
set_option linter.unusedSimpArgs false
set_option linter.unusedVariables false
set_option maxRecDepth 20000
/-- Where the two tables lie. -/
structure Cn (w : World) (t mb r : Nat) : Prop where
  tr : t ≠ r
  mr : mb ≠ r
  wm : w.heap.size ≤ mb
  wr : w.heap.size ≤ r
/-- The law under way: both tables. -/
structure Sd (w : World) (t mb r : Nat) (most : Int) (L K : List Ro) (W : World) : Prop where
  tb : Tb W t mb most L
  one : OneK L
  rb : Rb W w.heap.size r most K
  be : Below w.heap.size w W
/-- Rows that an act on the program's table leaves. -/
def Kept (W w' : World) : Prop := ∀ (g : Nat) (T : TypeId) (cs : List Value), Row W g T cs → Row w' g T cs
section
variable {w : World} {t mb r : Nat} {most : Int} {L L1 K : List Ro} {W : World}
theorem Sd.below {W' : World} (s : Sd w t mb r most L K W) (h : Below W.heap.size W W') : Sd w t mb r most L K W' :=
  ⟨s.tb.below h, s.one, s.rb.below h, bt s.be h⟩
theorem Sd.turn {W' : World} {L' : List Ro} (c : Cn w t mb r) (s : Sd w t mb r most L K W) (h : Turn W W' t mb most L') (h1 : OneK L') : Sd w t mb r most L' K W' ∧ Kept W W' :=
  ⟨⟨h.tb, h1, s.rb.turn h s.tb.map, h.below s.be c.wm s.be.size⟩, fun g T cs hr => h.row hr (s.tb.map.ne_row hr)⟩
theorem Sd.rturn {W' : World} {K' : List Ro} (c : Cn w t mb r) (s : Sd w t mb r most L K W) (hR : Rb W' w.heap.size r most K') (h : RTurn W W' w.heap.size r) : Sd w t mb r most L K' W' :=
  ⟨h.tb s.tb c.tr c.mr, s.one, hR, h.below s.be (Nat.le_refl _) c.wr s.be.size⟩
theorem sd_tell (c : Cn w t mb r) (s : Sd w t mb r most L K W) (n : Ro) (now : Int) (f : Bool) (ha : 0 ≤ now) (hb : now ≤ 17592186044416) (hi : wfK n.k) (hf : n.fit) (hl : L.length < 1000000) :
    Calls Try.prog 26 #[.pointer (some ⟨t, 0, none⟩), .int .i64 now, rV n, .bool f] W fun e w' => e = .returned (.tuple #[.int .i64 (tellR most L now n f).1, .int .i64 (tellR most L now n f).2.1]) ∧ Sd w t mb r most (tellR most L now n f).2.2 K w' ∧ Kept W w' := by
  refine (tell_any s.tb n now f ha hb hi hf hl).mono ?_
  rintro e w' ⟨rfl, hT⟩
  exact ⟨rfl, s.turn c hT (s.one.tell _ _ _ _)⟩
theorem sd_rtell (c : Cn w t mb r) (s : Sd w t mb r most L1 K W) (n : Ro) (now : Int) (f : Bool) (ha : 0 ≤ now) (hb : now ≤ 17592186044416) (hf : n.fit) (hr : Rel L K) (hl : K.length < 1000000) :
    Calls Try.prog 35 #[.pointer (some ⟨r, 0, none⟩), .int .i64 now, rV n, .bool f] W fun e w' => e = .returned (.tuple #[.int .i64 (tellR most L now n f).1, .int .i64 (tellR most L now n f).2.1]) ∧ ∃ KK, Rel (tellR most L now n f).2.2 KK ∧ Sd w t mb r most L1 KK w' := by
  refine (rtell_any s.rb now n _ f rfl s.be.size ha hb hf hl).mono ?_
  rintro e w' ⟨z, e', K', rfl, hP, hR, hT⟩
  obtain ⟨rfl, rfl, hr'⟩ := rel_tell hr hP
  exact ⟨rfl, K', hr', s.rturn c hR hT⟩
theorem sd_rretract (c : Cn w t mb r) (s : Sd w t mb r most L1 K W) (now i : Int) (a : Ad) (ha : 0 ≤ now) (hb : now ≤ 17592186044416) (hr : Rel L K) :
    Calls Try.prog 36 #[.pointer (some ⟨r, 0, none⟩), .int .i64 now, .int .i64 i, (Value.agg (acells a).toArray)] W fun e w' => e = .returned (.int .i64 (L.countP (mineB i a))) ∧ ∃ KK, Rel (mapR (fun n => retr n now) (mineB i a) L) KK ∧ Sd w t mb r most L1 KK w' := by
  refine (rretract_any s.rb now i a ha hb).mono ?_
  rintro e w' ⟨rfl, hR, hT⟩
  exact ⟨by rw [rel_count hr], _, rel_retract hr i a now, s.rturn c hR hT⟩
theorem sd_select (c : Cn w t mb r) (s : Sd w t mb r most L K W) (k : Ky) (hi : wfK k) :
    Calls Try.prog 32 #[.pointer (some ⟨t, 0, none⟩), (Value.agg (qcells k.p).toArray), .int .i64 k.i, (Value.agg (acells k.a).toArray)] W fun e w' => e = .returned (.int .i64 (selR L k).1) ∧ Sd w t mb r most (selR L k).2 K w' ∧ Kept W w' := by
  refine (select_any s.tb (s.one.one s.tb.map.nd) k hi).mono ?_
  rintro e w' ⟨rfl, hT⟩
  exact ⟨rfl, s.turn c hT (s.one.sel k)⟩
theorem sd_rselect (c : Cn w t mb r) (s : Sd w t mb r most L1 K W) (k : Ky) (hr : Rel L K) :
    Calls Try.prog 38 #[.pointer (some ⟨r, 0, none⟩), (Value.agg (qcells k.p).toArray), .int .i64 k.i, (Value.agg (acells k.a).toArray)] W fun e w' => e = .returned (.int .i64 (selR L k).1) ∧ ∃ KK, Rel (selR L k).2 KK ∧ Sd w t mb r most L1 KK w' := by
  refine (rselect_any s.rb k).mono ?_
  rintro e w' ⟨z, K', rfl, hP, hR, hT⟩
  obtain ⟨rfl, hr'⟩ := rel_select hr hP
  exact ⟨rfl, K', hr', s.rturn c hR hT⟩
theorem sd_unselect {g : Nat} {p : Pr} (c : Cn w t mb r) (s : Sd w t mb r most L K W) (h : Row W g 36 (qcells p ++ qcells p)) :
    Calls Try.prog 33 #[.pointer (some ⟨t, 0, none⟩), .slice (some ⟨g, 0, none⟩) 2 2] W fun e w' => e = .returned (.int .i64 (unL [p, p] L).2) ∧ Sd w t mb r most (unL [p, p] L).1 K w' ∧ Kept W w' := by
  refine (unselect_any s.tb (s.one.one s.tb.map.nd) (some ⟨g, 0, none⟩) 2 [p, p] (PsW.two h) (by simp)).mono ?_
  rintro e w' ⟨rfl, hT⟩
  exact ⟨rfl, s.turn c hT (s.one.un _)⟩
theorem sd_runselect {p : Pr} (c : Cn w t mb r) (s : Sd w t mb r most L1 K W) (hr : Rel L K) (h1 : OneK L) :
    Calls Try.prog 39 #[.pointer (some ⟨r, 0, none⟩), (Value.agg (qcells p).toArray)] W fun e w' => e = .returned (.int .i64 (unL [p, p] L).2) ∧ ∃ KK, Rel (unL [p, p] L).1 KK ∧ Sd w t mb r most L1 KK w' := by
  refine (runselect_any s.rb p).mono ?_
  rintro e w' ⟨rfl, hR, hT⟩
  obtain ⟨e1, hr'⟩ := rel_unselect (p := p) hr (h1.one hr.nd)
  exact ⟨by rw [e1], _, hr', s.rturn c hR hT⟩
theorem sd_tick (c : Cn w t mb r) (s : Sd w t mb r most L K W) (now : Int) (t0 : 0 ≤ now) (t1 : now ≤ 17592186044416) (hr : Rel L K) :
    Calls Try.prog 28 #[.pointer (some ⟨t, 0, none⟩), .int .i64 now] W fun e w' => ∃ a1 c1 a2 c2 L', e = .returned (.tuple #[.slice a1 (exT now K).length c1, .slice a2 (goT now K).length c2]) ∧ Rel L' (leftT now K) ∧ Sd w t mb r most L' K w' ∧ Kept W w' ∧ kN.Own w' w.heap.size (.slice a1 (exT now K).length c1) (exT now K) ∧ kN.Own w' w.heap.size (.slice a2 (goT now K).length c2) (goT now K) := by
  refine (tick_any s.tb now t0 t1).mono ?_
  rintro e w' ⟨a1, c1, a2, c2, G, hp, ha, rfl, hT, hO⟩
  obtain ⟨e1, e2, hr'⟩ := rel_tick hr hp ha hT.tb.map.nd
  have h1 : OneK (tickR now L G) := s.one.tick (fun n hn => (List.mem_filter.1 (hp.mem_iff.1 hn)).1) now
  rw [e1, e2] at hO ⊢
  obtain ⟨s1, k1⟩ := s.turn c hT h1
  exact ⟨a1, c1, a2, c2, _, rfl, hr', s1, k1, Kd.own_up hO.l s.be.size, Kd.own_up hO.g s.be.size⟩
theorem ss_of {w' : World} {B : Nat} {ad : Option Addr} {cc : Nat} {G : List Ro} (h : kN.Own w' B (.slice ad G.length cc) G) : SsW w' ad G := by
  obtain ⟨a5, c5, e5, s5⟩ := SsW.own h
  cases e5
  exact s5
theorem sd_rtick {a1 a2 : Option Addr} {c1 c2 : Nat} (c : Cn w t mb r) (s : Sd w t mb r most L1 K W) (now : Int) (t0 : 0 ≤ now) (t1 : now ≤ 17592186044416) (h1 : kN.Own W w.heap.size (.slice a1 (exT now K).length c1) (exT now K)) (h2 : kN.Own W w.heap.size (.slice a2 (goT now K).length c2) (goT now K)) :
    Calls Try.prog 40 #[.pointer (some ⟨r, 0, none⟩), .int .i64 now] W fun e w' => ∃ a3 c3 a4 c4, e = .returned (.tuple #[.slice a3 (exT now K).length c3, .slice a4 (goT now K).length c4]) ∧ Sd w t mb r most L1 (leftT now K) w' ∧ SsW w' a1 (exT now K) ∧ SsW w' a3 (exT now K) ∧ SsW w' a2 (goT now K) ∧ SsW w' a4 (goT now K) := by
  refine (rtick_any s.rb now s.be.size t0 t1).mono ?_
  rintro e w' ⟨a3, c3, a4, c4, rfl, g1, g2, hR, hT, hg⟩
  obtain ⟨_, _, hrow, _⟩ := s.rb.ex
  have o1 : kN.Own w' w.heap.size (.slice a1 (exT now K).length c1) (exT now K) := World.ownsRow.kept h1 hg (.inr (own_ne_row h1 hrow (by decide)))
  have o2 : kN.Own w' w.heap.size (.slice a2 (goT now K).length c2) (goT now K) := World.ownsRow.kept h2 hg (.inr (own_ne_row h2 hrow (by decide)))
  exact ⟨a3, c3, a4, c4, rfl, s.rturn c hR hT, ss_of o1, ss_of g1, ss_of o2, ss_of g2⟩
theorem sd_drop (c : Cn w t mb r) (s : Sd w t mb r most L K W) (i : Int) (ad : Option Addr) (cd m : Nat) (ds : List Ad) (hm : ds.length = m) (hds : DsW W ad ds) (hl : ds.length ≤ 1000000) (hr : Rel L K) :
    Calls Try.prog 34 #[.pointer (some ⟨t, 0, none⟩), .int .i64 i, .slice ad m cd] W fun e w' => ∃ a1 c1, e = .returned (.slice a1 (K.filter (dropB i ds)).length c1) ∧ Sd w t mb r most (L.filter fun n => !dropB i ds n) K w' ∧ Kept W w' ∧ kN.Own w' w.heap.size (.slice a1 (K.filter (dropB i ds)).length c1) (K.filter (dropB i ds)) := by
  subst hm
  refine (drop_any s.tb i ad cd ds hds hl).mono ?_
  rintro e w' ⟨a1, c1, G, rfl, hp, ha, hO, hT⟩
  obtain rfl : G = K.filter (dropB i ds) := Asc.unique ha (hr.asc.filter _) (hp.trans (hr.pm.filter _).symm)
  obtain ⟨s1, k1⟩ := s.turn c hT (s.one.filter _)
  exact ⟨a1, c1, rfl, s1, k1, Kd.own_up hO s.be.size⟩
theorem drop_two (i : Int) (a : Ad) : dropB i [a, a] = dropB i [a] := by
  funext n
  unfold dropB
  simp
theorem sd_next (s : Sd w t mb r most L K W) : Calls Try.prog 19 #[.pointer (some ⟨t, 0, none⟩)] W fun e w' => ∃ f b, e = .returned (.tuple #[.int .i64 f, .bool b]) ∧ NextIs L f b ∧ Below W.heap.size W w' := by
  refine (next_any s.tb).mono ?_
  rintro e w' ⟨f, b, rfl, hN, hB⟩
  exact ⟨f, b, rfl, hN, hB⟩
theorem sd_list (s : Sd w t mb r most L K W) (hr : Rel L K) : Calls Try.prog 14 #[.pointer (some ⟨t, 0, none⟩)] W fun e w' => ∃ aL cL, e = .returned (.slice aL K.length cL) ∧ SsW w' aL K ∧ Below W.heap.size W w' := by
  refine (list_any s.tb).mono ?_
  rintro e w' ⟨a1, c1, G, rfl, g1, g2, g3, g4⟩
  obtain rfl := rel_list hr g1 g2
  exact ⟨a1, c1, rfl, ss_of g3, g4⟩
theorem Sd.kept (s : Sd w t mb r most L K W) : ∃ ad c, Row W r 30 [.int .i64 most, .slice ad K.length c] ∧ ∀ W', Below W.heap.size W W' → SsW W' ad K := by
  obtain ⟨ad, c, h1, h2⟩ := s.rb.ex
  exact ⟨ad, c, h1, fun W' h => (ss_of h2).below h⟩
end
end Go.Proofs.Ythofoocknmkdjaa

namespace Go.Proofs.Ythofoocknmkdjaa
open Go.RowKit Go.Maps Go.Shelf
set_option linter.unusedSimpArgs false
set_option linter.unusedVariables false
set_option maxRecDepth 20000
section
variable {w : World} {t mb r : Nat} {most : Int} {L L1 K : List Ro} {W : World}
theorem sd_retract (c : Cn w t mb r) (s : Sd w t mb r most L K W) (now i : Int) (a : Ad) (ha : 0 ≤ now) (hb : now ≤ 17592186044416) :
    Calls Try.prog 27 #[.pointer (some ⟨t, 0, none⟩), .int .i64 now, .int .i64 i, (Value.agg (acells a).toArray)] W fun e w' => e = .returned (.int .i64 (L.countP (mineB i a))) ∧ Sd w t mb r most (mapR (fun n => retr n now) (mineB i a) L) K w' ∧ Kept W w' := by
  refine (retract_any s.tb now i a ha hb).mono ?_
  rintro e w' ⟨rfl, hT⟩
  exact ⟨by rw [List.countP_eq_length_filter], s.turn c hT (s.one.mapR _ _ (fun _ => rfl) (fun _ a => a))⟩
theorem sd_get (s : Sd w t mb r most L K W) (hr : Rel L K) (k : Ky) (hi : wfK k) : Calls Try.prog 15 #[.pointer (some ⟨t, 0, none⟩), (Value.agg (qcells k.p).toArray), .int .i64 k.i, (Value.agg (acells k.a).toArray)] W (Gives W (getV (getN K k))) := by
  rw [getN_perm hr]
  exact get_any s.tb k hi
theorem sd_rfind (s : Sd w t mb r most L K W) (k : Ky) : Calls Try.prog 16 #[.pointer (some ⟨r, 0, none⟩), (Value.agg (qcells k.p).toArray), .int .i64 k.i, (Value.agg (acells k.a).toArray)] W (Gives W (.int .i64 (fndI K k))) := rfind_any s.rb k
/-- The one that both tables say is selected; or there is none. -/
def SelK (K : List Ro) (p : Pr) : Option Ro := K.find? (selB p)
theorem sd_selected (s : Sd w t mb r most L K W) (hr : Rel L K) (p : Pr) : Calls Try.prog 17 #[.pointer (some ⟨t, 0, none⟩), (Value.agg (qcells p).toArray)] W (Gives W (getV (SelK K p))) := by
  refine (selected_any s.tb p).mono ?_
  rintro e w' ⟨hB, h⟩
  refine ⟨?_, hB⟩
  unfold SelK
  rcases h with ⟨n, hn, hs, rfl⟩ | ⟨hz, rfl⟩
  · cases hf : K.find? (selB p) with
    | none =>
      have := List.find?_eq_none.1 hf n (hr.pm.mem_iff.2 hn)
      exact absurd hs this
    | some m =>
      have hm := List.mem_of_find?_eq_some hf
      have hms := List.find?_some hf
      obtain ⟨a1, a2⟩ := selB_iff.1 hs
      obtain ⟨b1, b2⟩ := selB_iff.1 hms
      obtain rfl := s.one.one hr.nd n hn m (hr.pm.mem_iff.1 hm) a1 b1 (a2.trans b2.symm)
      rfl
  · have hf : K.find? (selB p) = none := List.find?_eq_none.2 fun n hn a => by rw [hz n (hr.pm.mem_iff.1 hn)] at a; cases a
    rw [hf]
    rfl
theorem pl_some {so : Ro → Bool} {K : List Ro} : (plI so K = -1 ∧ K.find? so = none) ∨ ∃ (j : Nat) (n : Ro), plI so K = j ∧ K[j]? = some n ∧ K.find? so = some n := by
  unfold plI
  cases hf : K.findIdx? so with
  | none =>
    left
    exact ⟨rfl, List.find?_eq_none.2 fun n hn a => by rw [List.findIdx?_eq_none_iff.1 hf n hn] at a; cases a⟩
  | some j =>
    right
    obtain ⟨hj, hk, hm⟩ := List.findIdx?_eq_some_iff_getElem.1 hf
    refine ⟨j, K[j], rfl, List.getElem?_eq_getElem hj, ?_⟩
    rw [List.find?_eq_some_iff_getElem]
    exact ⟨hk, j, hj, rfl, fun i hi => by simpa using hm i hi⟩
theorem sd_rselected (s : Sd w t mb r most L K W) (p : Pr) : Calls Try.prog 18 #[.pointer (some ⟨r, 0, none⟩), (Value.agg (qcells p).toArray)] W (Gives W (.int .i64 (plI (selB p) K))) := rselected_any s.rb p
theorem sd_rnext (s : Sd w t mb r most L1 K W) (hr : Rel L K) {f : Int} {b : Bool} (hN : NextIs L f b) : Calls Try.prog 20 #[.pointer (some ⟨r, 0, none⟩)] W (Gives W (.tuple #[.int .i64 f, .bool b])) := by
  refine (rnext_any s.rb).mono ?_
  rintro e w' ⟨f2, b2, rfl, hN2, hB⟩
  obtain ⟨rfl, rfl⟩ := rel_next hr hN hN2
  exact ⟨rfl, hB⟩
theorem sd_of (s : Sd w t mb r most L K W) (hr : Rel L K) (p : Pr) : Calls Try.prog 21 #[.pointer (some ⟨t, 0, none⟩), (Value.agg (qcells p).toArray)] W fun e w' => ∃ a1 c1, e = .returned (.slice a1 (K.filter fun m => qB m.p p).length c1) ∧ SsW w' a1 (K.filter fun m => qB m.p p) ∧ Below W.heap.size W w' := by
  refine (of_any s.tb p).mono ?_
  rintro e w' ⟨a1, c1, G, rfl, hp, ha, hO, hB⟩
  obtain rfl : G = K.filter (fun m => qB m.p p) := Asc.unique ha (hr.asc.filter _) (hp.trans (hr.pm.filter _).symm)
  exact ⟨a1, c1, rfl, ss_of hO, hB⟩
theorem own_len {w' : World} {B : Nat} {a : Option Addr} {n c : Nat} {G : List Ro} (h : kN.Own w' B (.slice a n c) G) : n = G.length := by
  obtain ⟨a5, c5, e5, s5⟩ := SsW.own h
  cases e5
  rfl
theorem sd_rof (s : Sd w t mb r most L K W) (p : Pr) : Calls Try.prog 22 #[.pointer (some ⟨r, 0, none⟩), (Value.agg (qcells p).toArray)] W fun e w' => ∃ a1 c1, e = .returned (.slice a1 (K.filter fun m => qB m.p p).length c1) ∧ SsW w' a1 (K.filter fun m => qB m.p p) ∧ Below W.heap.size W w' := by
  refine (rof_any s.rb p).mono ?_
  rintro e w' ⟨a, n, c, rfl, hO, hB⟩
  obtain rfl := own_len hO
  exact ⟨a, c, rfl, ss_of hO, hB⟩
end
end Go.Proofs.Ythofoocknmkdjaa

namespace Go.Proofs.Ythofoocknmkdjaa
open Go.RowKit
set_option linter.unusedSimpArgs false
section
variable {P : Program} {ops : Array Oper} {Q : Exit → Act → World → Prop} {md : Region.Mode} {S : World → Prop} {N : Nat}
/-- Whatever order is picked from here on; S holds behind every operation ahead of number N. -/
def wpAnyM (P : Program) (md : Region.Mode) (ops : Array Oper) (Q : Exit → Act → World → Prop) (S : World → Prop) (N : Nat) : Nat → Array Bool → Act → World → Prop
  | 0, listed, a, w => Region.ready md ops listed = [] ∧ Q .normal a w
  | fuel + 1, listed, a, w =>
    (Region.ready md ops listed = [] → Q .normal a w) ∧
    ∀ i ∈ Region.ready md ops listed, wpOp P ops Q i (fun a' w' => (N ≤ i ∨ S w') ∧ wpAnyM P md ops Q S N fuel (listed.setIfInBounds i true) a' w') a w
theorem wpAny_of_M : ∀ (fuel : Nat) (listed : Array Bool) (a : Act) (w : World), wpAnyM P md ops Q S N fuel listed a w → wpAny P md ops Q fuel listed a w
  | 0, _, _, _, h => h
  | fuel + 1, _, _, _, h => ⟨h.1, fun i hi => wpOp_mono (fun a' w' h' => wpAny_of_M fuel _ a' w' h'.2) (h.2 i hi)⟩
theorem wpAnyM_first {i : Nat} {oi : Oper} {v : Value} (hi : ops[i]? = some oi) (hsel : ∀ (j : Nat) (o : Oper) cs b, ops[j]? = some o → o.op ≠ .select cs b)
    (hQ : ∀ c a w, Q (.panic c) (a.put oi.dst v) w → Q (.panic c) a w) (F : Array Bool) (hN : ∀ j, F.getD j false = true → j < N)
    (hF : ∀ j oj, ops[j]? = some oj → j ≠ i → (∀ e ∈ oj.after, Region.binds md e = true → F.getD e.on false = true) → F.getD j false = true) :
    ∀ (fuel : Nat) (listed : Array Bool) (a : Act) (w : World), (∀ k, listed.getD k false = true → F.getD k false = true) →
      (∀ j oj, ops[j]? = some oj → j ≠ i → listed.getD j true = false → (∀ e ∈ oj.after, Region.binds md e = true → e.on ≠ i) → oi.apart ops oj = true) →
      i ∈ Region.ready md ops listed → YieldsIf P ops S oi v a → S w →
      wpAnyM P md ops Q S N fuel (listed.setIfInBounds i true) (a.put oi.dst v) w → wpAnyM P md ops Q S N (fuel + 1) listed a w := by
  intro fuel
  induction fuel with
  | zero =>
    intro listed a w _ _ hr hy hS H
    refine ⟨fun h => (by rw [h] at hr; cases hr), fun j hj => ?_⟩
    by_cases hji : j = i
    · subst hji; exact hy.wpOp hi hS ⟨.inr hS, H⟩
    · have := ready_mono hj hji
      rw [H.1] at this
      cases this
  | succ fuel ih =>
    intro listed a w hsub hfree hr hy hS H
    refine ⟨fun h => (by rw [h] at hr; cases hr), fun j hj => ?_⟩
    by_cases hji : j = i
    · subst hji; exact hy.wpOp hi hS ⟨.inr hS, H⟩
    · have h1 := H.2 j (ready_mono hj hji)
      obtain ⟨hjun, oj, hoj, hall⟩ := mem_ready.1 hj
      have hjF : F.getD j false = true := hF j oj hoj hji (fun e he hb => hsub _ (hall e he hb))
      have hjN : ¬ N ≤ j := Nat.not_le.2 (hN j hjF)
      have hnot : ∀ e ∈ oj.after, Region.binds md e = true → e.on ≠ i := fun e he hb heq => by
        have h1 := hall e he hb
        have h0 := (mem_ready.1 hr).1
        rw [heq] at h1
        rcases Nat.lt_or_ge i listed.size with h' | h'
        · simp [h'] at h0 h1; rw [h0] at h1; cases h1
        · simp [Array.getElem?_eq_none h'] at h1
      have h2 := wpOp_putIf hoj (hfree j oj hoj hji hjun hnot) (fun cs b => hsel i oi cs b hi) (fun cs b => hsel j oj cs b hoj) hQ hy h1
      have hfree' : ∀ k ok, ops[k]? = some ok → k ≠ i → (listed.setIfInBounds j true).getD k true = false →
          (∀ e ∈ ok.after, Region.binds md e = true → e.on ≠ i) → oi.apart ops ok = true := fun k ok hk hki hun hno => by
        refine hfree k ok hk hki ?_ hno
        by_cases hjk : j = k
        · subst hjk; exact hjun
        · rw [getD_set_ne true hjk] at hun; exact hun
      refine wpOp_mono (fun a' w' h3 => ⟨h3.2.1, ih (listed.setIfInBounds j true) a' w' (set_sub hsub hjF) hfree' (ready_mono hr (Ne.symm hji)) h3.1 (h3.2.1.resolve_left hjN) ?_⟩) h2
      rw [Array.setIfInBounds_comm _ _ hji]
      exact h3.2.2
/-- F holds what may come up ahead of number i; N is not in it. -/
def closedM (md : Region.Mode) (ops : Array Oper) (F listed : Array Bool) (i N : Nat) : Bool :=
  (List.range ops.size).all (fun j => j == i || F.getD j false || (match ops[j]? with | some o => o.after.any (fun e => Region.binds md e && !F.getD e.on false) | none => true)) && (List.range F.size).all (fun j => decide (j < N) || !F.getD j false) && (List.range listed.size).all (fun k => !listed.getD k false || F.getD k false)
theorem takeM_lit {i : Nat} {oi : Oper} {rest : List Oper} {v : Value} {fuel : Nat} {listed : Array Bool} {a : Act} {w : World} (F : Array Bool) (hi : ops.toList.drop i = oi :: rest)
    (hs : Region.noSelect ops = true) (hf : Region.free md ops listed i = true) (hr : (Region.ready md ops listed).contains i = true) (hc : closedM md ops F listed i N = true)
    (hQ : ∀ c a w, Q (.panic c) (a.put oi.dst v) w → Q (.panic c) a w) (hy : YieldsIf P ops S oi v a) (hS : S w)
    (h : wpAnyM P md ops Q S N fuel (listed.setIfInBounds i true) (a.put oi.dst v) w) : wpAnyM P md ops Q S N (fuel + 1) listed a w := by
  unfold closedM at hc
  rw [Bool.and_eq_true, Bool.and_eq_true, List.all_eq_true, List.all_eq_true, List.all_eq_true] at hc
  obtain ⟨⟨h1, h2⟩, h3⟩ := hc
  refine wpAnyM_first (at_lit hi) (Region.noSelect_spec hs) hQ F (fun j hj => ?_) (fun j oj hoj hji hall => ?_) fuel listed a w (fun k hk => ?_) (Region.free_spec (at_lit hi) hf) (by simpa using hr) hy hS h
  · rcases Nat.lt_or_ge j F.size with h' | h'
    · have := h2 j (List.mem_range.2 h')
      rw [hj] at this
      simpa using this
    · rw [Array.getD_eq_getD_getElem?, Array.getElem?_eq_none h'] at hj
      cases hj
  · have hjl : j < ops.size := (Array.getElem?_eq_some_iff.1 hoj).1
    have := h1 j (List.mem_range.2 hjl)
    rw [hoj] at this
    simp only [Bool.or_eq_true, beq_iff_eq] at this
    rcases this with (h5 | h5) | h5
    · exact absurd h5 hji
    · exact h5
    · rw [Array.any_eq_true'] at h5
      obtain ⟨e, he, h6⟩ := h5
      rw [Bool.and_eq_true] at h6
      rw [hall e he h6.1] at h6
      cases h6.2
  · rcases Nat.lt_or_ge k listed.size with h' | h'
    · have := h3 k (List.mem_range.2 h')
      rw [hk] at this
      simpa using this
    · rw [Array.getD_eq_getD_getElem?, Array.getElem?_eq_none h'] at hk
      cases hk
/-- Each of the operations rs comes up next. -/
def AllReadyM (P : Program) (md : Region.Mode) (ops : Array Oper) (Q : Exit → Act → World → Prop) (S : World → Prop) (N fuel : Nat) (listed : Array Bool) (a : Act) (w : World) (rs : List Nat) : Prop :=
  ∀ i ∈ rs, wpOp P ops Q i (fun a' w' => (N ≤ i ∨ S w') ∧ wpAnyM P md ops Q S N fuel (listed.setIfInBounds i true) a' w') a w
theorem AllReadyM.nil {fuel : Nat} {listed : Array Bool} {a : Act} {w : World} : AllReadyM P md ops Q S N fuel listed a w [] := fun _ h => by cases h
theorem consM_lit {fuel : Nat} {listed : Array Bool} {a : Act} {w : World} {i : Nat} {o : Oper} {rest : List Oper} {rs : List Nat} (ho : ops.toList.drop i = o :: rest)
    (h : ∀ K' : Act → World → Prop, Shut (∀ a w, (N ≤ i ∨ S w) → ((N ≤ i ∨ S w) → wpAnyM P md ops Q S N fuel (listed.setIfInBounds i true) a w) → K' a w) → if Region.wanted o (yielded ops a.tmps) = true then Oper.wp P o a w K' Q else K' (a.put o.dst undef) w)
    (hs : AllReadyM P md ops Q S N fuel listed a w rs) : AllReadyM P md ops Q S N fuel listed a w (i :: rs) := fun j hj => by
  rcases List.mem_cons.1 hj with rfl | hj
  · exact wpOp_step (at_lit ho) (fun K' hK => h K' (fun a w hS hW => hK a w ⟨hS, hW hS⟩))
  · exact hs j hj
theorem wpAnyM_ready {rs : List Nat} {fuel : Nat} {listed : Array Bool} {a : Act} {w : World} (hr : Region.ready md ops listed = rs) (hne : rs ≠ [])
    (h : AllReadyM P md ops Q S N fuel listed a w rs) : wpAnyM P md ops Q S N (fuel + 1) listed a w := ⟨fun h0 => absurd (hr ▸ h0) hne, hr ▸ h⟩
theorem wpAnyM_done {listed : Array Bool} {a : Act} {w : World} (hr : Region.ready md ops listed = []) (h : Q .normal a w) : ∀ fuel, wpAnyM P md ops Q S N fuel listed a w
  | 0 => ⟨hr, h⟩
  | _ + 1 => ⟨fun _ => h, by rw [hr]; simp⟩
theorem wp_region_M {id : Nat} {a : Act} {w : World} (N : Nat) (hm : P.follows .mixedOrders = true) (hS : S w.drew)
    (h : S w.drew → wpAnyM P .any ops Q S N ops.size (Array.replicate ops.size false) a w.drew) : (Code.region id ops true).wp P Q a w :=
  wp_region_any hm (wpAny_of_M _ _ _ _ (h hS))
end
end Go.Proofs.Ythofoocknmkdjaa
