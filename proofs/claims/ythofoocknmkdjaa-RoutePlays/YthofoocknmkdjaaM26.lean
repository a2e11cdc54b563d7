/-
  A region that goes on under another condition; and what the law's own reckoning makes of the document's list (plain facts).
-/
import Derived.Test.YthofoocknmkdjaaM25
namespace Go.Proofs.Ythofoocknmkdjaa
open Go.RowKit Go.Maps Go.Shelf
set_option linter.unusedSimpArgs false
set_option linter.unusedVariables false
section
variable {P : Program} {ops : Array Oper} {Q : Exit → Act → World → Prop} {md : Region.Mode} {S S2 : World → Prop} {N : Nat}
/-- Behind operation N the region goes on under a condition of its own. -/
theorem wpAnyM_of_H : ∀ (fuel : Nat) (listed : Array Bool) (a : Act) (w : World), (∀ i, listed.getD i true = false → N ≤ i) → wpAnyH P md ops Q S2 fuel listed a w → wpAnyM P md ops Q S N fuel listed a w
  | 0, _, _, _, _, h => h
  | fuel + 1, listed, a, w, hN, h => ⟨h.1, fun i hi => wpOp_mono (fun a' w' h' => ⟨.inl (hN i (mem_ready.1 hi).1), wpAnyM_of_H fuel _ a' w' (fun k hk => by
      by_cases e : i = k
      · subst e; exact hN i (mem_ready.1 hi).1
      · rw [getD_set_ne true e] at hk; exact hN k hk) h'.2⟩) (h.2 i hi)⟩
theorem later_lit {listed : Array Bool} (h : (List.range N).all (fun k => listed.getD k true) = true) : ∀ i, listed.getD i true = false → N ≤ i := fun i hi => by
  rcases Nat.lt_or_ge i N with h1 | h1
  · have := List.all_eq_true.1 h i (List.mem_range.2 h1)
    rw [hi] at this
    cases this
  · exact h1
end
theorem costF_same {cost : Ro → Int} {n : Ro} (h : costB cost n = false) : costF cost n = n := by
  unfold costB at h
  have e : cost n = n.m := by simpa using h
  unfold costF
  rw [e]
  rfl
theorem mapR_cost (cost : Ro → Int) (L : List Ro) : mapR (costF cost) (costB cost) L = L.map (costF cost) := by
  unfold mapR
  refine List.map_congr_left fun n _ => ?_
  by_cases h : costB cost n = true
  · rw [if_pos h]
  · rw [if_neg h, costF_same (by simpa using h)]
theorem rel_cost {L K : List Ro} (h : Rel L K) (cost : Ro → Int) : Rel (mapR (costF cost) (costB cost) L) (K.map (costF cost)) := by
  rw [mapR_cost]
  exact rel_map h (costF cost) fun n => rfl
theorem pairsS_snoc (G : List Ro) (m : Ro) : pairsS (G ++ [m]) = stepP (pairsS G) m := by
  unfold pairsS
  rw [List.foldl_append]
  rfl
theorem stepP_last {x : List Pr × Option Pr} {n : Ro} (h : x.2 = x.1.getLast?) : (stepP x n).2 = (stepP x n).1.getLast? := by
  obtain ⟨l, o⟩ := x
  dsimp only at h
  unfold stepP
  cases o with
  | none => simp
  | some q =>
    dsimp only
    by_cases hq : qB q n.p = true
    · rw [if_pos hq, ← h, qB_iff.1 hq]
    · rw [if_neg hq]; simp
/-- The pair of the last one is the last pair. -/
theorem pairsS_lastp (G : List Ro) : (pairsS G).2 = (pairsS G).1.getLast? := by
  have : ∀ (G : List Ro) (x : List Pr × Option Pr), x.2 = x.1.getLast? → (G.foldl stepP x).2 = (G.foldl stepP x).1.getLast? := by
    intro G
    induction G with
    | nil => intro x h; exact h
    | cons n G ih => intro x h; exact ih _ (stepP_last h)
  exact this G _ rfl
theorem want_nil {G : List Ro} (m : Ro) (h : pairsR G = []) : pairsR (G ++ [m]) = [m.p] := by
  have h2 := pairsS_lastp G
  unfold pairsR at h ⊢
  rw [h] at h2
  rw [pairsS_snoc]
  unfold stepP
  rw [h2, h]
  simp
theorem want_snoc {G : List Ro} (m : Ro) {p : Pr} (h : (pairsR G).getLast? = some p) : pairsR (G ++ [m]) = if qB p m.p = true then pairsR G else pairsR G ++ [m.p] := by
  have h2 := pairsS_lastp G
  unfold pairsR at h ⊢
  rw [h] at h2
  rw [pairsS_snoc]
  unfold stepP
  rw [h2]
end Go.Proofs.Ythofoocknmkdjaa

namespace Go.Proofs.Ythofoocknmkdjaa
open Go.RowKit Go.Maps Go.Shelf
set_option linter.unusedSimpArgs false
set_option linter.unusedVariables false
set_option maxRecDepth 20000
theorem own_rows {α : Type} {k : Kd α} {W W' : World} {B : Nat} {v : Value} {G : List α} (h : k.Own W B v G) (hk : ∀ g cs, Row W g k.T cs → Row W' g k.T cs) : k.Own W' B v G := by
  refine ⟨h.1, ?_⟩
  rcases h.2 with e | ⟨g, cap, cur, e, hB, hh, hl⟩
  · exact .inl e
  · refine .inr ⟨g, cap, cur, e, hB, ?_, hl⟩
    have h1 : Row W g k.T cur.toList := by unfold Row; rw [hh]
    have h2 := hk _ _ h1
    unfold Row at h2
    rw [h2]
theorem own_kept {α : Type} {k : Kd α} {W W' : World} {B : Nat} {v : Value} {G : List α} (h : k.Own W B v G) (hk : Kept W W') : k.Own W' B v G := own_rows h fun g cs hr => hk g _ cs hr
theorem own_rturn {α : Type} {k : Kd α} {W W' : World} {B B' r : Nat} {v : Value} {G : List α} {cs : List Value} (h : k.Own W B v G) (ht : RTurn W W' B' r) (hr : Row W r 30 cs) (h1 : k.T ≠ 41) (h2 : k.T ≠ 30) : k.Own W' B v G :=
  own_rows h fun g ds hg => ht.row hg (row_ne hg hr h2) h1
theorem ps_of {w' : World} {B : Nat} {ad : Option Addr} {n cc : Nat} {G : List Pr} (h : kP.Own w' B (.slice ad n cc) G) : n = G.length ∧ PssW w' ad G := by
  obtain ⟨a5, c5, e5, s5⟩ := PssW.own h
  cases e5
  exact ⟨rfl, s5⟩
theorem costM_ok {n : Ro} (h : n.ok) : (costF plusC n).ok := ⟨h.q0, h.q1, h.r0, h.r1, plus0 n, plus1 n h, h.u0, h.u1, h.d0, h.d1⟩
section
variable {w : World} {t mb r : Nat} {most : Int} {L K K1 : List Ro} {W : World}
theorem sd_reckon2 (c : Cn w t mb r) (s : Sd w t mb r most L K1 W) (hr : Rel L K) :
    Calls Try.prog 29 #[.pointer (some ⟨t, 0, none⟩), .func (.func 31) #[] #[]] W fun e w' => ∃ a1 c1, e = .returned (.slice a1 (pairsR (chgR plusC K)).length c1) ∧ kP.Own w' w.heap.size (.slice a1 (pairsR (chgR plusC K)).length c1) (pairsR (chgR plusC K)) ∧ Sd w t mb r most (mapR (costF plusC) (costB plusC) L) K1 w' ∧ Kept W w' := by
  refine (reckonP_any s.tb).mono ?_
  rintro e w' ⟨a1, c1, G, rfl, hp, ha, hO, hT⟩
  obtain rfl := rel_list hr hp ha
  exact ⟨a1, c1, rfl, Kd.own_up hO s.be.size, s.turn c hT (s.one.mapR _ _ (fun _ => rfl) (fun _ a => a))⟩
theorem sd_rset (c : Cn w t mb r) {j : Nat} (s : Sd w t mb r most L (upTo (costF plusC) j K) W) (hj : j < K.length) (hok : K[j].ok) :
    Calls Try.prog 37 #[.pointer (some ⟨r, 0, none⟩), .int .i64 j, .int .u16 (plusC K[j])] W fun e w' => e = .returned (.bool (costB plusC K[j])) ∧ Sd w t mb r most L (upTo (costF plusC) (j + 1) K) w' ∧ RTurn W w' w.heap.size r := by
  refine (rsetmetric_any s.rb (upTo_at hj) (plusC K[j]) (costM_ok hok)).mono ?_
  rintro e w' ⟨rfl, hR, hT⟩
  refine ⟨?_, ?_, hT⟩
  · unfold costB
    rw [decide_eq_decide.2 (eq_comm (a := K[j].m) (b := plusC K[j]))]
  · rw [← upTo_set hj]
    exact s.rturn c hR hT
end
theorem chg_at {K : List Ro} {j : Nat} (hj : j < K.length) (h : costB plusC K[j] = false) : chgR plusC (K.take (j + 1)) = chgR plusC (K.take j) := by rw [chg_take hj, if_neg (by rw [h]; decide)]
theorem chg_on {K : List Ro} {j : Nat} (hj : j < K.length) (h : costB plusC K[j] = true) : chgR plusC (K.take (j + 1)) = chgR plusC (K.take j) ++ [costF plusC K[j]] := by rw [chg_take hj, if_pos h]
theorem want_len (K : List Ro) (j : Nat) (h : j ≤ K.length) : (pairsR (chgR plusC (K.take j))).length ≤ j := by
  have h1 := pairsS_len (chgR plusC (K.take j)) _ (Nat.le_refl _)
  rw [List.take_length] at h1
  refine Nat.le_trans h1 ?_
  unfold chgR
  rw [List.length_map]
  refine Nat.le_trans (List.length_filter_le _ _) ?_
  rw [List.length_take]
  omega
end Go.Proofs.Ythofoocknmkdjaa

namespace Go.Proofs.Ythofoocknmkdjaa
open Go.RowKit Go.Maps Go.Shelf
set_option linter.unusedSimpArgs false
set_option linter.unusedVariables false
set_option maxRecDepth 20000
theorem upTo_done {f : Ro → Ro} {j : Nat} {K : List Ro} (h : j < K.length) : (upTo f (j + 1) K)[j]? = some (f K[j]) := by
  rw [← upTo_set h, List.getElem?_set_self (by rw [upTo_len]; exact h)]
theorem ownP_row {w : World} {B : Nat} {v : Value} {L : List Pr} (h : kP.Own w B v L) {b : Nat} (e : v.ownBlock = some b) : ∃ cs, Row w b 36 cs ∧ B ≤ b := by
  rcases h.2 with ⟨e2, _⟩ | ⟨g', cap, cur, e2, hB, hh, _⟩
  · rw [e2] at e; cases e
  · rw [e2] at e
    have e3 : g' = b := by simpa [Value.ownBlock] using e
    subst e3
    refine ⟨cur.toList, ?_, hB⟩
    unfold Row
    rw [hh]
    rfl
section
variable {w : World} {t mb r : Nat} {most : Int} {L K : List Ro} {W : World}
theorem Sd.grown {W' : World} {o : Option Nat} (s : Sd w t mb r most L K W) (hg : W.grownBy W' o) (h1 : ∀ g, o = some g → ∃ cs, Row W g 36 cs ∧ w.heap.size ≤ g) : Sd w t mb r most L K W' := by
  obtain ⟨ad, c, hr, hO⟩ := s.rb.ex
  refine ⟨⟨(hg.block t s.tb.row.lt fun e => ?_).trans s.tb.row, s.tb.map.same (hg.block mb s.tb.map.lt fun e => ?_), s.tb.nok, s.tb.ll⟩, s.one, ⟨⟨ad, c, (hg.block r hr.lt fun e => ?_).trans hr, World.ownsRow.kept hO hg ?_⟩, s.rb.ok, s.rb.ll⟩, below_keepO s.be hg (fun g hlt e => ?_) s.be.size⟩
  · obtain ⟨cs, h2, _⟩ := h1 t e.symm
    exact row_ne h2 s.tb.row (by decide) rfl
  · obtain ⟨cs, h2, _⟩ := h1 mb e.symm
    exact s.tb.map.ne_row h2 rfl
  · obtain ⟨cs, h2, _⟩ := h1 r e.symm
    exact row_ne h2 hr (by decide) rfl
  · cases o with
    | none =>
      cases hv : (Value.slice ad K.length c).ownBlock with
      | none => exact .inl rfl
      | some b => exact .inr (by simp)
    | some g =>
      obtain ⟨cs, h2, _⟩ := h1 g rfl
      exact .inr (own_ne_row hO h2 (by decide))
  · obtain ⟨cs, _, h3⟩ := h1 g e
    omega
theorem reck_step (c : Cn w t mb r) {j : Nat} (s : Sd w t mb r most L (upTo (costF plusC) j K) W) (hj : j < K.length) (hok : K[j].ok) {a1 : Option Addr} {n1 c1 : Nat} {G : List Pr} (hO : kP.Own W w.heap.size (.slice a1 n1 c1) G) :
    Calls Try.prog 37 #[.pointer (some ⟨r, 0, none⟩), .int .i64 j, .int .u16 (plusC K[j])] W fun e w' => e = .returned (.bool (costB plusC K[j])) ∧ Sd w t mb r most L (upTo (costF plusC) (j + 1) K) w' ∧ kP.Own w' w.heap.size (.slice a1 n1 c1) G := by
  obtain ⟨_, _, hr, _⟩ := s.rb.ex
  refine (sd_rset c s hj hok).mono ?_
  rintro e w' ⟨rfl, s', hT⟩
  exact ⟨rfl, s', own_rturn hO hT hr (by decide) (by decide)⟩
theorem reck_at {j : Nat} (s : Sd w t mb r most L (upTo (costF plusC) (j + 1) K) W) (hj : j < K.length) : ∃ g c, ∀ V, Below W.heap.size W V → V.cell? ⟨r, 1, none⟩ = some (.slice (some ⟨g, 0, none⟩) K.length c) ∧ LQ V g (j * 81) K[j].p := by
  obtain ⟨g, c, cs, h1, hgr, hg, hrg, hl, hlen, hw⟩ := s.rb.at (upTo_done hj)
  rw [upTo_len] at h1
  exact ⟨g, c, fun V hV => ⟨(h1.below hV h1.lt).cell 1, (hl.below hV hg).q⟩⟩
theorem want_at {a1 : Option Addr} {n1 c1 : Nat} {G : List Pr} {p : Pr} (hO : kP.Own W w.heap.size (.slice a1 n1 c1) G) (hG : G.getLast? = some p) : ∃ g, a1 = some ⟨g, 0, none⟩ ∧ n1 = G.length ∧ 0 < G.length ∧ ∀ V, Below W.heap.size W V → LQ V g ((G.length - 1) * 34) p := by
  obtain ⟨e, hS⟩ := ps_of hO
  have hne : G ≠ [] := by rintro rfl; simp at hG
  obtain ⟨g, e2, hg, hc⟩ := hS.lies hne
  refine ⟨g, e2, e, List.length_pos_iff.2 hne, fun V hV => rangeAt_below (hc (G.length - 1) p ?_) hV hg⟩
  rw [← hG, List.getLast?_eq_getElem?]
end
end Go.Proofs.Ythofoocknmkdjaa
