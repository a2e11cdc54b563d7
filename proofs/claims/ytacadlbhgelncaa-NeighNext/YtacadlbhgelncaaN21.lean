/-
  right of the laws of neigh: where it answers true, the interfaces may be, and the acts are in time.
-/
import Derived.Test.YtacadlbhgelncaaCk2
import Derived.Test.YtacadlbhgelncaaN20
namespace Go.Proofs.Ytacadlbhgelncaa
open Lk (Hi hcs hcs_one)
open Rk (Rt rcs rtV)
open Go.RowKit Go.Maps
set_option linter.unusedSimpArgs false
set_option linter.unusedVariables false
set_option maxRecDepth 20000
/-- An act. -/
structure Ac where
  k : Int
  g : Int
  i : Int
  a : Ad
  h : Tl
def acs (x : Ac) : List Value := [.int .i64 x.k, .int .i64 x.g, .int .i64 x.i] ++ (acells x.a ++ tcells x.h)
theorem acs_len (x : Ac) : (acs x).length = 87 := by simp [acs, acells_len, tcells_len]
/-- Acts in memory. -/
structure AsW (w : World) (ad : Option Addr) (l : List Ac) : Prop where
  lies : l = [] ∨ ∃ g o, ad = some ⟨g, o, none⟩ ∧ g < w.heap.size ∧ ∀ (j : Nat) (p : Ac), l[j]? = some p → w.rangeAt g (o + j * 87) (acs p)
  st : ∀ x ∈ l, Sm w x.h
theorem AsW.below {w w' : World} {ad : Option Addr} {l : List Ac} (h : AsW w ad l) (hb : Below w.heap.size w w') : AsW w' ad l :=
  ⟨h.lies.imp id fun ⟨g, o, e, hg, hl⟩ => ⟨g, o, e, Nat.lt_of_lt_of_le hg hb.size, fun j p hp => rangeAt_below (hl j p hp) hb hg⟩, fun x hx => (h.st x hx).below hb (Nat.le_refl _)⟩
theorem acs_a {w : World} {g o : Nat} {x : Ac} (h : w.rangeAt g o (acs x)) : w.rangeAt g (o + 3) (acells x.a) := rangeAt_left (rangeAt_right (cs := [.int .i64 x.k, .int .i64 x.g, .int .i64 x.i]) (ds := acells x.a ++ tcells x.h) h rfl)
theorem acs_h {w : World} {g o : Nat} {x : Ac} (h : w.rangeAt g o (acs x)) : w.rangeAt g (o + 19) (tcells x.h) := by
  have h1 : w.rangeAt g o (([.int .i64 x.k, .int .i64 x.g, .int .i64 x.i] ++ acells x.a) ++ tcells x.h) := by rw [List.append_assoc]; exact h
  exact rangeAt_right h1 (by simp [acells_len])
theorem acs_cells {w : World} {g o : Nat} {x : Ac} (h : w.rangeAt g o (acs x)) : w.cell? ⟨g, o, none⟩ = some (.int .i64 x.k) ∧ w.cell? ⟨g, o + 1, none⟩ = some (.int .i64 x.g) ∧ w.cell? ⟨g, o + 2, none⟩ = some (.int .i64 x.i) ∧ w.cell? ⟨g, o + 86, none⟩ = some (.slice x.h.sa x.h.sn x.h.sc) :=
  ⟨h 0 _ rfl, h 1 _ rfl, h 2 _ rfl, by have := acs_h h 67 _ (tcells_get x.h); rwa [Nat.add_assoc] at this⟩
/-- What may be of acts. -/
structure AcOk (x : Ac) : Prop where
  g0 : 0 ≤ x.g
  g1 : x.g ≤ 1073741824
  s1 : x.h.sn ≤ 120
def RightP (l : List Ic) (m : List Ac) (w : World) (e : Ending) (w' : World) : Prop := ∃ b : Bool, e = .returned (.bool b) ∧ (b = true → (∀ c ∈ l, IfOk c) ∧ l.length ≤ 8 ∧ m.length ≤ 120 ∧ ∀ x ∈ m, AcOk x) ∧ Below w.heap.size w w'
theorem all_step {α : Type} {P : α → Prop} {l : List α} {j : Nat} (h : ∀ x ∈ l.take j, P x) (hj : j < l.length) (hp : P l[j]) : ∀ x ∈ l.take (j + 1), P x := by
  intro x hx
  rw [List.take_succ_eq_append_getElem hj, List.mem_append] at hx
  rcases hx with hx | hx
  · exact h x hx
  · simp at hx; rw [hx]; exact hp
set_option maxHeartbeats 16000000 in
theorem right_any (ad : Option Addr) (c : Nat) (l : List Ic) (am : Option Addr) (cm : Nat) (m : List Ac) (w : World) (hl : CsW w ad l) (hc : l.length ≤ c) (hcm : c ≤ maxLen) (hm : AsW w am m) (hmm : m.length ≤ maxLen) :
    Calls Try.prog 8 #[.slice ad l.length c, .slice am m.length cm] w (RightP l m w) := by
  have HLc : Hid (l.length ≤ c ∧ c ≤ 9223372036854775807) := ⟨hc, hcm⟩
  have HMm : Hid (m.length ≤ 9223372036854775807) := hmm
  clear hc hcm hmm
  go_enter Try.func8, Try.ntmps8
  go_wp2_with fail
  go_loopw [5] (fun i wr => ∃ j : Nat, j ≤ l.length ∧ j ≤ 9 ∧ i = .int .i64 j ∧ (∀ x ∈ l.take j, IfOk x) ∧ Below w.heap.size w wr) (fun i _ => 9 - (intOf i).toNat)
  case atStart => exact ⟨0, by omega, by omega, rfl, by simp, Below.refl _ _⟩
  case round =>
    obtain ⟨j, hj, hj9, rfl, hok, hb⟩ := hrel
    by_cases hlt : j < l.length ∧ j ≤ 8
    · obtain ⟨hlt, hj8⟩ := hlt
      rcases (hl.below hb).lies with h0 | ⟨g, o, rfl, hg, hcs⟩
      · rw [h0] at hlt; simp at hlt
      have hq := hcs j l[j] (List.getElem?_eq_getElem hlt)
      have HS : Hid (IfOk l[j] → ∀ x ∈ l.take (j + 1), IfOk x) := fun h => all_step hok hlt h
      have HP := rcheck_one l[j] g (o + j * 43)
      have hji : (j : Int) < (l.length : Int) := by omega
      have hj8' : (j : Int) ≤ 8 := by omega
      have hw : wrap64 ((j : Int) + 1) = (j : Int) + 1 := by unfold wrap64; omega
      have HJ : Hid (j + 1 ≤ l.length ∧ j + 1 ≤ 9) := ⟨by omega, by omega⟩
      have hjc : (j : Int) + 1 ≤ (c : Int) := by have := HLc.out; omega
      have hj0 : (0 : Int) ≤ (j : Int) := by omega
      have hcj : ¬ c = j := by have := HLc.out; omega
      generalize l[j] = p at *
      clear hcs hok hlt hj hj9 hj8
      go_upto_region 5 with (first
        | (have kk := r2; refine stG1 (.tmp 6) (.tmp 24) rfl rfl g2 _ _ rfl rfl r2 ?_; intro W3 g3 r3)
        | (refine alG infoGz rfl rfl ?_; intro g2 W2 hge2 hgl2 hB2 r2)
        | ((with_reducible refine bdG (T := 71) (v := .agg (gcs (some ⟨g, o + j * 43, none⟩) (c - j)).toArray) [(0, .tmp 18), (1, .tmp 23), (4, .const (.int .i64 1)), (5, .const (.int .i64 1)), (6, .const (.int .i64 1)), (7, .const (.int .i64 1))] ?_ ?_ ?_ ?_); (focus rfl); (focus rfl); (focus exact bdG1 _ _ _))
        | ((with_reducible refine bdG (T := 32) (v := .agg (icells oneI).toArray) [(7, .const (.int .u8 1))] ?_ ?_ ?_ ?_); (focus rfl); (focus rfl); (focus exact bdI1 _)))
      have hb3 : Below w.heap.size w W3 := bt hb (grown_below g3 hB2 hge2 hB2.size)
      have hq3 : W3.rangeAt g (o + j * 43) (ics p) := rangeAt_below hq (grown_below g3 hB2 hge2 hB2.size) hg
      have hg3 : g < W3.heap.size := Nat.lt_of_lt_of_le hg (grown_below g3 hB2 hge2 hB2.size).size
      clear hq hB2 g3 r2 kk hge2 hgl2
      go_wp2_with (first
        | (go_at_call 22; refine (HP _ _ hg3 hq3).mono ?_; rintro e w4 ⟨z, rfl, hz, hn⟩; by_cases hz0 : z = 0)
        | (refine ldG (.tmp 6) rfl rfl _ _ _ rfl r3 ?_))
      · go_roundw
        case rel => exact ⟨j + 1, HJ.out.1, HJ.out.2, by first | rfl | go_num, HS.out (hz hz0), bt hb3 hn⟩
        case measure => have := HJ.out; simp [intOf]; omega
      · go_ret
        exact ⟨false, rfl, fun h => absurd h (by decide), bt hb3 hn⟩
    · have hend : Hid (l.length ≤ 8 → ∀ x ∈ l, IfOk x) := fun h8 x hx => by
        have : j = l.length := by omega
        rw [this, List.take_length] at hok
        exact hok x hx
      have hM := hm.below hb
      have hcnd : (decide ((j : Int) < (l.length : Int)) && decide ((j : Int) ≤ 8)) = false := by simp; omega
      have hlen8 : Hid (¬ (j < l.length ∧ j ≤ 8)) := hlt
      clear hok
      have hgo : ∀ (P : Prop), ((¬ (j : Int) < (l.length : Int)) → P) → ((j : Int) < (l.length : Int) → ¬ (j : Int) ≤ 8 → P) → P := fun P h1 h2 => by
        by_cases h : (j : Int) < (l.length : Int)
        · exact h2 h (by omega)
        · exact h1 h
      refine hgo _ (fun k1 => ?_) (fun k1 k2 => ?_)
      · go_wp2_with fail
        go_loopw [7] (fun i wr2 => ∃ q : Nat, q ≤ m.length ∧ q ≤ 121 ∧ i = .int .i64 q ∧ (∀ x ∈ m.take q, AcOk x) ∧ wr = wr2) (fun i _ => 121 - (intOf i).toNat)
        case atStart => exact ⟨0, by omega, by omega, rfl, by simp, rfl⟩
        case round =>
          obtain ⟨q, hq, hq9, rfl, hqk, rfl⟩ := hrel
          by_cases hlq : q < m.length ∧ q ≤ 120
          · obtain ⟨hlq, hq8⟩ := hlq
            rcases hM.lies with h0 | ⟨mg, mo, rfl, hmg, hcs⟩
            · rw [h0] at hlq; simp at hlq
            have hx := acs_cells (hcs q m[q] (List.getElem?_eq_getElem hlq))
            have HS : Hid (AcOk m[q] → ∀ x ∈ m.take (q + 1), AcOk x) := fun h => all_step hqk hlq h
            have hqi : (q : Int) < (m.length : Int) := by omega
            have hq8' : (q : Int) ≤ 120 := by omega
            have hw : wrap64 ((q : Int) + 1) = (q : Int) + 1 := by unfold wrap64; omega
            have HJ : Hid (q + 1 ≤ m.length ∧ q + 1 ≤ 121) := ⟨by omega, by omega⟩
            generalize m[q] = p at *
            obtain ⟨x0, x1, x2, x3⟩ := hx
            clear hcs hqk hlq hq hq9 hq8 hcnd hgo
            by_cases g0 : p.g < 0
            · go_wp2_with fail
              go_ret
              exact ⟨false, rfl, fun h => absurd h (by decide), hb⟩
            · by_cases g1 : p.g > 1073741824
              · go_wp2_with fail
                go_ret
                exact ⟨false, rfl, fun h => absurd h (by decide), hb⟩
              · by_cases g2 : (p.h.sn : Int) > 120
                · go_wp2_with fail
                  go_ret
                  exact ⟨false, rfl, fun h => absurd h (by decide), hb⟩
                · go_wp2_with fail
                  go_roundw
                  case rel => exact ⟨q + 1, HJ.out.1, HJ.out.2, by first | rfl | go_num, HS.out ⟨by omega, by omega, by omega⟩, trivial⟩
                  case measure => have := HJ.out; simp [intOf]; omega
          · have HE : Hid (l.length ≤ 8 → m.length ≤ 120 → (∀ c ∈ l, IfOk c) ∧ l.length ≤ 8 ∧ m.length ≤ 120 ∧ ∀ x ∈ m, AcOk x) := fun h1 h2 => by
              have : q = m.length := by omega
              rw [this, List.take_length] at hqk
              exact ⟨hend.out h1, h1, h2, hqk⟩
            have hgo2 : ∀ (P : Prop), ((¬ (q : Int) < (m.length : Int)) → P) → ((q : Int) < (m.length : Int) → ¬ (q : Int) ≤ 120 → P) → P := fun P h1 h2 => by
              by_cases h : (q : Int) < (m.length : Int)
              · exact h2 h (by omega)
              · exact h1 h
            clear hqk hend hlq hlen8 hcnd hgo hl hm hM
            by_cases e1 : (l.length : Int) ≤ 8
            · by_cases e2 : (m.length : Int) ≤ 120
              · refine hgo2 _ (fun q1 => ?_) (fun q1 q2 => ?_)
                · go_wp2_with fail
                  go_ret
                  exact ⟨true, rfl, fun _ => HE.out (by omega) (by omega), hb⟩
                · go_wp2_with fail
                  go_ret
                  exact ⟨true, rfl, fun _ => HE.out (by omega) (by omega), hb⟩
              · refine hgo2 _ (fun q1 => ?_) (fun q1 q2 => ?_)
                · go_wp2_with fail
                  go_ret
                  exact ⟨false, rfl, fun h => absurd h (by decide), hb⟩
                · go_wp2_with fail
                  go_ret
                  exact ⟨false, rfl, fun h => absurd h (by decide), hb⟩
            · refine hgo2 _ (fun q1 => ?_) (fun q1 q2 => ?_)
              · go_wp2_with fail
                go_ret
                exact ⟨false, rfl, fun h => absurd h (by decide), hb⟩
              · go_wp2_with fail
                go_ret
                exact ⟨false, rfl, fun h => absurd h (by decide), hb⟩
      · go_wp2_with fail
        go_loopw [7] (fun i wr2 => ∃ q : Nat, q ≤ m.length ∧ q ≤ 121 ∧ i = .int .i64 q ∧ (∀ x ∈ m.take q, AcOk x) ∧ wr = wr2) (fun i _ => 121 - (intOf i).toNat)
        case atStart => exact ⟨0, by omega, by omega, rfl, by simp, rfl⟩
        case round =>
          obtain ⟨q, hq, hq9, rfl, hqk, rfl⟩ := hrel
          by_cases hlq : q < m.length ∧ q ≤ 120
          · obtain ⟨hlq, hq8⟩ := hlq
            rcases hM.lies with h0 | ⟨mg, mo, rfl, hmg, hcs⟩
            · rw [h0] at hlq; simp at hlq
            have hx := acs_cells (hcs q m[q] (List.getElem?_eq_getElem hlq))
            have HS : Hid (AcOk m[q] → ∀ x ∈ m.take (q + 1), AcOk x) := fun h => all_step hqk hlq h
            have hqi : (q : Int) < (m.length : Int) := by omega
            have hq8' : (q : Int) ≤ 120 := by omega
            have hw : wrap64 ((q : Int) + 1) = (q : Int) + 1 := by unfold wrap64; omega
            have HJ : Hid (q + 1 ≤ m.length ∧ q + 1 ≤ 121) := ⟨by omega, by omega⟩
            generalize m[q] = p at *
            obtain ⟨x0, x1, x2, x3⟩ := hx
            clear hcs hqk hlq hq hq9 hq8 hcnd hgo
            by_cases g0 : p.g < 0
            · go_wp2_with fail
              go_ret
              exact ⟨false, rfl, fun h => absurd h (by decide), hb⟩
            · by_cases g1 : p.g > 1073741824
              · go_wp2_with fail
                go_ret
                exact ⟨false, rfl, fun h => absurd h (by decide), hb⟩
              · by_cases g2 : (p.h.sn : Int) > 120
                · go_wp2_with fail
                  go_ret
                  exact ⟨false, rfl, fun h => absurd h (by decide), hb⟩
                · go_wp2_with fail
                  go_roundw
                  case rel => exact ⟨q + 1, HJ.out.1, HJ.out.2, by first | rfl | go_num, HS.out ⟨by omega, by omega, by omega⟩, trivial⟩
                  case measure => have := HJ.out; simp [intOf]; omega
          · have HE : Hid (l.length ≤ 8 → m.length ≤ 120 → (∀ c ∈ l, IfOk c) ∧ l.length ≤ 8 ∧ m.length ≤ 120 ∧ ∀ x ∈ m, AcOk x) := fun h1 h2 => by
              have : q = m.length := by omega
              rw [this, List.take_length] at hqk
              exact ⟨hend.out h1, h1, h2, hqk⟩
            have hgo2 : ∀ (P : Prop), ((¬ (q : Int) < (m.length : Int)) → P) → ((q : Int) < (m.length : Int) → ¬ (q : Int) ≤ 120 → P) → P := fun P h1 h2 => by
              by_cases h : (q : Int) < (m.length : Int)
              · exact h2 h (by omega)
              · exact h1 h
            clear hqk hend hlq hlen8 hcnd hgo hl hm hM
            by_cases e1 : (l.length : Int) ≤ 8
            · by_cases e2 : (m.length : Int) ≤ 120
              · refine hgo2 _ (fun q1 => ?_) (fun q1 q2 => ?_)
                · go_wp2_with fail
                  go_ret
                  exact ⟨true, rfl, fun _ => HE.out (by omega) (by omega), hb⟩
                · go_wp2_with fail
                  go_ret
                  exact ⟨true, rfl, fun _ => HE.out (by omega) (by omega), hb⟩
              · refine hgo2 _ (fun q1 => ?_) (fun q1 q2 => ?_)
                · go_wp2_with fail
                  go_ret
                  exact ⟨false, rfl, fun h => absurd h (by decide), hb⟩
                · go_wp2_with fail
                  go_ret
                  exact ⟨false, rfl, fun h => absurd h (by decide), hb⟩
            · refine hgo2 _ (fun q1 => ?_) (fun q1 q2 => ?_)
              · go_wp2_with fail
                go_ret
                exact ⟨false, rfl, fun h => absurd h (by decide), hb⟩
              · go_wp2_with fail
                go_ret
                exact ⟨false, rfl, fun h => absurd h (by decide), hb⟩
end Go.Proofs.Ytacadlbhgelncaa
