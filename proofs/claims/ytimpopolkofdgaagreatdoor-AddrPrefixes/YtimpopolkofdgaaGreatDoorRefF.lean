/-
  The document's four, for every text.
-/
import Derived.Test.YtimpopolkofdgaaGreatDoorRefE
import Derived.Test.YtimpopolkofdgaaGreatDoorPoints
namespace Go.Proofs.YtimpopolkofdgaaGreatDoor
open Go.RowKit
set_option linter.unusedSimpArgs false
set_option maxRecDepth 20000
/-! ### The document's four -/
def fourV (s : List UInt8) : Value := match pts s with
  | some a => .tuple #[(Value.agg (acells a).toArray), .bool true]
  | none => .tuple #[(Value.agg (acells zeroA).toArray), .bool false]
theorem ptsGo_len : ∀ (ps : List (List UInt8)) (acc r : List UInt8), ptsGo ps acc = some r → acc.length + ps.length = 4
  | [], acc, r, h => by
    simp only [ptsGo] at h
    split at h
    · simpa
    · cases h
  | p :: ps, acc, r, h => by
    simp only [ptsGo] at h
    split at h
    · split at h
      · have := ptsGo_len ps _ r h
        simp at this ⊢
        omega
      · cases h
    · cases h
theorem own_s {w : World} {B : Nat} {v : Value} {n : Nat} {L : List (List UInt8)} (h : w.ownsRow B 9 1 v n (scells L)) : ∃ a c, v = .slice a n c ∧ (a = none → n = 0) ∧ ∀ ad, a = some ad → ∀ (j : Nat) p, L[j]? = some p → w.cell? (ad.add j) = some (.string (str p)) := by
  rcases h.2 with ⟨rfl, rfl⟩ | ⟨g, cap, cur, rfl, hb, hh, hr⟩
  · exact ⟨none, 0, rfl, fun _ => rfl, fun _ h => by cases h⟩
  · refine ⟨some ⟨g, 0, none⟩, cap, rfl, (fun h => by cases h), fun ad had j p hp => ?_⟩
    cases had
    exact h.cells rfl j _ (by simp [scells, hp])
theorem pts_four {s : List UInt8} (h : (pieces 46 s).length ≠ 4) : pts s = none := by
  unfold pts
  cases hr : ptsGo (pieces 46 s) [] with
  | none => rfl
  | some r => exact absurd (by simpa using ptsGo_len _ _ _ hr) h
theorem rfour_any (t : ByteArray) (w : World) (hlim : t.size ≤ 1000000) : Calls Tryz.prog 51 #[.string t] w (Gives w (fourV t.data.toList)) := by
  have hCut := fun W => rcut_any t 46 W hlim
  have HV : Hid (∀ r, pts t.data.toList = r → fourV t.data.toList = match r with | some a => .tuple #[(Value.agg (acells a).toArray), .bool true] | none => .tuple #[(Value.agg (acells zeroA).toArray), .bool false]) := fun r h => by unfold fourV; rw [h]
  have H4 : Hid ((pieces 46 t.data.toList).length ≠ 4 → pts t.data.toList = none) := pts_four
  have HP : Hid (pts t.data.toList = (ptsGo (pieces 46 t.data.toList) []).map ptA) := rfl
  generalize fourV t.data.toList = V at *
  generalize pts t.data.toList = R at *
  generalize pieces 46 t.data.toList = ps at *
  have rz : Row ((w.alloc (.cells (acells zeroA).toArray 23)).alloc (.cells (acells (ptA [])).toArray 23)) w.heap.size 23 (acells zeroA) := (Row.new w _ _).alloc _
  have ra : Row ((w.alloc (.cells (acells zeroA).toArray 23)).alloc (.cells (acells (ptA [])).toArray 23)) (w.heap.size + 1) 23 (acells (ptA [])) := by
    have := Row.new (w.alloc (.cells (acells zeroA).toArray 23)) 23 (acells (ptA []))
    simp only [World.size_alloc] at this
    exact this
  have hb : Below w.heap.size w ((w.alloc (.cells (acells zeroA).toArray 23)).alloc (.cells (acells (ptA [])).toArray 23)) := bt (ba _ _) (ba _ _)
  go_enter Tryz.func51, Tryz.ntmps51
  go_wp2_with (first
    | (go_at_call 60; refine (hCut _).mono ?_; rintro e w1 ⟨v, rfl, hO, hB⟩; replace rz := rz.below hB (by simp; omega); replace ra := ra.below hB (by simp); replace hb := hb.trans (hB.mono (by simp; omega)); simp only [World.size_alloc] at hO; clear hB; obtain ⟨sa, sc, rfl, hsn, hsc⟩ := own_s hO; generalize hN : ps.length = N at *; cases h4 : ((N : Int) != 4))
    | (have kk := h4; clear kk; refine stA (.tmp 2) (.tmp 15) (by rfl) rfl _ _ zeroA rfl rfl (rz.there (by rw [acells_len]; omega)) ?_))
  · have h4' : N = 4 := by simp at h4; omega
    subst h4'
    clear h4 hsc H4 hCut
    have HLn : Hid (ps.length = 4) := hN
    clear hN
    go_loopw [6] (fun i wr => ∃ (j : Nat) (acc : List UInt8), j ≤ 4 ∧ i = .int .i64 j ∧ acc.length = j ∧ ptsGo (ps.drop j) acc = ptsGo ps [] ∧ Row wr w.heap.size 23 (acells zeroA) ∧ Row wr (w.heap.size + 1) 23 (acells (ptA acc)) ∧ wr.ownsRow (w.heap.size + 1 + 1) 9 1 (.slice sa 4 sc) 4 (scells ps) ∧ Below w.heap.size w wr) (fun i _ => 4 - (intOf i).toNat)
    case atStart => exact ⟨0, [], by omega, rfl, rfl, rfl, rz, ra, hO, hb⟩
    case round =>
      clear rz ra hO hb
      rename_i wr
      obtain ⟨j, acc, hj, rfl, hal, hg, rz, ra, hO, hb⟩ := hrel
      by_cases hlt : j < 4
      · obtain ⟨p, hp⟩ : ∃ p, ps[j]? = some p := ⟨_, List.getElem?_eq_getElem (by rw [HLn.out]; exact hlt)⟩
        obtain ⟨a', c', he, _, hcs⟩ := own_s hO
        cases he
        have hdr : ps.drop j = p :: ps.drop (j + 1) := by
          obtain ⟨h1, h2⟩ := List.getElem?_eq_some_iff.1 hp
          rw [List.drop_eq_getElem_cons h1, h2]
        rw [hdr] at hg
        simp only [ptsGo] at hg
        have hD := rdec_any (str p)
        rw [show (str p).data.toList = p from rfl, numV] at hD
        cases sa with
        | none => exact absurd (hsn rfl) (by omega)
        | some ad =>
          have hc := hcs ad rfl j p hp
          clear hcs hdr hp hsn
          cases hnum : numS p with
          | none =>
            rw [hnum] at hD hg
            have e4 : R = none := by rw [HP.out, ← hg]; rfl
            clear hg hnum HP
            go_wp2_with (first
              | (go_at_call 61; refine (hD _).mono ?_; rintro e w' ⟨rfl, rfl⟩)
              | (refine stA (.tmp 2) (.tmp 34) (by rfl) rfl _ _ zeroA rfl rfl (rz.there (by rw [acells_len]; omega)) ?_))
            exact bodyPost_ret (retCT rfl _ _ 0 rfl (lvA (LA.stored (rz.there (by rw [acells_len]; omega))))) rfl ⟨by rw [HV.out none e4]; rfl, below_setCells _ (Nat.le_refl _) _ _ _ hb⟩
          | some u =>
            rw [hnum] at hD hg
            dsimp only at hD hg
            by_cases h255 : u ≤ 255
            · have h255' : ¬ (255 : Int) < (u : Int) := by omega
              rw [if_pos ⟨h255, by omega⟩] at hg
              have hb8 : (UInt8.ofNat u).toNat = u := by simp; omega
              have hset := ptA_set acc (UInt8.ofNat u) (by omega)
              rw [hal, hb8] at hset
              have hw8 : IntKind.u8.wrap (u : Int) = (u : Int) := by simp [IntKind.wrap, IntKind.signed, IntKind.bits]; omega
              obtain ⟨x, hx⟩ : ∃ x, (acells (ptA acc))[12 + j]? = some x := ⟨_, List.getElem?_eq_getElem (by rw [acells_len]; omega)⟩
              have hc4 : wr.cell? ⟨w.heap.size + 1, 12 + j, none⟩ = some x := (ra.cell _).trans hx
              have hf4 : wr.frozen? ⟨w.heap.size + 1, 12 + j, none⟩ = false := ra.frozen _
              have i12 : (12 : Int) + (j : Int) < 16 := by omega
              have HS : Hid (acells (ptA (acc ++ [UInt8.ofNat u])) = (acells (ptA acc)).set (12 + j) (.int .u8 (u : Int))) := hset
              have HG : Hid (ptsGo (ps.drop (j + 1)) (acc ++ [UInt8.ofNat u]) = ptsGo ps []) := hg
              clear hset hg hx hnum
              go_wp2_with (go_at_call 61; refine (hD _).mono ?_; rintro e w' ⟨rfl, rfl⟩)
              refine ⟨⟨_, _, _, _, _, _, _, _, _, _, _, _, _, _, _, _, _, _, _, _, _, _, _, _, _, _, _, _, ⟨j + 1, acc ++ [UInt8.ofNat u], by omega, by go_num, by simp; omega, HG.out, rz.setOther _ _ _ (by omega), by rw [HS.out]; exact ra.set _ _, ownsRow_setCell_below hO (by show w.heap.size + 1 < _; omega) _, hb.setCell (by show _ ≤ w.heap.size + 1; omega) _⟩, rfl⟩, ?_⟩
              simp [intOf]; omega
            · have h255' : (255 : Int) < (u : Int) := by omega
              rw [if_neg (fun h => h255 h.1)] at hg
              have e4 : R = none := by rw [HP.out, ← hg]; rfl
              clear hg hnum HP
              go_wp2_with (first
                | (go_at_call 61; refine (hD _).mono ?_; rintro e w' ⟨rfl, rfl⟩)
                | (refine stA (.tmp 2) (.tmp 34) (by rfl) rfl _ _ zeroA rfl rfl (rz.there (by rw [acells_len]; omega)) ?_))
              exact bodyPost_ret (retCT rfl _ _ 0 rfl (lvA (LA.stored (rz.there (by rw [acells_len]; omega))))) rfl ⟨by rw [HV.out none e4]; rfl, below_setCells _ (Nat.le_refl _) _ _ _ hb⟩
      · obtain rfl : j = 4 := by omega
        have e4 : R = some (ptA acc) := by
          rw [HP.out, ← hg, List.drop_eq_nil_of_le (by rw [HLn.out]; omega)]
          simp [ptsGo, hal]
        clear hg HP
        go_wp2_with (first
          | (refine ldA (.tmp 4) (by rfl) rfl _ _ (ptA acc) rfl ra.range ?_)
          | (refine stA (.tmp 2) (.tmp 40) (by rfl) rfl _ _ (ptA acc) rfl rfl (rz.there (by rw [acells_len]; omega)) ?_))
        exact bodyPost_ret (retCT rfl _ _ 0 rfl (lvA (LA.stored (rz.there (by rw [acells_len]; omega))))) rfl ⟨by rw [HV.out _ e4]; rfl, below_setCells _ (Nat.le_refl _) _ _ _ hb⟩
  · have e4 := H4.out (by intro e; subst e; simp at h4)
    exact bodyPost_ret (retCT rfl _ _ 0 rfl (lvA (LA.stored (rz.there (by rw [acells_len]; omega))))) rfl ⟨by rw [HV.out none e4]; rfl, below_setCells _ (Nat.le_refl _) _ _ _ hb⟩
end Go.Proofs.YtimpopolkofdgaaGreatDoor
