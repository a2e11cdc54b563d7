/-
  The document's six where no two colons stand together.
-/
import Derived.Test.YtimpopolkofdgaaGreatDoorRefH
namespace Go.Proofs.YtimpopolkofdgaaGreatDoor
open Go.RowKit
set_option linter.unusedSimpArgs false
set_option maxRecDepth 20000
/-! ### The document's six -/
theorem hexL_small : ∀ (ps : List (List UInt8)) (acc L : List Nat), (∀ x ∈ acc, x < 65536) → hexL ps acc = some L → ∀ x ∈ L, x < 65536
  | [], acc, L, h, e => by cases e; exact h
  | p :: ps, acc, L, h, e => by
    simp only [hexL] at e
    split at e
    · rename_i u hu
      refine hexL_small ps _ L ?_ e
      intro x hx
      rcases List.mem_append.1 hx with hx | hx
      · exact h x hx
      · simp at hx
        subst hx
        unfold hexS at hu
        split at hu
        · have := puE_le hu; omega
        · cases hu
    · cases e
theorem grpI_small {s : List UInt8} {L : List Nat} (h : grpI s = some L) : ∀ x ∈ L, x < 65536 := by
  unfold grpI at h
  split at h
  · cases h; simp
  · exact hexL_small _ _ L (by simp) h
def fillC (L : List Nat) (j : Nat) : List Value := bcells (bytesG (L.take j) ++ List.replicate (16 - 2 * j) 0)
theorem fillC_len (L : List Nat) (j : Nat) (hL : L.length = 8) (hj : j ≤ 8) : (fillC L j).length = 16 := by
  unfold fillC
  rw [bcells_length, List.length_append, bytesG_len, List.length_take, List.length_replicate]
  omega
theorem fillC_set (L : List Nat) (j : Nat) (hL : L.length = 8) (hj : j < 8) (u : Nat) (hu : L[j]? = some u) (hs : u < 65536) : ((fillC L j).set (2 * j) (.int .u8 ((u / 256 : Nat) : Int))).set (2 * j + 1) (.int .u8 ((u % 256 : Nat) : Int)) = fillC L (j + 1) := by
  obtain ⟨h1, h2⟩ := List.getElem?_eq_some_iff.1 hu
  have hl : (bcells (bytesG (L.take j))).length = 2 * j := by
    rw [bcells_length, bytesG_len, List.length_take]; omega
  unfold fillC
  rw [List.take_succ_eq_append_getElem h1, h2, bytesG_append, bcells_append, bcells_append, bcells_append]
  rw [show 16 - 2 * j = (16 - 2 * (j + 1)) + 1 + 1 by omega, List.replicate_succ, List.replicate_succ]
  rw [List.set_append_right _ _ (by omega), List.set_append_right _ _ (by omega), hl]
  rw [show 2 * j - 2 * j = 0 by omega, show 2 * j + 1 - 2 * j = 1 by omega]
  have e1 : (UInt8.ofNat (u / 256)).toNat = u / 256 := by simp; omega
  have e2 : (UInt8.ofNat u).toNat = u % 256 := by simp
  simp [bcells, bytesG, e1, e2]
theorem fill_ad (L : List Nat) (hL : L.length = 8) : fillC L 8 = acells (adOf L) := by
  unfold fillC acells adOf
  rw [List.take_of_length_le (by omega)]
  congr 1
  show _ = List.take 16 (bytesG L ++ List.replicate 16 0)
  rw [List.take_append_of_le_length (by rw [bytesG_len]; omega), List.take_of_length_le (by rw [bytesG_len]; omega)]
  simp
theorem grownBy_setAt (W : World) (B o : Nat) (u : Value) : W.grownBy (W.setCell ⟨B, o, none⟩ u) (some B) :=
  ⟨rfl, rfl, rfl, by simp [World.setCell], fun i hi hne => Below.heap_setCell W _ u i (fun e => hne (by rw [e]))⟩
theorem own_setRow {W : World} {n0 k B : Nat} {t : TypeId} {cs xs : List Value} {v : Value} (ho : W.ownsRow n0 3 1 v k xs) (h : Row W B t cs) (ht : t ≠ 3) (o : Nat) (u : Value) : (W.setCell ⟨B, o, none⟩ u).ownsRow n0 3 1 v k xs := by
  refine ho.kept (grownBy_setAt W B o u) ?_
  rcases ho.2 with ⟨rfl, _⟩ | ⟨g, cap, cur, rfl, _, hgb, _⟩
  · exact .inl rfl
  · refine .inr fun e => ?_
    simp only [Value.ownBlock, Option.some.injEq] at e
    subst e
    rw [h] at hgb
    cases hgb
    exact ht rfl
theorem own_i {w : World} {B : Nat} {v : Value} {n : Nat} {L : List Nat} (h : w.ownsRow B 3 1 v n (icells L)) : ∃ a c, v = .slice a n c ∧ (a = none → n = 0) ∧ ∀ ad, a = some ad → ∀ (j : Nat) p, L[j]? = some p → w.cell? (ad.add j) = some (.int .i64 (p : Nat)) := by
  rcases h.2 with ⟨rfl, rfl⟩ | ⟨g, cap, cur, rfl, hb, hh, hr⟩
  · exact ⟨none, 0, rfl, fun _ => rfl, fun _ h => by cases h⟩
  · refine ⟨some ⟨g, 0, none⟩, cap, rfl, (fun h => by cases h), fun ad had j p hp => ?_⟩
    cases had
    exact h.cells rfl j _ (by simp [icells, hp])
def sixV (s : List UInt8) : Value := match sixI s with
  | some L => .tuple #[(Value.agg (acells (adOf L)).toArray), .bool true]
  | none => .tuple #[(Value.agg (acells zeroA).toArray), .bool false]
theorem rsix_none (t : ByteArray) (w : World) (hlim : t.size ≤ 1000000) (hno : ∀ k, ¬ twoAt t.data.toList k) : Calls Tryz.prog 52 #[.string t] w (Gives w (sixV t.data.toList)) := by
  have hl : t.data.toList.length = t.size := Lib.size_eq t
  have hGr := fun W => rgroups_any t W hlim
  have HV : Hid (sixV t.data.toList = match sixN t.data.toList with | some L => .tuple #[(Value.agg (acells (adOf L)).toArray), .bool true] | none => .tuple #[(Value.agg (acells zeroA).toArray), .bool false]) := by
    show _ = _
    unfold sixV sixI
    rw [idx_none _ hno, if_neg (by decide)]
  have HI : Hid (∀ j (h : j < t.size), t.data.toList[j]? = some t[j]) := fun j h => by
    rw [List.getElem?_eq_getElem (by rw [hl]; exact h)]; rfl
  unfold sixN at HV
  have HSm : Hid (∀ L, grpI t.data.toList = some L → ∀ x ∈ L, x < 65536) := fun L h => grpI_small h
  generalize sixV t.data.toList = V at *
  generalize grpI t.data.toList = R at *
  have rz := Row.new w 23 (acells zeroA)
  have hb := ba w (.cells (acells zeroA).toArray 23)
  clear hl
  go_enter Tryz.func52, Tryz.ntmps52
  go_wp2
  refine name_world (R := fun W => Code.wp _ _ _ _ W) (P := fun W => Below w.heap.size w W ∧ Row W w.heap.size 23 (acells zeroA)) _ ⟨hb, rz⟩ ?_
  clear hb rz
  rintro X ⟨hb, rz⟩
  go_loopw [5, 6] (fun a i wr => ∃ j : Nat, j ≤ t.size ∧ i = .int .i64 j ∧ a = .int .i64 (-1) ∧ X = wr) (fun _ i _ => t.size - (intOf i).toNat)
  case atStart => exact ⟨0, by omega, rfl, rfl, rfl⟩
  case round =>
    obtain ⟨j, hj, rfl, rfl, rfl⟩ := hrel
    by_cases hlt : j + 1 < t.size
    · have h1 := HI.out j (by omega)
      have h2 := HI.out (j + 1) hlt
      have hn := hno j
      unfold twoAt at hn
      rw [h1, h2] at hn
      have hlt' : (j : Int) + 1 < (t.size : Int) := by omega
      have hjs : j < t.size := by omega
      by_cases c1 : t[j] = 58
      · have c2 : t[j + 1] ≠ 58 := fun e => hn ⟨by rw [c1], by rw [e]⟩
        have e1 : ((t[j].toNat : Int) == 58) = true := by rw [c1]; rfl
        have e2 : ((t[j + 1].toNat : Int) == 58) = false := by
          rw [beq_eq_false_iff_ne]
          intro e
          exact c2 (UInt8.toNat.inj (by simp; omega))
        clear hn h1 h2
        go_wp2
        go_roundw
        case rel => exact ⟨j + 1, by omega, by go_num, rfl, trivial⟩
        case measure => simp [intOf]; omega
      · have e1 : ((t[j].toNat : Int) == 58) = false := by
          rw [beq_eq_false_iff_ne]
          intro e
          exact c1 (UInt8.toNat.inj (by simp; omega))
        clear hn h1 h2
        go_wp2
        go_roundw
        case rel => exact ⟨j + 1, by omega, by go_num, rfl, trivial⟩
        case measure => simp [intOf]; omega
    · have hlt' : ¬ (j : Int) + 1 < (t.size : Int) := by omega
      clear hlt hno HI
      have hXs := hb.size
      go_wp2_with (go_at_call 76; refine (hGr _).mono ?_; rintro e w1 ⟨(⟨L, v, hR, rfl, hO⟩ | ⟨hR, rfl⟩), hB⟩; all_goals (replace rz := rz.below hB rz.lt; replace hb := bt hb hB; clear hB; refine Hid.out ?_))
      · obtain ⟨ia, ic, rfl, -, -⟩ := own_i hO
        have HSmL : Hid (∀ x ∈ L, x < 65536) := HSm.out L hR
        subst hR
        by_cases h8 : L.length = 8
        · have HL8 : Hid (L.length = 8) := h8
          have eV : V = .tuple #[(Value.agg (acells (adOf L)).toArray), .bool true] := by rw [HV.out]; dsimp only; rw [if_pos h8]
          unfold Hid
          rw [h8] at hO ⊢
          clear HV HSm hGr h8
          go_wp2
          have hb2 : Below w.heap.size w (w1.alloc (.cells (acells zeroA).toArray 23)) := bt hb (ba _ _)
          have rz2 := rz.alloc (.cells (acells zeroA).toArray 23)
          have ra2 : Row (w1.alloc (.cells (acells zeroA).toArray 23)) w1.heap.size 23 (fillC L 0) := Row.new w1 _ _
          have hO2 := hO.alloc (.cells (acells zeroA).toArray 23)
          have hzlt : w.heap.size < w1.heap.size := rz.lt
          refine name_world (R := fun W => Code.wp _ _ _ _ W) (P := fun W => Below w.heap.size w W ∧ Row W w.heap.size 23 (acells zeroA) ∧ Row W w1.heap.size 23 (fillC L 0) ∧ W.ownsRow X.heap.size 3 1 (.slice ia 8 ic) 8 (icells L)) _ ⟨hb2, rz2, ra2, hO2⟩ ?_
          clear hb2 rz2 ra2 hO2 hb rz hO
          rintro Y ⟨hb, rz, ra, hO⟩
          generalize w1.heap.size = G at *
          go_loopw [14] (fun i wr => ∃ j : Nat, j ≤ 8 ∧ i = .int .i64 j ∧ Below w.heap.size w wr ∧ Row wr w.heap.size 23 (acells zeroA) ∧ Row wr G 23 (fillC L j) ∧ (∃ B, wr.ownsRow B 3 1 (.slice ia 8 ic) 8 (icells L))) (fun i _ => 8 - (intOf i).toNat)
          case atStart => exact ⟨0, by omega, rfl, hb, rz, ra, _, hO⟩
          case round =>
            clear hb rz ra hO
            rename_i wr
            obtain ⟨j2, hj2, rfl, hb, rz, ra, B, hO⟩ := hrel
            by_cases hlt2 : j2 < 8
            · obtain ⟨u, hu⟩ : ∃ u, L[j2]? = some u := ⟨_, List.getElem?_eq_getElem (by rw [HL8.out]; exact hlt2)⟩
              obtain ⟨a', c', he, hn0, hcs⟩ := own_i hO
              cases he
              cases ia with
              | none => exact absurd (hn0 rfl) (by omega)
              | some ad =>
                have hc := hcs ad rfl j2 u hu
                have hus := HSmL.out u (List.mem_of_getElem? hu)
                have HF : Hid (((fillC L j2).set (2 * j2) (.int .u8 ((u / 256 : Nat) : Int))).set (2 * j2 + 1) (.int .u8 ((u % 256 : Nat) : Int)) = fillC L (j2 + 1)) := fillC_set L j2 HL8.out hlt2 u hu hus
                obtain ⟨x1, hx1⟩ : ∃ x, (fillC L j2)[2 * j2]? = some x := ⟨_, List.getElem?_eq_getElem (by rw [fillC_len L j2 HL8.out hj2]; omega)⟩
                have k1 : wr.cell? ⟨G, 2 * j2, none⟩ = some x1 := (ra.cell _).trans hx1
                have k2 : wr.frozen? ⟨G, 2 * j2, none⟩ = false := ra.frozen _
                have ra2 := ra.set (2 * j2) (.int .u8 ((u / 256 : Nat) : Int))
                have hO2 := own_setRow hO ra (by decide) (2 * j2) (.int .u8 ((u / 256 : Nat) : Int))
                have hc2 : (wr.setCell ⟨G, 2 * j2, none⟩ (.int .u8 ((u / 256 : Nat) : Int))).cell? (ad.add j2) = some (.int .i64 (u : Nat)) := by
                  obtain ⟨a9, c9, he9, -, hcs9⟩ := own_i hO2
                  cases he9
                  exact hcs9 ad rfl j2 u hu
                obtain ⟨x2, hx2⟩ : ∃ x, ((fillC L j2).set (2 * j2) (.int .u8 ((u / 256 : Nat) : Int)))[2 * j2 + 1]? = some x := ⟨_, List.getElem?_eq_getElem (by rw [List.length_set, fillC_len L j2 HL8.out hj2]; omega)⟩
                have k3 := (ra2.cell (2 * j2 + 1)).trans hx2
                have k4 := ra2.frozen (2 * j2 + 1)
                have ra3 := ra2.set (2 * j2 + 1) (.int .u8 ((u % 256 : Nat) : Int))
                rw [HF.out] at ra3
                have hO3 := own_setRow hO2 ra2 (by decide) (2 * j2 + 1) (.int .u8 ((u % 256 : Nat) : Int))
                have rz3 := (rz.setOther G (2 * j2) (.int .u8 ((u / 256 : Nat) : Int)) (by omega)).setOther G (2 * j2 + 1) (.int .u8 ((u % 256 : Nat) : Int)) (by omega)
                have hb3 := (hb.setCell (p := ⟨G, 2 * j2, none⟩) (by show _ ≤ G; omega) (.int .u8 ((u / 256 : Nat) : Int))).setCell (p := ⟨G, 2 * j2 + 1, none⟩) (by show _ ≤ G; omega) (.int .u8 ((u % 256 : Nat) : Int))
                have hw8 : IntKind.u8.wrap (u : Int) = ((u % 256 : Nat) : Int) := by simp [IntKind.wrap, IntKind.signed, IntKind.bits]
                have hq : ((u / 256 : Nat) : Int) = (u : Int) / 256 := by omega
                have hm : ((u % 256 : Nat) : Int) = (u : Int) % 256 := by omega
                rw [hq] at hc2 k3 k4 ra3 hO3 rz3 hb3
                rw [hm] at ra3 hO3 rz3 hb3 hw8
                clear hx1 hx2 hcs hu hn0 ra hO rz hb ra2 hO2 HF hq hm
                go_wp2
                go_roundw
                case rel => exact ⟨j2 + 1, by omega, by go_num, hb3, rz3, ra3, _, hO3⟩
                case measure => simp [intOf]; omega
            · obtain rfl : j2 = 8 := by omega
              rw [fill_ad L HL8.out] at ra
              go_wp2_with (first
                | (refine ldA (.tmp 13) (by rfl) rfl _ _ (adOf L) rfl ra.range ?_)
                | (refine stA (.tmp 2) (.tmp 118) (by rfl) rfl _ _ (adOf L) rfl rfl (rz.there (by rw [acells_len]; omega)) ?_))
              exact bodyPost_ret (retCT rfl _ _ 0 rfl (lvA (LA.stored (rz.there (by rw [acells_len]; omega))))) rfl ⟨by rw [eV]; rfl, below_setCells _ (Nat.le_refl _) _ _ _ hb⟩
        · have e8 : ((L.length : Int) != 8) = true := by simp only [bne_iff_ne, ne_eq]; omega
          have eV : V = .tuple #[(Value.agg (acells zeroA).toArray), .bool false] := by rw [HV.out]; dsimp only; rw [if_neg h8]
          unfold Hid
          clear HV HSm hGr
          go_wp2_with (refine stA (.tmp 2) (.tmp 48) (by rfl) rfl _ _ zeroA rfl rfl (rz.there (by rw [acells_len]; omega)) ?_)
          exact bodyPost_ret (retCT rfl _ _ 0 rfl (lvA (LA.stored (rz.there (by rw [acells_len]; omega))))) rfl ⟨by rw [eV]; rfl, below_setCells _ (Nat.le_refl _) _ _ _ hb⟩
      · have eV : V = .tuple #[(Value.agg (acells zeroA).toArray), .bool false] := by rw [HV.out, hR]
        unfold Hid
        clear HV HSm hGr
        go_wp2_with (refine stA (.tmp 2) (.tmp 48) (by rfl) rfl _ _ zeroA rfl rfl (rz.there (by rw [acells_len]; omega)) ?_)
        exact bodyPost_ret (retCT rfl _ _ 0 rfl (lvA (LA.stored (rz.there (by rw [acells_len]; omega))))) rfl ⟨by rw [eV]; rfl, below_setCells _ (Nat.le_refl _) _ _ _ hb⟩
end Go.Proofs.YtimpopolkofdgaaGreatDoor
