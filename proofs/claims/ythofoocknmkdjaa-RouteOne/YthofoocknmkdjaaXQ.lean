/-
  Addresses in a list; the closure of Drop.
-/
import Derived.Test.YthofoocknmkdjaaXO
namespace Go.Proofs.Ythofoocknmkdjaa
open Go.RowKit Go.Maps Go.Shelf
set_option linter.unusedSimpArgs false
set_option linter.unusedVariables false
set_option maxRecDepth 20000
/-- Addresses in memory. -/
structure DsW (w : World) (ad : Option Addr) (ds : List Ad) : Prop where
  lies : ds = [] ∨ ∃ g o, ad = some ⟨g, o, none⟩ ∧ g < w.heap.size ∧ ∀ (j : Nat) (p : Ad), ds[j]? = some p → LA w g (o + j * 16) p
theorem DsW.below {w w' : World} {ad : Option Addr} {ds : List Ad} (h : DsW w ad ds) (hb : Below w.heap.size w w') : DsW w' ad ds :=
  ⟨h.lies.imp id fun ⟨g, o, e, hg, hl⟩ => ⟨g, o, e, Nat.lt_of_lt_of_le hg hb.size, fun j p hp => rangeAt_below (hl j p hp) hb hg⟩⟩
def sameA (a x : Ad) : Bool := decide (a.l = x.l)
def ixA (ds : List Ad) (a : Ad) : Int := match ds.findIdx? (sameA a) with
  | some i => i
  | none => -1
theorem ixA_hit {ds : List Ad} {a : Ad} {j : Nat} (hj : j < ds.length) (hno : ∀ i x, i < j → ds[i]? = some x → sameA a x = false) (h : sameA a ds[j] = true) : ixA ds a = j := by
  have e : ds.findIdx? (sameA a) = some j := by
    rw [List.findIdx?_eq_some_iff_getElem]
    refine ⟨hj, h, fun i hi => ?_⟩
    rw [hno i _ hi (List.getElem?_eq_getElem (by omega))]
    simp
  unfold ixA
  rw [e]
theorem ixA_none {ds : List Ad} {a : Ad} (hno : ∀ i x, i < ds.length → ds[i]? = some x → sameA a x = false) : ixA ds a = -1 := by
  have e : ds.findIdx? (sameA a) = none := by
    rw [List.findIdx?_eq_none_iff]
    intro x hx
    obtain ⟨i, hi, rfl⟩ := List.mem_iff_getElem.1 hx
    exact hno i _ hi (List.getElem?_eq_getElem hi)
  unfold ixA
  rw [e]
theorem ixA_any (ds : List Ad) (a : Ad) : (ds.any (sameA a) = false ∧ ixA ds a = -1) ∨ (ds.any (sameA a) = true ∧ ∃ i : Nat, ixA ds a = i) := by
  cases e : ds.findIdx? (sameA a) with
  | none =>
    refine .inl ⟨?_, by unfold ixA; rw [e]⟩
    rw [List.any_eq_false]
    intro x hx
    rw [List.findIdx?_eq_none_iff] at e
    rw [e x hx]
    simp
  | some i =>
    refine .inr ⟨?_, i, by unfold ixA; rw [e]⟩
    rw [List.findIdx?_eq_some_iff_getElem] at e
    obtain ⟨hi, h, _⟩ := e
    rw [List.any_eq_true]
    exact ⟨_, List.getElem_mem hi, h⟩
set_option maxHeartbeats 4000000 in
theorem indexA_any (ad : Option Addr) (c : Nat) (ds : List Ad) (a : Ad) (w : World) (hds : DsW w ad ds) (hl : ds.length ≤ 1000000) :
    Calls Try.prog 58 #[.slice ad ds.length c, (Value.agg (acells a).toArray)] w (Gives w (.int .i64 (ixA ds a))) := by
  have r0 := Row.new w 32 (acells a)
  go_enter Try.func58, Try.ntmps58
  go_upto_region 1 with fail
  refine name_world (R := fun W => Code.wp _ _ _ _ W) (P := fun W => Below w.heap.size w W ∧ Row W w.heap.size 32 (acells a)) _ ⟨ba _ _, r0⟩ ?_
  clear r0
  rintro X ⟨hB, r0⟩
  have hX := hds.below hB
  have HA : Hid (∀ W, Below X.heap.size X W → LA W w.heap.size 0 a) := fun W h => (r0.below h r0.lt).range
  have HB : Hid (∀ W, Below X.heap.size X W → Below w.heap.size w W) := fun W h => bt hB h
  clear r0 hds hB
  go_wp2_with fail
  go_loopw [8] (fun u wr => ∃ j : Nat, j ≤ ds.length ∧ u = .int .i64 j ∧ (∀ i x, i < j → ds[i]? = some x → sameA a x = false) ∧ Below X.heap.size X wr) (fun u _ => ds.length - (intOf u).toNat)
  case atStart => exact ⟨0, Nat.zero_le _, rfl, fun i _ h => absurd h (Nat.not_lt_zero i), Below.refl _ _⟩
  case round =>
    obtain ⟨j, hj, rfl, hno, bX⟩ := hrel
    by_cases hlt : j < ds.length
    · rcases (hX.below bX).lies with h0 | ⟨g, o, rfl, hg, hc⟩
      · rw [h0] at hlt; simp at hlt
      have q := hc j _ (List.getElem?_eq_getElem hlt)
      have hji : (j : Int) < (ds.length : Int) := by omega
      have hw64 : wrap64 ((j : Int) + 1) = (j : Int) + 1 := by unfold wrap64; omega
      have HYes : Hid (sameA a ds[j] = true → ixA ds a = j) := fun h => ixA_hit hlt hno h
      have HNo : Hid (sameA a ds[j] = false → ∀ i x, i < j + 1 → ds[i]? = some x → sameA a x = false) := fun h i x hi hx => by
        by_cases e : i = j
        · subst e
          rw [List.getElem?_eq_getElem hlt] at hx
          cases hx
          exact h
        · exact hno i x (by omega) hx
      have HJ : Hid (j + 1 ≤ ds.length) := hlt
      have HM : Hid (ds.length - ((j : Int) + 1).toNat < ds.length - ((j : Int)).toNat) := meas hlt
      have qa := HA.out
      clear hc hX hno hj hl
      have hEq : ∀ W, (binOp .eql 32 (Value.agg (acells a).toArray) (Value.agg (acells ((ds[j]'hlt))).toArray)).run Try.prog W = .ok (.bool (sameA a (ds[j]'hlt))) W := fun W => run_eqlA a _ W
      generalize ixA ds a = R at *
      generalize sameA a (ds[j]'hlt) = sb at *
      generalize (ds[j]'hlt) = d at *
      have gEq := fun op x y W => guardA op x y a d W
      cases sb with
      | false =>
        replace HNo : Hid (∀ i x, i < j + 1 → ds[i]? = some x → sameA a x = false) := HNo.out rfl
        clear HYes
        go_upto_region 4 with fail
        refine wp_region_noPanic ?_
        refine wp_region_held_drew (S := fun W => Below wr.heap.size wr W) (by kernel_rfl) ((Below.refl _ _).drew) (fun hHeld => ?_)
        refine take_lit (i := 0) rfl (by kernel_rfl) (by kernel_rfl) (by kernel_rfl) (fun _ _ _ h => h) (yA a (fun w h => qa _ (bt bX h)) (by rfl) rfl rfl) (by assumption) ?_
        try simp only [Act.put, List.setIfInBounds_toArray, List.set_cons_zero, List.set_cons_succ]
        refine take_lit (i := 1) (v := ?_) rfl (by kernel_rfl) (by kernel_rfl) (by kernel_rfl) (fun _ _ _ h => h) (Or.inl ⟨by rfl, ?_⟩) (by assumption) ?_
        rotate_left
        · (intro w hSw; (try dsimp only at hSw); go_simp <;> with_reducible rfl)
        try simp only [Act.put, List.setIfInBounds_toArray, List.set_cons_zero, List.set_cons_succ]
        refine take_lit (i := 2) (v := ?_) rfl (by kernel_rfl) (by kernel_rfl) (by kernel_rfl) (fun _ _ _ h => h) (Or.inl ⟨by rfl, ?_⟩) (by assumption) ?_
        rotate_left
        · (intro w hSw; (try dsimp only at hSw); go_simp <;> with_reducible rfl)
        try simp only [Act.put, List.setIfInBounds_toArray, List.set_cons_zero, List.set_cons_succ]
        refine take_lit (i := 3) (v := ?_) rfl (by kernel_rfl) (by kernel_rfl) (by kernel_rfl) (fun _ _ _ h => h) (Or.inl ⟨by rfl, ?_⟩) (by assumption) ?_
        rotate_left
        · (intro w hSw; (try dsimp only at hSw); go_simp <;> with_reducible rfl)
        try simp only [Act.put, List.setIfInBounds_toArray, List.set_cons_zero, List.set_cons_succ]
        refine take_lit (i := 4) rfl (by kernel_rfl) (by kernel_rfl) (by kernel_rfl) (fun _ _ _ h => h) (yA d (fun w h => rangeAt_below q h hg) (by rfl) rfl rfl) (by assumption) ?_
        try simp only [Act.put, List.setIfInBounds_toArray, List.set_cons_zero, List.set_cons_succ]
        refine take_lit (i := 5) (v := ?_) rfl (by kernel_rfl) (by kernel_rfl) (by kernel_rfl) (fun _ _ _ h => h) (Or.inl ⟨by rfl, ?_⟩) (by assumption) ?_
        rotate_left
        · (intro w hSw; (try dsimp only at hSw); have z := hEq w; have z2 := fun op x y => gEq op x y w; go_simp <;> with_reducible rfl)
        try simp only [Act.put, List.setIfInBounds_toArray, List.set_cons_zero, List.set_cons_succ]
        refine wpAnyH_done (by kernel_rfl) ?_ _
        refine NoPanic.normal ?_
        have bX2 := bt bX hHeld
        clear hHeld hEq gEq qa q
        go_wp2_with fail
        go_roundw
        case rel => exact ⟨j + 1, HJ.out, by first | rfl | go_num, HNo.out, bX2⟩
        case measure => first | (rw [hw64]; simp only [intOf]; exact HM.out) | (simp only [intOf]; exact HM.out)
      | true =>
        obtain rfl : R = j := HYes.out rfl
        clear HYes HNo
        go_upto_region 4 with fail
        refine wp_region_noPanic ?_
        refine wp_region_held_drew (S := fun W => Below wr.heap.size wr W) (by kernel_rfl) ((Below.refl _ _).drew) (fun hHeld => ?_)
        refine take_lit (i := 0) rfl (by kernel_rfl) (by kernel_rfl) (by kernel_rfl) (fun _ _ _ h => h) (yA a (fun w h => qa _ (bt bX h)) (by rfl) rfl rfl) (by assumption) ?_
        try simp only [Act.put, List.setIfInBounds_toArray, List.set_cons_zero, List.set_cons_succ]
        refine take_lit (i := 1) (v := ?_) rfl (by kernel_rfl) (by kernel_rfl) (by kernel_rfl) (fun _ _ _ h => h) (Or.inl ⟨by rfl, ?_⟩) (by assumption) ?_
        rotate_left
        · (intro w hSw; (try dsimp only at hSw); go_simp <;> with_reducible rfl)
        try simp only [Act.put, List.setIfInBounds_toArray, List.set_cons_zero, List.set_cons_succ]
        refine take_lit (i := 2) (v := ?_) rfl (by kernel_rfl) (by kernel_rfl) (by kernel_rfl) (fun _ _ _ h => h) (Or.inl ⟨by rfl, ?_⟩) (by assumption) ?_
        rotate_left
        · (intro w hSw; (try dsimp only at hSw); go_simp <;> with_reducible rfl)
        try simp only [Act.put, List.setIfInBounds_toArray, List.set_cons_zero, List.set_cons_succ]
        refine take_lit (i := 3) (v := ?_) rfl (by kernel_rfl) (by kernel_rfl) (by kernel_rfl) (fun _ _ _ h => h) (Or.inl ⟨by rfl, ?_⟩) (by assumption) ?_
        rotate_left
        · (intro w hSw; (try dsimp only at hSw); go_simp <;> with_reducible rfl)
        try simp only [Act.put, List.setIfInBounds_toArray, List.set_cons_zero, List.set_cons_succ]
        refine take_lit (i := 4) rfl (by kernel_rfl) (by kernel_rfl) (by kernel_rfl) (fun _ _ _ h => h) (yA d (fun w h => rangeAt_below q h hg) (by rfl) rfl rfl) (by assumption) ?_
        try simp only [Act.put, List.setIfInBounds_toArray, List.set_cons_zero, List.set_cons_succ]
        refine take_lit (i := 5) (v := ?_) rfl (by kernel_rfl) (by kernel_rfl) (by kernel_rfl) (fun _ _ _ h => h) (Or.inl ⟨by rfl, ?_⟩) (by assumption) ?_
        rotate_left
        · (intro w hSw; (try dsimp only at hSw); have z := hEq w; have z2 := fun op x y => gEq op x y w; go_simp <;> with_reducible rfl)
        try simp only [Act.put, List.setIfInBounds_toArray, List.set_cons_zero, List.set_cons_succ]
        refine wpAnyH_done (by kernel_rfl) ?_ _
        refine NoPanic.normal ?_
        have bX2 := bt bX hHeld
        clear hHeld hEq gEq qa q
        go_wp2_with fail
        go_ret
        exact ⟨rfl, HB.out _ bX2⟩
    · have hji : ¬ (j : Int) < (ds.length : Int) := by omega
      have hR := ixA_none (ds := ds) (a := a) (fun i x hi hx => hno i x (by omega) hx)
      rw [hR]
      clear hno hX hlt hj
      go_wp2_with fail
      go_ret
      exact ⟨rfl, HB.out _ bX⟩
theorem containsA_any (ad : Option Addr) (c : Nat) (ds : List Ad) (a : Ad) (w : World) (hds : DsW w ad ds) (hl : ds.length ≤ 1000000) :
    Calls Try.prog 54 #[.slice ad ds.length c, (Value.agg (acells a).toArray)] w (Gives w (.bool (ds.any (sameA a)))) := by
  have r0 := Row.new w 32 (acells a)
  have b0 := ba w (.cells (acells a).toArray 32)
  have C := indexA_any ad c ds a _ (hds.below b0) hl
  have q := r0.range
  have HC := ixA_any ds a
  generalize ixA ds a = R at *
  generalize ds.any (sameA a) = B at *
  clear hds r0
  rcases HC with ⟨rfl, rfl⟩ | ⟨rfl, i, rfl⟩
  · go_enter Try.func54, Try.ntmps54
    go_wp2_with (first
      | (go_at_call 58; refine C.mono ?_; rintro e w1 ⟨rfl, k1⟩)
      | (refine ldA (.tmp 3) rfl rfl _ _ a rfl q ?_))
    go_ret
    exact ⟨rfl, bt b0 k1⟩
  · have hi : (0 : Int) ≤ (i : Int) := by omega
    go_enter Try.func54, Try.ntmps54
    go_wp2_with (first
      | (go_at_call 58; refine C.mono ?_; rintro e w1 ⟨rfl, k1⟩)
      | (refine ldA (.tmp 3) rfl rfl _ _ a rfl q ?_))
    go_ret
    exact ⟨rfl, bt b0 k1⟩
def dropB (i : Int) (ds : List Ad) (n : Ro) : Bool := decide (n.i = i) && (decide (ds.length = 0) || ds.any (sameA n.a))
theorem dropC_any (n : Ro) (i : Int) (ad : Option Addr) (c : Nat) (ds : List Ad) (g h : Nat) (w : World) (hi : Row w g 3 [.int .i64 i]) (ha : Row w h 81 [.slice ad ds.length c]) (hds : DsW w ad ds) (hl : ds.length ≤ 1000000) : Calls Try.prog 53 #[rV n, .pointer (some ⟨g, 0, none⟩), .pointer (some ⟨h, 0, none⟩)] w (Gives w (.bool (dropB i ds n))) := by
  have r0 := Row.new w 41 (ocs n)
  have b0 := ba w (.cells (ocs n).toArray 41)
  have c34 := (r0.cell 34).trans (oc34 n)
  have c0 := (hi.alloc (.cells (ocs n).toArray 41)).cell 0
  have c1 := (ha.alloc (.cells (ocs n).toArray 41)).cell 0
  have la : LA (w.alloc (.cells (ocs n).toArray 41)) w.heap.size 35 n.a := by have := r0.ro.a; simpa using this
  have C := containsA_any ad c ds n.a _ (hds.below b0) hl
  have HR : Hid (dropB i ds n = (decide (n.i = i) && (decide (ds.length = 0) || ds.any (sameA n.a)))) := rfl
  generalize dropB i ds n = R at *
  generalize ds.any (sameA n.a) = ae at *
  clear hi ha hds
  by_cases h1 : n.i = i
  · by_cases h2 : ds.length = 0
    · obtain rfl : R = true := by rw [HR.out]; simp [h1, h2]
      rw [h2] at c1
      go_enter Try.func53, Try.ntmps53
      go_wp2_with fail
      go_ret
      exact ⟨rfl, b0⟩
    · obtain rfl : R = ae := by rw [HR.out]; simp [h1, h2]
      have h2' : ((ds.length : Int) == 0) = false := by simp; intro e; exact h2 (by rw [e]; rfl)
      go_enter Try.func53, Try.ntmps53
      go_wp2_with (first
        | (go_at_call 54; refine C.mono ?_; rintro e w1 ⟨rfl, k1⟩)
        | (refine ldA (.tmp 15) rfl rfl _ _ n.a rfl la ?_))
      go_ret
      exact ⟨rfl, bt b0 k1⟩
  · obtain rfl : R = false := by rw [HR.out]; simp [h1]
    have h1' : (n.i == i) = false := by simpa using h1
    go_enter Try.func53, Try.ntmps53
    go_wp2_with fail
    go_ret
    exact ⟨rfl, b0⟩
end Go.Proofs.Ythofoocknmkdjaa
