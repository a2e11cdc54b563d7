/-
  Addresses in a list; the closure of Drop.
-/
import Derived.Test.YthofoocknmkdjaaM10
namespace Go.Proofs.Ythofoocknmkdjaa
open Go.RowKit Go.Maps Go.Shelf
set_option linter.unusedSimpArgs false
set_option linter.unusedVariables false
set_option maxRecDepth 20000
/-- Addresses in memory. -/
structure DsW (w : World) (ad : Option Addr) (ds : List Ad) : Prop where
  lies : ds = [] ∨ ∃ g o, ad = some ⟨g, o, none⟩ ∧ g < w.heap.size ∧ ∀ (j : Nat) (p : Ad), ds[j]? = some p → LA w g (o + j * 16) p
theorem DsW.below {w w' : World} {ad : Option Addr} {ds : List Ad} (h : DsW w ad ds) (hb : Below w.heap.size w w') : DsW w' ad ds :=
  ⟨h.lies.imp id fun ⟨g, o, e, hg, hl⟩ => ⟨g, o, e, Nat.lt_of_lt_of_le hg hb.size, fun j p hp => rangeAt_below (hl j p hp) hb hg⟩⟩
def sameA (a x : Ad) : Bool := decide (a.l = x.l)
def ixA (ds : List Ad) (a : Ad) : Int := match ds.findIdx? (sameA a) with
  | some i => i
  | none => -1
theorem ixA_hit {ds : List Ad} {a : Ad} {j : Nat} (hj : j < ds.length) (hno : ∀ i x, i < j → ds[i]? = some x → sameA a x = false) (h : sameA a ds[j] = true) : ixA ds a = j := by
  have e : ds.findIdx? (sameA a) = some j := by
    rw [List.findIdx?_eq_some_iff_getElem]
    refine ⟨hj, h, fun i hi => ?_⟩
    rw [hno i _ hi (List.getElem?_eq_getElem (by omega))]
    simp
  unfold ixA
  rw [e]
theorem ixA_none {ds : List Ad} {a : Ad} (hno : ∀ i x, i < ds.length → ds[i]? = some x → sameA a x = false) : ixA ds a = -1 := by
  have e : ds.findIdx? (sameA a) = none := by
    rw [List.findIdx?_eq_none_iff]
    intro x hx
    obtain ⟨i, hi, rfl⟩ := List.mem_iff_getElem.1 hx
    exact hno i _ hi (List.getElem?_eq_getElem hi)
  unfold ixA
  rw [e]
theorem ixA_any (ds : List Ad) (a : Ad) : (ds.any (sameA a) = false ∧ ixA ds a = -1) ∨ (ds.any (sameA a) = true ∧ ∃ i : Nat, ixA ds a = i) := by
  cases e : ds.findIdx? (sameA a) with
  | none =>
    refine .inl ⟨?_, by unfold ixA; rw [e]⟩
    rw [List.any_eq_false]
    intro x hx
    rw [List.findIdx?_eq_none_iff] at e
    rw [e x hx]
    simp
  | some i =>
    refine .inr ⟨?_, i, by unfold ixA; rw [e]⟩
    rw [List.findIdx?_eq_some_iff_getElem] at e
    obtain ⟨hi, h, _⟩ := e
    rw [List.any_eq_true]
    exact ⟨_, List.getElem_mem hi, h⟩
set_option maxHeartbeats 4000000 in
theorem indexA_any (ad : Option Addr) (c : Nat) (ds : List Ad) (a : Ad) (w : World) (hds : DsW w ad ds) (hl : ds.length ≤ 1000000) :
    Calls Try.prog 58 #[.slice ad ds.length c, (Value.agg (acells a).toArray)] w (Gives w (.int .i64 (ixA ds a))) := by
  have r0 := Row.new w 32 (acells a)
  go_enter Try.func58, Try.ntmps58
  go_upto_region 1 with fail
  refine name_world (R := fun W => Code.wp _ _ _ _ W) (P := fun W => Below w.heap.size w W ∧ Row W w.heap.size 32 (acells a)) _ ⟨ba _ _, r0⟩ ?_
  clear r0
  rintro X ⟨hB, r0⟩
  have hX := hds.below hB
  have HA : Hid (∀ W, Below X.heap.size X W → LA W w.heap.size 0 a) := fun W h => (r0.below h r0.lt).range
  have HB : Hid (∀ W, Below X.heap.size X W → Below w.heap.size w W) := fun W h => bt hB h
  clear r0 hds hB
  go_wp2_with fail
  go_loopw [8] (fun u wr => ∃ j : Nat, j ≤ ds.length ∧ u = .int .i64 j ∧ (∀ i x, i < j → ds[i]? = some x → sameA a x = false) ∧ Below X.heap.size X wr) (fun u _ => ds.length - (intOf u).toNat)
  case atStart => exact ⟨0, Nat.zero_le _, rfl, fun i _ h => absurd h (Nat.not_lt_zero i), Below.refl _ _⟩
  case round =>
    obtain ⟨j, hj, rfl, hno, bX⟩ := hrel
    by_cases hlt : j < ds.length
    · rcases (hX.below bX).lies with h0 | ⟨g, o, rfl, hg, hc⟩
      · rw [h0] at hlt; simp at hlt
      have q := hc j _ (List.getElem?_eq_getElem hlt)
      have hji : (j : Int) < (ds.length : Int) := by omega
      have hw64 : wrap64 ((j : Int) + 1) = (j : Int) + 1 := by unfold wrap64; omega
      have HYes : Hid (sameA a ds[j] = true → ixA ds a = j) := fun h => ixA_hit hlt hno h
      have HNo : Hid (sameA a ds[j] = false → ∀ i x, i < j + 1 → ds[i]? = some x → sameA a x = false) := fun h i x hi hx => by
        by_cases e : i = j
        · subst e
          rw [List.getElem?_eq_getElem hlt] at hx
          cases hx
          exact h
        · exact hno i x (by omega) hx
      have HJ : Hid (j + 1 ≤ ds.length) := hlt
      have HM : Hid (ds.length - ((j : Int) + 1).toNat < ds.length - ((j : Int)).toNat) := meas hlt
      have qa := HA.out
      clear hc hX hno hj hl
      have hEq : ∀ W, (binOp .eql 32 (Value.agg (acells a).toArray) (Value.agg (acells ((ds[j]'hlt))).toArray)).run Try.prog W = .ok (.bool (sameA a (ds[j]'hlt))) W := fun W => run_eqlA a _ W
      generalize ixA ds a = R at *
      generalize sameA a (ds[j]'hlt) = sb at *
      generalize (ds[j]'hlt) = d at *
      have gEq := fun op x y W => guardA op x y a d W
      cases sb with
      | false =>
        replace HNo : Hid (∀ i x, i < j + 1 → ds[i]? = some x → sameA a x = false) := HNo.out rfl
        clear HYes
        go_upto_region 4 with fail
        refine wp_region_noPanic ?_
        refine wp_region_held_drew (S := fun W => Below wr.heap.size wr W) (by kernel_rfl) ((Below.refl _ _).drew) (fun hHeld => ?_)
        refine take_lit (i := 0) rfl (by kernel_rfl) (by kernel_rfl) (by kernel_rfl) (fun _ _ _ h => h) (yA a (fun w h => qa _ (bt bX h)) (by rfl) rfl rfl) (by assumption) ?_
        try simp only [Act.put, List.setIfInBounds_toArray, List.set_cons_zero, List.set_cons_succ]
        refine take_lit (i := 1) (v := ?_) rfl (by kernel_rfl) (by kernel_rfl) (by kernel_rfl) (fun _ _ _ h => h) (Or.inl ⟨by rfl, ?_⟩) (by assumption) ?_
        rotate_left
        · (intro w hSw; (try dsimp only at hSw); go_simp <;> with_reducible rfl)
        try simp only [Act.put, List.setIfInBounds_toArray, List.set_cons_zero, List.set_cons_succ]
        refine take_lit (i := 2) (v := ?_) rfl (by kernel_rfl) (by kernel_rfl) (by kernel_rfl) (fun _ _ _ h => h) (Or.inl ⟨by rfl, ?_⟩) (by assumption) ?_
        rotate_left
        · (intro w hSw; (try dsimp only at hSw); go_simp <;> with_reducible rfl)
        try simp only [Act.put, List.setIfInBounds_toArray, List.set_cons_zero, List.set_cons_succ]
        refine take_lit (i := 3) (v := ?_) rfl (by kernel_rfl) (by kernel_rfl) (by kernel_rfl) (fun _ _ _ h => h) (Or.inl ⟨by rfl, ?_⟩) (by assumption) ?_
        rotate_left
        · (intro w hSw; (try dsimp only at hSw); go_simp <;> with_reducible rfl)
        try simp only [Act.put, List.setIfInBounds_toArray, List.set_cons_zero, List.set_cons_succ]
        refine take_lit (i := 4) rfl (by kernel_rfl) (by kernel_rfl) (by kernel_rfl) (fun _ _ _ h => h) (yA d (fun w h => rangeAt_below q h hg) (by rfl) rfl rfl) (by assumption) ?_
        try simp only [Act.put, List.setIfInBounds_toArray, List.set_cons_zero, List.set_cons_succ]
        refine take_lit (i := 5) (v := ?_) rfl (by kernel_rfl) (by kernel_rfl) (by kernel_rfl) (fun _ _ _ h => h) (Or.inl ⟨by rfl, ?_⟩) (by assumption) ?_
        rotate_left
        · (intro w hSw; (try dsimp only at hSw); have z := hEq w; have z2 := fun op x y => gEq op x y w; go_simp <;> with_reducible rfl)
        try simp only [Act.put, List.setIfInBounds_toArray, List.set_cons_zero, List.set_cons_succ]
        refine wpAnyH_done (by kernel_rfl) ?_ _
        refine NoPanic.normal ?_
        have bX2 := bt bX hHeld
        clear hHeld hEq gEq qa q
        go_wp2_with fail
        go_roundw
        case rel => exact ⟨j + 1, HJ.out, by first | rfl | go_num, HNo.out, bX2⟩
        case measure => first | (rw [hw64]; simp only [intOf]; exact HM.out) | (simp only [intOf]; exact HM.out)
      | true =>
        obtain rfl : R = j := HYes.out rfl
        clear HYes HNo
        go_upto_region 4 with fail
        refine wp_region_noPanic ?_
        refine wp_region_held_drew (S := fun W => Below wr.heap.size wr W) (by kernel_rfl) ((Below.refl _ _).drew) (fun hHeld => ?_)
        refine take_lit (i := 0) rfl (by kernel_rfl) (by kernel_rfl) (by kernel_rfl) (fun _ _ _ h => h) (yA a (fun w h => qa _ (bt bX h)) (by rfl) rfl rfl) (by assumption) ?_
        try simp only [Act.put, List.setIfInBounds_toArray, List.set_cons_zero, List.set_cons_succ]
        refine take_lit (i := 1) (v := ?_) rfl (by kernel_rfl) (by kernel_rfl) (by kernel_rfl) (fun _ _ _ h => h) (Or.inl ⟨by rfl, ?_⟩) (by assumption) ?_
        rotate_left
        · (intro w hSw; (try dsimp only at hSw); go_simp <;> with_reducible rfl)
        try simp only [Act.put, List.setIfInBounds_toArray, List.set_cons_zero, List.set_cons_succ]
        refine take_lit (i := 2) (v := ?_) rfl (by kernel_rfl) (by kernel_rfl) (by kernel_rfl) (fun _ _ _ h => h) (Or.inl ⟨by rfl, ?_⟩) (by assumption) ?_
        rotate_left
        · (intro w hSw; (try dsimp only at hSw); go_simp <;> with_reducible rfl)
        try simp only [Act.put, List.setIfInBounds_toArray, List.set_cons_zero, List.set_cons_succ]
        refine take_lit (i := 3) (v := ?_) rfl (by kernel_rfl) (by kernel_rfl) (by kernel_rfl) (fun _ _ _ h => h) (Or.inl ⟨by rfl, ?_⟩) (by assumption) ?_
        rotate_left
        · (intro w hSw; (try dsimp only at hSw); go_simp <;> with_reducible rfl)
        try simp only [Act.put, List.setIfInBounds_toArray, List.set_cons_zero, List.set_cons_succ]
        refine take_lit (i := 4) rfl (by kernel_rfl) (by kernel_rfl) (by kernel_rfl) (fun _ _ _ h => h) (yA d (fun w h => rangeAt_below q h hg) (by rfl) rfl rfl) (by assumption) ?_
        try simp only [Act.put, List.setIfInBounds_toArray, List.set_cons_zero, List.set_cons_succ]
        refine take_lit (i := 5) (v := ?_) rfl (by kernel_rfl) (by kernel_rfl) (by kernel_rfl) (fun _ _ _ h => h) (Or.inl ⟨by rfl, ?_⟩) (by assumption) ?_
        rotate_left
        · (intro w hSw; (try dsimp only at hSw); have z := hEq w; have z2 := fun op x y => gEq op x y w; go_simp <;> with_reducible rfl)
        try simp only [Act.put, List.setIfInBounds_toArray, List.set_cons_zero, List.set_cons_succ]
        refine wpAnyH_done (by kernel_rfl) ?_ _
        refine NoPanic.normal ?_
        have bX2 := bt bX hHeld
        clear hHeld hEq gEq qa q
        go_wp2_with fail
        go_ret
        exact ⟨rfl, HB.out _ bX2⟩
    · have hji : ¬ (j : Int) < (ds.length : Int) := by omega
      have hR := ixA_none (ds := ds) (a := a) (fun i x hi hx => hno i x (by omega) hx)
      rw [hR]
      clear hno hX hlt hj
      go_wp2_with fail
      go_ret
      exact ⟨rfl, HB.out _ bX⟩
theorem containsA_any (ad : Option Addr) (c : Nat) (ds : List Ad) (a : Ad) (w : World) (hds : DsW w ad ds) (hl : ds.length ≤ 1000000) :
    Calls Try.prog 54 #[.slice ad ds.length c, (Value.agg (acells a).toArray)] w (Gives w (.bool (ds.any (sameA a)))) := by
  have r0 := Row.new w 32 (acells a)
  have b0 := ba w (.cells (acells a).toArray 32)
  have C := indexA_any ad c ds a _ (hds.below b0) hl
  have q := r0.range
  have HC := ixA_any ds a
  generalize ixA ds a = R at *
  generalize ds.any (sameA a) = B at *
  clear hds r0
  rcases HC with ⟨rfl, rfl⟩ | ⟨rfl, i, rfl⟩
  · go_enter Try.func54, Try.ntmps54
    go_wp2_with (first
      | (go_at_call 58; refine C.mono ?_; rintro e w1 ⟨rfl, k1⟩)
      | (refine ldA (.tmp 3) rfl rfl _ _ a rfl q ?_))
    go_ret
    exact ⟨rfl, bt b0 k1⟩
  · have hi : (0 : Int) ≤ (i : Int) := by omega
    go_enter Try.func54, Try.ntmps54
    go_wp2_with (first
      | (go_at_call 58; refine C.mono ?_; rintro e w1 ⟨rfl, k1⟩)
      | (refine ldA (.tmp 3) rfl rfl _ _ a rfl q ?_))
    go_ret
    exact ⟨rfl, bt b0 k1⟩
def dropB (i : Int) (ds : List Ad) (n : Ro) : Bool := decide (n.i = i) && (decide (ds.length = 0) || ds.any (sameA n.a))
theorem dropC_any (n : Ro) (i : Int) (ad : Option Addr) (c : Nat) (ds : List Ad) (g h : Nat) (w : World) (hi : Row w g 3 [.int .i64 i]) (ha : Row w h 81 [.slice ad ds.length c]) (hds : DsW w ad ds) (hl : ds.length ≤ 1000000) : Calls Try.prog 53 #[rV n, .pointer (some ⟨g, 0, none⟩), .pointer (some ⟨h, 0, none⟩)] w (Gives w (.bool (dropB i ds n))) := by
  have r0 := Row.new w 41 (ocs n)
  have b0 := ba w (.cells (ocs n).toArray 41)
  have c34 := (r0.cell 34).trans (oc34 n)
  have c0 := (hi.alloc (.cells (ocs n).toArray 41)).cell 0
  have c1 := (ha.alloc (.cells (ocs n).toArray 41)).cell 0
  have la : LA (w.alloc (.cells (ocs n).toArray 41)) w.heap.size 35 n.a := by have := r0.ro.a; simpa using this
  have C := containsA_any ad c ds n.a _ (hds.below b0) hl
  have HR : Hid (dropB i ds n = (decide (n.i = i) && (decide (ds.length = 0) || ds.any (sameA n.a)))) := rfl
  generalize dropB i ds n = R at *
  generalize ds.any (sameA n.a) = ae at *
  clear hi ha hds
  by_cases h1 : n.i = i
  · by_cases h2 : ds.length = 0
    · obtain rfl : R = true := by rw [HR.out]; simp [h1, h2]
      rw [h2] at c1
      go_enter Try.func53, Try.ntmps53
      go_wp2_with fail
      go_ret
      exact ⟨rfl, b0⟩
    · obtain rfl : R = ae := by rw [HR.out]; simp [h1, h2]
      have h2' : ((ds.length : Int) == 0) = false := by simp; intro e; exact h2 (by rw [e]; rfl)
      go_enter Try.func53, Try.ntmps53
      go_wp2_with (first
        | (go_at_call 54; refine C.mono ?_; rintro e w1 ⟨rfl, k1⟩)
        | (refine ldA (.tmp 15) rfl rfl _ _ n.a rfl la ?_))
      go_ret
      exact ⟨rfl, bt b0 k1⟩
  · obtain rfl : R = false := by rw [HR.out]; simp [h1]
    have h1' : (n.i == i) = false := by simpa using h1
    go_enter Try.func53, Try.ntmps53
    go_wp2_with fail
    go_ret
    exact ⟨rfl, b0⟩
end Go.Proofs.Ythofoocknmkdjaa

namespace Go.Proofs.Ythofoocknmkdjaa
open Go.RowKit Go.Maps Go.Shelf
set_option linter.unusedSimpArgs false
set_option linter.unusedVariables false
set_option maxRecDepth 20000
/-- What is left behind the deletes of the first j. -/
def lfR (K : List Ro) (L : List Ro) (j : Nat) : List Ro := L.filter fun m => !(K.take j).any fun n => keyB n.k m
theorem lfR_0 (K L : List Ro) : lfR K L 0 = L := by unfold lfR; simp
theorem lfR_step {K L : List Ro} {j : Nat} (hj : j < K.length) : delN (lfR K L j) K[j].k = lfR K L (j + 1) := by
  unfold delN lfR
  rw [List.filter_filter, List.take_succ_eq_append_getElem hj]
  refine List.filter_congr fun m _ => ?_
  rw [List.any_append]
  simp only [List.any_cons, List.any_nil, Bool.or_false, Bool.not_or]
  exact Bool.and_comm _ _
theorem lfR_end {K L : List Ro} {so : Ro → Bool} (hnd : (L.map keyN).Nodup) (hp : K.Perm (L.filter so)) : lfR K L K.length = L.filter fun m => !so m := by
  unfold lfR
  rw [List.take_length]
  refine List.filter_congr fun m hm => ?_
  congr 1
  cases h : so m with
  | true =>
    rw [List.any_eq_true]
    exact ⟨m, hp.mem_iff.2 (List.mem_filter.2 ⟨hm, h⟩), keyB_self m⟩
  | false =>
    rw [List.any_eq_false]
    intro n hn hk
    have hn2 := List.mem_filter.1 (hp.mem_iff.1 hn)
    have e : m = n := nd_inj hnd hm hn2.1 (by rw [keyB_iff] at hk; unfold keyN; rw [hk])
    rw [e, hn2.2] at h
    cases h
/-- What Drop leaves. -/
structure Dropped (w : World) (t mb : Nat) (most : Int) (L : List Ro) (so : Ro → Bool) (e : Ending) (w' : World) : Prop where
  ex : ∃ a c K, e = .returned (.slice a K.length c) ∧ K.Perm (L.filter so) ∧ Asc K ∧ kN.Own w' w.heap.size (.slice a K.length c) K ∧ Turn w w' t mb most (L.filter fun m => !so m)
set_option maxHeartbeats 16000000 in
theorem drop_any {w : World} {t mb : Nat} {most : Int} {L : List Ro} (h : Tb w t mb most L) (i : Int) (ad : Option Addr) (c : Nat) (ds : List Ad) (hds : DsW w ad ds) (hl : ds.length ≤ 1000000) :
    Calls Try.prog 34 #[.pointer (some ⟨t, 0, none⟩), .int .i64 i, .slice ad ds.length c] w (Dropped w t mb most L (dropB i ds)) := by
  have hmf : ∀ (fn : Fn) (first cap : Array Value) (w : World), (Instr.makeFunc fn first cap).run Try.prog w = .ok (.func fn first cap) w := fun _ _ _ _ => rfl
  have hwf := h.map.wf
  have hnd := h.map.nd
  have hll := h.ll
  have htm := h.map.lt
  have HT : Hid (Tb w t mb most L) := h
  obtain ⟨hB, r0, r1⟩ := low_rows w [.int .i64 i] [.slice ad ds.length c] 3 81
  clear h
  go_enter Try.func34, Try.ntmps34
  go_upto_region 1 with fail
  refine name_world (R := fun W => Code.wp _ _ _ _ W) (P := fun W => Below w.heap.size w W ∧ Row W w.heap.size 3 [.int .i64 i] ∧ Row W (w.heap.size + 1) 81 [.slice ad ds.length c]) _ ⟨hB, r0, r1⟩ ?_
  clear hB r0 r1
  rintro X ⟨hB, r0, r1⟩
  have hdX := hds.below hB
  have hW := where_any (HT.out.below hB) (dropB i ds) 53 #[.pointer (some ⟨w.heap.size, 0, none⟩), .pointer (some ⟨w.heap.size + 1, 0, none⟩)] (enters_of Try.func53 (by kernel_rfl) rfl) (fun n _ W hW => dropC_any n i ad c ds w.heap.size (w.heap.size + 1) W (r0.below hW r0.lt) (r1.below hW r1.lt) (hdX.below hW) hl)
  clear r0 r1 hdX hds
  go_upto_region 2 with (go_at_call 42; refine hW.mono ?_; rintro e w1 ⟨va, vc, K, rfl, hp, hasc, hO, b1⟩)
  have hKL : ∀ n ∈ K, n ∈ L := fun n hn => (List.mem_filter.1 (hp.mem_iff.1 hn)).1
  have hKn : K.length ≤ 1000000 := by
    rw [hp.length_eq]
    exact Nat.le_trans (List.length_filter_le _ _) hll
  have HF : Hid (lfR K L K.length = L.filter fun m => !dropB i ds m) := lfR_end hnd hp
  have HK : Hid (K.Perm (L.filter (dropB i ds)) ∧ Asc K) := ⟨hp, hasc⟩
  have HS : Hid (∀ j (hj : j < K.length), delN (lfR K L j) (K[j]'hj).k = lfR K L (j + 1) ∧ wfK (K[j]'hj).k) := fun j hj => ⟨lfR_step hj, hwf _ (hKL _ (List.getElem_mem hj))⟩
  have hT0 : Turn w w1 t mb most (lfR K L 0) := by rw [lfR_0]; exact Turn.of HT.out (bt hB b1)
  have HX : Hid (w.heap.size ≤ X.heap.size) := hB.size
  have hs1 : X.heap.size ≤ w1.heap.size := b1.size
  clear hwf hnd hll hp hasc hKL b1 hB hW HT
  go_wp2_with fail
  go_loopw [15] (fun u wr => ∃ (j : Nat), u = .int .i64 j ∧ j ≤ K.length ∧ Turn w wr t mb most (lfR K L j) ∧ kN.Own wr X.heap.size (.slice va K.length vc) K ∧ X.heap.size ≤ wr.heap.size) (fun u _ => K.length - (intOf u).toNat)
  case atStart => exact ⟨0, rfl, Nat.zero_le _, hT0, hO, hs1⟩
  case round =>
    clear hT0 hO hs1
    obtain ⟨j, rfl, hj, hT, hO, hsz⟩ := hrel
    by_cases hlt : j < K.length
    · obtain ⟨g, rfl, hg1, hg2, hel⟩ := own_elem hO (fun e => by rw [e] at hlt; simp at hlt)
      have hq := hel j hlt
      have hji : (j : Int) < (K.length : Int) := by omega
      have hw64 : wrap64 ((j : Int) + 1) = (j : Int) + 1 := by unfold wrap64; omega
      have HM : Hid (K.length - ((j : Int) + 1).toNat < K.length - ((j : Int)).toNat) := meas hlt
      obtain ⟨hS1, hS2⟩ := HS.out j hlt
      have HJ : Hid (j + 1 ≤ K.length) := hlt
      have HE : Hid (delN (lfR K L j) (K[j]'hlt).k = lfR K L (j + 1)) := hS1
      have HWf : Hid (wfK (K[j]'hlt).k) := hS2
      have HC : Hid (∀ W, Below wr.heap.size wr W → Turn w W t mb most (lfR K L j) ∧ kN.Own W X.heap.size (.slice (some ⟨g, 0, none⟩) K.length vc) K ∧ X.heap.size ≤ W.heap.size) := fun W hW => ⟨hT.post hW, own_below hO hW, Nat.le_trans hsz hW.size⟩
      clear HF hel hg1 hj hKn HS hS1 hS2 hT hO hsz HK
      generalize lfR K L j = C1 at *
      generalize (K[j]'hlt) = n at *
      clear hlt
      go_upto_region 5 with (first
        | (have kk := r2; refine stS (.tmp 9) (.tmp 18) rfl rfl g2 n _ rfl rfl r2 ?_; intro W3 g3 r3; have b3 := grown_below g3 hB2 hge2 hB2.size; clear r2)
        | (refine alG infoRz rfl rfl ?_; intro g2 W2 hge2 hgl2 hB2 r2)
        | (refine ldS (.tmp 17) rfl rfl _ _ n rfl hq ?_))
      obtain ⟨hT3, hO3, hs3⟩ := HC.out _ b3
      have hg3l := r3.lt
      refine wp_region_noPanic ?_
      refine wp_region_N (S := fun W => Below W3.heap.size W3 W) 6 (by kernel_rfl) ((Below.refl _ _).drew) (fun hHeld => ?_)
      refine takeN_lit (i := 0) (v := ?_) (F := #[false, false, false, false, true, true, false]) rfl (by kernel_rfl) (by kernel_rfl) (by kernel_rfl) (by kernel_rfl) (fun _ _ _ h => h) (Or.inl ⟨by rfl, ?_⟩) (by assumption) ?_
      rotate_left
      · (intro w hSw; (try dsimp only at hSw); go_simp <;> with_reducible rfl)
      try simp only [Act.put, List.setIfInBounds_toArray, List.set_cons_zero, List.set_cons_succ]
      refine takeN_lit (i := 1) (v := ?_) (F := #[true, false, false, false, true, true, false]) rfl (by kernel_rfl) (by kernel_rfl) (by kernel_rfl) (by kernel_rfl) (fun _ _ _ h => h) (Or.inl ⟨by rfl, ?_⟩) (by assumption) ?_
      rotate_left
      · (intro w hSw; (try dsimp only at hSw); go_simp <;> with_reducible rfl)
      try simp only [Act.put, List.setIfInBounds_toArray, List.set_cons_zero, List.set_cons_succ]
      refine takeN_lit (i := 2) (v := ?_) (F := #[true, true, false, false, true, true, false]) rfl (by kernel_rfl) (by kernel_rfl) (by kernel_rfl) (by kernel_rfl) (fun _ _ _ h => h) (Or.inl ⟨by rfl, ?_⟩) (by assumption) ?_
      rotate_left
      · (intro w hSw; (try dsimp only at hSw); go_simp <;> with_reducible rfl)
      try simp only [Act.put, List.setIfInBounds_toArray, List.set_cons_zero, List.set_cons_succ]
      refine takeN_lit (i := 3) (v := ?_) (F := #[true, true, true, false, true, true, false]) rfl (by kernel_rfl) (by kernel_rfl) (by kernel_rfl) (by kernel_rfl) (fun _ _ _ h => h) (Or.inl ⟨by rfl, ?_⟩) (by assumption) ?_
      rotate_left
      · (intro w hSw; (try dsimp only at hSw); have z := ((hT3.tb.below hSw).row.cell 1); go_simp <;> with_reducible rfl)
      try simp only [Act.put, List.setIfInBounds_toArray, List.set_cons_zero, List.set_cons_succ]
      refine takeN_lit (i := 4) (F := #[true, true, true, true, false, false, false]) rfl (by kernel_rfl) (by kernel_rfl) (by kernel_rfl) (by kernel_rfl) (fun _ _ _ h => h) (yS n (fun w h => (r3.below h hg3l).ro) (by rfl) rfl rfl) (by assumption) ?_
      try simp only [Act.put, List.setIfInBounds_toArray, List.set_cons_zero, List.set_cons_succ]
      refine wpAnyN_ready (rs := [5]) (by kernel_rfl) (by simp) ?_
      refine consN_lit rfl (fun K hK => ?_) ?_
      · go_simp
        refine (keyOf_any n _).mono ?_
        rintro e w8 ⟨rfl, b8⟩
        refine hK.out _ _ (Or.inr ?_) (fun hHeld => ?_)
        · exact bt hHeld b8
        replace hHeld := hHeld.resolve_left (by decide)
        clear hK K
        try simp only [Act.put, List.setIfInBounds_toArray, List.set_cons_zero, List.set_cons_succ]
        refine wpAnyN_ready (rs := [6]) (by kernel_rfl) (by simp) ?_
        refine consN_lit rfl (fun K hK => ?_) ?_
        · skip
          obtain ⟨W9, hrun, hT9, hg9⟩ := (hT3.post hHeld).del (k := n.k) HWf.out _
          refine sDel (.tmp 22) (.tmp 24) (by rfl) rfl rfl rfl hrun ?_
          refine hK.out _ _ (Or.inl rfl) (fun _ => ?_)
          clear hK K
          try simp only [Act.put, List.setIfInBounds_toArray, List.set_cons_zero, List.set_cons_succ]
          refine wpAnyN_done (by kernel_rfl) ?_ _
          refine NoPanic.normal ?_
          have hO9 := own_map (hT3.post hHeld).tb.map hg9 (own_below hO3 hHeld)
          have hs9 : X.heap.size ≤ W9.heap.size := Nat.le_trans hs3 (Nat.le_trans hHeld.size hg9.size)
          clear hT3 hO3 r3 hHeld hg9 hrun
          go_wp2_with fail
          go_roundw
          case rel => exact ⟨j + 1, by first | rfl | go_num, HJ.out, by rw [← HE.out]; exact hT9, hO9, hs9⟩
          case measure => (try rw [hw64]); simp only [intOf]; exact HM.out
        exact AllReadyN.nil
      exact AllReadyN.nil
    · have hje : j = K.length := by omega
      subst hje
      rw [HF.out] at hT
      have hO2 := Kd.own_up hO HX.out
      clear hlt hj HS
      go_wp2_with fail
      go_ret
      exact ⟨⟨_, _, K, rfl, HK.out.1, HK.out.2, hO2, hT⟩⟩
end Go.Proofs.Ythofoocknmkdjaa
