/-
  How operations are compared and sorted.
-/
import Derived.Test.YtiihlgcafppehaaF5
import Derived.Test.YtiihlgcafppehaaFD
namespace Go.Proofs.Ytiihlgcafppehaa.Oo
open Go.RowKit Go.Maps Go.Shelf
set_option linter.unusedSimpArgs false
set_option linter.unusedVariables false
set_option maxRecDepth 20000
/-- Removals come first. -/
def tn (o : Oq) : Int := if o.k = 3 then 0 else 1
def oky (o : Oq) : Int × Pr := (tn o, o.e.p)
def cmpO (x y : Oq) : Int := orI (cmpI (tn x) (tn y)) (cmpQ x.e.p y.e.p)
theorem turn_any (o : Oq) (w : World) : Calls Try.prog 70 #[oV o] w (fun e w' => e = .returned (.int .i64 (tn o)) ∧ Gr w w') := by
  have r0 := Row.new w 52 (pcs o)
  have hG := (Gr.refl w).alloc (.cells (pcs o).toArray 52)
  have HT : Hid (tn o = if o.k = 3 then 0 else 1) := rfl
  go_enter Try.func70, Try.ntmps70
  go_upto_region 1 with fail
  refine name_world (R := fun V => Code.wp _ _ _ _ V) (P := fun V => Gr w V ∧ Row V w.heap.size 52 (pcs o)) _ ⟨hG, r0⟩ ?_
  clear r0 hG
  rintro X ⟨hG, r0⟩
  have ck := r0.op.k
  by_cases h3 : o.k = 3
  · have h3' : (o.k == 3) = true := by simpa using h3
    have e : tn o = 0 := by rw [HT.out, if_pos h3]
    go_wp2_with fail
    go_ret
    exact ⟨by rw [e]; rfl, hG⟩
  · have h3' : (o.k == 3) = false := by simpa using h3
    have e : tn o = 1 := by rw [HT.out, if_neg h3]
    go_wp2_with fail
    go_ret
    exact ⟨by rw [e]; rfl, hG⟩
theorem cmpO_gr (x y : Oq) (w : World) : Calls Try.prog 59 #[oV x, oV y] w (fun e w' => e = .returned (.int .i64 (cmpO x y)) ∧ Gr w w') := by
  have C1 := turn_any x
  have C2 := turn_any y
  have C3 := cmp_int (tn x) (tn y)
  have C4 := orders_gr x.e y.e
  have HE : Hid (cmpO x y = orI (cmpI (tn x) (tn y)) (cmpQ x.e.p y.e.p)) := rfl
  obtain ⟨hB0, r0, r1⟩ := gr_rows w (pcs x) (pcs y) 52 52
  generalize cmpO x y = R at *
  generalize cmpI (tn x) (tn y) = p at *
  generalize cmpQ x.e.p y.e.p = q at *
  generalize tn x = tx at *
  generalize tn y = ty at *
  go_enter Try.func59, Try.ntmps59
  go_upto_region 1 with fail
  refine name_world (R := fun W => Code.wp _ _ _ _ W) (P := fun W => Gr w W ∧ Row W w.heap.size 52 (pcs x) ∧ Row W (w.heap.size + 1) 52 (pcs y)) _ ⟨hB0, r0, r1⟩ ?_
  clear hB0 r0 r1
  rintro X ⟨hG, r0, r1⟩
  have hs0 := r0.lt
  have hs1 := r1.lt
  have HK : Hid (∀ W, Gr X W → LO W w.heap.size 0 x ∧ LO W (w.heap.size + 1) 0 y) := fun W h => ⟨(r0.below h.below hs0).op, (r1.below h.below hs1).op⟩
  refine wp_region_noPanic ?_
  refine wp_region_held_drew (S := fun W => Gr X W) (by kernel_rfl) ((Gr.refl _).drew) (fun hHeld => ?_)
  refine take_lit (i := 0) rfl (by kernel_rfl) (by kernel_rfl) (by kernel_rfl) (fun _ _ _ h => h) (yO x (fun w h => (HK.out _ h).1) (by rfl) rfl rfl) (by assumption) ?_
  try simp only [Act.put, List.setIfInBounds_toArray, List.set_cons_zero, List.set_cons_succ]
  refine take_lit (i := 2) rfl (by kernel_rfl) (by kernel_rfl) (by kernel_rfl) (fun _ _ _ h => h) (yO y (fun w h => (HK.out _ h).2) (by rfl) rfl rfl) (by assumption) ?_
  try simp only [Act.put, List.setIfInBounds_toArray, List.set_cons_zero, List.set_cons_succ]
  refine take_lit (i := 5) (v := ?_) rfl (by kernel_rfl) (by kernel_rfl) (by kernel_rfl) (fun _ _ _ h => h) (Or.inl ⟨by rfl, ?_⟩) (by assumption) ?_
  rotate_left
  · (intro w hSw; (try dsimp only at hSw); go_simp <;> with_reducible rfl)
  try simp only [Act.put, List.setIfInBounds_toArray, List.set_cons_zero, List.set_cons_succ]
  refine take_lit (i := 6) rfl (by kernel_rfl) (by kernel_rfl) (by kernel_rfl) (fun _ _ _ h => h) (yE x.e (fun w h => (HK.out _ h).1.e) (by rfl) rfl rfl) (by assumption) ?_
  try simp only [Act.put, List.setIfInBounds_toArray, List.set_cons_zero, List.set_cons_succ]
  refine take_lit (i := 7) (v := ?_) rfl (by kernel_rfl) (by kernel_rfl) (by kernel_rfl) (fun _ _ _ h => h) (Or.inl ⟨by rfl, ?_⟩) (by assumption) ?_
  rotate_left
  · (intro w hSw; (try dsimp only at hSw); go_simp <;> with_reducible rfl)
  try simp only [Act.put, List.setIfInBounds_toArray, List.set_cons_zero, List.set_cons_succ]
  refine take_lit (i := 8) rfl (by kernel_rfl) (by kernel_rfl) (by kernel_rfl) (fun _ _ _ h => h) (yE y.e (fun w h => (HK.out _ h).2.e) (by rfl) rfl rfl) (by assumption) ?_
  try simp only [Act.put, List.setIfInBounds_toArray, List.set_cons_zero, List.set_cons_succ]
  refine wpAnyH_ready (rs := [1]) (by kernel_rfl) (by simp) ?_
  refine cons_lit rfl (fun K hK => ?_) ?_
  · go_simp
    refine (C1 _).mono ?_
    rintro e w1 ⟨rfl, hg1⟩
    refine hK.out _ _ ?_ (fun hHeld => ?_)
    · exact hHeld.trans hg1
    clear hK K
    try simp only [Act.put, List.setIfInBounds_toArray, List.set_cons_zero, List.set_cons_succ]
    refine wpAnyH_ready (rs := [3]) (by kernel_rfl) (by simp) ?_
    refine cons_lit rfl (fun K hK => ?_) ?_
    · go_simp
      refine (C2 _).mono ?_
      rintro e w2 ⟨rfl, hg2⟩
      refine hK.out _ _ ?_ (fun hHeld => ?_)
      · exact hHeld.trans hg2
      clear hK K
      try simp only [Act.put, List.setIfInBounds_toArray, List.set_cons_zero, List.set_cons_succ]
      refine wpAnyH_ready (rs := [4]) (by kernel_rfl) (by simp) ?_
      refine cons_lit rfl (fun K hK => ?_) ?_
      · go_simp
        refine (C3 _).mono ?_
        rintro e w3 ⟨rfl, rfl⟩
        refine hK.out _ _ ?_ (fun hHeld => ?_)
        · exact hHeld
        clear hK K
        try simp only [Act.put, List.setIfInBounds_toArray, List.set_cons_zero, List.set_cons_succ]
        refine wpAnyH_ready (rs := [9]) (by kernel_rfl) (by simp) ?_
        refine cons_lit rfl (fun K hK => ?_) ?_
        · go_simp
          refine (C4 _).mono ?_
          rintro e w4 ⟨rfl, hg4⟩
          refine hK.out _ _ ?_ (fun hHeld => ?_)
          · exact hHeld.trans hg4
          clear hK K
          try simp only [Act.put, List.setIfInBounds_toArray, List.set_cons_zero, List.set_cons_succ]
          refine wpAnyH_ready (rs := [10]) (by kernel_rfl) (by simp) ?_
          refine cons_lit rfl (fun K hK => ?_) ?_
          · go_simp
            refine hK.out _ _ ?_ (fun hHeld => ?_)
            · exact hHeld.alloc _
            clear hK K
            try simp only [Act.put, List.setIfInBounds_toArray, List.set_cons_zero, List.set_cons_succ]
            refine wpAnyH_ready (rs := [11]) (by kernel_rfl) (by simp) ?_
            refine cons_lit rfl (fun K hK => ?_) ?_
            · go_simp
              refine (or_two p q _ _ (by exact (Row.new _ _ _).cell 0) (by exact (Row.new _ _ _).cell 1)).mono ?_
              rintro e w5 ⟨rfl, rfl⟩
              refine hK.out _ _ ?_ (fun hHeld => ?_)
              · exact hHeld
              clear hK K
              try simp only [Act.put, List.setIfInBounds_toArray, List.set_cons_zero, List.set_cons_succ]
              refine take_lit (i := 12) (v := ?_) rfl (by kernel_rfl) (by kernel_rfl) (by kernel_rfl) (fun _ _ _ h => h) (Or.inl ⟨by rfl, ?_⟩) (by assumption) ?_
              rotate_left
              · (intro w hSw; (try dsimp only at hSw); go_simp <;> with_reducible rfl)
              try simp only [Act.put, List.setIfInBounds_toArray, List.set_cons_zero, List.set_cons_succ]
              refine wpAnyH_done (by kernel_rfl) ?_ _
              refine NoPanic.normal ?_
              go_wp2
              go_ret
              exact ⟨by rw [HE.out]; rfl, hG.trans hHeld⟩
            exact AllReadyH.nil
          exact AllReadyH.nil
        exact AllReadyH.nil
      exact AllReadyH.nil
    exact AllReadyH.nil
  exact AllReadyH.nil
theorem cmpO_neg (x y : Oq) : cmpO x y = - cmpO y x := or_neg (cmpI_neg _ _) (cmpQ_neg _ _)
theorem cmpO_zero (x y : Oq) : cmpO x y = 0 ↔ oky x = oky y := by
  unfold cmpO oky
  rw [or_zero, cmpI_zero, cmpQ_zero]
  simp only [Prod.mk.injEq]
theorem cmpO_trans (x y z : Oq) (h1 : cmpO x y < 0) (h2 : cmpO y z < 0) : cmpO x z < 0 := by
  unfold cmpO at *
  rw [or_lt, cmpI_lt, cmpI_zero] at *
  rcases h1 with h1 | ⟨h1, k1⟩
  · rcases h2 with h2 | ⟨h2, k2⟩
    · exact .inl (by omega)
    · exact .inl (by omega)
  · rcases h2 with h2 | ⟨h2, k2⟩
    · exact .inl (by omega)
    · exact .inr ⟨by omega, cmpQ_trans k1 k2⟩
theorem cmpO_key {x y : Oq} (z : Oq) (h : oky x = oky y) : cmpO x z = cmpO y z ∧ cmpO z x = cmpO z y := by
  unfold oky at h
  simp only [Prod.mk.injEq] at h
  unfold cmpO
  rw [h.1, h.2]
  exact ⟨rfl, rfl⟩
theorem insert_one (ad : Option Addr) (n c : Nat) (fv : Value) (w : World) (hn : n ≤ 1) : Calls Try.prog 76 #[.slice ad n c, .int .i64 0, .int .i64 (n : Int), fv] w fun e w' => e = .returned (.tuple #[]) ∧ w = w' := by
  go_enter Try.func76, Try.ntmps76
  go_wp2_with fail
  go_loopw [8] (fun i wr => i = .int .i64 1 ∧ w = wr) (fun _ _ => 0)
  case atStart => exact ⟨rfl, rfl⟩
  case round =>
    obtain ⟨rfl, rfl⟩ := hrel
    have hn' : ¬ (1 : Int) < (n : Int) := by omega
    go_wp2_with fail
    go_end0
    exact ⟨rfl, rfl⟩
theorem pdq_one (ad : Option Addr) (n c : Nat) (l : Int) (fv : Value) (w : World) (hn : n ≤ 1) : Calls Try.prog 68 #[.slice ad n c, .int .i64 0, .int .i64 (n : Int), .int .i64 l, fv] w fun e w' => e = .returned (.tuple #[]) ∧ w = w' := by
  have hI := insert_one ad n c fv
  have hn' : (n : Int) ≤ 12 := by omega
  go_enter Try.func68, Try.ntmps68
  go_wp2_with fail
  go_loopw [1, 2] (fun i b wr => i = .int .i64 0 ∧ b = .int .i64 (n : Int) ∧ w = wr) (fun _ _ _ => 0)
  case atStart => exact ⟨rfl, rfl, rfl⟩
  case round =>
    obtain ⟨rfl, rfl, rfl⟩ := hrel
    go_wp2_with (go_at_call 76; refine (hI _ hn).mono ?_; rintro e w1 ⟨rfl, rfl⟩)
    refine bodyPost_ret (results_none rfl _ _ _) rfl ?_
    exact ⟨rfl, rfl⟩
theorem sort_one (ad : Option Addr) (n c : Nat) (fv : Value) (w : World) (hn : n ≤ 1) : Calls Try.prog 58 #[.slice ad n c, fv] w fun e w' => e = .returned (.tuple #[]) ∧ Below w.heap.size w w' := by
  have hP := fun l W => pdq_one ad n c l fv W hn
  have hL := fun W => len_one n W hn
  have hc : IntKind.u64.wrap (n : Int) = n := by simp [IntKind.wrap, IntKind.signed, IntKind.bits]; omega
  go_enter Try.func58, Try.ntmps58
  go_wp2_with (first
    | (go_at_call 69; refine (hL _).mono ?_; rintro e w1 ⟨l, rfl, b1⟩)
    | (go_at_call 68; refine (hP _ _).mono ?_; rintro e w2 ⟨rfl, rfl⟩))
  go_end0
  exact ⟨rfl, b1⟩
theorem swoO : Sort.SWO (ltOf cmpO) where
  irrefl x := by
    unfold ltOf
    have := (cmpO_zero x x).2 rfl
    simp [this]
  trans x y z h1 h2 := by
    unfold ltOf at *
    simp only [decide_eq_true_eq] at *
    exact cmpO_trans x y z h1 h2
  ntrans x y z h1 h2 := by
    unfold ltOf at *
    simp only [decide_eq_false_iff_not] at *
    intro h
    by_cases e : cmpO x y = 0
    · have := (cmpO_key z ((cmpO_zero _ _).1 e)).1
      omega
    · have h3 : cmpO y x < 0 := by have := cmpO_neg x y; omega
      exact h2 (cmpO_trans y x z h3 h)
/-- In order. -/
def Asc (K : List Oq) : Prop := K.Pairwise fun x y => cmpO x y < 0
theorem flat_cs [Inhabited Oq] (L : List Oq) : (Sort.flatK pcs 52 L.toArray).toList = kO.cs L := by
  apply List.ext_getElem?
  intro t
  by_cases ht : t < L.length * 52
  · have h1 : t < (Sort.flatK pcs 52 L.toArray).size := by simpa using ht
    have h2 : t / 52 < L.length := by omega
    have h3 := kO.cs_get L (t / 52) L[t / 52] (List.getElem?_eq_getElem h2) (t % 52) (by show t % 52 < 52; omega)
    have e : t / 52 * kO.s + t % 52 = t := by show t / 52 * 52 + t % 52 = t; omega
    rw [e] at h3
    rw [h3, Array.getElem?_toList, Array.getElem?_eq_getElem h1, ← getElem!_pos _ t h1, Sort.get_flatK _ _ _ t (by simpa using ht)]
    have h4 : L.toArray[t / 52]! = L[t / 52] := by
      rw [getElem!_pos _ (t / 52) (by simpa using h2)]
      simp
    rw [h4]
    have h5 : t % 52 < (pcs L[t / 52]).length := by rw [pcs_len]; omega
    show some _ = (pcs L[t / 52])[t % 52]?
    rw [List.getElem?_eq_getElem h5, getElem!_pos (pcs L[t / 52]) (t % 52) h5]
  · have a1 : (Sort.flatK pcs 52 L.toArray).toList.length ≤ t := by rw [Array.length_toList, Sort.size_flatK]; simp; omega
    have a2 : (kO.cs L).length ≤ t := by rw [kO.cs_len]; show L.length * 52 ≤ t; omega
    rw [List.getElem?_eq_none a1, List.getElem?_eq_none a2]
theorem isAggN (w : World) : (isAgg 52).run Try.prog w = .ok true w := by kernel_rfl
theorem sizeOfN (w : World) : (Go.sizeOf 52).run Try.prog w = .ok 52 w := by kernel_rfl
theorem sort_any (L : List Oq) {w : World} {B : Nat} {v : Value} (hO : kO.Own w B v L) (hne : L ≠ []) (hL : L.length ≤ 1000000) (hnd : (L.map oky).Nodup) :
    Calls Try.prog 58 #[v, .func (.func 59) #[] #[]] w fun e w' => e = .returned (.tuple #[]) ∧ ∃ K, K.Perm L ∧ Asc K ∧ kO.Own w' B v K ∧ Below B w w' := by
  have hin : Inhabited Oq := ⟨zeroO⟩
  rcases hO.2 with ⟨_, h0⟩ | ⟨g, cap, cur, rfl, hB, hh, hc1, hc2, hc3, hc4⟩
  · exact absurd (List.eq_nil_of_length_eq_zero h0) hne
  have hg : g < w.heap.size := (Array.getElem?_eq_some_iff.1 hh).1
  have hrow : Row w g 52 cur.toList := hh
  have hH : Sort.HoldsK pcs 52 w g 0 L.toArray := fun t ht => by
    have ht' : t < L.length * 52 := by simpa using ht
    rw [Nat.zero_add]
    refine ⟨?_, hrow.frozen t⟩
    rw [hrow.cell t]
    have e1 : cur.toList[t]? = (cur.toList.take (L.length * 52))[t]? := by rw [List.getElem?_take_of_lt ht']
    have e2 : cur.toList.take (L.length * 52) = kO.cs L := hc4
    rw [e1, e2, ← flat_cs L, Array.getElem?_toList, Array.getElem?_eq_getElem ht, getElem!_pos _ t ht]
    rfl
  have hcmp : CmpLays Try.prog 59 #[] pcs 52 cmpO g 0 L.toArray.size w := fun m os dk hs x y => cmpO_gr x y _
  have h : Calls Try.prog 58 _ _ _ := AnyQ.slices_SortFunc Try.sortO 52 isAggN sizeOfN pcs pcs_len pcs_one cmpO swoO 59 #[] g 0 cap L.toArray w (enters_of Try.func59 (by kernel_rfl) rfl) hcmp hH hg (by simp; omega)
  rw [show L.toArray.size = L.length by simp] at h
  refine h.mono ?_
  rintro e w' ⟨rfl, d', n, os, hp, hs, rfl⟩
  have hz : d'.size = L.length := by rw [hp.1]; simp
  have hperm : d'.toList.Perm L := by
    have h3 := hp.2.2
    rw [Array.extract_eq_self_of_le (by omega), Array.extract_eq_self_of_le (by simp)] at h3
    simpa using h3
  have hnd' : (d'.toList.map oky).Nodup := (hperm.map _).nodup_iff.2 hnd
  refine ⟨rfl, d'.toList, hperm, ?_, ?_, ?_⟩
  · unfold Asc
    rw [List.pairwise_iff_getElem]
    intro i j hi hj hij
    have hi' : i < d'.size := by simpa using hi
    have hj' : j < d'.size := by simpa using hj
    have h5 := hs i j (Nat.zero_le _) hij (by omega)
    rw [getElem!_pos _ j hj', getElem!_pos _ i hi'] at h5
    have h6 : ¬ cmpO d'[j] d'[i] < 0 := of_decide_eq_false h5
    have h7 := cmpO_neg d'[i] d'[j]
    have h8 : cmpO d'[i] d'[j] ≠ 0 := fun e => by
      have hk := (cmpO_zero _ _).1 e
      have := (List.pairwise_iff_getElem.1 hnd') i j (by simpa using hi') (by simpa using hj') hij
      simp [hk] at this
    simp only [Array.getElem_toList]
    omega
  · have hk := swK_same pcs 52 w g n d' os hh
    refine ⟨by rw [kO.cs_len], .inr ⟨g, cap, _, by rw [show d'.toList.length = L.length by simpa using hz], hB, hk, by rw [show d'.toList.length = L.length by simpa using hz]; exact hc1, hc2, by simpa [Sort.putCells] using hc3, ?_⟩⟩
    rw [← flat_cs d'.toList]
    show _ = (Sort.flatK pcs 52 d'.toList.toArray).toList
    rw [show d'.toList.toArray = d' by simp]
    apply List.ext_getElem?
    intro t
    have hl2 : d'.toList.length = L.length := by simpa using hz
    by_cases ht : t < L.length * 52
    · have hfs : t < (Sort.flatK pcs 52 d').size := by rw [Sort.size_flatK, hz]; exact ht
      have htc : t < cur.size := by
        rw [hc3]
        exact Nat.lt_of_lt_of_le ht (Nat.mul_le_mul_right 52 hc1)
      rw [hl2, List.getElem?_take_of_lt (show t < L.length * kO.s from ht), Array.getElem?_toList, Array.getElem?_toList, Array.getElem?_eq_getElem hfs, Array.getElem?_eq_getElem (by simpa [Sort.putCells] using htc)]
      simp only [Sort.putCells, Array.getElem_mapIdx]
      rw [if_pos ⟨Nat.zero_le _, by omega⟩, Nat.sub_zero, getElem!_pos _ t hfs]
      rfl
    · rw [List.getElem?_eq_none, List.getElem?_eq_none]
      · rw [Array.length_toList, Sort.size_flatK, hz]; omega
      · rw [List.length_take, hl2]
        show min (L.length * 52) _ ≤ t
        omega
  · refine ⟨rfl, rfl, rfl, ?_, fun i hi => swK_other pcs 52 w g 0 n d' os (by omega) (by omega)⟩
    unfold sortWorldK
    rw [Sort.size_grow, Sort.size_putRowK]
    exact Nat.le_add_right _ _

theorem sortr_any (L : List Oq) {w : World} {B : Nat} {ad : Option Addr} {c : Nat} (hO : kO.Own w B (.slice ad L.length c) L) (hL : L.length ≤ 1000000) (hnd : (L.map oky).Nodup) (hB : B ≤ w.heap.size) :
    Calls Try.prog 58 #[.slice ad L.length c, .func (.func 59) #[] #[]] w fun e w' => e = .returned (.tuple #[]) ∧ ∃ K, K.Perm L ∧ Asc K ∧ kO.Own w' B (.slice ad K.length c) K ∧ Below B w w' := by
  by_cases hx : L = []
  · subst hx
    refine (sort_one ad 0 c _ w (by omega)).mono ?_
    rintro e w' ⟨rfl, hb⟩
    exact ⟨rfl, [], .refl _, .nil, own_below hO hb, hb.mono hB⟩
  · refine (sort_any L hO hx hL hnd).mono ?_
    rintro e w' ⟨rfl, K, k1, k2, k3, k4⟩
    exact ⟨rfl, K, k1, k2, by rw [k1.length_eq]; exact k3, k4⟩
end Go.Proofs.Ytiihlgcafppehaa.Oo
