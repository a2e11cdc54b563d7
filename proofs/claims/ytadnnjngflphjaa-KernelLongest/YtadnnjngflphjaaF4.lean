/-
  Rows of routes; how they are sorted.
-/
import Derived.Test.YtadnnjngflphjaaF3
import Derived.Test.YtadnnjngflphjaaShelf
namespace Go.Proofs.Ytadnnjngflphjaa
open Go.RowKit Go.Maps Go.Shelf
set_option linter.unusedSimpArgs false
set_option linter.unusedVariables false
set_option maxRecDepth 20000
theorem insert_one (ad : Option Addr) (n c : Nat) (fv : Value) (w : World) (hn : n ≤ 1) : Calls Try.prog 59 #[.slice ad n c, .int .i64 0, .int .i64 (n : Int), fv] w fun e w' => e = .returned (.tuple #[]) ∧ w = w' := by
  go_enter Try.func59, Try.ntmps59
  go_wp2_with fail
  go_loopw [8] (fun i wr => i = .int .i64 1 ∧ w = wr) (fun _ _ => 0)
  case atStart => exact ⟨rfl, rfl⟩
  case round =>
    obtain ⟨rfl, rfl⟩ := hrel
    have hn' : ¬ (1 : Int) < (n : Int) := by omega
    go_wp2_with fail
    go_end0
    exact ⟨rfl, rfl⟩
theorem pdq_one (ad : Option Addr) (n c : Nat) (l : Int) (fv : Value) (w : World) (hn : n ≤ 1) : Calls Try.prog 55 #[.slice ad n c, .int .i64 0, .int .i64 (n : Int), .int .i64 l, fv] w fun e w' => e = .returned (.tuple #[]) ∧ w = w' := by
  have hI := insert_one ad n c fv
  have hn' : (n : Int) ≤ 12 := by omega
  go_enter Try.func55, Try.ntmps55
  go_wp2_with fail
  go_loopw [1, 2] (fun i b wr => i = .int .i64 0 ∧ b = .int .i64 (n : Int) ∧ w = wr) (fun _ _ _ => 0)
  case atStart => exact ⟨rfl, rfl, rfl⟩
  case round =>
    obtain ⟨rfl, rfl, rfl⟩ := hrel
    go_wp2_with (go_at_call 59; refine (hI _ hn).mono ?_; rintro e w1 ⟨rfl, rfl⟩)
    refine bodyPost_ret (results_none rfl _ _ _) rfl ?_
    exact ⟨rfl, rfl⟩
theorem len_one (n : Nat) (w : World) (hn : n ≤ 1) : Calls Try.prog 56 #[.int .u64 (n : Int)] w fun e w' => ∃ l, e = .returned (.int .i64 l) ∧ Below w.heap.size w w' := by
  match n, hn with
  | 0, _ =>
    go_enter Try.func56, Try.ntmps56
    go_wp2
    go_ret
    exact ⟨_, rfl, Below.refl _ _⟩
  | 1, _ =>
    go_enter Try.func56, Try.ntmps56
    go_wp2
    go_ret
    exact ⟨_, rfl, Below.refl _ _⟩
theorem sort_one (ad : Option Addr) (n c : Nat) (fv : Value) (w : World) (hn : n ≤ 1) : Calls Try.prog 49 #[.slice ad n c, fv] w fun e w' => e = .returned (.tuple #[]) ∧ Below w.heap.size w w' := by
  have hP := fun l W => pdq_one ad n c l fv W hn
  have hL := fun W => len_one n W hn
  have hc : IntKind.u64.wrap (n : Int) = n := by simp [IntKind.wrap, IntKind.signed, IntKind.bits]; omega
  go_enter Try.func49, Try.ntmps49
  go_wp2_with (first
    | (go_at_call 56; refine (hL _).mono ?_; rintro e w1 ⟨l, rfl, b1⟩)
    | (go_at_call 55; refine (hP _ _).mono ?_; rintro e w2 ⟨rfl, rfl⟩))
  go_end0
  exact ⟨rfl, b1⟩
theorem cmp_bytes : ∀ l m : List UInt8, (-1 ≤ Lib.compareBytes l m ∧ Lib.compareBytes l m ≤ 1) ∧ Lib.compareBytes l m = - Lib.compareBytes m l ∧ (Lib.compareBytes l m = 0 ↔ l = m)
  | [], [] => by simp [Lib.compareBytes]
  | [], _ :: _ => by simp [Lib.compareBytes]
  | _ :: _, [] => by simp [Lib.compareBytes]
  | a :: l, b :: m => by
    have ih := cmp_bytes l m
    simp only [Lib.compareBytes]
    by_cases h1 : a < b
    · have h2 : ¬ b < a := fun h => by have := UInt8.lt_iff_toNat_lt.1 h1; have := UInt8.lt_iff_toNat_lt.1 h; omega
      have h3 : a ≠ b := fun h => by subst h; exact h2 h1
      rw [if_pos h1, if_neg h2, if_pos h1]
      exact ⟨by omega, rfl, ⟨fun h => by omega, fun h => by cases h; exact absurd rfl h3⟩⟩
    · by_cases h2 : b < a
      · have h3 : a ≠ b := fun h => by subst h; exact h1 h2
        rw [if_neg h1, if_pos h2, if_pos h2]
        exact ⟨by omega, rfl, ⟨fun h => by omega, fun h => by cases h; exact absurd rfl h3⟩⟩
      · have h3 : a = b := by
          apply UInt8.toNat.inj
          have q1 : ¬ a.toNat < b.toNat := fun h => h1 (UInt8.lt_iff_toNat_lt.2 h)
          have q2 : ¬ b.toNat < a.toNat := fun h => h2 (UInt8.lt_iff_toNat_lt.2 h)
          omega
        subst h3
        rw [if_neg h1, if_neg h1, if_neg h1, if_neg h1]
        exact ⟨ih.1, ih.2.1, ⟨fun h => by rw [ih.2.2.1 h], fun h => by cases h; exact ih.2.2.2 rfl⟩⟩
theorem cmp_bytes_lt : ∀ l m k : List UInt8, Lib.compareBytes l m < 0 → Lib.compareBytes m k < 0 → Lib.compareBytes l k < 0
  | [], [], _, h, _ => by simp [Lib.compareBytes] at h
  | [], _ :: _, [], _, h => by simp [Lib.compareBytes] at h
  | [], _ :: _, _ :: _, _, _ => by simp [Lib.compareBytes]
  | _ :: _, [], _, h, _ => by simp [Lib.compareBytes] at h
  | _ :: _, _ :: _, [], _, h => by simp [Lib.compareBytes] at h
  | a :: l, b :: m, c :: k, h, h' => by
    have ih := cmp_bytes_lt l m k
    simp only [Lib.compareBytes] at h h' ⊢
    simp only [UInt8.lt_iff_toNat_lt] at h h' ⊢
    split at h <;> split at h' <;> (try split at h) <;> (try split at h') <;> (try (exfalso; omega)) <;> split <;> (try omega) <;> (try split) <;> (try (exfalso; omega)) <;> exact ih h h'

theorem cmpI_neg (a b : Int) : cmpI a b = - cmpI b a := by
  unfold cmpI
  split <;> split <;> (try split) <;> (try split) <;> omega
theorem cmpI_zero (a b : Int) : cmpI a b = 0 ↔ a = b := by
  unfold cmpI
  split
  · constructor
    · intro h; omega
    · intro h; omega
  · split
    · constructor
      · intro h; omega
      · intro h; omega
    · constructor
      · intro _; omega
      · intro _; rfl
theorem cmpI_lt (a b : Int) : cmpI a b < 0 ↔ a < b := by
  unfold cmpI
  split
  · simp_all
  · split
    · simp; omega
    · simp; omega
theorem cmpA_neg (a b : Ad) : cmpA a b = - cmpA b a := (cmp_bytes a.l b.l).2.1
theorem cmpA_zero (a b : Ad) : cmpA a b = 0 ↔ a = b := by
  unfold cmpA
  rw [(cmp_bytes a.l b.l).2.2]
  exact ⟨Ad.ext, fun h => by rw [h]⟩
/-- An order in two steps. -/
theorem or_neg {x y x' y' : Int} (h1 : x = - x') (h2 : y = - y') : orI x y = - orI x' y' := by
  unfold orI
  by_cases h : x = 0
  · rw [if_pos h, if_pos (by omega), h2]
  · rw [if_neg h, if_neg (by omega), h1]
theorem or_zero {x y : Int} : orI x y = 0 ↔ x = 0 ∧ y = 0 := by
  unfold orI
  by_cases h : x = 0
  · rw [if_pos h]; simp [h]
  · rw [if_neg h]; simp [h]
theorem or_lt {x y : Int} : orI x y < 0 ↔ x < 0 ∨ x = 0 ∧ y < 0 := by
  unfold orI
  by_cases h : x = 0
  · rw [if_pos h]; omega
  · rw [if_neg h]; omega
theorem cmpP_neg (p q : Pf) : cmpP p q = - cmpP q p := or_neg (cmpA_neg _ _) (cmpI_neg _ _)
theorem cmpP_zero (p q : Pf) : cmpP p q = 0 ↔ p = q := by
  obtain ⟨a, n⟩ := p
  obtain ⟨b, m⟩ := q
  unfold cmpP
  rw [or_zero, cmpA_zero, cmpI_zero]
  simp
theorem cmpP_trans {p q r : Pf} (h1 : cmpP p q < 0) (h2 : cmpP q r < 0) : cmpP p r < 0 := by
  unfold cmpP at *
  rw [or_lt, cmpA_zero, cmpI_lt] at *
  unfold cmpA at *
  rcases h1 with h1 | ⟨h1, k1⟩
  · rcases h2 with h2 | ⟨h2, k2⟩
    · exact .inl (cmp_bytes_lt _ _ _ h1 h2)
    · exact .inl (by rw [← h2]; exact h1)
  · rcases h2 with h2 | ⟨h2, k2⟩
    · exact .inl (by rw [h1]; exact h2)
    · exact .inr ⟨h1.trans h2, by omega⟩
theorem cmpQ_neg (p q : Pr) : cmpQ p q = - cmpQ q p := or_neg (cmpP_neg _ _) (cmpP_neg _ _)
theorem cmpQ_zero (p q : Pr) : cmpQ p q = 0 ↔ p = q := by
  obtain ⟨a, n⟩ := p
  obtain ⟨b, m⟩ := q
  unfold cmpQ
  rw [or_zero, cmpP_zero, cmpP_zero]
  simp
theorem cmpQ_trans {p q r : Pr} (h1 : cmpQ p q < 0) (h2 : cmpQ q r < 0) : cmpQ p r < 0 := by
  unfold cmpQ at *
  rw [or_lt, cmpP_zero] at *
  rcases h1 with h1 | ⟨h1, k1⟩
  · rcases h2 with h2 | ⟨h2, k2⟩
    · exact .inl (cmpP_trans h1 h2)
    · exact .inl (by rw [← h2]; exact h1)
  · rcases h2 with h2 | ⟨h2, k2⟩
    · exact .inl (by rw [h1]; exact h2)
    · exact .inr ⟨h1.trans h2, cmpP_trans k1 k2⟩
/-- The order of entries. -/
def cmpN (x y : En) : Int := cmpQ x.p y.p
theorem cmpN_gr (x y : En) (w : World) : Calls Try.prog 50 #[eV x, eV y] w (fun e w' => e = .returned (.int .i64 (cmpN x y)) ∧ Gr w w') := orders_gr x y w
theorem cmpN_neg (x y : En) : cmpN x y = - cmpN y x := cmpQ_neg _ _
theorem cmpN_zero (x y : En) : cmpN x y = 0 ↔ x.p = y.p := cmpQ_zero _ _
theorem cmpN_trans (x y z : En) (h1 : cmpN x y < 0) (h2 : cmpN y z < 0) : cmpN x z < 0 := cmpQ_trans h1 h2
theorem cmpN_key {x y : En} (z : En) (h : x.p = y.p) : cmpN x z = cmpN y z ∧ cmpN z x = cmpN z y := by
  unfold cmpN
  rw [h]
  exact ⟨rfl, rfl⟩
theorem swoN : Sort.SWO (ltOf cmpN) where
  irrefl x := by
    unfold ltOf
    have := (cmpN_zero x x).2 rfl
    simp [this]
  trans x y z h1 h2 := by
    unfold ltOf at *
    simp only [decide_eq_true_eq] at *
    exact cmpN_trans x y z h1 h2
  ntrans x y z h1 h2 := by
    unfold ltOf at *
    simp only [decide_eq_false_iff_not] at *
    intro h
    by_cases e : cmpN x y = 0
    · have := (cmpN_key z ((cmpN_zero _ _).1 e)).1
      omega
    · have h3 : cmpN y x < 0 := by have := cmpN_neg x y; omega
      exact h2 (cmpN_trans y x z h3 h)
/-- In order. -/
def Asc (K : List En) : Prop := K.Pairwise fun x y => cmpN x y < 0
theorem flat_cs [Inhabited En] (L : List En) : (Sort.flatK ecs 51 L.toArray).toList = kE.cs L := by
  apply List.ext_getElem?
  intro t
  by_cases ht : t < L.length * 51
  · have h1 : t < (Sort.flatK ecs 51 L.toArray).size := by simpa using ht
    have h2 : t / 51 < L.length := by omega
    have h3 := kE.cs_get L (t / 51) L[t / 51] (List.getElem?_eq_getElem h2) (t % 51) (by show t % 51 < 51; omega)
    have e : t / 51 * kE.s + t % 51 = t := by show t / 51 * 51 + t % 51 = t; omega
    rw [e] at h3
    rw [h3, Array.getElem?_toList, Array.getElem?_eq_getElem h1, ← getElem!_pos _ t h1, Sort.get_flatK _ _ _ t (by simpa using ht)]
    have h4 : L.toArray[t / 51]! = L[t / 51] := by
      rw [getElem!_pos _ (t / 51) (by simpa using h2)]
      simp
    rw [h4]
    have h5 : t % 51 < (ecs L[t / 51]).length := by rw [ecs_len]; omega
    show some _ = (ecs L[t / 51])[t % 51]?
    rw [List.getElem?_eq_getElem h5, getElem!_pos (ecs L[t / 51]) (t % 51) h5]
  · have a1 : (Sort.flatK ecs 51 L.toArray).toList.length ≤ t := by rw [Array.length_toList, Sort.size_flatK]; simp; omega
    have a2 : (kE.cs L).length ≤ t := by rw [kE.cs_len]; show L.length * 51 ≤ t; omega
    rw [List.getElem?_eq_none a1, List.getElem?_eq_none a2]
theorem swK_other {α : Type} [Inhabited α] (enc : α → List Value) (k : Nat) (w : World) (blk off m : Nat) (d : Array α) (os : Array Obj) {i : Nat} (hi : i < w.heap.size) (hne : i ≠ blk) : (sortWorldK enc k w blk off m d os).heap[i]? = w.heap[i]? := by
  unfold sortWorldK
  rw [Sort.heap_grow_old _ _ (by rw [Sort.size_putRowK]; exact hi)]
  show ((Sort.ahead w m).heap.modify blk _)[i]? = _
  rw [Array.getElem?_modify, if_neg (fun e => hne e.symm)]
  rfl
theorem swK_same {α : Type} [Inhabited α] (enc : α → List Value) (k : Nat) (w : World) (blk m : Nat) (d : Array α) (os : Array Obj) {cur : Array Value} {T : TypeId} {f : Nat × Nat} (h : w.heap[blk]? = some (.cells cur T f)) : (sortWorldK enc k w blk 0 m d os).heap[blk]? = some (.cells (Sort.putCells id 0 (Sort.flatK enc k d) cur) T f) := by
  have hl := (Array.getElem?_eq_some_iff.1 h).1
  unfold sortWorldK
  rw [Sort.heap_grow_old _ _ (by rw [Sort.size_putRowK]; exact hl)]
  show ((Sort.ahead w m).heap.modify blk _)[blk]? = _
  rw [Array.getElem?_modify, if_pos rfl]
  show (w.heap[blk]?).map _ = _
  rw [h]
  rfl
theorem isAggN (w : World) : (isAgg 37).run Try.prog w = .ok true w := by kernel_rfl
theorem sizeOfN (w : World) : (Go.sizeOf 37).run Try.prog w = .ok 51 w := by kernel_rfl
theorem sort_any (L : List En) {w : World} {B : Nat} {v : Value} (hO : kE.Own w B v L) (hne : L ≠ []) (hL : L.length ≤ 1000000) (hnd : (L.map En.p).Nodup) :
    Calls Try.prog 49 #[v, .func (.func 50) #[] #[]] w fun e w' => e = .returned (.tuple #[]) ∧ ∃ K, K.Perm L ∧ Asc K ∧ kE.Own w' B v K ∧ Below B w w' := by
  have hin : Inhabited En := ⟨zeroE⟩
  rcases hO.2 with ⟨_, h0⟩ | ⟨g, cap, cur, rfl, hB, hh, hc1, hc2, hc3, hc4⟩
  · exact absurd (List.eq_nil_of_length_eq_zero h0) hne
  have hg : g < w.heap.size := (Array.getElem?_eq_some_iff.1 hh).1
  have hrow : Row w g 37 cur.toList := hh
  have hH : Sort.HoldsK ecs 51 w g 0 L.toArray := fun t ht => by
    have ht' : t < L.length * 51 := by simpa using ht
    rw [Nat.zero_add]
    refine ⟨?_, hrow.frozen t⟩
    rw [hrow.cell t]
    have e1 : cur.toList[t]? = (cur.toList.take (L.length * 51))[t]? := by rw [List.getElem?_take_of_lt ht']
    have e2 : cur.toList.take (L.length * 51) = kE.cs L := hc4
    rw [e1, e2, ← flat_cs L, Array.getElem?_toList, Array.getElem?_eq_getElem ht, getElem!_pos _ t ht]
    rfl
  have hcmp : CmpLays Try.prog 50 #[] ecs 51 cmpN g 0 L.toArray.size w := fun m os dk hs x y => cmpN_gr x y _
  have h : Calls Try.prog 49 _ _ _ := AnyQ.slices_SortFunc Try.sortN 51 isAggN sizeOfN ecs ecs_len ecs_one cmpN swoN 50 #[] g 0 cap L.toArray w (enters_of Try.func50 (by kernel_rfl) rfl) hcmp hH hg (by simp; omega)
  rw [show L.toArray.size = L.length by simp] at h
  refine h.mono ?_
  rintro e w' ⟨rfl, d', n, os, hp, hs, rfl⟩
  have hz : d'.size = L.length := by rw [hp.1]; simp
  have hperm : d'.toList.Perm L := by
    have h3 := hp.2.2
    rw [Array.extract_eq_self_of_le (by omega), Array.extract_eq_self_of_le (by simp)] at h3
    simpa using h3
  have hnd' : (d'.toList.map En.p).Nodup := (hperm.map _).nodup_iff.2 hnd
  refine ⟨rfl, d'.toList, hperm, ?_, ?_, ?_⟩
  · unfold Asc
    rw [List.pairwise_iff_getElem]
    intro i j hi hj hij
    have hi' : i < d'.size := by simpa using hi
    have hj' : j < d'.size := by simpa using hj
    have h5 := hs i j (Nat.zero_le _) hij (by omega)
    rw [getElem!_pos _ j hj', getElem!_pos _ i hi'] at h5
    have h6 : ¬ cmpN d'[j] d'[i] < 0 := of_decide_eq_false h5
    have h7 := cmpN_neg d'[i] d'[j]
    have h8 : cmpN d'[i] d'[j] ≠ 0 := fun e => by
      have hk := (cmpN_zero _ _).1 e
      have := (List.pairwise_iff_getElem.1 hnd') i j (by simpa using hi') (by simpa using hj') hij
      simp [hk] at this
    simp only [Array.getElem_toList]
    omega
  · have hk := swK_same ecs 51 w g n d' os hh
    refine ⟨by rw [kE.cs_len], .inr ⟨g, cap, _, by rw [show d'.toList.length = L.length by simpa using hz], hB, hk, by rw [show d'.toList.length = L.length by simpa using hz]; exact hc1, hc2, by simpa [Sort.putCells] using hc3, ?_⟩⟩
    rw [← flat_cs d'.toList]
    show _ = (Sort.flatK ecs 51 d'.toList.toArray).toList
    rw [show d'.toList.toArray = d' by simp]
    apply List.ext_getElem?
    intro t
    have hl2 : d'.toList.length = L.length := by simpa using hz
    by_cases ht : t < L.length * 51
    · have hfs : t < (Sort.flatK ecs 51 d').size := by rw [Sort.size_flatK, hz]; exact ht
      have htc : t < cur.size := by
        rw [hc3]
        exact Nat.lt_of_lt_of_le ht (Nat.mul_le_mul_right 51 hc1)
      rw [hl2, List.getElem?_take_of_lt (show t < L.length * kE.s from ht), Array.getElem?_toList, Array.getElem?_toList, Array.getElem?_eq_getElem hfs, Array.getElem?_eq_getElem (by simpa [Sort.putCells] using htc)]
      simp only [Sort.putCells, Array.getElem_mapIdx]
      rw [if_pos ⟨Nat.zero_le _, by omega⟩, Nat.sub_zero, getElem!_pos _ t hfs]
      rfl
    · rw [List.getElem?_eq_none, List.getElem?_eq_none]
      · rw [Array.length_toList, Sort.size_flatK, hz]; omega
      · rw [List.length_take, hl2]
        show min (L.length * 51) _ ≤ t
        omega
  · refine ⟨rfl, rfl, rfl, ?_, fun i hi => swK_other ecs 51 w g 0 n d' os (by omega) (by omega)⟩
    unfold sortWorldK
    rw [Sort.size_grow, Sort.size_putRowK]
    exact Nat.le_add_right _ _

theorem sortr_any (L : List En) {w : World} {B : Nat} {ad : Option Addr} {c : Nat} (hO : kE.Own w B (.slice ad L.length c) L) (hL : L.length ≤ 1000000) (hnd : (L.map En.p).Nodup) (hB : B ≤ w.heap.size) :
    Calls Try.prog 49 #[.slice ad L.length c, .func (.func 50) #[] #[]] w fun e w' => e = .returned (.tuple #[]) ∧ ∃ K, K.Perm L ∧ Asc K ∧ kE.Own w' B (.slice ad K.length c) K ∧ Below B w w' := by
  by_cases hx : L = []
  · subst hx
    refine (sort_one ad 0 c _ w (by omega)).mono ?_
    rintro e w' ⟨rfl, hb⟩
    exact ⟨rfl, [], .refl _, .nil, own_below hO hb, hb.mono hB⟩
  · refine (sort_any L hO hx hL hnd).mono ?_
    rintro e w' ⟨rfl, K, k1, k2, k3, k4⟩
    exact ⟨rfl, K, k1, k2, by rw [k1.length_eq]; exact k3, k4⟩
end Go.Proofs.Ytadnnjngflphjaa
