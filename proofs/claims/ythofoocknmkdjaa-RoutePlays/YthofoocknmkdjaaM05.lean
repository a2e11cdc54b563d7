/-
  Rows of routes; how they are sorted.
-/
import Derived.Test.YthofoocknmkdjaaM04
import Derived.Maps.RangeWalk
namespace Go.Proofs.Ythofoocknmkdjaa
open Go.RowKit Go.Maps Go.Shelf
set_option linter.unusedSimpArgs false
set_option linter.unusedVariables false
set_option maxRecDepth 20000
def kN : Kd Ro := ⟨ocs, 41, 28, 81, 128, ocs zeroR, ocs_len, ocs_one, Try.underlying28, by kernel_rfl, ocs_len _, by decide, by decide⟩
theorem bsN1 (n : Ro) (w : World) : (Instr.buildSlice 28 1 #[(0, rV n)]).run Try.prog w = .ok (.slice (some ⟨w.heap.size, 0, none⟩) 1 1) (w.alloc (.cells (ocs n).toArray 41)) := by
  induction n using Ro.lits with | h =>
  show _ = _
  kernel_rfl
/-- What has come, and what is left. -/
def Coll (L : List Ro) (left : Lit → Bool) (ss : List Ro) : Prop := ∃ rs : List Ro, (ss ++ rs).Perm L ∧ ∀ l, left l = true ↔ ∃ n ∈ rs, kl n.k = l
theorem Coll.step {L : List Ro} {left : Lit → Bool} {ss : List Ro} (h : Coll L left ss) (hw : ∀ n ∈ L, wfK n.k) (hd : (L.map keyN).Nodup) {l : Lit} (hl : left l = true) : ∃ n, n ∈ L ∧ kl n.k = l ∧ Coll L (fun z => left z && !z.sameKey l) (ss ++ [n]) := by
  obtain ⟨rs, hp, hr⟩ := h
  obtain ⟨n, hn, rfl⟩ := (hr l).1 hl
  obtain ⟨r1, r2, rfl⟩ := List.append_of_mem hn
  have hL : ∀ m, m ∈ ss ++ (r1 ++ n :: r2) ↔ m ∈ L := fun m => hp.mem_iff
  have hnL : n ∈ L := (hL n).1 (by simp)
  refine ⟨n, hnL, rfl, r1 ++ r2, ?_, fun z => ?_⟩
  · refine List.Perm.trans ?_ hp
    rw [List.append_assoc]
    exact List.Perm.append_left ss (by simpa using (List.perm_middle (a := n) (l₁ := r1) (l₂ := r2)).symm)
  · have hnd : ((ss ++ (r1 ++ n :: r2)).map keyN).Nodup := (hp.map _).nodup_iff.2 hd
    have hne : ∀ m ∈ r1 ++ r2, kl m.k ≠ kl n.k := by
      intro m hm e
      have hmL : m ∈ L := (hL m).1 (by simp at hm ⊢; rcases hm with h | h <;> simp [h])
      have ek : keyN m = keyN n := kl_inj (hw m hmL) (hw n hnL) e
      rw [List.map_append, List.nodup_append] at hnd
      have h2 := hnd.2.1
      rw [List.map_append, List.map_cons] at h2
      have h3 := (List.perm_middle (a := keyN n) (l₁ := r1.map keyN) (l₂ := r2.map keyN)).nodup_iff.1 h2
      rw [List.nodup_cons] at h3
      apply h3.1
      rw [← ek, ← List.map_append]
      exact List.mem_map_of_mem hm
    rw [Bool.and_eq_true, hr]
    constructor
    · rintro ⟨⟨m, hm, rfl⟩, hs⟩
      refine ⟨m, ?_, rfl⟩
      rcases List.mem_append.1 hm with h | h
      · exact List.mem_append_left _ h
      · rcases List.mem_cons.1 h with rfl | h
        · rw [WideAt.sameKey_self (kl_key (hw m hnL))] at hs
          cases hs
        · exact List.mem_append_right _ h
    · rintro ⟨m, hm, rfl⟩
      refine ⟨⟨m, ?_, rfl⟩, ?_⟩
      · rcases List.mem_append.1 hm with h | h
        · exact List.mem_append_left _ h
        · exact List.mem_append_right _ (List.mem_cons_of_mem _ h)
      · rw [sameKey_ne (hne m hm)]; rfl
theorem Coll.done {L : List Ro} {left : Lit → Bool} {ss : List Ro} (h : Coll L left ss) (hl : ∀ l, left l = false) : ss.Perm L := by
  obtain ⟨rs, hp, hr⟩ := h
  cases rs with
  | nil => simpa using hp
  | cons n r =>
    have := (hr (kl n.k)).2 ⟨n, by simp, rfl⟩
    rw [hl] at this
    cases this
theorem insert_one (ad : Option Addr) (n c : Nat) (fv : Value) (w : World) (hn : n ≤ 1) : Calls Try.prog 68 #[.slice ad n c, .int .i64 0, .int .i64 (n : Int), fv] w fun e w' => e = .returned (.tuple #[]) ∧ w = w' := by
  go_enter Try.func68, Try.ntmps68
  go_wp2_with fail
  go_loopw [8] (fun i wr => i = .int .i64 1 ∧ w = wr) (fun _ _ => 0)
  case atStart => exact ⟨rfl, rfl⟩
  case round =>
    obtain ⟨rfl, rfl⟩ := hrel
    have hn' : ¬ (1 : Int) < (n : Int) := by omega
    go_wp2_with fail
    go_end0
    exact ⟨rfl, rfl⟩
theorem pdq_one (ad : Option Addr) (n c : Nat) (l : Int) (fv : Value) (w : World) (hn : n ≤ 1) : Calls Try.prog 61 #[.slice ad n c, .int .i64 0, .int .i64 (n : Int), .int .i64 l, fv] w fun e w' => e = .returned (.tuple #[]) ∧ w = w' := by
  have hI := insert_one ad n c fv
  have hn' : (n : Int) ≤ 12 := by omega
  go_enter Try.func61, Try.ntmps61
  go_wp2_with fail
  go_loopw [1, 2] (fun i b wr => i = .int .i64 0 ∧ b = .int .i64 (n : Int) ∧ w = wr) (fun _ _ _ => 0)
  case atStart => exact ⟨rfl, rfl, rfl⟩
  case round =>
    obtain ⟨rfl, rfl, rfl⟩ := hrel
    go_wp2_with (go_at_call 68; refine (hI _ hn).mono ?_; rintro e w1 ⟨rfl, rfl⟩)
    refine bodyPost_ret (results_none rfl _ _ _) rfl ?_
    exact ⟨rfl, rfl⟩
theorem len_one (n : Nat) (w : World) (hn : n ≤ 1) : Calls Try.prog 62 #[.int .u64 (n : Int)] w fun e w' => ∃ l, e = .returned (.int .i64 l) ∧ Below w.heap.size w w' := by
  match n, hn with
  | 0, _ =>
    go_enter Try.func62, Try.ntmps62
    go_wp2
    go_ret
    exact ⟨_, rfl, Below.refl _ _⟩
  | 1, _ =>
    go_enter Try.func62, Try.ntmps62
    go_wp2
    go_ret
    exact ⟨_, rfl, Below.refl _ _⟩
theorem sort_one (ad : Option Addr) (n c : Nat) (fv : Value) (w : World) (hn : n ≤ 1) : Calls Try.prog 56 #[.slice ad n c, fv] w fun e w' => e = .returned (.tuple #[]) ∧ Below w.heap.size w w' := by
  have hP := fun l W => pdq_one ad n c l fv W hn
  have hL := fun W => len_one n W hn
  have hc : IntKind.u64.wrap (n : Int) = n := by simp [IntKind.wrap, IntKind.signed, IntKind.bits]; omega
  go_enter Try.func56, Try.ntmps56
  go_wp2_with (first
    | (go_at_call 62; refine (hL _).mono ?_; rintro e w1 ⟨l, rfl, b1⟩)
    | (go_at_call 61; refine (hP _ _).mono ?_; rintro e w2 ⟨rfl, rfl⟩))
  go_end0
  exact ⟨rfl, b1⟩
theorem cmp_bytes : ∀ l m : List UInt8, (-1 ≤ Lib.compareBytes l m ∧ Lib.compareBytes l m ≤ 1) ∧ Lib.compareBytes l m = - Lib.compareBytes m l ∧ (Lib.compareBytes l m = 0 ↔ l = m)
  | [], [] => by simp [Lib.compareBytes]
  | [], _ :: _ => by simp [Lib.compareBytes]
  | _ :: _, [] => by simp [Lib.compareBytes]
  | a :: l, b :: m => by
    have ih := cmp_bytes l m
    simp only [Lib.compareBytes]
    by_cases h1 : a < b
    · have h2 : ¬ b < a := fun h => by have := UInt8.lt_iff_toNat_lt.1 h1; have := UInt8.lt_iff_toNat_lt.1 h; omega
      have h3 : a ≠ b := fun h => by subst h; exact h2 h1
      rw [if_pos h1, if_neg h2, if_pos h1]
      exact ⟨by omega, rfl, ⟨fun h => by omega, fun h => by cases h; exact absurd rfl h3⟩⟩
    · by_cases h2 : b < a
      · have h3 : a ≠ b := fun h => by subst h; exact h1 h2
        rw [if_neg h1, if_pos h2, if_pos h2]
        exact ⟨by omega, rfl, ⟨fun h => by omega, fun h => by cases h; exact absurd rfl h3⟩⟩
      · have h3 : a = b := by
          apply UInt8.toNat.inj
          have q1 : ¬ a.toNat < b.toNat := fun h => h1 (UInt8.lt_iff_toNat_lt.2 h)
          have q2 : ¬ b.toNat < a.toNat := fun h => h2 (UInt8.lt_iff_toNat_lt.2 h)
          omega
        subst h3
        rw [if_neg h1, if_neg h1, if_neg h1, if_neg h1]
        exact ⟨ih.1, ih.2.1, ⟨fun h => by rw [ih.2.2.1 h], fun h => by cases h; exact ih.2.2.2 rfl⟩⟩
theorem cmp_bytes_lt : ∀ l m k : List UInt8, Lib.compareBytes l m < 0 → Lib.compareBytes m k < 0 → Lib.compareBytes l k < 0
  | [], [], _, h, _ => by simp [Lib.compareBytes] at h
  | [], _ :: _, [], _, h => by simp [Lib.compareBytes] at h
  | [], _ :: _, _ :: _, _, _ => by simp [Lib.compareBytes]
  | _ :: _, [], _, h, _ => by simp [Lib.compareBytes] at h
  | _ :: _, _ :: _, [], _, h => by simp [Lib.compareBytes] at h
  | a :: l, b :: m, c :: k, h, h' => by
    have ih := cmp_bytes_lt l m k
    simp only [Lib.compareBytes] at h h' ⊢
    simp only [UInt8.lt_iff_toNat_lt] at h h' ⊢
    split at h <;> split at h' <;> (try split at h) <;> (try split at h') <;> (try (exfalso; omega)) <;> split <;> (try omega) <;> (try split) <;> (try (exfalso; omega)) <;> exact ih h h'

theorem cmpI_neg (a b : Int) : cmpI a b = - cmpI b a := by
  unfold cmpI
  split <;> split <;> (try split) <;> (try split) <;> omega
theorem cmpI_zero (a b : Int) : cmpI a b = 0 ↔ a = b := by
  unfold cmpI
  split
  · constructor
    · intro h; omega
    · intro h; omega
  · split
    · constructor
      · intro h; omega
      · intro h; omega
    · constructor
      · intro _; omega
      · intro _; rfl
theorem cmpI_lt (a b : Int) : cmpI a b < 0 ↔ a < b := by
  unfold cmpI
  split
  · simp_all
  · split
    · simp; omega
    · simp; omega
theorem cmpA_neg (a b : Ad) : cmpA a b = - cmpA b a := (cmp_bytes a.l b.l).2.1
theorem cmpA_zero (a b : Ad) : cmpA a b = 0 ↔ a = b := by
  unfold cmpA
  rw [(cmp_bytes a.l b.l).2.2]
  exact ⟨Ad.ext, fun h => by rw [h]⟩
/-- An order in two steps. -/
theorem or_neg {x y x' y' : Int} (h1 : x = - x') (h2 : y = - y') : orI x y = - orI x' y' := by
  unfold orI
  by_cases h : x = 0
  · rw [if_pos h, if_pos (by omega), h2]
  · rw [if_neg h, if_neg (by omega), h1]
theorem or_zero {x y : Int} : orI x y = 0 ↔ x = 0 ∧ y = 0 := by
  unfold orI
  by_cases h : x = 0
  · rw [if_pos h]; simp [h]
  · rw [if_neg h]; simp [h]
theorem or_lt {x y : Int} : orI x y < 0 ↔ x < 0 ∨ x = 0 ∧ y < 0 := by
  unfold orI
  by_cases h : x = 0
  · rw [if_pos h]; omega
  · rw [if_neg h]; omega
theorem cmpP_neg (p q : Pf) : cmpP p q = - cmpP q p := or_neg (cmpA_neg _ _) (cmpI_neg _ _)
theorem cmpP_zero (p q : Pf) : cmpP p q = 0 ↔ p = q := by
  obtain ⟨a, n⟩ := p
  obtain ⟨b, m⟩ := q
  unfold cmpP
  rw [or_zero, cmpA_zero, cmpI_zero]
  simp
theorem cmpP_trans {p q r : Pf} (h1 : cmpP p q < 0) (h2 : cmpP q r < 0) : cmpP p r < 0 := by
  unfold cmpP at *
  rw [or_lt, cmpA_zero, cmpI_lt] at *
  unfold cmpA at *
  rcases h1 with h1 | ⟨h1, k1⟩
  · rcases h2 with h2 | ⟨h2, k2⟩
    · exact .inl (cmp_bytes_lt _ _ _ h1 h2)
    · exact .inl (by rw [← h2]; exact h1)
  · rcases h2 with h2 | ⟨h2, k2⟩
    · exact .inl (by rw [h1]; exact h2)
    · exact .inr ⟨h1.trans h2, by omega⟩
theorem cmpQ_neg (p q : Pr) : cmpQ p q = - cmpQ q p := or_neg (cmpP_neg _ _) (cmpP_neg _ _)
theorem cmpQ_zero (p q : Pr) : cmpQ p q = 0 ↔ p = q := by
  obtain ⟨a, n⟩ := p
  obtain ⟨b, m⟩ := q
  unfold cmpQ
  rw [or_zero, cmpP_zero, cmpP_zero]
  simp
theorem cmpQ_trans {p q r : Pr} (h1 : cmpQ p q < 0) (h2 : cmpQ q r < 0) : cmpQ p r < 0 := by
  unfold cmpQ at *
  rw [or_lt, cmpP_zero] at *
  rcases h1 with h1 | ⟨h1, k1⟩
  · rcases h2 with h2 | ⟨h2, k2⟩
    · exact .inl (cmpP_trans h1 h2)
    · exact .inl (by rw [← h2]; exact h1)
  · rcases h2 with h2 | ⟨h2, k2⟩
    · exact .inl (by rw [h1]; exact h2)
    · exact .inr ⟨h1.trans h2, cmpP_trans k1 k2⟩
theorem cmpK_neg (x y : Ky) : cmpK x y = - cmpK y x := or_neg (cmpQ_neg _ _) (or_neg (cmpI_neg _ _) (cmpA_neg _ _))
theorem cmpK_zero (x y : Ky) : cmpK x y = 0 ↔ x = y := by
  obtain ⟨p, i, a⟩ := x
  obtain ⟨p', i', a'⟩ := y
  unfold cmpK
  rw [or_zero, or_zero, cmpQ_zero, cmpI_zero, cmpA_zero]
  simp
theorem cmpA_trans {a b c : Ad} (h1 : cmpA a b < 0) (h2 : cmpA b c < 0) : cmpA a c < 0 := cmp_bytes_lt _ _ _ h1 h2
theorem cmpK_trans {x y z : Ky} (h1 : cmpK x y < 0) (h2 : cmpK y z < 0) : cmpK x z < 0 := by
  unfold cmpK at *
  rw [or_lt, cmpQ_zero, or_lt, cmpI_zero, cmpI_lt] at *
  rcases h1 with h1 | ⟨h1, k1⟩
  · rcases h2 with h2 | ⟨h2, k2⟩
    · exact .inl (cmpQ_trans h1 h2)
    · exact .inl (by rw [← h2]; exact h1)
  · rcases h2 with h2 | ⟨h2, k2⟩
    · exact .inl (by rw [h1]; exact h2)
    · refine .inr ⟨h1.trans h2, ?_⟩
      rcases k1 with k1 | ⟨k1, m1⟩
      · rcases k2 with k2 | ⟨k2, m2⟩
        · exact .inl (by omega)
        · exact .inl (by omega)
      · rcases k2 with k2 | ⟨k2, m2⟩
        · exact .inl (by omega)
        · exact .inr ⟨by omega, cmpA_trans m1 m2⟩
theorem cmpN_neg (x y : Ro) : cmpN x y = - cmpN y x := cmpK_neg _ _
theorem cmpN_zero (x y : Ro) : cmpN x y = 0 ↔ keyN x = keyN y := cmpK_zero _ _
theorem cmpN_trans (x y z : Ro) (h1 : cmpN x y < 0) (h2 : cmpN y z < 0) : cmpN x z < 0 := cmpK_trans h1 h2
theorem cmpN_key {x y : Ro} (z : Ro) (h : keyN x = keyN y) : cmpN x z = cmpN y z ∧ cmpN z x = cmpN z y := by
  unfold keyN at h
  unfold cmpN
  rw [h]
  exact ⟨rfl, rfl⟩
theorem swoN : Sort.SWO (ltOf cmpN) where
  irrefl x := by
    unfold ltOf
    have := (cmpN_zero x x).2 rfl
    simp [this]
  trans x y z h1 h2 := by
    unfold ltOf at *
    simp only [decide_eq_true_eq] at *
    exact cmpN_trans x y z h1 h2
  ntrans x y z h1 h2 := by
    unfold ltOf at *
    simp only [decide_eq_false_iff_not] at *
    intro h
    by_cases e : cmpN x y = 0
    · have := (cmpN_key z ((cmpN_zero _ _).1 e)).1
      omega
    · have h3 : cmpN y x < 0 := by have := cmpN_neg x y; omega
      exact h2 (cmpN_trans y x z h3 h)
/-- In order. -/
def Asc (K : List Ro) : Prop := K.Pairwise fun x y => cmpN x y < 0
theorem flat_cs [Inhabited Ro] (L : List Ro) : (Sort.flatK ocs 81 L.toArray).toList = kN.cs L := by
  apply List.ext_getElem?
  intro t
  by_cases ht : t < L.length * 81
  · have h1 : t < (Sort.flatK ocs 81 L.toArray).size := by simpa using ht
    have h2 : t / 81 < L.length := by omega
    have h3 := kN.cs_get L (t / 81) L[t / 81] (List.getElem?_eq_getElem h2) (t % 81) (by show t % 81 < 81; omega)
    have e : t / 81 * kN.s + t % 81 = t := by show t / 81 * 81 + t % 81 = t; omega
    rw [e] at h3
    rw [h3, Array.getElem?_toList, Array.getElem?_eq_getElem h1, ← getElem!_pos _ t h1, Sort.get_flatK _ _ _ t (by simpa using ht)]
    have h4 : L.toArray[t / 81]! = L[t / 81] := by
      rw [getElem!_pos _ (t / 81) (by simpa using h2)]
      simp
    rw [h4]
    have h5 : t % 81 < (ocs L[t / 81]).length := by rw [ocs_len]; omega
    show some _ = (ocs L[t / 81])[t % 81]?
    rw [List.getElem?_eq_getElem h5, getElem!_pos (ocs L[t / 81]) (t % 81) h5]
  · have a1 : (Sort.flatK ocs 81 L.toArray).toList.length ≤ t := by rw [Array.length_toList, Sort.size_flatK]; simp; omega
    have a2 : (kN.cs L).length ≤ t := by rw [kN.cs_len]; show L.length * 81 ≤ t; omega
    rw [List.getElem?_eq_none a1, List.getElem?_eq_none a2]
theorem swK_other {α : Type} [Inhabited α] (enc : α → List Value) (k : Nat) (w : World) (blk off m : Nat) (d : Array α) (os : Array Obj) {i : Nat} (hi : i < w.heap.size) (hne : i ≠ blk) : (sortWorldK enc k w blk off m d os).heap[i]? = w.heap[i]? := by
  unfold sortWorldK
  rw [Sort.heap_grow_old _ _ (by rw [Sort.size_putRowK]; exact hi)]
  show ((Sort.ahead w m).heap.modify blk _)[i]? = _
  rw [Array.getElem?_modify, if_neg (fun e => hne e.symm)]
  rfl
theorem swK_same {α : Type} [Inhabited α] (enc : α → List Value) (k : Nat) (w : World) (blk m : Nat) (d : Array α) (os : Array Obj) {cur : Array Value} {T : TypeId} {f : Nat × Nat} (h : w.heap[blk]? = some (.cells cur T f)) : (sortWorldK enc k w blk 0 m d os).heap[blk]? = some (.cells (Sort.putCells id 0 (Sort.flatK enc k d) cur) T f) := by
  have hl := (Array.getElem?_eq_some_iff.1 h).1
  unfold sortWorldK
  rw [Sort.heap_grow_old _ _ (by rw [Sort.size_putRowK]; exact hl)]
  show ((Sort.ahead w m).heap.modify blk _)[blk]? = _
  rw [Array.getElem?_modify, if_pos rfl]
  show (w.heap[blk]?).map _ = _
  rw [h]
  rfl
theorem isAggN (w : World) : (isAgg 41).run Try.prog w = .ok true w := by kernel_rfl
theorem sizeOfN (w : World) : (Go.sizeOf 41).run Try.prog w = .ok 81 w := by kernel_rfl
theorem sort_any (L : List Ro) {w : World} {B : Nat} {v : Value} (hO : kN.Own w B v L) (hne : L ≠ []) (hL : L.length ≤ 1000000) (hnd : (L.map keyN).Nodup) :
    Calls Try.prog 56 #[v, .func (.func 57) #[] #[]] w fun e w' => e = .returned (.tuple #[]) ∧ ∃ K, K.Perm L ∧ Asc K ∧ kN.Own w' B v K ∧ Below B w w' := by
  have hin : Inhabited Ro := ⟨zeroR⟩
  rcases hO.2 with ⟨_, h0⟩ | ⟨g, cap, cur, rfl, hB, hh, hc1, hc2, hc3, hc4⟩
  · exact absurd (List.eq_nil_of_length_eq_zero h0) hne
  have hg : g < w.heap.size := (Array.getElem?_eq_some_iff.1 hh).1
  have hrow : Row w g 41 cur.toList := hh
  have hH : Sort.HoldsK ocs 81 w g 0 L.toArray := fun t ht => by
    have ht' : t < L.length * 81 := by simpa using ht
    rw [Nat.zero_add]
    refine ⟨?_, hrow.frozen t⟩
    rw [hrow.cell t]
    have e1 : cur.toList[t]? = (cur.toList.take (L.length * 81))[t]? := by rw [List.getElem?_take_of_lt ht']
    have e2 : cur.toList.take (L.length * 81) = kN.cs L := hc4
    rw [e1, e2, ← flat_cs L, Array.getElem?_toList, Array.getElem?_eq_getElem ht, getElem!_pos _ t ht]
    rfl
  have hcmp : CmpLays Try.prog 57 #[] ocs 81 cmpN g 0 L.toArray.size w := fun m os dk hs x y => cmpN_gr x y _
  have h : Calls Try.prog 56 _ _ _ := AnyQ.slices_SortFunc Try.sortN 81 isAggN sizeOfN ocs ocs_len ocs_one cmpN swoN 57 #[] g 0 cap L.toArray w (enters_of Try.func57 (by kernel_rfl) rfl) hcmp hH hg (by simp; omega)
  rw [show L.toArray.size = L.length by simp] at h
  refine h.mono ?_
  rintro e w' ⟨rfl, d', n, os, hp, hs, rfl⟩
  have hz : d'.size = L.length := by rw [hp.1]; simp
  have hperm : d'.toList.Perm L := by
    have h3 := hp.2.2
    rw [Array.extract_eq_self_of_le (by omega), Array.extract_eq_self_of_le (by simp)] at h3
    simpa using h3
  have hnd' : (d'.toList.map keyN).Nodup := (hperm.map _).nodup_iff.2 hnd
  refine ⟨rfl, d'.toList, hperm, ?_, ?_, ?_⟩
  · unfold Asc
    rw [List.pairwise_iff_getElem]
    intro i j hi hj hij
    have hi' : i < d'.size := by simpa using hi
    have hj' : j < d'.size := by simpa using hj
    have h5 := hs i j (Nat.zero_le _) hij (by omega)
    rw [getElem!_pos _ j hj', getElem!_pos _ i hi'] at h5
    have h6 : ¬ cmpN d'[j] d'[i] < 0 := of_decide_eq_false h5
    have h7 := cmpN_neg d'[i] d'[j]
    have h8 : cmpN d'[i] d'[j] ≠ 0 := fun e => by
      have hk := (cmpN_zero _ _).1 e
      have := (List.pairwise_iff_getElem.1 hnd') i j (by simpa using hi') (by simpa using hj') hij
      simp [hk] at this
    simp only [Array.getElem_toList]
    omega
  · have hk := swK_same ocs 81 w g n d' os hh
    refine ⟨by rw [kN.cs_len], .inr ⟨g, cap, _, by rw [show d'.toList.length = L.length by simpa using hz], hB, hk, by rw [show d'.toList.length = L.length by simpa using hz]; exact hc1, hc2, by simpa [Sort.putCells] using hc3, ?_⟩⟩
    rw [← flat_cs d'.toList]
    show _ = (Sort.flatK ocs 81 d'.toList.toArray).toList
    rw [show d'.toList.toArray = d' by simp]
    apply List.ext_getElem?
    intro t
    have hl2 : d'.toList.length = L.length := by simpa using hz
    by_cases ht : t < L.length * 81
    · have hfs : t < (Sort.flatK ocs 81 d').size := by rw [Sort.size_flatK, hz]; exact ht
      have htc : t < cur.size := by
        rw [hc3]
        exact Nat.lt_of_lt_of_le ht (Nat.mul_le_mul_right 81 hc1)
      rw [hl2, List.getElem?_take_of_lt (show t < L.length * kN.s from ht), Array.getElem?_toList, Array.getElem?_toList, Array.getElem?_eq_getElem hfs, Array.getElem?_eq_getElem (by simpa [Sort.putCells] using htc)]
      simp only [Sort.putCells, Array.getElem_mapIdx]
      rw [if_pos ⟨Nat.zero_le _, by omega⟩, Nat.sub_zero, getElem!_pos _ t hfs]
      rfl
    · rw [List.getElem?_eq_none, List.getElem?_eq_none]
      · rw [Array.length_toList, Sort.size_flatK, hz]; omega
      · rw [List.length_take, hl2]
        show min (L.length * 81) _ ≤ t
        omega
  · refine ⟨rfl, rfl, rfl, ?_, fun i hi => swK_other ocs 81 w g 0 n d' os (by omega) (by omega)⟩
    unfold sortWorldK
    rw [Sort.size_grow, Sort.size_putRowK]
    exact Nat.le_add_right _ _

theorem sortr_any (L : List Ro) {w : World} {B : Nat} {ad : Option Addr} {c : Nat} (hO : kN.Own w B (.slice ad L.length c) L) (hL : L.length ≤ 1000000) (hnd : (L.map keyN).Nodup) (hB : B ≤ w.heap.size) :
    Calls Try.prog 56 #[.slice ad L.length c, .func (.func 57) #[] #[]] w fun e w' => e = .returned (.tuple #[]) ∧ ∃ K, K.Perm L ∧ Asc K ∧ kN.Own w' B (.slice ad K.length c) K ∧ Below B w w' := by
  by_cases hx : L = []
  · subst hx
    refine (sort_one ad 0 c _ w (by omega)).mono ?_
    rintro e w' ⟨rfl, hb⟩
    exact ⟨rfl, [], .refl _, .nil, own_below hO hb, hb.mono hB⟩
  · refine (sort_any L hO hx hL hnd).mono ?_
    rintro e w' ⟨rfl, K, k1, k2, k3, k4⟩
    exact ⟨rfl, K, k1, k2, by rw [k1.length_eq]; exact k3, k4⟩
end Go.Proofs.Ythofoocknmkdjaa

namespace Go.Proofs.Ythofoocknmkdjaa
open Go.RowKit Go.Maps Go.Shelf
set_option linter.unusedSimpArgs false
set_option linter.unusedVariables false
set_option maxRecDepth 20000
/-- What is answered of some routes: these, in their order, in memory of the call's own. -/
def Told (w : World) (G : List Ro) (e : Ending) (w' : World) : Prop := ∃ a c K, e = .returned (.slice a K.length c) ∧ K.Perm G ∧ Asc K ∧ kN.Own w' w.heap.size (.slice a K.length c) K ∧ Below w.heap.size w w'
set_option maxHeartbeats 16000000 in
theorem where_any {w : World} {t mb : Nat} {most : Int} {L : List Ro} (h : Tb w t mb most L) (so : Ro → Bool) (k : Nat) (caps : Array Value) (HE : ∀ args w, (callFunc k args).run Try.prog w = .ok (.enter k args) w)
    (hso : ∀ n ∈ L, ∀ W, Below w.heap.size w W → Calls Try.prog k (#[rV n] ++ caps) W (Gives W (.bool (so n)))) :
    Calls Try.prog 42 #[.pointer (some ⟨t, 0, none⟩), .func (.func k) #[] caps] w (Told w (L.filter so)) := by
  obtain ⟨D, hown, hsz, hhas, hat⟩ := h.map.ex
  have hwf := h.map.wf
  have hnd := h.map.nd
  have hmb := h.map.lt
  have hll := h.ll
  have c2 : w.cell? ⟨t, 1, none⟩ = some (.map (some mb)) := h.row.cell 1
  clear h
  go_enter Try.func42, Try.ntmps42
  go_wp2_with (first
    | (at_range; refine wpList_range_own _ rfl _ 74 rfl 84 41 keyLaw Try.underlying74 elV mb L.length D rfl hown ?_; intro w0 hrg0 hg0 hs0))
  go_frame
  go_loopw [5] (fun v wr => ∃ (left : Lit → Bool) (cnt : Nat) (ss : List Ro) (ga : Option Addr) (gl gc : Nat), v = .slice ga gl gc ∧ wr.ranges Try.prog 84 elV mb w.heap.size L.length D left cnt ∧ Coll L left ss ∧ Below w.heap.size w wr ∧ kN.Own wr (w.heap.size + 1) (.slice ga gl gc) (ss.filter so))
    (fun _ wr => wr.rangeLeft mb w.heap.size)
  case atStart => exact ⟨_, _, [], none, 0, 0, rfl, hrg0, ⟨L, by simp, hhas⟩, below_keepO (Below.refl _ _) hg0 (by simp) (Nat.le_refl _), World.ownsRow_nil _ _ _ _⟩
  case round =>
    clear hrg0 hg0 hown hhas hsz c2
    obtain ⟨left, cnt, ss, ga, gl, gc, rfl, hrg, hC, hB, hO⟩ := hrel
    have hsz1 : w.heap.size + 1 ≤ wr.heap.size := hrg.lt
    go_wp2_with (first
      | (at_next; refine wpList_next_ranges _ rfl _ rfl 84 keyLaw elV id id (fun key _ _ => ⟨key, rfl⟩) (fun v _ _ => ⟨v, rfl⟩) mb w.heap.size L.length _ _ _ rfl hrg ?_ ?_))
    · intro _ hl0
      have hp := hC.done hl0
      have HP : Hid ((ss.filter so).Perm (L.filter so)) := hp.filter _
      have hnd2 : ((ss.filter so).map keyN).Nodup := List.Nodup.sublist (List.Sublist.map _ List.filter_sublist) ((hp.map _).nodup_iff.2 hnd)
      have hlen : (ss.filter so).length ≤ 1000000 := by
        have := List.length_filter_le so ss
        have := hp.length_eq
        omega
      clear hat hwf hnd hC hrg hp hso HE
      generalize ss.filter so = G at *
      obtain ⟨ga', gc', e, _⟩ := Kd.own_at hO
      obtain ⟨rfl, rfl, rfl⟩ : ga = ga' ∧ gl = G.length ∧ gc = gc' := by cases e; exact ⟨rfl, rfl, rfl⟩
      clear e
      have hS := sortr_any G hO hlen hnd2 hsz1
      go_wp2_with (go_at_call 56; refine hS.mono ?_; rintro e w2 ⟨rfl, K, hp2, ha, hO2, b2⟩)
      go_ret
      have hl : K.length = G.length := hp2.length_eq
      exact ⟨_, _, K, by rw [hl]; rfl, hp2.trans HP.out, ha, Kd.own_up hO2 (by omega), below_more hB b2⟩
    · intro x c lk yd yp w1 cnt1 hkey hlk hv hat1 hrg1 hlt hg1 hs1 hen
      obtain ⟨n, hnL, rfl, hC2⟩ := hC.step hwf hnd hlk
      have hc : c = rV n := by
        have e := hat1 (.held (rV n))
        rw [hat n hnL] at e
        have hv' : some (DataW.held c, ([] : List MemPlace)) = some (yd, yp) := hv
        cases hv'
        injection e with e
        exact e.symm
      subst hc
      have hB1 : Below w.heap.size w w1 := below_keepO hB hg1 (fun g hg e => by cases e; omega) hB.size
      have hO1 : kN.Own w1 (w.heap.size + 1) (.slice ga gl gc) (ss.filter so) := World.ownsRow.kept hO hg1 (.inr (own_ne_lt hO (by omega)))
      have hsz2 : w.heap.size + 1 ≤ w1.heap.size := hrg1.lt
      have HSo : Hid (∀ W, Below w1.heap.size w1 W → Calls Try.prog k (#[rV n] ++ caps) W (Gives W (.bool (so n)))) := fun W hW => hso n hnL W (hB1.trans (hW.mono hB1.size))
      have hlen : Hid ((ss.filter so).length ≤ 10000000) := by
        have h1 := List.length_filter_le so ss
        obtain ⟨rs, h2, _⟩ := hC
        have h2 := h2.length_eq
        rw [List.length_append] at h2
        show _ ≤ _
        omega
      have HC : Hid (Coll L (fun z => left z && !z.sameKey (kl n.k)) (ss ++ [n])) := hC2
      have HCN : Hid (wr.rangeLeft mb w.heap.size = cnt) := hrg.left_eq
      have HLT : Hid (cnt1 < cnt) := hlt
      have HGo : Hid (∀ W, Below w1.heap.size w1 W → W.ranges Try.prog 84 elV mb w.heap.size L.length D (fun z => left z && !z.sameKey (kl n.k)) cnt1 ∧ Below w.heap.size w W ∧ kN.Own W (w.heap.size + 1) (.slice ga gl gc) (ss.filter so)) := fun W hW => by
        have hg : w1.grownBy W none := ⟨hW.os, hW.tape, hW.output, hW.size, fun i hi _ => hW.block i hi⟩
        exact ⟨hrg1.kept hg (by simp) (by simp), hB1.trans (hW.mono hB1.size), own_below hO1 hW⟩
      clear hC hC2 hrg hlt hrg1 hB hB1 hg1 hs1 hat hat1 hv hkey hlk hwf hnd hso hO hO1
      cases hs : so n with
      | true =>
        have hfl : Hid ((ss ++ [n]).filter so = ss.filter so ++ [n]) := by
          show _ = _
          rw [List.filter_append]
          simp [hs]
        rw [hs] at HSo
        clear hs
        generalize ss.filter so = G at *
        go_wp2_with (first
          | (have kk := r6; at_builtin; refine kN.append (.tmp 22) (.tmp 24) rfl rfl (w.heap.size + 1) (.slice ga gl gc) G rfl hO6 _ 1 n rfl r6 hlen.out hz6 ?_; intro v7 W7 o7 g7; obtain ⟨a7, c7, rfl, _⟩ := Kd.own_at o7)
          | (have kk := b4; (with_reducible refine bsG (T := 28) (U := 41) (n := 1) [(0, .tmp 23)] (ocs n) ?_ ?_ ?_ ?_); (focus rfl); (focus rfl); (focus exact (fun w => bsN1 n w)); intro W6 r6 b6; replace b3 := bt b3 b6; obtain ⟨hrg6, hB6, hO6⟩ := HGo.out _ b3; have hz6 : w.heap.size + 1 ≤ W6.heap.size := (Nat.le_trans hsz2 b3.size); clear b4)
          | (have kk := b4; refine ldS (.tmp 7) rfl rfl _ _ n rfl r3.ro ?_)
          | (have kk := HSo'; refine HSo'.mono ?_; clear HSo' kk; rintro e w4 ⟨rfl, b4⟩; replace b3 := bt b3 b4; replace r3 := r3.below b4 r3.lt)
          | (have kk := r3; refine ldS (.tmp 7) rfl rfl _ _ n rfl r3.ro ?_; have HSo' := HSo.out _ b3)
          | (have kk := r2; refine stS (.tmp 7) (.tmp 18) rfl rfl g2 n _ rfl rfl r2 ?_; intro W3 g3 r3; have b3 := grown_below g3 hB2 hge2 hB2.size; clear r2)
          | (refine alG infoRz rfl rfl ?_; intro g2 W2 hge2 hgl2 hB2 r2))
        have hrg7 := hrg6.kept g7 (Ne.symm (own_ne_lt (g := mb) hO6 (by omega))) (Ne.symm (own_ne_lt (g := w.heap.size) hO6 (by omega)))
        have hB7 := below_keepO hB6 g7 (fun g hg => own_ne_lt hO6 (by omega)) hB6.size
        go_roundw
        case rel => exact ⟨_, cnt1, ss ++ [n], a7, _, c7, rfl, hrg7, HC.out, hB7, by rw [hfl.out]; have o8 := o7; rw [List.length_append] at o8; exact o8⟩
        case measure => rw [hrg7.left_eq, HCN.out]; exact HLT.out
      | false =>
        have hfl : Hid ((ss ++ [n]).filter so = ss.filter so) := by
          show _ = _
          rw [List.filter_append]
          simp [hs]
        rw [hs] at HSo
        clear hs
        go_wp2_with (first
          | (have kk := HSo'; refine HSo'.mono ?_; clear HSo' kk; rintro e w4 ⟨rfl, b4⟩; replace b3 := bt b3 b4)
          | (have kk := r3; refine ldS (.tmp 7) rfl rfl _ _ n rfl r3.ro ?_; have HSo' := HSo.out _ b3; clear r3)
          | (have kk := r2; refine stS (.tmp 7) (.tmp 18) rfl rfl g2 n _ rfl rfl r2 ?_; intro W3 g3 r3; have b3 := grown_below g3 hB2 hge2 hB2.size; clear r2)
          | (refine alG infoRz rfl rfl ?_; intro g2 W2 hge2 hgl2 hB2 r2))
        obtain ⟨hrg6, hB6, hO6⟩ := HGo.out _ b3
        go_roundw
        case rel => exact ⟨_, cnt1, ss ++ [n], ga, gl, gc, rfl, hrg6, HC.out, hB6, by rw [hfl.out]; exact hO6⟩
        case measure => rw [hrg6.left_eq, HCN.out]; exact HLT.out
end Go.Proofs.Ythofoocknmkdjaa

namespace Go.Proofs.Ythofoocknmkdjaa
open Go.RowKit Go.Maps Go.Shelf
set_option linter.unusedSimpArgs false
set_option linter.unusedVariables false
set_option maxRecDepth 20000
theorem listC_any (n : Ro) (w : World) : Calls Try.prog 43 #[rV n] w (Gives w (.bool true)) := by
  go_enter Try.func43, Try.ntmps43
  go_wp2
  go_ret
  exact ⟨rfl, ba _ _⟩
theorem ofC_any (n : Ro) (p : Pr) (g : Nat) (w : World) (hr : Row w g 36 (qcells p)) : Calls Try.prog 44 #[rV n, .pointer (some ⟨g, 0, none⟩)] w (Gives w (.bool (qB n.p p))) := by
  have r0 := Row.new w 41 (ocs n)
  have r1 := hr.alloc (.cells (ocs n).toArray 41)
  have hq := run_eqlQ n.p p
  go_enter Try.func44, Try.ntmps44
  go_wp2_with (first
    | (refine ldQ (.tmp 1) rfl rfl _ _ p rfl r1.range ?_)
    | (refine ldQ (.tmp 4) rfl rfl _ _ n.p rfl r0.ro.q ?_))
  go_ret
  exact ⟨rfl, ba _ _⟩
theorem tickC_any (n : Ro) (now : Int) (g : Nat) (w : World) (hr : Row w g 3 [.int .i64 now]) : Calls Try.prog 51 #[rV n, .pointer (some ⟨g, 0, none⟩)] w (Gives w (.bool (decide (n.u ≤ now)))) := by
  have c0 := ((Row.new w 41 (ocs n)).cell 78).trans (oc78 n)
  have c1 := (hr.alloc (.cells (ocs n).toArray 41)).cell 0
  clear hr
  go_enter Try.func51, Try.ntmps51
  go_wp2_with fail
  go_ret
  exact ⟨rfl, ba _ _⟩
theorem list_any {w : World} {t mb : Nat} {most : Int} {L : List Ro} (h : Tb w t mb most L) : Calls Try.prog 14 #[.pointer (some ⟨t, 0, none⟩)] w (Told w L) := by
  have hW : Calls Try.prog 42 #[.pointer (some ⟨t, 0, none⟩), .func (.func 43) #[] #[]] w (Told w L) := by
    have := where_any h (fun _ => true) 43 #[] (enters_of Try.func43 (by kernel_rfl) rfl) (fun n _ W _ => listC_any n W)
    rwa [show L.filter (fun _ => true) = L from List.filter_eq_self.2 (fun _ _ => rfl)] at this
  clear h
  go_enter Try.func14, Try.ntmps14
  go_wp2_with (go_at_call 42; refine hW.mono ?_; rintro e w1 ⟨a, c, K, rfl, hT⟩)
  go_ret
  exact ⟨a, c, K, rfl, hT⟩
theorem of_any {w : World} {t mb : Nat} {most : Int} {L : List Ro} (h : Tb w t mb most L) (p : Pr) : Calls Try.prog 21 #[.pointer (some ⟨t, 0, none⟩), (Value.agg (qcells p).toArray)] w (Told w (L.filter fun n => qB n.p p)) := by
  have hmf : ∀ (fn : Fn) (first cap : Array Value) (w : World), (Instr.makeFunc fn first cap).run Try.prog w = .ok (.func fn first cap) w := fun _ _ _ _ => rfl
  have hW : Calls Try.prog 42 #[.pointer (some ⟨t, 0, none⟩), .func (.func 44) #[] #[.pointer (some ⟨w.heap.size, 0, none⟩)]] (w.alloc (.cells (qcells p).toArray 36)) (Told w (L.filter fun n => qB n.p p)) := by
    have r0 := Row.new w 36 (qcells p)
    refine (where_any (h.below (ba w _)) (fun n => qB n.p p) 44 #[.pointer (some ⟨w.heap.size, 0, none⟩)] (enters_of Try.func44 (by kernel_rfl) rfl) (fun n _ W hW => ofC_any n p w.heap.size W (r0.below hW (by simp)))).mono ?_
    rintro e w' ⟨a, c, K, rfl, k1, k2, k3, k4⟩
    exact ⟨a, c, K, rfl, k1, k2, Kd.own_up k3 (by simp), bt (ba _ _) k4⟩
  clear h
  go_enter Try.func21, Try.ntmps21
  go_wp2_with (go_at_call 42; refine hW.mono ?_; rintro e w1 ⟨a, c, K, rfl, hT⟩)
  go_ret
  exact ⟨a, c, K, rfl, hT⟩
end Go.Proofs.Ythofoocknmkdjaa

namespace Go.Proofs.Ythofoocknmkdjaa
open Go.RowKit Go.Maps Go.Shelf
set_option linter.unusedSimpArgs false
set_option linter.unusedVariables false
set_option maxRecDepth 20000
/-- A route of this neighbour that is believed. -/
def mineB (i : Int) (a : Ad) (n : Ro) : Bool := (decide (n.i = i) && decide (n.a.l = a.l)) && !decide (n.r = 65535)
set_option maxHeartbeats 4000000 in
theorem retrC_any (n : Ro) (i : Int) (a : Ad) (g h : Nat) (w : World) (hi : Row w g 3 [.int .i64 i]) (ha : Row w h 32 (acells a)) : Calls Try.prog 49 #[rV n, .pointer (some ⟨g, 0, none⟩), .pointer (some ⟨h, 0, none⟩)] w (Gives w (.bool (mineB i a n))) := by
  have r0 := Row.new w 41 (ocs n)
  have r1 := hi.alloc (.cells (ocs n).toArray 41)
  have r2 := ha.alloc (.cells (ocs n).toArray 41)
  have c34 := (r0.cell 34).trans (oc34 n)
  have c60 := (r0.cell 60).trans (oc60 n)
  have c0 := r1.cell 0
  have la : LA (w.alloc (.cells (ocs n).toArray 41)) w.heap.size 35 n.a := by have := r0.ro.a; simpa using this
  have HE := run_eqlA n.a a
  have HR : Hid (mineB i a n = ((decide (n.i = i) && decide (n.a.l = a.l)) && !decide (n.r = 65535))) := rfl
  generalize mineB i a n = R at *
  generalize decide (n.a.l = a.l) = ae at *
  clear hi ha r1
  go_enter Try.func49, Try.ntmps49
  by_cases h1 : n.i = i
  · cases ae with
    | false =>
      obtain rfl : R = false := by rw [HR.out]; simp
      go_wp2_with (first
        | (refine ldA (.tmp 2) rfl rfl _ _ a rfl r2.range ?_)
        | (refine ldA (.tmp 10) rfl rfl _ _ n.a rfl la ?_))
      go_ret
      exact ⟨rfl, ba _ _⟩
    | true =>
      by_cases h2 : n.r = 65535
      · obtain rfl : R = false := by rw [HR.out]; simp [h2]
        go_wp2_with (first
          | (refine ldA (.tmp 2) rfl rfl _ _ a rfl r2.range ?_)
          | (refine ldA (.tmp 10) rfl rfl _ _ n.a rfl la ?_))
        go_ret
        exact ⟨rfl, ba _ _⟩
      · obtain rfl : R = true := by rw [HR.out]; simp [h1, h2]
        have h2' : (n.r != 65535) = true := by simpa using h2
        go_wp2_with (first
          | (refine ldA (.tmp 2) rfl rfl _ _ a rfl r2.range ?_)
          | (refine ldA (.tmp 10) rfl rfl _ _ n.a rfl la ?_))
        go_ret
        exact ⟨rfl, ba _ _⟩
  · obtain rfl : R = false := by rw [HR.out]; simp [h1]
    go_wp2_with (first
      | (refine ldA (.tmp 2) rfl rfl _ _ a rfl r2.range ?_)
      | (refine ldA (.tmp 10) rfl rfl _ _ n.a rfl la ?_))
    go_ret
    exact ⟨rfl, ba _ _⟩
theorem own_map {w w' : World} {mb B : Nat} {L : List Ro} {v : Value} {G : List Ro} (hm : Mp w mb L) (hg : w.grownBy w' (some mb)) (ho : kN.Own w B v G) : kN.Own w' B v G := by
  refine World.ownsRow.kept ho hg ?_
  rcases ho.2 with ⟨rfl, _⟩ | ⟨g, cap, cur, rfl, _, hh, _⟩
  · exact .inl rfl
  · refine .inr fun e => ?_
    obtain ⟨es, cl, h2⟩ := hm.obj
    have e' : g = mb := by simpa [Value.ownBlock] using e
    rw [e', h2] at hh
    cases hh
theorem meas {n j : Nat} (h : j < n) : n - ((j : Int) + 1).toNat < n - ((j : Int)).toNat := by omega
theorem Turn.trans {w w1 w2 : World} {t mb : Nat} {most : Int} {L L' : List Ro} (h : Turn w w1 t mb most L) (k : Turn w1 w2 t mb most L') : Turn w w2 t mb most L' := ⟨k.tb, grownBy_trans h.gr k.gr⟩
theorem Turn.own {w w' : World} {t mb B : Nat} {most : Int} {L L' : List Ro} {v : Value} {G : List Ro} (ht : Turn w w' t mb most L') (hm : Tb w t mb most L) (ho : kN.Own w B v G) : kN.Own w' B v G := own_map hm.map ht.gr ho
theorem own_get {w : World} {B : Nat} {a : Option Addr} {n c : Nat} {G : List Ro} (ho : kN.Own w B (.slice a n c) G) : n = G.length := by
  obtain ⟨a', c', e, _⟩ := Kd.own_at ho
  cases e
  rfl
theorem nd_inj : ∀ {L : List Ro}, (L.map keyN).Nodup → ∀ {m n : Ro}, m ∈ L → n ∈ L → keyN m = keyN n → m = n
  | [], _, _, _, hm, _, _ => by cases hm
  | x :: L, h, m, n, hm, hn, e => by
    rw [List.map_cons, List.nodup_cons] at h
    rcases List.mem_cons.1 hm with e1 | hm1
    · rcases List.mem_cons.1 hn with e2 | hn1
      · rw [e1, e2]
      · exact absurd (by rw [← e1, e]; exact List.mem_map_of_mem hn1) h.1
    · rcases List.mem_cons.1 hn with e2 | hn1
      · exact absurd (by rw [← e2, ← e]; exact List.mem_map_of_mem hm1) h.1
      · exact nd_inj h.2 hm1 hn1 e
/-- Routes are kept anew, one behind another. -/
def updR (f : Ro → Ro) (L K : List Ro) : List Ro := K.foldl (fun L n => putN L (f n)) L
theorem updR_take {f : Ro → Ro} {L K : List Ro} {j : Nat} (hj : j < K.length) : updR f L (K.take (j + 1)) = putN (updR f L (K.take j)) (f K[j]) := by
  unfold updR
  rw [List.take_succ_eq_append_getElem hj, List.foldl_append]
  rfl
theorem any_putN {L : List Ro} {n : Ro} {k : Ky} (h : L.any (keyB k) = true) (hn : L.any (keyB n.k) = true) : (putN L n).any (keyB k) = true := by
  obtain ⟨y, hy, hk⟩ := List.any_eq_true.1 h
  rw [List.any_eq_true]
  cases hb : keyB n.k y
  · exact ⟨y, mem_putN.2 (.inr ⟨hy, hb⟩), hk⟩
  · refine ⟨n, mem_putN.2 (.inl rfl), ?_⟩
    rw [keyB_iff] at *
    rw [← hb, hk]
theorem updR_len {f : Ro → Ro} (hf : ∀ n, (f n).k = n.k) : ∀ {K L : List Ro}, (∀ n ∈ K, L.any (keyB n.k) = true) → (updR f L K).length = L.length
  | [], _, _ => rfl
  | n :: K, L, hK => by
    have h1 : L.any (keyB (f n).k) = true := by rw [hf]; exact hK n (by simp)
    have h2 := updR_len (K := K) (L := putN L (f n)) hf (fun m hm => any_putN (hK m (by simp [hm])) h1)
    show (updR f (putN L (f n)) K).length = _
    rw [h2, putN_len, if_pos h1]
theorem updR_map {f : Ro → Ro} (hf : ∀ n, (f n).k = n.k) {L : List Ro} (hnd : (L.map keyN).Nodup) : ∀ (K : List Ro) (D : List Ro), (∀ n ∈ K, n ∈ L) → ((D ++ K).map keyN).Nodup → updR f (L.map fun m => if D.any (keyB m.k) then f m else m) K = L.map fun m => if (D ++ K).any (keyB m.k) then f m else m
  | [], D, _, _ => by simp [updR]
  | n :: K, D, hK, hd => by
    have e : putN (L.map fun m => if D.any (keyB m.k) then f m else m) (f n) = L.map fun m => if (D ++ [n]).any (keyB m.k) then f m else m := by
      have hn := hK n (by simp)
      have kk : ∀ m : Ro, (if D.any (keyB m.k) = true then f m else m).k = m.k := fun m => by split; exact hf m; rfl
      unfold putN
      rw [if_pos]
      · rw [List.map_map]
        apply List.map_congr_left
        intro m hm
        simp only [Function.comp_def]
        by_cases hb : m.k = n.k
        · have hmn : m = n := by
            have := nd_inj hnd hm hn (show keyN m = keyN n from hb)
            exact this
          subst hmn
          rw [if_pos (by rw [keyB_iff, hf]; exact kk m), if_pos (by rw [List.any_append]; simp [keyB_self])]
        · rw [if_neg (by rw [keyB_iff, hf, kk]; exact hb)]
          have : (D ++ [n]).any (keyB m.k) = D.any (keyB m.k) := by
            rw [List.any_append]
            have : keyB m.k n = false := by rw [Bool.eq_false_iff, Ne, keyB_iff]; exact fun h => hb h.symm
            simp [this]
          rw [this]
      · rw [List.any_eq_true]
        exact ⟨_, List.mem_map_of_mem hn, by rw [keyB_iff, hf]; exact kk n⟩
    show updR f (putN _ (f n)) K = _
    rw [e, updR_map hf hnd K (D ++ [n]) (fun m hm => hK m (by simp [hm])) (by simpa using hd)]
    simp
/-- What all that are so become. -/
def mapR (f : Ro → Ro) (so : Ro → Bool) (L : List Ro) : List Ro := L.map fun m => if so m then f m else m
theorem updR_eq {f : Ro → Ro} (hf : ∀ n, (f n).k = n.k) {L K : List Ro} {so : Ro → Bool} (hnd : (L.map keyN).Nodup) (hp : K.Perm (L.filter so)) : updR f L K = mapR f so L := by
  have h1 : ∀ n ∈ K, n ∈ L := fun n hn => (List.mem_filter.1 (hp.mem_iff.1 hn)).1
  have h2 : (K.map keyN).Nodup := (hp.map _).nodup_iff.2 (List.Nodup.sublist (List.Sublist.map _ List.filter_sublist) hnd)
  have := updR_map hf hnd K [] h1 (by simpa using h2)
  simp only [List.nil_append] at this
  have e0 : (L.map fun m => if ([] : List Ro).any (keyB m.k) = true then f m else m) = L := by
    conv => rhs; rw [← List.map_id L]
    apply List.map_congr_left
    intro m _
    simp
  rw [e0] at this
  rw [this]
  apply List.map_congr_left
  intro m hm
  have : K.any (keyB m.k) = so m := by
    rw [Bool.eq_iff_iff, List.any_eq_true]
    constructor
    · rintro ⟨n, hn, hk⟩
      have := nd_inj hnd (h1 n hn) hm (show keyN n = keyN m from keyB_iff.1 hk)
      subst this
      exact (List.mem_filter.1 (hp.mem_iff.1 hn)).2
    · intro hs
      exact ⟨m, hp.mem_iff.2 (List.mem_filter.2 ⟨hm, hs⟩), keyB_self m⟩
  show (if K.any (keyB m.k) = true then f m else m) = _
  by_cases hs : so m = true
  · rw [if_pos (this.trans hs), if_pos hs]
  · rw [if_neg (show ¬ K.any (keyB m.k) = true by rw [this]; exact hs), if_neg hs]
end Go.Proofs.Ythofoocknmkdjaa
