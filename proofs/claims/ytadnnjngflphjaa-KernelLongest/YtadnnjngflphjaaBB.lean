/-
  Lookup: where a packet goes.
-/
import Derived.Test.YtadnnjngflphjaaBA
namespace Go.Proofs.Ytadnnjngflphjaa
open Go.RowKit Go.Maps
set_option linter.unusedSimpArgs false
set_option linter.unusedVariables false
set_option maxRecDepth 20000
/-- The longest destination, of fewer than j bits, that has an address. -/
def lkD (F : List Hd) (a : Ad) : Nat → Option Pf
  | 0 => none
  | j + 1 => if (Fa.ofF a (j : Int)).2 = 0 ∧ F.any (fun h => pB (hp h).d (Fa.ofF a (j : Int)).1) = true then some (Fa.ofF a (j : Int)).1 else lkD F a j
/-- What is held of a destination and the longest source, of fewer than j bits, that has an address. -/
def lkS (F : List Hd) (d : Pf) (a : Ad) : Nat → Option Hd
  | 0 => none
  | j + 1 => if (Fa.ofF a (j : Int)).2 = 0 then (match fnd F ⟨d, (Fa.ofF a (j : Int)).1⟩ with | some x => some x | none => lkS F d a j) else lkS F d a j
def lookR (F : List Hd) (src dst : Ad) : Option Hd := if Fa.famA src = Fa.famA dst then (match lkD F dst 129 with | some d => lkS F d src 129 | none => none) else none
theorem lkD_perm {F G : List Hd} (h : F.Perm G) (a : Ad) : ∀ j, lkD F a j = lkD G a j
  | 0 => rfl
  | j + 1 => by
    have e : F.any (fun h => pB (hp h).d (Fa.ofF a (j : Int)).1) = G.any (fun h => pB (hp h).d (Fa.ofF a (j : Int)).1) := by
      rw [Bool.eq_iff_iff, List.any_eq_true, List.any_eq_true]
      exact ⟨fun ⟨x, hx, hb⟩ => ⟨x, h.mem_iff.1 hx, hb⟩, fun ⟨x, hx, hb⟩ => ⟨x, h.mem_iff.2 hx, hb⟩⟩
    show (if _ then _ else _) = (if _ then _ else _)
    rw [e, lkD_perm h a j]
theorem lkS_perm {F G : List Hd} (hn : (F.map hp).Nodup) (h : F.Perm G) (d : Pf) (a : Ad) : ∀ j, lkS F d a j = lkS G d a j
  | 0 => rfl
  | j + 1 => by
    show (if _ then (match fnd F _ with | some x => some x | none => _) else _) = (if _ then (match fnd G _ with | some x => some x | none => _) else _)
    rw [fnd_perm hn h, lkS_perm hn h d a j]
theorem lookR_perm {F G : List Hd} (hn : (F.map hp).Nodup) (h : F.Perm G) (src dst : Ad) : lookR F src dst = lookR G src dst := by
  unfold lookR
  rw [lkD_perm h]
  split
  · split
    · rw [lkS_perm hn h]
    · rfl
  · rfl
theorem dest_any {L : List Ob} (g : Good L) (hne : ∀ o ∈ L, o.S ≠ []) (p : Pf) : (flat L).any (fun h => pB (hp h).d p) = (getN mO L p).isSome := by
  rw [Bool.eq_iff_iff, List.any_eq_true]
  constructor
  · rintro ⟨x, hx, hb⟩
    obtain ⟨o, ho, hxo⟩ := mem_flat.1 hx
    have e := g.own o ho x hxo
    cases hg : getN mO L p with
    | some _ => rfl
    | none =>
      have := getN_none hg o ho
      rw [keyB_iff.2 (show mO.key o = p from by rw [← pB_iff.1 hb]; exact e.symm)] at this
      cases this
  · intro h
    cases hg : getN mO L p with
    | none => rw [hg] at h; cases h
    | some o =>
      obtain ⟨ho, e⟩ := getN_some hg
      obtain ⟨x, hx⟩ := List.exists_mem_of_ne_nil _ (hne o ho)
      refine ⟨x, mem_flat.2 ⟨o, ho, hx⟩, pB_iff.2 ?_⟩
      rw [← show o.d = p from e]
      exact g.own o ho x hx
theorem lng_lkD {L : List Ob} (g : Good L) (hne : ∀ o ∈ L, o.S ≠ []) (a : Ad) : ∀ j, (lng mO L a j).map Ob.d = lkD (flat L) a j ∧ ∀ o, lng mO L a j = some o → getN mO L o.d = some o
  | 0 => ⟨rfl, fun o h => by cases h⟩
  | j + 1 => by
    obtain ⟨h1, h2⟩ := lng_lkD g hne a j
    by_cases hc : (Fa.ofF a (j : Int)).2 = 0
    · cases hg : getN mO L (Fa.ofF a (j : Int)).1 with
      | some o =>
        have e := (getN_some hg).2
        have e' : o.d = (Fa.ofF a (j : Int)).1 := e
        rw [lng_some hc hg]
        refine ⟨?_, fun o' ho' => by cases ho'; rw [e']; exact hg⟩
        have q : lkD (flat L) a (j + 1) = some (Fa.ofF a (j : Int)).1 := if_pos ⟨hc, by rw [dest_any g hne, hg]; rfl⟩
        rw [q, ← e']
        rfl
      | none =>
        rw [lng_none hc hg]
        refine ⟨?_, h2⟩
        rw [h1]
        refine (if_neg ?_).symm
        rintro ⟨_, h⟩
        rw [dest_any g hne, hg] at h
        cases h
    · rw [lng_bad hc]
      refine ⟨?_, h2⟩
      rw [h1]
      exact (if_neg (fun h => hc h.1)).symm
theorem lng_lkS {L : List Ob} (g : Good L) {o : Ob} (ho : getN mO L o.d = some o) (a : Ad) : ∀ j, lng mI o.S a j = lkS (flat L) o.d a j
  | 0 => rfl
  | j + 1 => by
    have e : ∀ s, getN mI o.S s = fnd (flat L) ⟨o.d, s⟩ := fun s => by
      rw [← at_fnd g]
      unfold atR
      rw [show (⟨o.d, s⟩ : Pr).d = o.d from rfl, ho]
      rfl
    by_cases hc : (Fa.ofF a (j : Int)).2 = 0
    · have q : lkS (flat L) o.d a (j + 1) = (match fnd (flat L) ⟨o.d, (Fa.ofF a (j : Int)).1⟩ with | some x => some x | none => lkS (flat L) o.d a j) := if_pos hc
      rw [q, ← e]
      cases hg : getN mI o.S (Fa.ofF a (j : Int)).1 with
      | some x => exact lng_some hc hg
      | none => rw [lng_none hc hg]; exact lng_lkS g ho a j
    · have q : lkS (flat L) o.d a (j + 1) = lkS (flat L) o.d a j := if_neg hc
      rw [q, lng_bad hc]
      exact lng_lkS g ho a j
/-- What Lookup finds, by way of the maps. -/
def lookL (L : List Ob) (src dst : Ad) : Option Hd := lng mI ((lng mO L dst 129).getD zeroOb).S src 129
theorem lng_nil (a : Ad) : ∀ j, lng mI [] a j = none
  | 0 => rfl
  | j + 1 => by
    by_cases hc : (Fa.ofF a (j : Int)).2 = 0
    · rw [lng_none hc rfl]; exact lng_nil a j
    · rw [lng_bad hc]; exact lng_nil a j
theorem lookL_eq {L : List Ob} (g : Good L) (hne : ∀ o ∈ L, o.S ≠ []) {src dst : Ad} (hf : Fa.famA src = Fa.famA dst) : lookL L src dst = lookR (flat L) src dst := by
  unfold lookL lookR
  rw [if_pos hf]
  obtain ⟨h1, h2⟩ := lng_lkD g hne dst 129
  rw [← h1]
  cases hl : lng mO L dst 129 with
  | none => exact lng_nil _ _
  | some o => exact lng_lkS g (h2 o hl) src 129
theorem look_none {src dst : Ad} (h : Fa.famA src ≠ Fa.famA dst) (F : List Hd) : lookR F src dst = none := if_neg h
theorem Kn.table {w : World} {b k : Nat} {n : Int} {F : List Hd} (h : Kn w b k n F) (src dst : Ad) (hf : Fa.famA src = Fa.famA dst) : ∃ mb L, KRow w k n mb ∧ lookL L src dst = lookR F src dst ∧ (∀ (V : World) (p : Pf), Below w.heap.size w V → wfP p → (Instr.lookup 61 (.map (some mb)) (Value.agg (pcells p).toArray) true).run Try.prog V = .ok (.tuple #[.map ((getN mO L p).getD zeroOb).r, .bool (getN mO L p).isSome]) V) ∧ ∀ (V : World) (p : Pf), Below w.heap.size w V → wfP p → (Instr.lookup 74 (.map ((lng mO L dst 129).getD zeroOb).r) (Value.agg (pcells p).toArray) true).run Try.prog V = .ok (.tuple #[hV ((getN mI ((lng mO L dst 129).getD zeroOb).S p).getD zeroH), .bool (getN mI ((lng mO L dst 129).getD zeroOb).S p).isSome]) V := by
  have hnd := h.nd
  obtain ⟨mb, L, T, hne, hpm⟩ := h
  refine ⟨mb, L, T.row, ?_, fun V p hY hi => (T.tw.below hY).out.look hi, fun V p hY hi => ?_⟩
  · rw [lookL_eq T.tw.good hne hf, lookR_perm hnd hpm]
  · cases hl : lng mO L dst 129 with
    | none => exact look_nil mI p hi V
    | some o =>
      have hg := (lng_lkD T.tw.good hne dst 129).2 o hl
      obtain ⟨_, _, r, e, m, _⟩ := (T.tw.below hY).get hg
      show (Instr.lookup _ (.map o.r) _ true).run _ _ = _
      rw [e]
      exact m.look hi
set_option maxHeartbeats 8000000 in
theorem lookup_nil (src dst : Ad) (w : World) : Calls Try.prog 19 #[.pointer none, (Value.agg (acells src).toArray), (Value.agg (acells dst).toArray)] w (Gives w (.tuple #[eV zeroE, .bool false])) := by
  have r0 := Row.new w 31 (acells src)
  have b0 := ba w (.cells (acells src).toArray 31)
  have r1 := Row.new (w.alloc (.cells (acells src).toArray 31)) 31 (acells dst)
  have b1 := ba (w.alloc (.cells (acells src).toArray 31)) (.cells (acells dst).toArray 31)
  have e1 : (w.alloc (.cells (acells src).toArray 31)).heap.size = w.heap.size + 1 := World.size_alloc ..
  rw [e1] at r1
  go_enter Try.func19, Try.ntmps19
  go_upto_region 1 with (first
    | (have kk := r1; (with_reducible refine alG infoEz ?_ ?_ ?_); (focus rfl); (focus rfl); intro g6 W1 h6 l6 b6 q6))
  have rs : Row W1 w.heap.size 31 (acells src) := (r0.below b1 r0.lt).below b6 (r0.below b1 r0.lt).lt
  have rd : Row W1 (w.heap.size + 1) 31 (acells dst) := r1.below b6 r1.lt
  have k1 : Below w.heap.size w W1 := bt (bt b0 b1) b6
  have hg6 : w.heap.size ≤ g6 := by simp at h6; omega
  clear r0 b0 r1 b1 e1 b6 h6
  refine wp_region_noPanic ?_
  refine wp_region_held_drew (S := fun V => Below W1.heap.size W1 V) (by kernel_rfl) ((Below.refl _ _).drew) (fun hHeld => ?_)
  refine take_lit (i := 0) (v := ?_) rfl (by kernel_rfl) (by kernel_rfl) (by kernel_rfl) (fun _ _ _ h => h) (Or.inl ⟨by rfl, ?_⟩) (by assumption) ?_
  rotate_left
  · (intro w hSw; (try dsimp only at hSw); go_simp <;> with_reducible rfl)
  try simp only [Act.put, List.setIfInBounds_toArray, List.set_cons_zero, List.set_cons_succ]
  refine take_lit (i := 1) (v := ?_) rfl (by kernel_rfl) (by kernel_rfl) (by kernel_rfl) (fun _ _ _ h => h) (Or.inl ⟨by rfl, ?_⟩) (by assumption) ?_
  rotate_left
  · (intro w hSw; (try dsimp only at hSw); go_simp <;> with_reducible rfl)
  try simp only [Act.put, List.setIfInBounds_toArray, List.set_cons_zero, List.set_cons_succ]
  refine take_lit (i := 2) (v := ?_) rfl (by kernel_rfl) (by kernel_rfl) (by kernel_rfl) (fun _ _ _ h => h) (Or.inl ⟨by rfl, ?_⟩) (by assumption) ?_
  rotate_left
  · (intro w hSw; (try dsimp only at hSw); go_simp <;> with_reducible rfl)
  try simp only [Act.put, List.setIfInBounds_toArray, List.set_cons_zero, List.set_cons_succ]
  refine take_lit (i := 3) rfl (by kernel_rfl) (by kernel_rfl) (by kernel_rfl) (fun _ _ _ h => h) (Or.inr ⟨by rfl, rfl⟩) (by assumption) ?_
  try simp only [Act.put, List.setIfInBounds_toArray, List.set_cons_zero, List.set_cons_succ]
  refine take_lit (i := 4) rfl (by kernel_rfl) (by kernel_rfl) (by kernel_rfl) (fun _ _ _ h => h) (Or.inr ⟨by rfl, rfl⟩) (by assumption) ?_
  try simp only [Act.put, List.setIfInBounds_toArray, List.set_cons_zero, List.set_cons_succ]
  refine take_lit (i := 5) rfl (by kernel_rfl) (by kernel_rfl) (by kernel_rfl) (fun _ _ _ h => h) (Or.inr ⟨by rfl, rfl⟩) (by assumption) ?_
  try simp only [Act.put, List.setIfInBounds_toArray, List.set_cons_zero, List.set_cons_succ]
  refine take_lit (i := 6) rfl (by kernel_rfl) (by kernel_rfl) (by kernel_rfl) (fun _ _ _ h => h) (Or.inr ⟨by rfl, rfl⟩) (by assumption) ?_
  try simp only [Act.put, List.setIfInBounds_toArray, List.set_cons_zero, List.set_cons_succ]
  refine take_lit (i := 7) rfl (by kernel_rfl) (by kernel_rfl) (by kernel_rfl) (fun _ _ _ h => h) (Or.inr ⟨by rfl, rfl⟩) (by assumption) ?_
  try simp only [Act.put, List.setIfInBounds_toArray, List.set_cons_zero, List.set_cons_succ]
  refine take_lit (i := 8) (v := ?_) rfl (by kernel_rfl) (by kernel_rfl) (by kernel_rfl) (fun _ _ _ h => h) (Or.inl ⟨by rfl, ?_⟩) (by assumption) ?_
  rotate_left
  · (intro w hSw; (try dsimp only at hSw); go_simp <;> with_reducible rfl)
  try simp only [Act.put, List.setIfInBounds_toArray, List.set_cons_zero, List.set_cons_succ]
  refine wpAnyH_done (by kernel_rfl) ?_ _
  refine NoPanic.normal ?_
  go_wp2_with (first
    | ((with_reducible refine stE (.tmp 6) (.tmp 21) ?_ ?_ g6 zeroE zeroE ?_ ?_ ?_ ?_); (focus rfl); (focus rfl); (focus rfl); (focus rfl); (focus exact q6.below hHeld l6); intro W7 g7 r7)
    | ((with_reducible refine bdG [] ?_ ?_ ?_ ?_); (focus rfl); (focus rfl); (focus exact bdE0 _)))
  have k7 := bt k1 hHeld
  exact bodyPost_ret (retCT rfl _ _ 0 rfl (lvE r7)) rfl ⟨rfl, grown_below g7 k7 hg6 k7.size⟩
set_option maxHeartbeats 8000000 in
theorem lookup_other {w : World} {k : Nat} (src dst : Ad) (hf : Fa.famA src ≠ Fa.famA dst) : Calls Try.prog 19 #[.pointer (some ⟨k, 0, none⟩), (Value.agg (acells src).toArray), (Value.agg (acells dst).toArray)] w (Gives w (.tuple #[eV zeroE, .bool false])) := by
  have hS := Fa.fam_any src
  have hD := Fa.fam_any dst
  have hz : (Fa.famA src == Fa.famA dst) = false := by simpa using hf
  generalize Fa.famA src = fs at *
  generalize Fa.famA dst = fd at *
  clear hf
  have r0 := Row.new w 31 (acells src)
  have b0 := ba w (.cells (acells src).toArray 31)
  have r1 := Row.new (w.alloc (.cells (acells src).toArray 31)) 31 (acells dst)
  have b1 := ba (w.alloc (.cells (acells src).toArray 31)) (.cells (acells dst).toArray 31)
  have e1 : (w.alloc (.cells (acells src).toArray 31)).heap.size = w.heap.size + 1 := World.size_alloc ..
  rw [e1] at r1
  go_enter Try.func19, Try.ntmps19
  go_upto_region 1 with (first
    | (have kk := r1; (with_reducible refine alG infoEz ?_ ?_ ?_); (focus rfl); (focus rfl); intro g6 W1 h6 l6 b6 q6))
  have rs : Row W1 w.heap.size 31 (acells src) := (r0.below b1 r0.lt).below b6 (r0.below b1 r0.lt).lt
  have rd : Row W1 (w.heap.size + 1) 31 (acells dst) := r1.below b6 r1.lt
  have k1 : Below w.heap.size w W1 := bt (bt b0 b1) b6
  have hg6 : w.heap.size ≤ g6 := by simp at h6; omega
  clear r0 b0 r1 b1 e1 b6 h6
  have hrs := rs.lt
  have hrd := rd.lt
  refine wp_region_noPanic ?_
  refine wp_region_held_drew (S := fun V => Below W1.heap.size W1 V) (by kernel_rfl) ((Below.refl _ _).drew) (fun hHeld => ?_)
  refine take_lit (i := 0) (v := ?_) rfl (by kernel_rfl) (by kernel_rfl) (by kernel_rfl) (fun _ _ _ h => h) (Or.inl ⟨by rfl, ?_⟩) (by assumption) ?_
  rotate_left
  · (intro w hSw; (try dsimp only at hSw); go_simp <;> with_reducible rfl)
  try simp only [Act.put, List.setIfInBounds_toArray, List.set_cons_zero, List.set_cons_succ]
  refine take_lit (i := 1) (v := ?_) rfl (by kernel_rfl) (by kernel_rfl) (by kernel_rfl) (fun _ _ _ h => h) (Or.inl ⟨by rfl, ?_⟩) (by assumption) ?_
  rotate_left
  · (intro w hSw; (try dsimp only at hSw); go_simp <;> with_reducible rfl)
  try simp only [Act.put, List.setIfInBounds_toArray, List.set_cons_zero, List.set_cons_succ]
  refine take_lit (i := 2) (v := ?_) rfl (by kernel_rfl) (by kernel_rfl) (by kernel_rfl) (fun _ _ _ h => h) (Or.inl ⟨by rfl, ?_⟩) (by assumption) ?_
  rotate_left
  · (intro w hSw; (try dsimp only at hSw); go_simp <;> with_reducible rfl)
  try simp only [Act.put, List.setIfInBounds_toArray, List.set_cons_zero, List.set_cons_succ]
  refine take_lit (i := 3) rfl (by kernel_rfl) (by kernel_rfl) (by kernel_rfl) (fun _ _ _ h => h) (yA src (fun w h => (rs.below h hrs).range) (by rfl) rfl rfl) (by assumption) ?_
  try simp only [Act.put, List.setIfInBounds_toArray, List.set_cons_zero, List.set_cons_succ]
  refine take_lit (i := 5) rfl (by kernel_rfl) (by kernel_rfl) (by kernel_rfl) (fun _ _ _ h => h) (yA dst (fun w h => (rd.below h hrd).range) (by rfl) rfl rfl) (by assumption) ?_
  try simp only [Act.put, List.setIfInBounds_toArray, List.set_cons_zero, List.set_cons_succ]
  refine wpAnyH_ready (rs := [4]) (by kernel_rfl) (by simp) ?_
  refine cons_lit rfl (fun K hK => ?_) ?_
  · go_simp
    refine (hS _).mono ?_
    rintro e w1 ⟨rfl, hg1⟩
    refine hK.out _ _ ?_ (fun hHeld => ?_)
    · exact bt hHeld hg1
    clear hK K
    try simp only [Act.put, List.setIfInBounds_toArray, List.set_cons_zero, List.set_cons_succ]
    refine wpAnyH_ready (rs := [6]) (by kernel_rfl) (by simp) ?_
    refine cons_lit rfl (fun K hK => ?_) ?_
    · go_simp
      refine (hD _).mono ?_
      rintro e w2 ⟨rfl, hg2⟩
      refine hK.out _ _ ?_ (fun hHeld => ?_)
      · exact bt hHeld hg2
      clear hK K
      try simp only [Act.put, List.setIfInBounds_toArray, List.set_cons_zero, List.set_cons_succ]
      refine take_lit (i := 7) (v := ?_) rfl (by kernel_rfl) (by kernel_rfl) (by kernel_rfl) (fun _ _ _ h => h) (Or.inl ⟨by rfl, ?_⟩) (by assumption) ?_
      rotate_left
      · (intro w hSw; (try dsimp only at hSw); go_simp <;> with_reducible rfl)
      try simp only [Act.put, List.setIfInBounds_toArray, List.set_cons_zero, List.set_cons_succ]
      refine take_lit (i := 8) (v := ?_) rfl (by kernel_rfl) (by kernel_rfl) (by kernel_rfl) (fun _ _ _ h => h) (Or.inl ⟨by rfl, ?_⟩) (by assumption) ?_
      rotate_left
      · (intro w hSw; (try dsimp only at hSw); go_simp <;> with_reducible rfl)
      try simp only [Act.put, List.setIfInBounds_toArray, List.set_cons_zero, List.set_cons_succ]
      refine wpAnyH_done (by kernel_rfl) ?_ _
      refine NoPanic.normal ?_
      go_wp2_with (first
        | ((with_reducible refine stE (.tmp 6) (.tmp 21) ?_ ?_ g6 zeroE zeroE ?_ ?_ ?_ ?_); (focus rfl); (focus rfl); (focus rfl); (focus rfl); (focus exact q6.below hHeld l6); intro W7 g7 r7)
        | ((with_reducible refine bdG [] ?_ ?_ ?_ ?_); (focus rfl); (focus rfl); (focus exact bdE0 _)))
      have k7 := bt k1 hHeld
      exact bodyPost_ret (retCT rfl _ _ 0 rfl (lvE r7)) rfl ⟨rfl, grown_below g7 k7 hg6 k7.size⟩
    exact AllReadyH.nil
  exact AllReadyH.nil
set_option maxHeartbeats 16000000 in
theorem lookup_same {w : World} {b k : Nat} {n : Int} {F : List Hd} (h : Kn w b k n F) (src dst : Ad) (hf : Fa.famA src = Fa.famA dst) : Calls Try.prog 19 #[.pointer (some ⟨k, 0, none⟩), (Value.agg (acells src).toArray), (Value.agg (acells dst).toArray)] w (Gives w (.tuple #[eV ((lookR F src dst).getD zeroH).e, .bool (lookR F src dst).isSome])) := by
  obtain ⟨mb, L, hrow, hR, hl1, hl2⟩ := h.table src dst hf
  rw [← hR]
  have hS := Fa.fam_any src
  have hD := Fa.fam_any dst
  rw [hf] at hS
  clear hR hf h
  generalize Fa.famA dst = fd at *
  have hlR : lookL L src dst = lng mI ((lng mO L dst 129).getD zeroOb).S src 129 := rfl
  rw [hlR]
  clear hlR
  have hk : k < w.heap.size := Row.lt hrow
  have hc : ∀ V, Below w.heap.size w V → V.cell? ⟨k, 1, none⟩ = some (.map (some mb)) := fun V hY => KRow.c1 (n := n) (Row.below hrow hY hk)
  clear hrow hk
  have r0 := Row.new w 31 (acells src)
  have b0 := ba w (.cells (acells src).toArray 31)
  have r1 := Row.new (w.alloc (.cells (acells src).toArray 31)) 31 (acells dst)
  have b1 := ba (w.alloc (.cells (acells src).toArray 31)) (.cells (acells dst).toArray 31)
  have e1 : (w.alloc (.cells (acells src).toArray 31)).heap.size = w.heap.size + 1 := World.size_alloc ..
  rw [e1] at r1
  go_enter Try.func19, Try.ntmps19
  go_upto_region 1 with (first
    | (have kk := r1; (with_reducible refine alG infoEz ?_ ?_ ?_); (focus rfl); (focus rfl); intro g6 W1 h6 l6 b6 q6))
  have rs : Row W1 w.heap.size 31 (acells src) := (r0.below b1 r0.lt).below b6 (r0.below b1 r0.lt).lt
  have rd : Row W1 (w.heap.size + 1) 31 (acells dst) := r1.below b6 r1.lt
  have k1 : Below w.heap.size w W1 := bt (bt b0 b1) b6
  have hg6 : w.heap.size ≤ g6 := by simp at h6; omega
  clear r0 b0 r1 b1 e1 b6 h6
  have hrs := rs.lt
  have hrd := rd.lt
  have HC : Hid (∀ V, Below W1.heap.size W1 V → V.cell? ⟨k, 1, none⟩ = some (.map (some mb))) := fun V hY => hc V (bt k1 hY)
  clear hc
  refine wp_region_noPanic ?_
  refine wp_region_held_drew (S := fun V => Below W1.heap.size W1 V) (by kernel_rfl) ((Below.refl _ _).drew) (fun hHeld => ?_)
  refine take_lit (i := 0) (v := ?_) rfl (by kernel_rfl) (by kernel_rfl) (by kernel_rfl) (fun _ _ _ h => h) (Or.inl ⟨by rfl, ?_⟩) (by assumption) ?_
  rotate_left
  · (intro w hSw; (try dsimp only at hSw); go_simp <;> with_reducible rfl)
  try simp only [Act.put, List.setIfInBounds_toArray, List.set_cons_zero, List.set_cons_succ]
  refine take_lit (i := 1) (v := ?_) rfl (by kernel_rfl) (by kernel_rfl) (by kernel_rfl) (fun _ _ _ h => h) (Or.inl ⟨by rfl, ?_⟩) (by assumption) ?_
  rotate_left
  · (intro w hSw; (try dsimp only at hSw); go_simp <;> with_reducible rfl)
  try simp only [Act.put, List.setIfInBounds_toArray, List.set_cons_zero, List.set_cons_succ]
  refine take_lit (i := 2) (v := ?_) rfl (by kernel_rfl) (by kernel_rfl) (by kernel_rfl) (fun _ _ _ h => h) (Or.inl ⟨by rfl, ?_⟩) (by assumption) ?_
  rotate_left
  · (intro w hSw; (try dsimp only at hSw); go_simp <;> with_reducible rfl)
  try simp only [Act.put, List.setIfInBounds_toArray, List.set_cons_zero, List.set_cons_succ]
  refine take_lit (i := 3) rfl (by kernel_rfl) (by kernel_rfl) (by kernel_rfl) (fun _ _ _ h => h) (yA src (fun w h => (rs.below h hrs).range) (by rfl) rfl rfl) (by assumption) ?_
  try simp only [Act.put, List.setIfInBounds_toArray, List.set_cons_zero, List.set_cons_succ]
  refine take_lit (i := 5) rfl (by kernel_rfl) (by kernel_rfl) (by kernel_rfl) (fun _ _ _ h => h) (yA dst (fun w h => (rd.below h hrd).range) (by rfl) rfl rfl) (by assumption) ?_
  try simp only [Act.put, List.setIfInBounds_toArray, List.set_cons_zero, List.set_cons_succ]
  refine wpAnyH_ready (rs := [4]) (by kernel_rfl) (by simp) ?_
  refine cons_lit rfl (fun K hK => ?_) ?_
  · go_simp
    refine (hS _).mono ?_
    rintro e w1 ⟨rfl, hg1⟩
    refine hK.out _ _ ?_ (fun hHeld => ?_)
    · exact bt hHeld hg1
    clear hK K
    try simp only [Act.put, List.setIfInBounds_toArray, List.set_cons_zero, List.set_cons_succ]
    refine wpAnyH_ready (rs := [6]) (by kernel_rfl) (by simp) ?_
    refine cons_lit rfl (fun K hK => ?_) ?_
    · go_simp
      refine (hD _).mono ?_
      rintro e w2 ⟨rfl, hg2⟩
      refine hK.out _ _ ?_ (fun hHeld => ?_)
      · exact bt hHeld hg2
      clear hK K
      try simp only [Act.put, List.setIfInBounds_toArray, List.set_cons_zero, List.set_cons_succ]
      refine take_lit (i := 7) (v := ?_) rfl (by kernel_rfl) (by kernel_rfl) (by kernel_rfl) (fun _ _ _ h => h) (Or.inl ⟨by rfl, ?_⟩) (by assumption) ?_
      rotate_left
      · (intro w hSw; (try dsimp only at hSw); go_simp <;> with_reducible rfl)
      try simp only [Act.put, List.setIfInBounds_toArray, List.set_cons_zero, List.set_cons_succ]
      refine take_lit (i := 8) (v := ?_) rfl (by kernel_rfl) (by kernel_rfl) (by kernel_rfl) (fun _ _ _ h => h) (Or.inl ⟨by rfl, ?_⟩) (by assumption) ?_
      rotate_left
      · (intro w hSw; (try dsimp only at hSw); go_simp <;> with_reducible rfl)
      try simp only [Act.put, List.setIfInBounds_toArray, List.set_cons_zero, List.set_cons_succ]
      refine wpAnyH_done (by kernel_rfl) ?_ _
      refine NoPanic.normal ?_
      go_upto_region 3 with fail
      refine wp_region_noPanic ?_
      refine wp_region_held_drew (S := fun V => Below W1.heap.size W1 V) (by kernel_rfl) (hHeld.drew) (fun hHeld => ?_)
      refine take_lit (i := 0) (v := ?_) rfl (by kernel_rfl) (by kernel_rfl) (by kernel_rfl) (fun _ _ _ h => h) (Or.inl ⟨by rfl, ?_⟩) (by assumption) ?_
      rotate_left
      · (intro w hSw; (try dsimp only at hSw); go_simp <;> with_reducible rfl)
      try simp only [Act.put, List.setIfInBounds_toArray, List.set_cons_zero, List.set_cons_succ]
      refine take_lit (i := 1) (v := ?_) rfl (by kernel_rfl) (by kernel_rfl) (by kernel_rfl) (fun _ _ _ h => h) (Or.inl ⟨by rfl, ?_⟩) (by assumption) ?_
      rotate_left
      · (intro w hSw; (try dsimp only at hSw); go_simp <;> with_reducible rfl)
      try simp only [Act.put, List.setIfInBounds_toArray, List.set_cons_zero, List.set_cons_succ]
      refine take_lit (i := 2) (v := ?_) rfl (by kernel_rfl) (by kernel_rfl) (by kernel_rfl) (fun _ _ _ h => h) (Or.inl ⟨by rfl, ?_⟩) (by assumption) ?_
      rotate_left
      · (intro w hSw; (try dsimp only at hSw); go_simp <;> with_reducible rfl)
      try simp only [Act.put, List.setIfInBounds_toArray, List.set_cons_zero, List.set_cons_succ]
      refine take_lit (i := 3) (v := ?_) rfl (by kernel_rfl) (by kernel_rfl) (by kernel_rfl) (fun _ _ _ h => h) (Or.inl ⟨by rfl, ?_⟩) (by assumption) ?_
      rotate_left
      · (intro w hSw; (try dsimp only at hSw); have z := HC.out _ hSw; go_simp <;> with_reducible rfl)
      try simp only [Act.put, List.setIfInBounds_toArray, List.set_cons_zero, List.set_cons_succ]
      refine take_lit (i := 4) rfl (by kernel_rfl) (by kernel_rfl) (by kernel_rfl) (fun _ _ _ h => h) (yA dst (fun w h => (rd.below h hrd).range) (by rfl) rfl rfl) (by assumption) ?_
      try simp only [Act.put, List.setIfInBounds_toArray, List.set_cons_zero, List.set_cons_succ]
      refine wpAnyH_ready (rs := [5]) (by kernel_rfl) (by simp) ?_
      refine cons_lit rfl (fun K hK => ?_) ?_
      · go_simp
        refine (longestO_any (.map (some mb)) L (fun V p hY hi => hl1 V p (bt k1 (bt hHeld hY)) hi) dst).mono ?_
        rintro e w5 ⟨rfl, hg5⟩
        refine hK.out _ _ ?_ (fun hHeld => ?_)
        · exact bt hHeld hg5
        clear hK K
        try simp only [Act.put, List.setIfInBounds_toArray, List.set_cons_zero, List.set_cons_succ]
        refine take_lit (i := 6) (v := ?_) rfl (by kernel_rfl) (by kernel_rfl) (by kernel_rfl) (fun _ _ _ h => h) (Or.inl ⟨by rfl, ?_⟩) (by assumption) ?_
        rotate_left
        · (intro w hSw; (try dsimp only at hSw); go_simp <;> with_reducible rfl)
        try simp only [Act.put, List.setIfInBounds_toArray, List.set_cons_zero, List.set_cons_succ]
        refine take_lit (i := 7) (v := ?_) rfl (by kernel_rfl) (by kernel_rfl) (by kernel_rfl) (fun _ _ _ h => h) (Or.inl ⟨by rfl, ?_⟩) (by assumption) ?_
        rotate_left
        · (intro w hSw; (try dsimp only at hSw); go_simp <;> with_reducible rfl)
        try simp only [Act.put, List.setIfInBounds_toArray, List.set_cons_zero, List.set_cons_succ]
        refine take_lit (i := 8) (v := ?_) rfl (by kernel_rfl) (by kernel_rfl) (by kernel_rfl) (fun _ _ _ h => h) (Or.inl ⟨by rfl, ?_⟩) (by assumption) ?_
        rotate_left
        · (intro w hSw; (try dsimp only at hSw); go_simp <;> with_reducible rfl)
        try simp only [Act.put, List.setIfInBounds_toArray, List.set_cons_zero, List.set_cons_succ]
        refine take_lit (i := 9) (v := ?_) rfl (by kernel_rfl) (by kernel_rfl) (by kernel_rfl) (fun _ _ _ h => h) (Or.inl ⟨by rfl, ?_⟩) (by assumption) ?_
        rotate_left
        · (intro w hSw; (try dsimp only at hSw); go_simp <;> with_reducible rfl)
        try simp only [Act.put, List.setIfInBounds_toArray, List.set_cons_zero, List.set_cons_succ]
        refine take_lit (i := 10) (v := ?_) rfl (by kernel_rfl) (by kernel_rfl) (by kernel_rfl) (fun _ _ _ h => h) (Or.inl ⟨by rfl, ?_⟩) (by assumption) ?_
        rotate_left
        · (intro w hSw; (try dsimp only at hSw); go_simp <;> with_reducible rfl)
        try simp only [Act.put, List.setIfInBounds_toArray, List.set_cons_zero, List.set_cons_succ]
        refine wpAnyH_done (by kernel_rfl) ?_ _
        refine NoPanic.normal ?_
        clear HC hl1 hS hD
        generalize lng mO L dst 129 = o at *
        go_wp2_with (first
          | (have kk := q10; (with_reducible refine stE (.tmp 6) (.tmp 38) ?_ ?_ g6 ((lng mI (o.getD zeroOb).S src 129).getD zeroH).e zeroE ?_ ?_ ?_ ?_); (focus rfl); (focus rfl); (focus rfl); (focus rfl); (focus exact q6.below k10 l6); intro W7 g7 r7)
          | (have kk := q10; (with_reducible refine ldE (.tmp 37) ?_ ?_ g10 0 ((lng mI (o.getD zeroOb).S src 129).getD zeroH).e ?_ ?_ ?_); (focus rfl); (focus rfl); (focus rfl); (focus exact q10.hd.e))
          | (have kk := r10; (with_reducible refine stH (.tmp 10) (.tmp 35) ?_ ?_ g10 ((lng mI (o.getD zeroOb).S src 129).getD zeroH) zeroH ?_ ?_ ?_ ?_); (focus rfl); (focus rfl); (focus rfl); (focus rfl); (focus exact r10); intro W10 gr10 q10; have k10 := bt k9 (grown_below gr10 b10 h10 b10.size); clear r10)
          | (have kk := k9; (with_reducible refine alG infoHz ?_ ?_ ?_); (focus rfl); (focus rfl); intro g10 V10 h10 l10 b10 r10)
          | (go_at_call 38; refine (longestI_any (.map (o.getD zeroOb).r) (o.getD zeroOb).S (fun V p hY hi => hl2 V p (bt k1 (bt hHeld hY)) hi) src).mono ?_; rintro e W9 ⟨rfl, b9⟩; have k9 := bt hHeld b9)
          | (refine ldA (.tmp 4) rfl rfl _ _ src rfl (rs.below hHeld hrs).range ?_))
        have k7 := bt k1 k10
        exact bodyPost_ret (retCT rfl _ _ 0 rfl (lvE r7)) rfl ⟨rfl, grown_below g7 k7 hg6 k7.size⟩
      exact AllReadyH.nil
    exact AllReadyH.nil
  exact AllReadyH.nil
theorem lookup_any {w : World} {b k : Nat} {n : Int} {F : List Hd} (h : Kn w b k n F) (src dst : Ad) : Calls Try.prog 19 #[.pointer (some ⟨k, 0, none⟩), (Value.agg (acells src).toArray), (Value.agg (acells dst).toArray)] w (Gives w (.tuple #[eV ((lookR F src dst).getD zeroH).e, .bool (lookR F src dst).isSome])) := by
  by_cases hf : Fa.famA src = Fa.famA dst
  · exact lookup_same h src dst hf
  · rw [look_none hf]
    exact lookup_other src dst hf
end Go.Proofs.Ytadnnjngflphjaa
