/-
  The contract of the reference reader's Bytes for every reader that is there, whatever is asked.
-/
import Derived.Test.YtelopplkdlbgbaaRefReader
namespace Go.Proofs.Ytelopplkdlbgbaa
open Go.RowKit
set_option linter.unusedSimpArgs false
variable {bv : Option Addr}

/-- append([]byte{}, b...) at a step of a region that draws its order. -/
theorem step_copy {ops : Array Oper} {o : Oper} {a : Act} {w : World} {K : Act → World → Prop} {Q : Exit → Act → World → Prop} {E : Prop} (hw : Region.wanted o (yielded ops a.tmps) = true) (s x : Operand)
    (ho : o.op = .call { callee := .builtin .append, args := #[s, x], argTypes := #[22, 22] }) (h : Nat) (hs : a.eval s = .slice (some ⟨h, 0, none⟩) 0 0) (hh : w.heap[h]? = some (.cells #[] 5 (0, 0)))
    (ad : Option Addr) (m c : Nat) (l : List UInt8) (hx : a.eval x = .slice ad m c) (hsrc : Src w ad m c (bcells l)) (hb : m ≤ 140737488355328)
    (hK : ∀ a' c' w', Src w' a' m c' (bcells l) → w.grownBy w' (some h) → (∀ ad, a' = some ad → h ≤ ad.block) → K (a.put o.dst (.slice a' m c')) w') :
    if Region.wanted o (yielded ops a.tmps) = true then Oper.wp Try.prog o a w K Q else E := by
  rw [if_pos hw]
  obtain ⟨i0, hi, hz0, hz1, hz2⟩ := info_parts info5
  have hown : w.ownsRow h 5 1 (.slice (some ⟨h, 0, none⟩) 0 0) 0 [] := ⟨by simp, .inr ⟨h, 0, #[], rfl, Nat.le_refl _, hh, Nat.le_refl _, by unfold maxLen; omega, by simp, by simp⟩⟩
  have fin : ∀ v' w', w'.ownsRow h 5 1 v' m (bcells l) → w.grownBy w' (some h) → K (a.put o.dst v') w' := by
    intro v' w' h1 h2
    obtain ⟨a', c', hv, hs', hlt⟩ := Src.ofOwn h1
    subst hv
    exact hK a' c' w' hs' h2 (fun ad had => (hlt ad had).1)
  cases ad with
  | some ad =>
    refine wp_append_own w s x 22 ho h 5 i0 (.int .u8 0) 1 1 Try.underlying22 hi hz0 hz1 hz2 rfl (by decide) _ 0 [] hs hown ad m c (bcells l) hx (by simp [hsrc.len]) (hsrc.cell ad rfl) (bcells_one l) (by unfold maxLen; omega) (by omega) (Nat.le_of_lt (lt_of_block hh)) ?_
    intro v' w' h1 h2 _
    exact fin v' w' (by simpa using h1) h2
  | none =>
    obtain ⟨rfl, rfl⟩ := hsrc.bare rfl
    have hn : bcells l = [] := List.eq_nil_of_length_eq_zero hsrc.len
    have hrun := run_append_owned_none (P := Try.prog) (w := w) h 22 o.type 5 i0 1 Try.underlying22 hi _ 0 [] hown
    unfold Oper.wp
    simp [execOp, ho, resolve, invoke, builtin, hs, hx, hrun, Result.andThen]
    exact fin _ w (by rw [hn]; exact hown) (World.grownBy.refl _ _)


/-- A part of a slice of bytes: what the run makes of it. -/
theorem slice_mid (a : Option Addr) (n c p k : Nat) (hn : p + k ≤ n) (hc : n ≤ c) (h0 : a = none → c = 0) : ∃ a' c', (∀ w, (Instr.slice 22 (.slice a n c) (some (.int .i64 (p : Int))) (some (.int .i64 ((p : Int) + (k : Int)))) none).run Try.prog w = .ok (.slice a' k c') w) ∧
    ∀ (w : World) (l : List UInt8), Src w a n c (bcells l) → Src w a' k c' (bcells ((l.drop p).take k)) := by
  have h1 : (0 : Int) ≤ (p : Int) := by omega
  have h2 : (p : Int) ≤ (p : Int) + (k : Int) := by omega
  have h3 : (p : Int) + (k : Int) ≤ (c : Int) := by omega
  cases a with
  | none =>
    obtain rfl := h0 rfl
    obtain rfl : p = 0 := by omega
    obtain rfl : k = 0 := by omega
    refine ⟨none, 0, fun w => by go_simp, fun w l h => ?_⟩
    have : l = [] := List.eq_nil_of_length_eq_zero (by have := h.blen; omega)
    subst this
    exact Src.nil w
  | some ad =>
    have e1 : ((p : Int) + (k : Int)).toNat - p = k := by omega
    by_cases hcp : c = p
    · obtain rfl : k = 0 := by omega
      refine ⟨some ad, 0, fun w => ?_, fun w l h => ⟨by simp [bcells], (fun h => by cases h), fun _ _ j u hu => by simp [bcells] at hu⟩⟩
      subst hcp
      go_simp
    · refine ⟨some (ad.add p), c - p, fun w => ?_, fun w l h => ?_⟩
      · go_simp
      · have h3 := h.part (p := p) (k := k) (c - p)
        rw [bcells_part] at h3
        have el : (bcells ((l.drop p).take k)).length = k := by have := h.blen; simp [bcells]; omega
        rw [el] at h3
        exact h3

/-- What the document's Bytes answers. -/
def spT (l : List UInt8) (p : Nat) (y s n : Int) : Int := if y = 0 ∧ tkE l p y n ≠ 0 then (p : Int) else s
def RTook (w : World) (g : Nat) (bv : Option Addr) (l : List UInt8) (p : Nat) (y s n : Int) (e : Ending) (w' : World) : Prop :=
  ∃ a m c, e = .returned (.slice a m c) ∧ Src w' a m c (bcells (tkB l p y n)) ∧ (∀ ad, a = some ad → w.heap.size ≤ ad.block) ∧ RNow w w' g bv l (p + (tkB l p y n).length) (tkE l p y n) (spT l p y s n)
theorem rtook_none {w w' : World} {g : Nat} {l : List UInt8} {p : Nat} {y s n z t : Int} (eb : tkB l p y n = []) (ee : tkE l p y n = z) (es : spT l p y s n = t) (h : RNow w w' g bv l p z t) : RTook w g bv l p y s n (.returned (.slice none 0 0)) w' := by
  unfold RTook; rw [eb, ee, es]; exact ⟨none, 0, 0, rfl, Src.nil w', (fun _ h => by cases h), h⟩
theorem rtook_some {w X w' : World} {g : Nat} {l : List UInt8} {p k : Nat} {s : Int} {a : Option Addr} {c : Nat} (hk : p + k ≤ l.length) (h : RNow w X g bv l (p + k) 0 s) (hb : Below X.heap.size X w') (hs : Src w' a k c (bcells ((l.drop p).take k))) (hz : ∀ ad, a = some ad → X.heap.size ≤ ad.block) : RTook w g bv l p 0 s k (.returned (.slice a k c)) w' := by
  have eb : tkB l p 0 k = (l.drop p).take k := by unfold tkB; rw [if_pos (by omega)]; simp
  have ee : tkE l p 0 k = 0 := by unfold tkE; rw [if_neg (by simp), if_neg (by omega), if_pos (by omega)]
  have es : spT l p 0 s k = s := by simp [spT, ee]
  have el : ((l.drop p).take k).length = k := by simp; omega
  unfold RTook; rw [eb, ee, es, el]
  exact ⟨a, k, c, rfl, hs, fun ad had => Nat.le_trans h.grown.size (hz ad had), ⟨h.rd.below hb, grownBy_trans h.grown (grownBy_below _ hb)⟩⟩

theorem rbytes_no (g : Nat) (l : List UInt8) (p : Nat) (y s n : Int) (w : World) (h : RR w g bv l p y s) (hy : y ≠ 0) : Calls Try.prog 22 #[.pointer (some ⟨g, 0, none⟩), .int .i64 n] w (RTook w g bv l p y s n) := by
  obtain ⟨c, c0, c1, c2, c3, hf, hc, hs⟩ := h.cells
  clear hf
  have HY : Hid (y ≠ 0) := hy
  have hy' : (y == 0) = false := by simpa using hy
  clear hy
  go_enter Try.func22, Try.ntmps22
  go_wp2
  go_ret
  have hy := HY.out
  exact rtook_none (by simp [tkB, hy]) (by simp [tkE, hy]) (by simp [spT, hy]) h.now
theorem rbytes_neg (g : Nat) (l : List UInt8) (p : Nat) (s n : Int) (w : World) (h : RR w g bv l p 0 s) (hn : n < 0) : Calls Try.prog 22 #[.pointer (some ⟨g, 0, none⟩), .int .i64 n] w (RTook w g bv l p 0 s n) := by
  obtain ⟨c, c0, c1, c2, c3, hf, hc, hs⟩ := h.cells
  clear hf
  go_enter Try.func22, Try.ntmps22
  go_wp2_with (go_at_call 26; refine (rfail_any g l p 0 s 2 w h).mono ?_; rintro e w0 ⟨rfl, hn0⟩)
  go_ret
  exact rtook_none (by unfold tkB; rw [if_neg (by omega)]) (by simp [tkE, hn]) (by simp [spT, tkE, hn]) hn0
theorem rbytes_short (g : Nat) (l : List UInt8) (p : Nat) (s n : Int) (w : World) (h : RR w g bv l p 0 s) (hn : ((l.length - p : Nat) : Int) < n) : Calls Try.prog 22 #[.pointer (some ⟨g, 0, none⟩), .int .i64 n] w (RTook w g bv l p 0 s n) := by
  obtain ⟨c, c0, c1, c2, c3, hf, hc, hs⟩ := h.cells
  clear hf
  have hle := h.le
  have hbig := h.big
  have h0 : 0 ≤ n := by omega
  have hlt : (l.length : Int) - (p : Int) < n := by omega
  go_enter Try.func22, Try.ntmps22
  go_wp2
  go_quiet (fail)
  go_wp2_with (go_at_call 26; refine (rfail_any g l p 0 s 3 _ (h.drewN nq).rd).mono ?_; rintro e w0 ⟨rfl, hn0⟩)
  go_ret
  have ee : tkE l p 0 n = 3 := by unfold tkE; rw [if_neg (by simp), if_neg (by omega), if_neg (by omega)]
  exact rtook_none (by unfold tkB; rw [if_neg (by omega)]) (ee.trans (by simp)) (by simp [spT, ee]) ((h.drewN nq).trans hn0)

set_option maxRecDepth 100000 in
set_option maxHeartbeats 1000000 in
theorem rbytes_yes (g : Nat) (l : List UInt8) (p k : Nat) (s : Int) (w : World) (h : RR w g bv l p 0 s) (hk : p + k ≤ l.length) : Calls Try.prog 22 #[.pointer (some ⟨g, 0, none⟩), .int .i64 k] w (RTook w g bv l p 0 s k) := by
  obtain ⟨c, c0, c1, c2, c3, hf, hc, hs⟩ := h.cells
  have f1 := hf 1
  have hbig := h.big
  clear hf
  have n1 : ¬ (l.length : Int) - (p : Int) < (k : Int) := by omega
  have n0 : (0 : Int) ≤ (k : Int) := by omega
  obtain ⟨sa, sc, hsl, HSL⟩ := slice_mid bv l.length c p k hk hc (fun hb => (hs.bare hb).2)
  have HSL2 : Hid (∀ (w : World) (l_1 : List UInt8), Src w bv l.length c (bcells l_1) → Src w sa k sc (bcells ((l_1.drop p).take k))) := HSL
  clear HSL
  go_enter Try.func22, Try.ntmps22
  go_wp2
  go_quiet (fail)
  go_wp2
  have hXn : RNow w ((w.drewN nq).setCell ⟨g, 1, none⟩ (.int .i64 ((p : Int) + (k : Int)))) g bv l (p + k) 0 s := by
    have e : ((p : Int) + (k : Int)) = ((p + k : Nat) : Int) := by omega
    rw [e]
    exact (h.drewN nq).trans ((h.drewN nq).rd.set 1 _ hk (fun _ => rfl))
  have d0 : ((w.drewN nq).setCell ⟨g, 1, none⟩ (.int .i64 ((p : Int) + (k : Int)))).cell? ⟨g, 0, none⟩ = some (.slice bv l.length c) := by go_simp
  have d1 : ((w.drewN nq).setCell ⟨g, 1, none⟩ (.int .i64 ((p : Int) + (k : Int)))).cell? ⟨g, 1, none⟩ = some (.int .i64 ((p : Int) + (k : Int))) := by go_simp
  have hs' := hs.grown hXn.grown (fun ad had _ e => h.ne ad had (Option.some.inj e))
  generalize (w.drewN nq).setCell ⟨g, 1, none⟩ (.int .i64 ((p : Int) + (k : Int))) = X at *
  have HS : Hid (∀ w', Below X.heap.size X w' → Src w' sa k sc (bcells ((l.drop p).take k))) := fun w' hb => HSL2.out w' l (hs'.below hb hs'.lt)
  have HK : Hid (∀ w', Below X.heap.size X w' → Below X.heap.size X w' ∧ w'.cell? ⟨g, 0, none⟩ = some (.slice bv l.length c) ∧ w'.cell? ⟨g, 1, none⟩ = some (.int .i64 ((p : Int) + (k : Int)))) := fun w' hb => ⟨hb, (hb.cell (p := ⟨g, 0, none⟩) hXn.rd.lt).trans d0, (hb.cell (p := ⟨g, 1, none⟩) hXn.rd.lt).trans d1⟩
  have x1 : IntKind.i64.wrap ((p : Int) + (k : Int) - (k : Int)) = (p : Int) := by rw [IntKind.wrap_i64]; omega
  have x2 : IntKind.i64.wrap (p : Int) = (p : Int) := by rw [IntKind.wrap_i64]; omega
  clear hs hs' d0 d1
  refine wp_region_noPanic ?_
  refine wp_region_held_drew (S := fun w' => Below X.heap.size X w' ∧ w'.cell? ⟨g, 0, none⟩ = some (.slice bv l.length c) ∧ w'.cell? ⟨g, 1, none⟩ = some (.int .i64 ((p : Int) + (k : Int)))) (by kernel_rfl) (HK.out _ (Below.refl _ _).drew) (fun hHeld => ?_)
  refine take_lit (i := 1) (v := ?_) rfl (by kernel_rfl) (by kernel_rfl) (by kernel_rfl) (fun _ _ _ h => h) (Or.inl ⟨by rfl, ?_⟩) (by assumption) ?_
  rotate_left
  · (intro w hSw; (try dsimp only at hSw); go_simp <;> with_reducible rfl)
  try simp only [Act.put, List.setIfInBounds_toArray, List.set_cons_zero, List.set_cons_succ]
  refine take_lit (i := 2) (v := ?_) rfl (by kernel_rfl) (by kernel_rfl) (by kernel_rfl) (fun _ _ _ h => h) (Or.inl ⟨by rfl, ?_⟩) (by assumption) ?_
  rotate_left
  · (intro w hSw; (try dsimp only at hSw); go_simp <;> with_reducible rfl)
  try simp only [Act.put, List.setIfInBounds_toArray, List.set_cons_zero, List.set_cons_succ]
  refine take_lit (i := 3) (v := ?_) rfl (by kernel_rfl) (by kernel_rfl) (by kernel_rfl) (fun _ _ _ h => h) (Or.inl ⟨by rfl, ?_⟩) (by assumption) ?_
  rotate_left
  · (intro w hSw; (try dsimp only at hSw); go_simp <;> with_reducible rfl)
  try simp only [Act.put, List.setIfInBounds_toArray, List.set_cons_zero, List.set_cons_succ]
  refine take_lit (i := 4) (v := ?_) rfl (by kernel_rfl) (by kernel_rfl) (by kernel_rfl) (fun _ _ _ h => h) (Or.inl ⟨by rfl, ?_⟩) (by assumption) ?_
  rotate_left
  · (intro w hSw; (try dsimp only at hSw); go_simp <;> with_reducible rfl)
  try simp only [Act.put, List.setIfInBounds_toArray, List.set_cons_zero, List.set_cons_succ]
  refine take_lit (i := 5) (v := ?_) rfl (by kernel_rfl) (by kernel_rfl) (by kernel_rfl) (fun _ _ _ h => h) (Or.inl ⟨by rfl, ?_⟩) (by assumption) ?_
  rotate_left
  · (intro w hSw; (try dsimp only at hSw); go_simp <;> with_reducible rfl)
  try simp only [Act.put, List.setIfInBounds_toArray, List.set_cons_zero, List.set_cons_succ]
  refine take_lit (i := 6) (v := ?_) rfl (by kernel_rfl) (by kernel_rfl) (by kernel_rfl) (fun _ _ _ h => h) (Or.inl ⟨by rfl, ?_⟩) (by assumption) ?_
  rotate_left
  · (intro w hSw; (try dsimp only at hSw); go_simp <;> with_reducible rfl)
  try simp only [Act.put, List.setIfInBounds_toArray, List.set_cons_zero, List.set_cons_succ]
  refine take_lit (i := 7) (v := ?_) rfl (by kernel_rfl) (by kernel_rfl) (by kernel_rfl) (fun _ _ _ h => h) (Or.inl ⟨by rfl, ?_⟩) (by assumption) ?_
  rotate_left
  · (intro w hSw; (try dsimp only at hSw); go_simp <;> with_reducible rfl)
  try simp only [Act.put, List.setIfInBounds_toArray, List.set_cons_zero, List.set_cons_succ]
  refine take_lit (i := 8) (v := ?_) rfl (by kernel_rfl) (by kernel_rfl) (by kernel_rfl) (fun _ _ _ h => h) (Or.inl ⟨by rfl, ?_⟩) (by assumption) ?_
  rotate_left
  · (intro w hSw; (try dsimp only at hSw); go_simp <;> with_reducible rfl)
  try simp only [Act.put, List.setIfInBounds_toArray, List.set_cons_zero, List.set_cons_succ]
  refine take_lit (i := 9) (v := ?_) rfl (by kernel_rfl) (by kernel_rfl) (by kernel_rfl) (fun _ _ _ h => h) (Or.inl ⟨by rfl, ?_⟩) (by assumption) ?_
  rotate_left
  · (intro w hSw; (try dsimp only at hSw); go_simp <;> with_reducible rfl)
  try simp only [Act.put, List.setIfInBounds_toArray, List.set_cons_zero, List.set_cons_succ]
  refine take_lit (i := 10) (v := ?_) rfl (by kernel_rfl) (by kernel_rfl) (by kernel_rfl) (fun _ _ _ h => h) (Or.inl ⟨by rfl, ?_⟩) (by assumption) ?_
  rotate_left
  · (intro w hSw; (try dsimp only at hSw); go_simp <;> with_reducible rfl)
  try simp only [Act.put, List.setIfInBounds_toArray, List.set_cons_zero, List.set_cons_succ]
  refine take_lit (i := 11) (v := ?_) rfl (by kernel_rfl) (by kernel_rfl) (by kernel_rfl) (fun _ _ _ h => h) (Or.inl ⟨by rfl, ?_⟩) (by assumption) ?_
  rotate_left
  · (intro w hSw; (try dsimp only at hSw); go_simp <;> with_reducible rfl)
  try simp only [Act.put, List.setIfInBounds_toArray, List.set_cons_zero, List.set_cons_succ]
  refine take_lit (i := 12) (v := ?_) rfl (by kernel_rfl) (by kernel_rfl) (by kernel_rfl) (fun _ _ _ h => h) (Or.inl ⟨by rfl, ?_⟩) (by assumption) ?_
  rotate_left
  · (intro w hSw; (try dsimp only at hSw); go_simp <;> with_reducible rfl)
  try simp only [Act.put, List.setIfInBounds_toArray, List.set_cons_zero, List.set_cons_succ]
  refine take_lit (i := 13) (v := ?_) rfl (by kernel_rfl) (by kernel_rfl) (by kernel_rfl) (fun _ _ _ h => h) (Or.inl ⟨by rfl, ?_⟩) (by assumption) ?_
  rotate_left
  · (intro w hSw; (try dsimp only at hSw); go_simp <;> with_reducible rfl)
  try simp only [Act.put, List.setIfInBounds_toArray, List.set_cons_zero, List.set_cons_succ]
  refine take_lit (i := 14) (v := ?_) rfl (by kernel_rfl) (by kernel_rfl) (by kernel_rfl) (fun _ _ _ h => h) (Or.inl ⟨by rfl, ?_⟩) (by assumption) ?_
  rotate_left
  · (intro w hSw; (try dsimp only at hSw); go_simp <;> with_reducible rfl)
  try simp only [Act.put, List.setIfInBounds_toArray, List.set_cons_zero, List.set_cons_succ]
  refine take_lit (i := 15) (v := ?_) rfl (by kernel_rfl) (by kernel_rfl) (by kernel_rfl) (fun _ _ _ h => h) (Or.inl ⟨by rfl, ?_⟩) (by assumption) ?_
  rotate_left
  · (intro w hSw; (try dsimp only at hSw); go_simp <;> with_reducible rfl)
  try simp only [Act.put, List.setIfInBounds_toArray, List.set_cons_zero, List.set_cons_succ]
  refine wpAnyH_ready (rs := [0]) (by kernel_rfl) (by simp) ?_
  refine cons_lit rfl (fun K hK => ?_) ?_
  · skip
    go_simp
    refine hK.out _ _ ?_ (fun hHeld => ?_)
    · exact HK.out _ (hHeld.1.alloc hHeld.1.size _)
    clear hK K
    try simp only [Act.put, List.setIfInBounds_toArray, List.set_cons_zero, List.set_cons_succ]
    refine wpAnyH_ready (rs := [16]) (by kernel_rfl) (by simp) ?_
    refine cons_lit rfl (fun K hK => ?_) ?_
    · skip
      refine step_copy (by rfl) (.tmp 37) (.tmp 52) (by rfl) X.heap.size (by rfl) (heap_alloc_new _ _) sa k sc ((l.drop p).take k) (by rfl) (HS.out _ hHeld.1) (by omega) ?_
      intro b0 e0 x0 hb0 hg0 hz0
      refine hK.out _ _ ?_ (fun hHeld => ?_)
      · exact HK.out _ (hHeld.1.grown hg0 hHeld.1.size (fun j hj => by cases hj; exact Nat.le_refl _))
      clear hK K
      try simp only [Act.put, List.setIfInBounds_toArray, List.set_cons_zero, List.set_cons_succ]
      refine take_lit (i := 17) (v := ?_) rfl (by kernel_rfl) (by kernel_rfl) (by kernel_rfl) (fun _ _ _ h => h) (Or.inl ⟨by rfl, ?_⟩) (by assumption) ?_
      rotate_left
      · (intro w hSw; (try dsimp only at hSw); go_simp <;> with_reducible rfl)
      try simp only [Act.put, List.setIfInBounds_toArray, List.set_cons_zero, List.set_cons_succ]
      refine wpAnyH_done (by kernel_rfl) ?_ _
      refine NoPanic.normal ?_
      go_wp2
      go_ret
      exact rtook_some hk hXn hHeld.1 hb0 hz0
    exact AllReadyH.nil
  exact AllReadyH.nil

theorem rbytes_any (g : Nat) (l : List UInt8) (p : Nat) (y s n : Int) (w : World) (h : RR w g bv l p y s) : Calls Try.prog 22 #[.pointer (some ⟨g, 0, none⟩), .int .i64 n] w (RTook w g bv l p y s n) := by
  by_cases hy : y = 0
  · subst hy
    by_cases h0 : n < 0
    · exact rbytes_neg g l p s n w h h0
    · by_cases h1 : ((l.length - p : Nat) : Int) < n
      · exact rbytes_short g l p s n w h h1
      · obtain ⟨k, rfl⟩ : ∃ k : Nat, n = k := ⟨n.toNat, by omega⟩
        have := h.le
        exact rbytes_yes g l p k s w h (by omega)
  · exact rbytes_no g l p y s n w h hy
end Go.Proofs.Ytelopplkdlbgbaa
