/-
  The law RttBetween returns true for every input.
-/
import Derived.Test.YthcjhglddedjhaaR2
namespace Go.Proofs.Ythcjhglddedjhaa
open Go.RowKit
set_option linter.unusedSimpArgs false
set_option linter.unusedVariables false
theorem wI64 (z : Int) (h : 0 ≤ z) (h' : z < 65536) : IntKind.i64.wrap z = z := by
  simp [IntKind.wrap, IntKind.signed, IntKind.bits]; omega
theorem blZ_between (d lo hi o s : Int) (d0 : 1 ≤ d) (d1 : d ≤ 256) (o0 : lo ≤ o) (o1 : o ≤ hi) (s0 : lo ≤ s) (s1 : s ≤ hi) : lo ≤ blZ d o s ∧ blZ d o s ≤ hi := by
  unfold blZ
  split
  · exact ⟨s0, s1⟩
  · have a1 : lo * (256 - d) ≤ o * (256 - d) := Int.mul_le_mul_of_nonneg_right o0 (by omega)
    have a2 : o * (256 - d) ≤ hi * (256 - d) := Int.mul_le_mul_of_nonneg_right o1 (by omega)
    have b1 : lo * d ≤ s * d := Int.mul_le_mul_of_nonneg_right s0 (by omega)
    have b2 : s * d ≤ hi * d := Int.mul_le_mul_of_nonneg_right s1 (by omega)
    have e1 : lo * (256 - d) + lo * d = lo * 256 := by rw [← Int.mul_add]; congr 1; omega
    have e2 : hi * (256 - d) + hi * d = hi * 256 := by rw [← Int.mul_add]; congr 1; omega
    generalize o * (256 - d) = x at *
    generalize s * d = y at *
    generalize lo * (256 - d) = x1 at *
    generalize hi * (256 - d) = x2 at *
    generalize lo * d = y1 at *
    generalize hi * d = y2 at *
    omega
theorem smZ_between (d lo hi : Int) (d0 : 1 ≤ d) (d1 : d ≤ 256) : ∀ (l : List Int) (o : Int), lo ≤ o → o ≤ hi → (∀ s ∈ l, lo ≤ s ∧ s ≤ hi) → lo ≤ smZ d o l ∧ smZ d o l ≤ hi
  | [], _, h, h', _ => ⟨h, h'⟩
  | s :: r, o, h, h', hl => by
    have hs := hl s (List.mem_cons_self ..)
    have q := blZ_between d lo hi o s d0 d1 h h' hs.1 hs.2
    exact smZ_between d lo hi d0 d1 r (blZ d o s) q.1 q.2 fun x hx => hl x (List.mem_cons_of_mem _ hx)
theorem smZ_first (d lo hi : Int) (d0 : 1 ≤ d) (d1 : d ≤ 256) (l : List Int) (h : l ≠ []) (hl : ∀ s ∈ l, lo ≤ s ∧ s ≤ hi) : lo ≤ smZ d (-1) l ∧ smZ d (-1) l ≤ hi := by
  match l, h with
  | s :: r, _ =>
    have hs := hl s (List.mem_cons_self ..)
    exact smZ_between d lo hi d0 d1 r s hs.1 hs.2 fun x hx => hl x (List.mem_cons_of_mem _ hx)
theorem costR_le (c : Rt) (t : Int) (m1 : c.mi < c.ma) (c0 : 0 ≤ c.co) : 0 ≤ costR c t ∧ costR c t ≤ c.co := by
  unfold costR
  split
  · omega
  · rename_i h
    split
    · omega
    · exact cost_mid _ _ _ _ (by omega) (by omega) c0
theorem costR_mono (c : Rt) (s t : Int) (h : s ≤ t) (m1 : c.mi < c.ma) (c0 : 0 ≤ c.co) : costR c s ≤ costR c t := by
  have hs := costR_le c s m1 c0
  have ht := costR_le c t m1 c0
  unfold costR at *
  by_cases k : c.on = false ∨ s ≤ c.mi
  · rw [if_pos k]; exact ht.1
  · have k' : ¬ (c.on = false ∨ t ≤ c.mi) := by
      rintro (q | q)
      · exact k (.inl q)
      · exact k (.inr (by omega))
    rw [if_neg k, if_neg k'] at *
    by_cases g : c.ma ≤ t
    · rw [if_pos g]; exact hs.2
    · rw [if_neg (by omega : ¬ c.ma ≤ s), if_neg g]
      exact Int.ediv_le_ediv (by omega) (Int.mul_le_mul_of_nonneg_left (by omega) c0)
theorem take_more {l : List Int} {j : Nat} (h : j < l.length) {P : Int → Prop} (hp : ∀ s ∈ l.take j, P s) (hj : P l[j]) : ∀ s ∈ l.take (j + 1), P s := by
  intro s hs
  rw [List.take_succ_eq_append_getElem h] at hs
  rcases List.mem_append.1 hs with hs | hs
  · exact hp s hs
  · rw [List.mem_singleton.1 hs]; exact hj
/-- Where the loop stands: lo is below all that was met, hi above. -/
structure Met (l : List Int) (j : Nat) (lo hi : Int) : Prop where
  all : ∀ s ∈ l.take j, lo ≤ s ∧ s ≤ hi
  good : ∀ s ∈ l.take j, 0 ≤ s ∧ s ≤ 2147483648
theorem Met.next {l : List Int} {j : Nat} {lo hi : Int} (h : Met l j lo hi) (hj : j < l.length) (q : Int) (hq : l[j] = q) (q0 : 0 ≤ q) (q1 : q ≤ 2147483648) : Met l (j + 1) (if q < lo then q else lo) (if hi < q then q else hi) :=
  ⟨take_more hj (fun s hs => by have := h.all s hs; split <;> split <;> omega) (by rw [hq]; split <;> split <;> omega), take_more hj h.good (by rw [hq]; exact ⟨q0, q1⟩)⟩
set_option maxHeartbeats 8000000 in
theorem between_walk (c : Rt) (ad : Option Addr) (n k : Nat) (l : List Int) (s t : Int) (w : World) (hs : Is w ad n l) :
    Calls Try.prog 4 #[rtV c, .slice ad n k, .int .i64 s, .int .i64 t] w (Gives w (.bool true)) := by
  have A0 := fun W => may_any c W
  have A3 := fun W => live_any W
  have K := @mayB_ok c
  have HL : Hid (l.length = n) := hs.len
  generalize mayB c = M at *
  have HB := alloc_b w (.cells #[.bool c.on, .int .i64 c.mi, .int .i64 c.ma, .int .i64 c.co, .int .i64 c.de] 23)
  cases M with
  | false =>
    clear K HL hs
    go_enter Try.func4, Try.ntmps4
    go_wp2_with (first
    | (have kk := A0; go_at_call 7; refine (A0 _).mono ?_; rintro e w1 ⟨rfl, hw⟩; clear A0 kk; replace HB := HB.trans (hw.mono HB.size); clear hw)
    | (have kk := A3; go_at_call 8; refine (A3 _).mono ?_; rintro e w' ⟨rfl, hw⟩; clear A3 kk))
    go_ret
    exact ⟨rfl, HB.trans (hw.mono HB.size)⟩
  | true =>
    by_cases h1 : (n : Int) ≤ 300
    case neg =>
      clear K
      clear HL hs
      go_enter Try.func4, Try.ntmps4
      go_wp2_with (first
      | (have kk := A0; go_at_call 7; refine (A0 _).mono ?_; rintro e w1 ⟨rfl, hw⟩; clear A0 kk; replace HB := HB.trans (hw.mono HB.size); clear hw)
      | (have kk := A3; go_at_call 8; refine (A3 _).mono ?_; rintro e w' ⟨rfl, hw⟩; clear A3 kk))
      go_ret
      exact ⟨rfl, HB.trans (hw.mono HB.size)⟩
    by_cases h2 : 0 < n
    case neg =>
      clear K
      obtain rfl : n = 0 := by omega
      clear HL hs
      go_enter Try.func4, Try.ntmps4
      go_wp2_with (first
      | (have kk := A0; go_at_call 7; refine (A0 _).mono ?_; rintro e w1 ⟨rfl, hw⟩; clear A0 kk; replace HB := HB.trans (hw.mono HB.size); clear hw)
      | (have kk := A3; go_at_call 8; refine (A3 _).mono ?_; rintro e w' ⟨rfl, hw⟩; clear A3 kk))
      go_ret
      exact ⟨rfl, HB.trans (hw.mono HB.size)⟩
    by_cases h3 : s ≤ 2147483648
    case neg =>
      clear K
      clear HL hs
      go_enter Try.func4, Try.ntmps4
      go_wp2_with (first
      | (have kk := A0; go_at_call 7; refine (A0 _).mono ?_; rintro e w1 ⟨rfl, hw⟩; clear A0 kk; replace HB := HB.trans (hw.mono HB.size); clear hw)
      | (have kk := A3; go_at_call 8; refine (A3 _).mono ?_; rintro e w' ⟨rfl, hw⟩; clear A3 kk))
      go_ret
      exact ⟨rfl, HB.trans (hw.mono HB.size)⟩
    by_cases h4 : t ≤ 2147483648
    case neg =>
      clear K
      clear HL hs
      go_enter Try.func4, Try.ntmps4
      go_wp2_with (first
      | (have kk := A0; go_at_call 7; refine (A0 _).mono ?_; rintro e w1 ⟨rfl, hw⟩; clear A0 kk; replace HB := HB.trans (hw.mono HB.size); clear hw)
      | (have kk := A3; go_at_call 8; refine (A3 _).mono ?_; rintro e w' ⟨rfl, hw⟩; clear A3 kk))
      go_ret
      exact ⟨rfl, HB.trans (hw.mono HB.size)⟩
    by_cases h5 : 0 ≤ s
    case neg =>
      clear K
      clear HL hs
      go_enter Try.func4, Try.ntmps4
      go_wp2_with (first
      | (have kk := A0; go_at_call 7; refine (A0 _).mono ?_; rintro e w1 ⟨rfl, hw⟩; clear A0 kk; replace HB := HB.trans (hw.mono HB.size); clear hw)
      | (have kk := A3; go_at_call 8; refine (A3 _).mono ?_; rintro e w' ⟨rfl, hw⟩; clear A3 kk))
      go_ret
      exact ⟨rfl, HB.trans (hw.mono HB.size)⟩
    by_cases h6 : s ≤ t
    case neg =>
      clear K
      clear HL hs
      go_enter Try.func4, Try.ntmps4
      go_wp2_with (first
      | (have kk := A0; go_at_call 7; refine (A0 _).mono ?_; rintro e w1 ⟨rfl, hw⟩; clear A0 kk; replace HB := HB.trans (hw.mono HB.size); clear hw)
      | (have kk := A3; go_at_call 8; refine (A3 _).mono ?_; rintro e w' ⟨rfl, hw⟩; clear A3 kk))
      go_ret
      exact ⟨rfl, HB.trans (hw.mono HB.size)⟩
    have ok := K rfl
    clear K
    obtain ⟨g, o, rfl, hg, hl⟩ : ∃ g o, ad = some ⟨g, o, none⟩ ∧ g < w.heap.size ∧ ∀ (j : Nat) (v : Int), l[j]? = some v → w.cell? ⟨g, o + j, none⟩ = some (.int .i64 v) := hs.lies.resolve_left (by omega)
    have h0l : 0 < l.length := by rw [HL.out]; exact h2
    have hf := hl 0 _ (List.getElem?_eq_getElem h0l)
    have ht0 : Met l 0 l[0] l[0] := ⟨fun _ h => by simp at h, fun _ h => by simp at h⟩
    generalize l[0] = f0 at *
    rw [Nat.add_zero] at hf
    have h2' : (0 : Int) < (n : Int) := by omega
    have h2n : ((n : Int) == 0) = false := by simp; omega
    replace hl : Hid (∀ (j : Nat) (v : Int), l[j]? = some v → w.cell? ⟨g, o + j, none⟩ = some (.int .i64 v)) := hl
    replace ok : Hid c.ok := ok
    have hs0 : Hid (Is w (some ⟨g, o, none⟩) n l) := hs
    clear hs
    replace ht0 : Hid (Met l 0 f0 f0) := ht0
    go_enter Try.func4, Try.ntmps4
    go_wp2_with (have kk := A0; go_at_call 7; refine (A0 _).mono ?_; rintro e w1 ⟨rfl, hw⟩; clear A0 kk; have r1 := (Row.new w 23 [.bool c.on, .int .i64 c.mi, .int .i64 c.ma, .int .i64 c.co, .int .i64 c.de]).below hw (by simp); replace HB := HB.trans (hw.mono HB.size); clear hw; have f1 := (HB.cell (p := ⟨g, o, none⟩) hg).trans hf)
    go_quiet (fail)
    replace HB := below_drewN HB nq
    have r2 : Row (w1.drewN nq) w.heap.size 23 [.bool c.on, .int .i64 c.mi, .int .i64 c.ma, .int .i64 c.co, .int .i64 c.de] := r1
    clear r1 f1
    generalize w1.drewN nq = w2 at *
    go_wp2
    go_loopw [9, 10, 11] (fun x y i wr => ∃ (j : Nat) (lo hi : Int), j ≤ n ∧ i = .int .i64 j ∧ x = .int .i64 lo ∧ y = .int .i64 hi ∧ Met l j lo hi ∧ ∃ q, w2.drewN q = wr) (fun _ _ i _ => n - (intOf i).toNat)
    case atStart => exact ⟨0, f0, f0, Nat.zero_le _, rfl, rfl, rfl, ht0.out, 0, rfl⟩
    case round =>
      obtain ⟨j, lo, hi, hj, rfl, rfl, rfl, hm, q, rfl⟩ := hrel
      by_cases hlt : j < n
      · have hjl : j < l.length := by rw [HL.out]; exact hlt
        have hc : w2.cell? ⟨g, o + j, none⟩ = some (.int .i64 l[j]) := (HB.cell (p := ⟨g, o + j, none⟩) hg).trans (hl.out j _ (List.getElem?_eq_getElem hjl))
        have hq : Hid (l[j] = l[j]) := rfl
        have hm2 : Hid (Met l j lo hi) := hm
        clear hm
        have hji : (j : Int) < (n : Int) := by omega
        obtain ⟨v, hv⟩ : ∃ v, l[j] = v := ⟨_, rfl⟩
        rw [hv] at hc
        replace hv : Hid (l[j] = v) := hv
        clear hq hf h2 h2' h2n h0l ht0
        by_cases v0 : 0 ≤ v
        case neg =>
          go_wp2_with (have kk := A3; go_at_call 8; refine (A3 _).mono ?_; rintro e w' ⟨rfl, hw⟩; clear A3 kk)
          go_ret
          exact ⟨rfl, (below_drewN HB q).trans (hw.mono HB.size)⟩
        by_cases v1 : v ≤ 2147483648
        case neg =>
          go_wp2_with (have kk := A3; go_at_call 8; refine (A3 _).mono ?_; rintro e w' ⟨rfl, hw⟩; clear A3 kk)
          go_ret
          exact ⟨rfl, (below_drewN HB q).trans (hw.mono HB.size)⟩
        have hn := hm2.out.next hjl v hv.out v0 v1
        replace hn : Hid (Met l (j + 1) (if v < lo then v else lo) (if hi < v then v else hi)) := hn
        clear hm2 hv hl HL
        go_wp2_with (fail)
        go_quiet (fail)
        go_wp2
        exact ⟨⟨j + 1, _, _, by omega, rfl, rfl, rfl, hn.out, _, rfl⟩, by simp [intOf]; omega⟩
      · have hjn : j = n := by omega
        have hll : l.take j = l := List.take_of_length_le (by rw [HL.out]; omega)
        have hall := hm.all
        have hgood := hm.good
        rw [hll] at hall hgood
        have hbt := smZ_first c.de lo hi ok.out.d0 ok.out.d1 l (fun h => by rw [h] at h0l; exact absurd h0l (by decide)) hall
        obtain ⟨b0, b1⟩ := hbt
        have C1 := fun W (hb : Below w.heap.size w W) => smooth_any c (-1) (some ⟨g, o, none⟩) n k l W ok.out.d0 ok.out.d1 (by decide) hgood (by omega) (hs0.out.below (Nat.le_refl _) hb)
        have C2 := fun W => cost_any c s W ok.out.m0 ok.out.m2 (Int.le_trans (by decide) ok.out.c0) ok.out.c1
        have C3 := fun W => cost_any c t W ok.out.m0 ok.out.m2 (Int.le_trans (by decide) ok.out.c0) ok.out.c1
        have k1 := costR_mono c s t h6 ok.out.m1 (Int.le_trans (by decide) ok.out.c0)
        obtain ⟨k2, k3⟩ := costR_le c t ok.out.m1 (Int.le_trans (by decide) ok.out.c0)
        have k4 : costR c t < 65536 := by have := ok.out.c1; omega
        have k5 : IntKind.i64.wrap (costR c t) = costR c t := wI64 _ (by omega) (by omega)
        have HQ := below_drewN HB q
        have r3 : Row (w2.drewN q) w.heap.size 23 [.bool c.on, .int .i64 c.mi, .int .i64 c.ma, .int .i64 c.co, .int .i64 c.de] := r2
        generalize w2.drewN q = W0 at *
        have hji : ¬ (j : Int) < (n : Int) := by omega
        obtain ⟨z0, z1, z2, z3, z4⟩ := row5 r3
        have hz := r3.lt
        generalize costR c s = x1 at *
        generalize costR c t = x2 at *
        generalize smZ c.de (-1) l = x3 at *
        obtain ⟨on, mi, ma, co, de⟩ := c
        dsimp only at k3 r3 z0 z1 z2 z3 z4
        clear hall hgood hll hm hl hf h0l ht0 hs0 HL ok HB r2
        go_wp2_with (have kk := C1; go_at_call 11; refine (C1 _ HQ).mono ?_; rintro e w4 ⟨rfl, hw⟩; clear C1 kk; replace r3 := r3.below hw hz; clear z0 z1 z2 z3 z4; replace hz := r3.lt; replace HQ := HQ.trans (hw.mono HQ.size); clear hw)
        have HK : Hid (∀ W W', (Below w.heap.size w W ∧ Row W w.heap.size 23 (rcs ⟨on, mi, ma, co, de⟩)) → Below W.heap.size W W' → Below w.heap.size w W' ∧ Row W' w.heap.size 23 (rcs ⟨on, mi, ma, co, de⟩)) := fun W W' h hb => ⟨h.1.trans (hb.mono h.1.size), h.2.below hb h.2.lt⟩
        refine wp_region_noPanic ?_
        refine wp_region_held_drew (S := fun W => Below w.heap.size w W ∧ Row W w.heap.size 23 (rcs ⟨on, mi, ma, co, de⟩)) (by kernel_rfl) (⟨HQ.drew, r3⟩) (fun hHeld => ?_)
        refine take_lit (i := 0) (v := ?_) rfl (by kernel_rfl) (by kernel_rfl) (by kernel_rfl) (fun _ _ _ h => h) (Or.inl ⟨by rfl, ?_⟩) (by assumption) ?_
        rotate_left
        · (intro w hSw; (try dsimp only at hSw); go_simp <;> with_reducible rfl)
        try simp only [Act.put, List.setIfInBounds_toArray, List.set_cons_zero, List.set_cons_succ]
        refine take_lit (i := 1) (v := ?_) rfl (by kernel_rfl) (by kernel_rfl) (by kernel_rfl) (fun _ _ _ h => h) (Or.inl ⟨by rfl, ?_⟩) (by assumption) ?_
        rotate_left
        · (intro w hSw; (try dsimp only at hSw); go_simp <;> with_reducible rfl)
        try simp only [Act.put, List.setIfInBounds_toArray, List.set_cons_zero, List.set_cons_succ]
        refine take_lit (i := 2) (v := ?_) rfl (by kernel_rfl) (by kernel_rfl) (by kernel_rfl) (fun _ _ _ h => h) (Or.inl ⟨by rfl, ?_⟩) (by assumption) ?_
        rotate_left
        · (intro w hSw; (try dsimp only at hSw); go_simp <;> with_reducible rfl)
        try simp only [Act.put, List.setIfInBounds_toArray, List.set_cons_zero, List.set_cons_succ]
        refine take_lit (i := 3) (v := ?_) rfl (by kernel_rfl) (by kernel_rfl) (by kernel_rfl) (fun _ _ _ h => h) (Or.inl ⟨by rfl, ?_⟩) (by assumption) ?_
        rotate_left
        · (intro w hSw; (try dsimp only at hSw); go_simp <;> with_reducible rfl)
        try simp only [Act.put, List.setIfInBounds_toArray, List.set_cons_zero, List.set_cons_succ]
        refine take_lit (i := 4) (v := ?_) rfl (by kernel_rfl) (by kernel_rfl) (by kernel_rfl) (fun _ _ _ h => h) (Or.inl ⟨by rfl, ?_⟩) (by assumption) ?_
        rotate_left
        · (intro w hSw; (try dsimp only at hSw); go_simp <;> with_reducible rfl)
        try simp only [Act.put, List.setIfInBounds_toArray, List.set_cons_zero, List.set_cons_succ]
        refine take_lit (i := 5) (v := ?_) rfl (by kernel_rfl) (by kernel_rfl) (by kernel_rfl) (fun _ _ _ h => h) (Or.inl ⟨by rfl, ?_⟩) (by assumption) ?_
        rotate_left
        · (intro w hSw; (try dsimp only at hSw); go_simp <;> with_reducible rfl)
        try simp only [Act.put, List.setIfInBounds_toArray, List.set_cons_zero, List.set_cons_succ]
        refine take_lit (i := 6) (v := ?_) rfl (by kernel_rfl) (by kernel_rfl) (by kernel_rfl) (fun _ _ _ h => h) (Or.inl ⟨by rfl, ?_⟩) (by assumption) ?_
        rotate_left
        · (intro w hSw; (try dsimp only at hSw); go_simp <;> with_reducible rfl)
        try simp only [Act.put, List.setIfInBounds_toArray, List.set_cons_zero, List.set_cons_succ]
        refine take_lit (i := 7) (v := ?_) rfl (by kernel_rfl) (by kernel_rfl) (by kernel_rfl) (fun _ _ _ h => h) (Or.inl ⟨by rfl, ?_⟩) (by assumption) ?_
        rotate_left
        · (intro w hSw; (try dsimp only at hSw); go_simp <;> with_reducible rfl)
        try simp only [Act.put, List.setIfInBounds_toArray, List.set_cons_zero, List.set_cons_succ]
        refine take_lit (i := 8) (v := ?_) rfl (by kernel_rfl) (by kernel_rfl) (by kernel_rfl) (fun _ _ _ h => h) (Or.inl ⟨by rfl, ?_⟩) (by assumption) ?_
        rotate_left
        · (intro w hSw; (try dsimp only at hSw); go_simp <;> with_reducible rfl)
        try simp only [Act.put, List.setIfInBounds_toArray, List.set_cons_zero, List.set_cons_succ]
        refine take_lit (i := 9) rfl (by kernel_rfl) (by kernel_rfl) (by kernel_rfl) (fun _ _ _ h => h) (yR ⟨on, mi, ma, co, de⟩ (fun w h => h.2.range) (by rfl) rfl rfl) (by assumption) ?_
        try simp only [Act.put, List.setIfInBounds_toArray, List.set_cons_zero, List.set_cons_succ]
        refine take_lit (i := 10) (v := ?_) rfl (by kernel_rfl) (by kernel_rfl) (by kernel_rfl) (fun _ _ _ h => h) (Or.inl ⟨by rfl, ?_⟩) (by assumption) ?_
        rotate_left
        · (intro w hSw; (try dsimp only at hSw); go_simp <;> with_reducible rfl)
        try simp only [Act.put, List.setIfInBounds_toArray, List.set_cons_zero, List.set_cons_succ]
        refine take_lit (i := 12) rfl (by kernel_rfl) (by kernel_rfl) (by kernel_rfl) (fun _ _ _ h => h) (yR ⟨on, mi, ma, co, de⟩ (fun w h => h.2.range) (by rfl) rfl rfl) (by assumption) ?_
        try simp only [Act.put, List.setIfInBounds_toArray, List.set_cons_zero, List.set_cons_succ]
        refine take_lit (i := 13) (v := ?_) rfl (by kernel_rfl) (by kernel_rfl) (by kernel_rfl) (fun _ _ _ h => h) (Or.inl ⟨by rfl, ?_⟩) (by assumption) ?_
        rotate_left
        · (intro w hSw; (try dsimp only at hSw); go_simp <;> with_reducible rfl)
        try simp only [Act.put, List.setIfInBounds_toArray, List.set_cons_zero, List.set_cons_succ]
        refine wpAnyH_ready (rs := [11]) (by kernel_rfl) (by simp) ?_
        refine cons_lit rfl (fun K hK => ?_) ?_
        · go_simp
          refine (C2 _).mono ?_
          rintro e w5 ⟨rfl, hB1⟩
          refine hK.out _ _ ?_ (fun hHeld => ?_)
          · exact HK.out _ _ hHeld hB1
          clear hK K
          try simp only [Act.put, List.setIfInBounds_toArray, List.set_cons_zero, List.set_cons_succ]
          refine wpAnyH_ready (rs := [14]) (by kernel_rfl) (by simp) ?_
          refine cons_lit rfl (fun K hK => ?_) ?_
          · go_simp
            refine (C3 _).mono ?_
            rintro e w5 ⟨rfl, hB1⟩
            refine hK.out _ _ ?_ (fun hHeld => ?_)
            · exact HK.out _ _ hHeld hB1
            clear hK K
            try simp only [Act.put, List.setIfInBounds_toArray, List.set_cons_zero, List.set_cons_succ]
            refine take_lit (i := 15) (v := ?_) rfl (by kernel_rfl) (by kernel_rfl) (by kernel_rfl) (fun _ _ _ h => h) (Or.inl ⟨by rfl, ?_⟩) (by assumption) ?_
            rotate_left
            · (intro w hSw; (try dsimp only at hSw); go_simp <;> with_reducible rfl)
            try simp only [Act.put, List.setIfInBounds_toArray, List.set_cons_zero, List.set_cons_succ]
            refine take_lit (i := 16) (v := ?_) rfl (by kernel_rfl) (by kernel_rfl) (by kernel_rfl) (fun _ _ _ h => h) (Or.inl ⟨by rfl, ?_⟩) (by assumption) ?_
            rotate_left
            · (intro w hSw; (try dsimp only at hSw); go_simp <;> with_reducible rfl)
            try simp only [Act.put, List.setIfInBounds_toArray, List.set_cons_zero, List.set_cons_succ]
            refine take_lit (i := 17) (v := ?_) rfl (by kernel_rfl) (by kernel_rfl) (by kernel_rfl) (fun _ _ _ h => h) (Or.inl ⟨by rfl, ?_⟩) (by assumption) ?_
            rotate_left
            · (intro w hSw; (try dsimp only at hSw); go_simp <;> with_reducible rfl)
            try simp only [Act.put, List.setIfInBounds_toArray, List.set_cons_zero, List.set_cons_succ]
            refine take_lit (i := 18) rfl (by kernel_rfl) (by kernel_rfl) (by kernel_rfl) (fun _ _ _ h => h) (yR ⟨on, mi, ma, co, de⟩ (fun w h => h.2.range) (by rfl) rfl rfl) (by assumption) ?_
            try simp only [Act.put, List.setIfInBounds_toArray, List.set_cons_zero, List.set_cons_succ]
            refine take_lit (i := 19) (v := ?_) rfl (by kernel_rfl) (by kernel_rfl) (by kernel_rfl) (fun _ _ _ h => h) (Or.inl ⟨by rfl, ?_⟩) (by assumption) ?_
            rotate_left
            · (intro w hSw; (try dsimp only at hSw); go_simp <;> with_reducible rfl)
            try simp only [Act.put, List.setIfInBounds_toArray, List.set_cons_zero, List.set_cons_succ]
            refine take_lit (i := 22) (v := ?_) rfl (by kernel_rfl) (by kernel_rfl) (by kernel_rfl) (fun _ _ _ h => h) (Or.inl ⟨by rfl, ?_⟩) (by assumption) ?_
            rotate_left
            · (intro w hSw; (try dsimp only at hSw); go_simp <;> with_reducible rfl)
            try simp only [Act.put, List.setIfInBounds_toArray, List.set_cons_zero, List.set_cons_succ]
            refine take_lit (i := 23) (v := ?_) rfl (by kernel_rfl) (by kernel_rfl) (by kernel_rfl) (fun _ _ _ h => h) (Or.inl ⟨by rfl, ?_⟩) (by assumption) ?_
            rotate_left
            · (intro w hSw; (try dsimp only at hSw); have z3 := (hSw.2.cell 3).trans (show _ = some (Value.int .i64 co) from rfl); go_simp <;> with_reducible rfl)
            try simp only [Act.put, List.setIfInBounds_toArray, List.set_cons_zero, List.set_cons_succ]
            refine wpAnyH_ready (rs := [20]) (by kernel_rfl) (by simp) ?_
            refine cons_lit rfl (fun K hK => ?_) ?_
            · go_simp
              refine (C3 _).mono ?_
              rintro e w5 ⟨rfl, hB1⟩
              refine hK.out _ _ ?_ (fun hHeld => ?_)
              · exact HK.out _ _ hHeld hB1
              clear hK K
              try simp only [Act.put, List.setIfInBounds_toArray, List.set_cons_zero, List.set_cons_succ]
              refine take_lit (i := 21) (v := ?_) rfl (by kernel_rfl) (by kernel_rfl) (by kernel_rfl) (fun _ _ _ h => h) (Or.inl ⟨by rfl, ?_⟩) (by assumption) ?_
              rotate_left
              · (intro w hSw; (try dsimp only at hSw); go_simp <;> with_reducible rfl)
              try simp only [Act.put, List.setIfInBounds_toArray, List.set_cons_zero, List.set_cons_succ]
              refine take_lit (i := 24) (v := ?_) rfl (by kernel_rfl) (by kernel_rfl) (by kernel_rfl) (fun _ _ _ h => h) (Or.inl ⟨by rfl, ?_⟩) (by assumption) ?_
              rotate_left
              · (intro w hSw; (try dsimp only at hSw); go_simp <;> with_reducible rfl)
              try simp only [Act.put, List.setIfInBounds_toArray, List.set_cons_zero, List.set_cons_succ]
              refine take_lit (i := 25) (v := ?_) rfl (by kernel_rfl) (by kernel_rfl) (by kernel_rfl) (fun _ _ _ h => h) (Or.inl ⟨by rfl, ?_⟩) (by assumption) ?_
              rotate_left
              · (intro w hSw; (try dsimp only at hSw); go_simp <;> with_reducible rfl)
              try simp only [Act.put, List.setIfInBounds_toArray, List.set_cons_zero, List.set_cons_succ]
              refine take_lit (i := 26) (v := ?_) rfl (by kernel_rfl) (by kernel_rfl) (by kernel_rfl) (fun _ _ _ h => h) (Or.inl ⟨by rfl, ?_⟩) (by assumption) ?_
              rotate_left
              · (intro w hSw; (try dsimp only at hSw); go_simp <;> with_reducible rfl)
              try simp only [Act.put, List.setIfInBounds_toArray, List.set_cons_zero, List.set_cons_succ]
              refine wpAnyH_ready (rs := [27]) (by kernel_rfl) (by simp) ?_
              refine cons_lit rfl (fun K hK => ?_) ?_
              · go_simp
                refine (A3 _).mono ?_
                rintro e w5 ⟨rfl, hB1⟩
                refine hK.out _ _ ?_ (fun hHeld => ?_)
                · exact HK.out _ _ hHeld hB1
                clear hK K
                try simp only [Act.put, List.setIfInBounds_toArray, List.set_cons_zero, List.set_cons_succ]
                refine take_lit (i := 28) (v := ?_) rfl (by kernel_rfl) (by kernel_rfl) (by kernel_rfl) (fun _ _ _ h => h) (Or.inl ⟨by rfl, ?_⟩) (by assumption) ?_
                rotate_left
                · (intro w hSw; (try dsimp only at hSw); go_simp <;> with_reducible rfl)
                try simp only [Act.put, List.setIfInBounds_toArray, List.set_cons_zero, List.set_cons_succ]
                refine take_lit (i := 29) (v := ?_) rfl (by kernel_rfl) (by kernel_rfl) (by kernel_rfl) (fun _ _ _ h => h) (Or.inl ⟨by rfl, ?_⟩) (by assumption) ?_
                rotate_left
                · (intro w hSw; (try dsimp only at hSw); go_simp <;> with_reducible rfl)
                try simp only [Act.put, List.setIfInBounds_toArray, List.set_cons_zero, List.set_cons_succ]
                refine wpAnyH_done (by kernel_rfl) ?_ _
                refine NoPanic.normal ?_
                go_wp2_with (fail)
                go_ret
                exact ⟨rfl, hHeld.1⟩
              exact AllReadyH.nil
            exact AllReadyH.nil
          exact AllReadyH.nil
        exact AllReadyH.nil
end Go.Proofs.Ythcjhglddedjhaa
