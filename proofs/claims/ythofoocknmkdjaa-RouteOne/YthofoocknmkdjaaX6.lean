/-
  Tell: what a neighbour tells.
-/
import Derived.Test.YthofoocknmkdjaaX4
namespace Go.Proofs.Ythofoocknmkdjaa
open Go.RowKit Go.Maps
set_option linter.unusedSimpArgs false
set_option linter.unusedVariables false
set_option maxRecDepth 20000
/-! ### A route that is not there -/
def madeN (n : Ro) (now : Int) : Ro := { n with m := 65535, u := now + n.d, s := false }
def tellNewR (most : Int) (L : List Ro) (now : Int) (n : Ro) (f : Bool) : Int × Int × List Ro :=
  if n.r = 65535 ∨ f = false then (3, 0, L) else if most ≤ L.length then (0, 6, L) else (1, 0, putN L (madeN n now))
theorem tellNew_any {w : World} {t mb : Nat} {most : Int} {L : List Ro} (h : Tb w t mb most L) (n : Ro) (now : Int) (f : Bool) (ha : 0 ≤ now) (hb : now ≤ 17592186044416) (hi : wfK n.k) (hn : ∀ u, 0 ≤ u → u ≤ 35184372088832 → ({ n with u := u } : Ro).ok) (hl : L.length < 1000000) :
    Calls Try.prog 46 #[.pointer (some ⟨t, 0, none⟩), .int .i64 now, rV n, .bool f] w fun e w' => e = .returned (.tuple #[.int .i64 (tellNewR most L now n f).1, .int .i64 (tellNewR most L now n f).2.1]) ∧ Turn w w' t mb most (tellNewR most L now n f).2.2 := by
  have hd := hn 0 (by omega) (by omega)
  have hd0 : 1 ≤ n.d := hd.d0
  have hd1 : n.d ≤ 2147483648 := hd.d1
  have hw : wrap64 (now + n.d) = now + n.d := by unfold wrap64; omega
  have HR : Hid (tellNewR most L now n f = if n.r = 65535 ∨ f = false then (3, 0, L) else if most ≤ L.length then (0, 6, L) else (1, 0, putN L (madeN n now))) := rfl
  generalize tellNewR most L now n f = R at *
  have hX : ∀ W, Below w.heap.size w W → Turn w W t mb most L := fun W hW => Turn.of h hW
  have hfin : ∀ W, Below w.heap.size w W → Calls Try.prog 47 #[.pointer (some ⟨t, 0, none⟩), rV (madeN n now)] W fun e w' => e = .returned (.tuple #[]) ∧ Turn w w' t mb most (putN L (madeN n now)) := fun W hW => by
    have h1 := hn (now + n.d) (by omega) (by omega)
    refine (put_any (h.below hW) (madeN n now) hi ⟨h1.q0, h1.q1, h1.r0, h1.r1, (by show (0 : Int) ≤ 65535; omega), (by show (65535 : Int) < 65536; omega), h1.u0, h1.u1, h1.d0, h1.d1⟩ (by have := putN_le (L := L) (n := madeN n now); omega)).mono ?_
    rintro e w' ⟨rfl, hT⟩
    exact ⟨rfl, hT.pre hW⟩
  have hr := h.row
  have ht := hr.lt
  have HK : Hid (∀ W, Below w.heap.size w W → W.cell? ⟨t, 1, none⟩ = some (.map (some mb)) ∧ W.cell? ⟨t, 0, none⟩ = some (.int .i64 most) ∧ ∀ ty, (Builtin.len_ #[74] ty #[.map (some mb)]).run Try.prog W = .ok (.int .i64 (L.length : Nat)) W) := fun W hW => ⟨(hr.below hW ht).cell 1, (hr.below hW ht).cell 0, fun ty => (h.below hW).map.len ty⟩
  clear h hn hd hd0 hd1 hl hi hr ha hb
  go_enter Try.func46, Try.ntmps46
  go_upto_region 1 with fail
  refine name_world (R := fun W => Code.wp _ _ _ _ W) (P := fun W => Below w.heap.size w W ∧ Row W w.heap.size 41 (ocs n)) _ ⟨ba _ _, Row.new _ _ _⟩ ?_
  rintro X ⟨hB, r0⟩
  have hs := r0.lt
  have c60 : X.cell? ⟨w.heap.size, 60, none⟩ = some (.int .u16 n.r) := (r0.cell 60).trans (oc60 n)
  have c79 : X.cell? ⟨w.heap.size, 79, none⟩ = some (.int .i64 n.d) := (r0.cell 79).trans (oc79 n)
  by_cases hi : n.r = 65535
  · obtain rfl : R = (3, 0, L) := by rw [HR.out, if_pos (.inl hi)]
    have hi' : (n.r == 65535) = true := by simpa using hi
    clear hi hw hfin HR HK
    go_wp2_with fail
    go_ret2
    exact ⟨rfl, hX _ hB⟩
  · have hi' : (n.r == 65535) = false := by simpa using hi
    cases f with
    | false =>
      obtain rfl : R = (3, 0, L) := by rw [HR.out, if_pos (.inr rfl)]
      clear hi hw hfin HR HK
      go_wp2_with fail
      go_ret2
      exact ⟨rfl, hX _ hB⟩
    | true =>
      replace HR : Hid (R = if most ≤ L.length then (0, 6, L) else (1, 0, putN L (madeN n now))) := by
        show R = _
        rw [HR.out, if_neg (by simp [hi])]
      clear hi
      generalize putN L (madeN n now) = PL at *
      go_upto_region 3 with fail
      generalize hN : L.length = N at *
      refine wp_region_noPanic ?_
      refine wp_region_held_drew (S := fun W => Below X.heap.size X W) (by kernel_rfl) ((Below.refl _ _).drew) (fun hHeld => ?_)
      refine take_lit (i := 0) (v := ?_) rfl (by kernel_rfl) (by kernel_rfl) (by kernel_rfl) (fun _ _ _ h => h) (Or.inl ⟨by rfl, ?_⟩) (by assumption) ?_
      rotate_left
      · (intro w hSw; (try dsimp only at hSw); go_simp <;> with_reducible rfl)
      try simp only [Act.put, List.setIfInBounds_toArray, List.set_cons_zero, List.set_cons_succ]
      refine take_lit (i := 1) (v := ?_) rfl (by kernel_rfl) (by kernel_rfl) (by kernel_rfl) (fun _ _ _ h => h) (Or.inl ⟨by rfl, ?_⟩) (by assumption) ?_
      rotate_left
      · (intro w hSw; (try dsimp only at hSw); go_simp <;> with_reducible rfl)
      try simp only [Act.put, List.setIfInBounds_toArray, List.set_cons_zero, List.set_cons_succ]
      refine take_lit (i := 2) (v := ?_) rfl (by kernel_rfl) (by kernel_rfl) (by kernel_rfl) (fun _ _ _ h => h) (Or.inl ⟨by rfl, ?_⟩) (by assumption) ?_
      rotate_left
      · (intro w hSw; (try dsimp only at hSw); go_simp <;> with_reducible rfl)
      try simp only [Act.put, List.setIfInBounds_toArray, List.set_cons_zero, List.set_cons_succ]
      refine take_lit (i := 3) (v := ?_) rfl (by kernel_rfl) (by kernel_rfl) (by kernel_rfl) (fun _ _ _ h => h) (Or.inl ⟨by rfl, ?_⟩) (by assumption) ?_
      rotate_left
      · (intro w hSw; (try dsimp only at hSw); have z := (HK.out _ (bt hB hSw)).1; go_simp <;> with_reducible rfl)
      try simp only [Act.put, List.setIfInBounds_toArray, List.set_cons_zero, List.set_cons_succ]
      refine take_lit (i := 4) (v := ?_) rfl (by kernel_rfl) (by kernel_rfl) (by kernel_rfl) (fun _ _ _ h => h) (Or.inl ⟨by rfl, ?_⟩) (by assumption) ?_
      rotate_left
      · (intro w hSw; (try dsimp only at hSw); have z := (HK.out _ (bt hB hSw)).2.2; go_simp <;> with_reducible rfl)
      try simp only [Act.put, List.setIfInBounds_toArray, List.set_cons_zero, List.set_cons_succ]
      refine take_lit (i := 5) (v := ?_) rfl (by kernel_rfl) (by kernel_rfl) (by kernel_rfl) (fun _ _ _ h => h) (Or.inl ⟨by rfl, ?_⟩) (by assumption) ?_
      rotate_left
      · (intro w hSw; (try dsimp only at hSw); go_simp <;> with_reducible rfl)
      try simp only [Act.put, List.setIfInBounds_toArray, List.set_cons_zero, List.set_cons_succ]
      refine take_lit (i := 6) (v := ?_) rfl (by kernel_rfl) (by kernel_rfl) (by kernel_rfl) (fun _ _ _ h => h) (Or.inl ⟨by rfl, ?_⟩) (by assumption) ?_
      rotate_left
      · (intro w hSw; (try dsimp only at hSw); go_simp <;> with_reducible rfl)
      try simp only [Act.put, List.setIfInBounds_toArray, List.set_cons_zero, List.set_cons_succ]
      refine take_lit (i := 7) (v := ?_) rfl (by kernel_rfl) (by kernel_rfl) (by kernel_rfl) (fun _ _ _ h => h) (Or.inl ⟨by rfl, ?_⟩) (by assumption) ?_
      rotate_left
      · (intro w hSw; (try dsimp only at hSw); go_simp <;> with_reducible rfl)
      try simp only [Act.put, List.setIfInBounds_toArray, List.set_cons_zero, List.set_cons_succ]
      refine take_lit (i := 8) (v := ?_) rfl (by kernel_rfl) (by kernel_rfl) (by kernel_rfl) (fun _ _ _ h => h) (Or.inl ⟨by rfl, ?_⟩) (by assumption) ?_
      rotate_left
      · (intro w hSw; (try dsimp only at hSw); have z := (HK.out _ (bt hB hSw)).2.1; go_simp <;> with_reducible rfl)
      try simp only [Act.put, List.setIfInBounds_toArray, List.set_cons_zero, List.set_cons_succ]
      refine take_lit (i := 9) (v := ?_) rfl (by kernel_rfl) (by kernel_rfl) (by kernel_rfl) (fun _ _ _ h => h) (Or.inl ⟨by rfl, ?_⟩) (by assumption) ?_
      rotate_left
      · (intro w hSw; (try dsimp only at hSw); go_simp <;> with_reducible rfl)
      try simp only [Act.put, List.setIfInBounds_toArray, List.set_cons_zero, List.set_cons_succ]
      refine wpAnyH_done (by kernel_rfl) ?_ _
      refine NoPanic.normal ?_
      refine name_world (R := fun W => Exit.then _ _ _ _ W) (P := fun W => Below X.heap.size X W) _ hHeld ?_
      clear hHeld
      intro W4 hHeld
      have b4 := bt hB hHeld
      have r04 := r0.below hHeld hs
      have c794 : W4.cell? ⟨w.heap.size, 79, none⟩ = some (.int .i64 n.d) := (r04.cell 79).trans (oc79 n)
      clear hHeld r0 c60 c79 HK
      by_cases hm : most ≤ (N : Int)
      · obtain rfl : R = (0, 6, L) := by rw [HR.out, if_pos hm]
        clear hfin
        go_wp2_with fail
        go_ret2
        exact ⟨rfl, hX _ b4⟩
      · obtain rfl : R = (1, 0, PL) := by rw [HR.out, if_neg hm]
        have hm2 : (N : Int) < most := by omega
        clear hm
        generalize hz : now + n.d = z at *
        have HM : Hid (((n.sM 65535).sU z).sS false = madeN n now) := by unfold madeN; rw [hz]; rfl
        generalize madeN n now = x at *
        go_wp2_with (first
          | (have kk := q3; go_at_call 47; refine (hfin _ b7).mono ?_; rintro e w8 ⟨rfl, hT⟩)
          | (have kk := q3; refine ldS (.tmp 6) rfl rfl _ _ x rfl (by rw [← HM.out]; exact q3.ro) ?_)
          | (have kk := q2; (with_reducible refine inL ?_ fun K hK => ?_); (focus rfl); refine wp_stSe (.tmp 33) (.const (.bool false)) rfl w.heap.size false ((n.sM 65535).sU z) rfl rfl q2 ?_; intro W7 g7 q3; refine hK _ _ ?_; have b7 := grown_below g7 b6 (Nat.le_refl _) b6.size; clear q2)
          | (have kk := q1; (with_reducible refine inL ?_ fun K hK => ?_); (focus rfl); refine wp_stU (.tmp 32) (.tmp 30) rfl w.heap.size z (n.sM 65535) rfl (by rw [← hw]; rfl) q1 ?_; intro W6 g6 q2; refine hK _ _ ?_; have b6 := grown_below g6 b5 (Nat.le_refl _) b5.size; clear q1)
          | (have kk := r04; (with_reducible refine inL ?_ fun K hK => ?_); (focus rfl); refine wp_stMe (.tmp 31) (.const (.int .u16 65535)) rfl w.heap.size 65535 n rfl rfl r04 ?_; intro W5 g5 q1; refine hK _ _ ?_; have b5 := grown_below g5 b4 (Nat.le_refl _) b4.size; clear r04))
        go_ret2
        exact ⟨rfl, hT⟩
end Go.Proofs.Ythofoocknmkdjaa
