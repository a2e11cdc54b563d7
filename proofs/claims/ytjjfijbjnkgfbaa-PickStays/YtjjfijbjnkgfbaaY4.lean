/-
  The way to take; whether ways starve: the program's.
-/
import Derived.Test.YtjjfijbjnkgfbaaY3
import Derived.BigQuiet
namespace Go.Proofs.Ytjjfijbjnkgfbaa
open Go.RowKit
set_option linter.unusedSimpArgs false
theorem wrapI (z : Int) (h : -9223372036854775808 ≤ z) (h' : z ≤ 9223372036854775807) : IntKind.i64.wrap z = z := by
  simp [IntKind.wrap, IntKind.signed, IntKind.bits]
  omega
theorem Cs.at {w W : World} {g o : Nat} {l : List Cd} (hl : ∀ j h, l[j]? = some h → w.rangeAt g (o + j * 3) (ccs h)) (hg : g < w.heap.size) (hb : Below w.heap.size w W) (j : Nat) (hj : j < l.length) : W.cell? ⟨g, o + j * 3, none⟩ = some (.int .u16 (mAt l j)) := by
  have h := List.getElem?_eq_getElem hj
  rw [mAt_of h]
  exact (hb.cell (p := ⟨g, o + j * 3, none⟩) hg).trans (hl j _ h 0 _ rfl)
theorem mAt_ok {l : List Cd} (h : ∀ c ∈ l, c.ok) (k : Nat) : 0 ≤ mAt l k ∧ mAt l k < 65536 := by
  unfold mAt
  rw [List.getD_eq_getElem?_getD]
  cases e : l[k]? with
  | none => exact ⟨Int.le_refl _, (by decide : (0 : Int) < 65536)⟩
  | some c =>
    have := h c (List.mem_of_getElem? e)
    exact ⟨this.m0, this.m1⟩
theorem fst_lt {p : Cd → Bool} {l : List Cd} {k : Nat} (h : fst? p l = some k) : k < l.length := by
  obtain ⟨c, hc, _⟩ := fst_some h
  exact (List.getElem?_eq_some_iff.1 hc).1
theorem pick_prog (mg : Int) (ad : Option Addr) (n k : Nat) (l : List Cd) (w : World) (hn : n ≤ 140737488355328) (h0 : 0 ≤ mg) (h1 : mg < 65536) (hs : Cs w ad n l) :
    Calls Try.prog 9 #[.int .u16 mg, .slice ad n k] w (Gives w (.tuple #[.int .i64 (pkd mg l).1, .bool (pkd mg l).2])) := by
  have C1 := fun W (h : Below w.heap.size w W) => best_prog ad n k l W hn (hs.below (Nat.le_refl _) h)
  have C2 := fun W (h : Below w.heap.size w W) => index_any 16 st (fun _ _ => rfl) stands_any ad n k l W hn (hs.below (Nat.le_refl _) h)
  have hb := Below.refl w.heap.size w
  have HP : Hid (pkd mg l = match fst? st l with
    | some i => if mAt l i ≤ mAt l (best l).1 + mg then (i, true) else best l
    | none => best l) := rfl
  generalize pkd mg l = R at *
  cases e : fst? st l with
  | none =>
    rw [e] at HP C2
    obtain rfl : R = best l := HP.out
    clear HP hs
    simp only [num] at C2
    go_enter Try.func9, Try.ntmps9
    go_wp2_with (first
      | (have kk := C1; go_at_call 8; refine (C1 _ hb).mono ?_; rintro e w1 ⟨rfl, k1⟩; clear C1 kk)
      | (have kk := C2; go_at_call 15; refine (C2 _ k1).mono ?_; rintro e w2 ⟨rfl, k2⟩; clear C2 kk))
    go_quiet (fail)
    go_wp2
    go_ret2
    exact ⟨rfl, below_drewN (k1.trans (k2.mono k1.size)) _⟩
  | some i =>
    rw [e] at HP C2
    replace HP : Hid (R = if mAt l i ≤ mAt l (best l).1 + mg then (i, true) else best l) := HP
    have hi := fst_lt e
    have hbl : (best l).1 < l.length := bz_lt l l.length (Nat.le_refl _) (by omega)
    have k0 := mAt_ok hs.small i
    have k1 := mAt_ok hs.small (best l).1
    rcases hs.lies with hz | ⟨g, o, rfl, hg, hl⟩
    · have := hs.len; omega
    have D : Hid (∀ W, Below w.heap.size w W → W.cell? ⟨g, o + i * 3, none⟩ = some (.int .u16 (mAt l i)) ∧ W.cell? ⟨g, o + (best l).1 * 3, none⟩ = some (.int .u16 (mAt l (best l).1))) := fun W h => ⟨Cs.at hl hg h i hi, Cs.at hl hg h _ hbl⟩
    rw [hs.len] at hi hbl
    clear hl hs e
    simp only [num] at C2
    generalize mAt l i = x at *
    generalize mAt l (best l).1 = y at *
    generalize best l = B at *
    obtain ⟨b, u⟩ := B
    dsimp only at *
    have hi' : (i : Int) < (n : Int) := by omega
    have hi0 : (0 : Int) ≤ (i : Int) := by omega
    have hb' : (b : Int) < (n : Int) := by omega
    have hb0 : (0 : Int) ≤ (b : Int) := by omega
    have e1 : wrap64 (y + mg) = y + mg := w64 _ (by omega) (by omega)
    have e2 : IntKind.i64.wrap x = x := wrapI _ (by omega) (by omega)
    have e3 : IntKind.i64.wrap y = y := wrapI _ (by omega) (by omega)
    have e4 : IntKind.i64.wrap mg = mg := wrapI _ (by omega) (by omega)
    have e5 : IntKind.i64.wrap (y + mg) = y + mg := wrapI _ (by omega) (by omega)
    by_cases hc : x ≤ y + mg
    · obtain rfl : R = (i, true) := by rw [HP.out, if_pos hc]
      clear HP
      go_enter Try.func9, Try.ntmps9
      go_wp2_with (first
        | (have kk := C1; go_at_call 8; refine (C1 _ hb).mono ?_; rintro e w1 ⟨rfl, k1⟩; clear C1 kk)
        | (have kk := C2; go_at_call 15; refine (C2 _ k1).mono ?_; rintro e w2 ⟨rfl, k2⟩; clear C2 kk; have k3 := k1.trans (k2.mono k1.size); obtain ⟨d1, d2⟩ := D.out _ k3))
      go_quiet (fail)
      go_wp2
      go_ret2
      exact ⟨rfl, below_drewN k3 _⟩
    · obtain rfl : R = (b, u) := by rw [HP.out, if_neg hc]
      clear HP
      go_enter Try.func9, Try.ntmps9
      go_wp2_with (first
        | (have kk := C1; go_at_call 8; refine (C1 _ hb).mono ?_; rintro e w1 ⟨rfl, k1⟩; clear C1 kk)
        | (have kk := C2; go_at_call 15; refine (C2 _ k1).mono ?_; rintro e w2 ⟨rfl, k2⟩; clear C2 kk; have k3 := k1.trans (k2.mono k1.size); obtain ⟨d1, d2⟩ := D.out _ k3))
      go_quiet (fail)
      go_wp2
      go_ret2
      exact ⟨rfl, below_drewN k3 _⟩
/-- There are ways, but none that may be taken. -/
def stv (l : List Cd) : Bool := !(l.any us) && l.any rc
theorem starved_prog (ad : Option Addr) (n k : Nat) (l : List Cd) (w : World) (hn : n ≤ 140737488355328) (hs : Cs w ad n l) :
    Calls Try.prog 12 #[.slice ad n k] w (Gives w (.bool (stv l))) := by
  have C1 := fun W (h : Below w.heap.size w W) => contains_any 14 us (fun _ _ => rfl) usable_any ad n k l W hn (hs.below (Nat.le_refl _) h)
  have C2 := fun W (h : Below w.heap.size w W) => contains_any 19 rc (fun _ _ => rfl) reaches_any ad n k l W hn (hs.below (Nat.le_refl _) h)
  have hb := Below.refl w.heap.size w
  unfold stv
  generalize l.any us = A at *
  generalize l.any rc = B at *
  clear hs
  cases A with
  | true =>
    go_enter Try.func12, Try.ntmps12
    go_wp2_with (first
      | (have kk := C1; go_at_call 18; refine (C1 _ hb).mono ?_; rintro e w1 ⟨rfl, k1⟩; clear C1 kk))
    go_ret
    exact ⟨rfl, k1⟩
  | false =>
    go_enter Try.func12, Try.ntmps12
    go_wp2_with (first
      | (have kk := C1; go_at_call 18; refine (C1 _ hb).mono ?_; rintro e w1 ⟨rfl, k1⟩; clear C1 kk)
      | (have kk := C2; go_at_call 18; refine (C2 _ k1).mono ?_; rintro e w2 ⟨rfl, k2⟩; clear C2 kk))
    go_ret
    exact ⟨rfl, k1.trans (k2.mono k1.size)⟩
end Go.Proofs.Ytjjfijbjnkgfbaa
