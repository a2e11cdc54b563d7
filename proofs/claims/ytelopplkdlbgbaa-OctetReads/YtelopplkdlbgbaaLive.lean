/-
  The function live of the statements of layer 1 returns true, whatever the memory, and turns nothing that was there.
-/
import Derived.Test.YtelopplkdlbgbaaPuts
namespace Go.Proofs.Ytelopplkdlbgbaa
open Go.RowKit
variable {bv : Option Addr}

theorem new_src_of (w : World) (xs : Array Value) (t : TypeId) : Src (w.alloc (.cells xs t)) (some ⟨w.heap.size, 0, none⟩) xs.size xs.size xs.toList := by
  refine ⟨by simp, (fun h => by cases h), fun ad had j u hu => ?_⟩
  cases had
  rw [Addr.add_lit, Nat.zero_add, cell_of_row _ _ _ _ _ _ (heap_alloc_new w _)]
  simpa using hu

/-- string(b). -/
theorem Src.str {w : World} {a : Option Addr} {n c : Nat} {l : List UInt8} (h : Src w a n c (bcells l)) : (convert 22 9 (.slice a n c)).run Try.prog w = .ok (.string ⟨l.toArray⟩) w := by
  cases a with
  | none =>
    obtain ⟨rfl, rfl⟩ := h.bare rfl
    have hl : l = [] := List.eq_nil_of_length_eq_zero (by simpa [bcells] using h.len)
    subst hl
    exact run_convert_bytes_nil w 22 5 Try.underlying22 Try.underlying5 0 0 9 Try.underlying9
  | some ad =>
    obtain rfl := h.blen
    exact run_convert_bytes_back w 22 9 5 ad c l Try.underlying22 Try.underlying5 Try.underlying9 (fun j hj => h.byteAt j hj)

/-- A reader behind what another one did. -/
theorem Rd.other {w w' : World} {g g' : Nat} {bw : Option Addr} {l l' : List UInt8} {p p' : Nat} {y y' : Int} (h : Rd w g bv l p y) (k : Now w w' g' bw l' p' y') (h1 : g ≠ g') (h2 : ∀ ad, bv = some ad → ad.block ≠ g') : Rd w' g bv l p y :=
  h.kept k.grown (fun e => h1 (Option.some.inj e)) (fun ad had _ e => h2 ad had (Option.some.inj e))
theorem Rd.lt {w : World} {g : Nat} {l : List UInt8} {p : Nat} {y : Int} (h : Rd w g bv l p y) : g < w.heap.size := by
  obtain ⟨c, hb, _⟩ := h.ex
  exact lt_of_block hb
theorem Rd.blt {w : World} {g : Nat} {l : List UInt8} {p : Nat} {y : Int} (h : Rd w g bv l p y) (hl : l ≠ []) : ∀ ad, bv = some ad → ad.block < w.heap.size := by
  obtain ⟨c, hb, _, hs⟩ := h.ex
  exact fun ad had => hs.lt ad had (by simpa [bcells] using hl)

theorem live_put (w : World) : Calls Try.prog 12 #[.slice none 0 0, .slice (some ⟨w.heap.size, 0, none⟩) 2 2] (w.alloc (.cells #[.int .u16 258, .int .u16 5] 29)) (Laid (w.alloc (.cells #[.int .u16 258, .int .u16 5] 29)) [1, 2, 0, 5]) := by
  have h := put16_any none 0 0 [] (some ⟨w.heap.size, 0, none⟩) 2 2 [258, 5] _ (Src.nil _) (new_src_of w #[.int .u16 258, .int .u16 5] 29) (by decide)
  have e : ([] : List UInt8) ++ [258, 5].flatMap be16 = [1, 2, 0, 5] := by decide
  rw [e] at h
  exact h
theorem live_u16 {g : Nat} {w : World} (h : Rd w g bv [1, 2, 0, 5] 0 0) : Calls Try.prog 19 #[.pointer (some ⟨g, 0, none⟩)] w fun e w' => e = .returned (.int .u16 258) ∧ Now w w' g bv [1, 2, 0, 5] 2 0 := by
  have h := u16_any g _ _ _ w h
  have e1 : nv (tkB [1, 2, 0, 5] 0 0 2) = 258 := by decide
  have e2 : (tkB [1, 2, 0, 5] 0 0 2).length = 2 := by decide
  have e3 : tkE [1, 2, 0, 5] 0 0 2 = 0 := by decide
  rw [e1, e2, e3] at h
  exact h
theorem live_u8 {g : Nat} {w : World} (h : Rd w g bv [1, 2, 0, 5] 2 0) : Calls Try.prog 17 #[.pointer (some ⟨g, 0, none⟩)] w fun e w' => e = .returned (.int .u8 0) ∧ Now w w' g bv [1, 2, 0, 5] 3 0 := by
  have h := u8_any g _ _ _ w h
  have e1 : nv (tkB [1, 2, 0, 5] 2 0 1) = 0 := by decide
  have e2 : (tkB [1, 2, 0, 5] 2 0 1).length = 1 := by decide
  have e3 : tkE [1, 2, 0, 5] 2 0 1 = 0 := by decide
  rw [e1, e2, e3] at h
  exact h
theorem live_u32 {g : Nat} {w : World} (h : Rd w g bv [0, 0, 1] 0 0) : Calls Try.prog 20 #[.pointer (some ⟨g, 0, none⟩)] w fun e w' => e = .returned (.int .u32 0) ∧ Now w w' g bv [0, 0, 1] 0 3 := by
  have h := u32_any g _ _ _ w h
  have e1 : nv (tkB [0, 0, 1] 0 0 4) = 0 := by decide
  have e2 : (tkB [0, 0, 1] 0 0 4).length = 0 := by decide
  have e3 : tkE [0, 0, 1] 0 0 4 = 3 := by decide
  rw [e1, e2, e3] at h
  exact h

theorem live_why {g : Nat} {w : World} (h : Rd w g bv [0, 0, 1] 0 3) : Calls Try.prog 27 #[.pointer (some ⟨g, 0, none⟩)] w fun e w' => e = .returned (.tuple #[.int .i64 3, .int .i64 0]) ∧ Now w w' g bv [0, 0, 1] 0 3 := by
  have h := why_any g _ _ _ w h
  simpa using h
theorem live_done {g : Nat} {w : World} (h : Rd w g bv [1, 2, 0, 5] 3 0) : Calls Try.prog 31 #[.pointer (some ⟨g, 0, none⟩)] w fun e w' => e = .returned (.int .i64 4) ∧ Now w w' g bv [1, 2, 0, 5] 3 0 := by
  have h := done_any g _ _ _ w h
  have e1 : dnE [1, 2, 0, 5] 3 0 = 4 := by decide
  rw [e1] at h
  exact h
theorem live_left {g : Nat} {w : World} (h : Rd w g bv [1, 2, 0, 5] 3 0) : Calls Try.prog 30 #[.pointer (some ⟨g, 0, none⟩)] w fun e w' => e = .returned (.int .i64 1) ∧ Now w w' g bv [1, 2, 0, 5] 3 0 := left_any g _ _ _ w h

/-- What both of live's readers are good for, behind each step. -/
structure Two (B : Nat) (w0 w : World) (g1 : Nat) (v1 : Option Addr) (p1 : Nat) (g2 : Nat) (v2 : Option Addr) (y2 : Int) : Prop where
  r1 : Rd w g1 v1 [1, 2, 0, 5] p1 0
  r2 : Rd w g2 v2 [0, 0, 1] 0 y2
  ne : g1 ≠ g2
  n1 : ∀ ad, v1 = some ad → ad.block ≠ g2
  n2 : ∀ ad, v2 = some ad → ad.block ≠ g1
  b1 : B ≤ g1
  b2 : B ≤ g2
  b0 : B ≤ w.heap.size
  bel : Below B w0 w
theorem Two.step1 {B : Nat} {w0 w w' : World} {g1 : Nat} {v1 : Option Addr} {p1 p : Nat} {g2 : Nat} {v2 : Option Addr} {y2 : Int} (h : Two B w0 w g1 v1 p1 g2 v2 y2) (k : Now w w' g1 v1 [1, 2, 0, 5] p 0) : Two B w0 w' g1 v1 p g2 v2 y2 :=
  ⟨k.rd, h.r2.other k h.ne.symm h.n2, h.ne, h.n1, h.n2, h.b1, h.b2, Nat.le_trans h.b0 k.grown.size, h.bel.grown k.grown h.b0 (fun k hk => by cases hk; exact h.b1)⟩
theorem Two.step2 {B : Nat} {w0 w w' : World} {g1 : Nat} {v1 : Option Addr} {p1 : Nat} {g2 : Nat} {v2 : Option Addr} {y2 y : Int} (h : Two B w0 w g1 v1 p1 g2 v2 y2) (k : Now w w' g2 v2 [0, 0, 1] 0 y) : Two B w0 w' g1 v1 p1 g2 v2 y :=
  ⟨h.r1.other k h.ne h.n1, k.rd, h.ne, h.n1, h.n2, h.b1, h.b2, Nat.le_trans h.b0 k.grown.size, h.bel.grown k.grown h.b0 (fun k hk => by cases hk; exact h.b2)⟩

theorem two_start {w w1 w2 w3 : World} {o1 o2 : Obj} {g1 : Nat} {v1 : Option Addr} {g2 : Nat} {v2 : Option Addr} (hb1 : Below (w.alloc o1).heap.size (w.alloc o1) w1) (hg1 : w1.heap.size ≤ g1) (hr1 : Rd w2 g1 v1 [1, 2, 0, 5] 0 0) (hb2 : Below w1.heap.size w1 w2)
    (hg2 : (w2.alloc o2).heap.size ≤ g2) (hv2 : ∀ ad, v2 = some ad → (w2.alloc o2).heap.size ≤ ad.block) (hr2 : Rd w3 g2 v2 [0, 0, 1] 0 0) (hb3 : Below (w2.alloc o2).heap.size (w2.alloc o2) w3) : Two w.heap.size w w3 g1 v1 0 g2 v2 0 := by
  have s1 := hb1.size
  have s2 := hb2.size
  have s3 := hb3.size
  have l1 := hr1.lt
  have l2 := hr1.blt (by decide)
  simp only [World.size_alloc] at s1 s3 hg2 hv2
  have k1 : Below w.heap.size w w1 := ((Below.refl _ _).alloc (Nat.le_refl _) _).trans (hb1.mono (by simp))
  have k2 : Below w.heap.size w w2 := k1.trans (hb2.mono (by omega))
  have k3 : Below w.heap.size w w3 := (k2.alloc (by omega) _).trans (hb3.mono (by simp; omega))
  refine ⟨(hr1.below ((Below.refl _ _).alloc (Nat.le_refl _) _)).below hb3, hr2, by omega, fun ad had e => ?_, fun ad had e => ?_, by omega, by omega, by omega, k3⟩
  · have := l2 ad had; omega
  · have := hv2 ad had; omega

theorem live_any (w : World) : Calls Try.prog 9 #[] w fun e w' => e = .returned (.bool true) ∧ Below w.heap.size w w' := by
  go_enter Try.func9, Try.ntmps9
  go_wp2_with (first
    | (go_at_call 30; refine (live_left t6.r1).mono ?_; rintro e w9 ⟨rfl, h9⟩; have t7 := t6.step1 h9)
    | (go_at_call 31; refine (live_done t5.r1).mono ?_; rintro e w8 ⟨rfl, h8⟩; have t6 := t5.step1 h8)
    | (go_at_call 28; refine (num_any _ _).mono ?_; rintro e wn ⟨rfl, rfl⟩)
    | (go_at_call 27; refine (live_why t4.r2).mono ?_; rintro e w7 ⟨rfl, h7⟩; have t5 := t4.step2 h7)
    | (go_at_call 20; refine (live_u32 t3.r2).mono ?_; rintro e w6 ⟨rfl, h6⟩; have t4 := t3.step2 h6)
    | (go_at_call 17; refine (live_u8 t2.r1).mono ?_; rintro e w5 ⟨rfl, h5⟩; have t3 := t2.step1 h5)
    | (go_at_call 19; refine (live_u16 t1.r1).mono ?_; rintro e w4 ⟨rfl, h4⟩; have t2 := t1.step1 h4)
    | (go_at_call 15; refine (new_any (some ⟨w2.heap.size, 0, none⟩) 3 3 [0, 0, 1] _ (new_src_of w2 #[.int .u8 0, .int .u8 0, .int .u8 1] 5) (by decide)).mono ?_; rintro e w3 ⟨g2, v2, rfl, hg2, hv2, hr2, hb3⟩; have hst : (convert 22 9 (.slice a1 4 c1)).run Try.prog w3 = .ok (.string ⟨#[1, 2, 0, 5]⟩) w3 := ((hs2.alloc (.cells #[.int .u8 0, .int .u8 0, .int .u8 1] 5)).below hb3 (hs2.alloc (.cells #[.int .u8 0, .int .u8 0, .int .u8 1] 5)).lt).str; have t1 : Two w.heap.size w w3 g1 v1 0 g2 v2 0 := two_start hb1 hg1 hr1 hb2 hg2 hv2 hr2 hb3; clear hs2 hb3 hr2 hv2 hg2 hr1 hg1 hb2 hb1 hv1)
    | (go_at_call 15; refine (new_any a1 4 c1 [1, 2, 0, 5] w1 hs1 (by decide)).mono ?_; rintro e w2 ⟨g1, v1, rfl, hg1, hv1, hr1, hb2⟩; have hs2 := hs1.below hb2 hs1.lt; clear hs1)
    | (go_at_call 12; refine (live_put w).mono ?_; rintro e w1 ⟨a1, c1, rfl, hown1, hb1⟩; obtain ⟨_, _, hv1, hs1, hlt1⟩ := Src.ofOwn hown1; cases hv1; clear hlt1 hown1))
  go_ret
  exact ⟨rfl, t7.bel⟩
end Go.Proofs.Ytelopplkdlbgbaa
