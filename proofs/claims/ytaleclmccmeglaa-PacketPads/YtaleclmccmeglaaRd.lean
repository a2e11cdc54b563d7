/-
  The contract of tlv.read for every reader: a piece, or an error.
-/
import Derived.Test.YtaleclmccmeglaaJn
namespace Go.Proofs.Ytaleclmccmeglaa
open Go.RowKit
set_option linter.unusedSimpArgs false
variable {bv : Option Addr}

theorem u8_at {g : Nat} {l : List UInt8} {p : Nat} {w : World} (h : Rd w g bv l p 0) (hp : p < l.length) :
    Calls Try.prog 35 #[.pointer (some ⟨g, 0, none⟩)] w fun e w' => e = .returned (.int .u8 (l[p].toNat : Int)) ∧ Now w w' g bv l (p + 1) 0 := by
  have h := u8_any g _ p 0 w h
  obtain ⟨e1, e2⟩ := tk_there (l := l) (p := p) (k := 1) (by omega) (by omega)
  have e3 : (l.drop p).take 1 = [l[p]] := by rw [List.drop_eq_getElem_cons hp]; rfl
  rw [e1, e2, show (1 : Int).toNat = 1 from rfl, e3] at h
  simpa [nv] using h
theorem u8_end {g : Nat} {l : List UInt8} {p : Nat} {w : World} (h : Rd w g bv l p 0) (hp : ¬ p < l.length) :
    Calls Try.prog 35 #[.pointer (some ⟨g, 0, none⟩)] w fun e w' => e = .returned (.int .u8 0) ∧ Now w w' g bv l p 3 := by
  have h := u8_any g _ p 0 w h
  obtain ⟨e1, e2⟩ := tk_short (l := l) (p := p) (k := 1) (by omega)
  rw [e1, e2] at h
  simpa [nv] using h
/-- Reader.Bytes, its answer in memory of its own. -/
theorem bytes_own (g : Nat) (l : List UInt8) (p : Nat) (y n : Int) (w : World) (h : Rd w g bv l p y) :
    Calls Try.prog 39 #[.pointer (some ⟨g, 0, none⟩), .int .i64 n] w fun e w' => ∃ a c, e = .returned (.slice a (tkB l p y n).length c) ∧ w'.ownsRow w.heap.size 5 1 (.slice a (tkB l p y n).length c) (tkB l p y n).length (bcells (tkB l p y n)) ∧ Now w w' g bv l (p + (tkB l p y n).length) (tkE l p y n) := by
  have hb := h.big
  have hl := tkB_len l p y n h.le
  go_enter Try.func39, Try.ntmps39
  go_wp2_with (first
    | (go_at_call 69; refine (take_any g l p y n w h).mono ?_; rintro e w0 ⟨a0, c0, rfl, hs0, hn0⟩)
    | (go_at_call 67; refine (clone_any a0 _ c0 (tkB l p y n) w0 hs0 (by omega)).mono ?_; rintro e w1 ⟨a1, c1, rfl, hown, hb1⟩))
  go_ret
  exact ⟨a1, c1, rfl, own_le hown hn0.grown.size, ⟨hn0.rd.below hb1, grownBy_trans hn0.grown (grownBy_below _ hb1)⟩⟩
theorem bytes_ok {g : Nat} {l : List UInt8} {p k : Nat} {w : World} (h : Rd w g bv l p 0) (hk : p + k ≤ l.length) :
    Calls Try.prog 39 #[.pointer (some ⟨g, 0, none⟩), .int .i64 k] w fun e w' => ∃ a c, e = .returned (.slice a k c) ∧ w'.ownsRow w.heap.size 5 1 (.slice a k c) k (bcells ((l.drop p).take k)) ∧ Now w w' g bv l (p + k) 0 := by
  have h := bytes_own g l p 0 k w h
  obtain ⟨e1, e2⟩ := tk_there (l := l) (p := p) (k := k) (by omega) (by omega)
  have e3 : ((l.drop p).take k).length = k := by simp; omega
  simp only [Int.toNat_natCast] at e1
  rw [e1, e2, e3] at h
  exact h
theorem bytes_no {g : Nat} {l : List UInt8} {p : Nat} {y n : Int} {w : World} (h : Rd w g bv l p y) (hn : (y = 0 ∧ ((l.length - p : Nat) : Int) < n) ∨ y = 3) :
    Calls Try.prog 39 #[.pointer (some ⟨g, 0, none⟩), .int .i64 n] w fun e w' => ∃ a c, e = .returned (.slice a 0 c) ∧ Now w w' g bv l p 3 := by
  have h := bytes_own g l p y n w h
  obtain ⟨e1, e2⟩ : tkB l p y n = [] ∧ tkE l p y n = 3 := by
    rcases hn with ⟨rfl, h2⟩ | rfl
    · exact tk_short h2
    · exact tk_err (by decide)
  rw [e1, e2] at h
  refine h.mono ?_
  rintro e w' ⟨a, c, rfl, _, h2⟩
  exact ⟨a, c, rfl, h2⟩
theorem Now.below {w w' w2 : World} {g : Nat} {l : List UInt8} {p : Nat} {y : Int} (h : Now w w' g bv l p y) (hb : Below w'.heap.size w' w2) : Now w w2 g bv l p y := ⟨h.rd.below hb, grownBy_trans h.grown (grownBy_below _ hb)⟩
theorem Now.alloc {w w' : World} {g : Nat} {l : List UInt8} {p : Nat} {y : Int} (h : Now w w' g bv l p y) (o : Obj) : Now w (w'.alloc o) g bv l p y := h.below ((Below.refl _ _).alloc (Nat.le_refl _) _)

theorem Now.fresh {w w1 w2 : World} {g B : Nat} {l : List UInt8} {p p0 : Nat} {y y0 : Int} (h0 : Rd w g bv l p0 y0) (h : Now w w1 g bv l p y) (hg : w1.grownBy w2 (some B)) (hB : w.heap.size ≤ B) : Now w w2 g bv l p y := by
  refine ⟨h.rd.kept hg (fun e => ?_) (fun ad had hl e => ?_), ⟨hg.os.trans h.grown.os, hg.tape.trans h.grown.tape, hg.output.trans h.grown.output, Nat.le_trans h.grown.size hg.size, fun i hi hne => ?_⟩⟩
  · have := h0.lt; cases e; omega
  · have := h0.blt hl ad had; cases e; omega
  · exact (hg.block i (Nat.lt_of_lt_of_le hi h.grown.size) (fun e => by cases e; omega)).trans (h.grown.block i hi hne)
theorem row_now {w w' : World} {g B : Nat} {l : List UInt8} {p : Nat} {y : Int} {t : TypeId} {cs : List Value} (hr : Row w B t cs) (h : Now w w' g bv l p y) (hne : B ≠ g) : Row w' B t cs := hr.grown h.grown (fun e => hne (Option.some.inj e))

theorem own_keep {w w' : World} {B : Nat} {e : TypeId} {s : Nat} {v : Value} {n : Nat} {xs : List Value} {row : Option Nat} (h : w.ownsRow B e s v n xs) (hg : w.grownBy w' row) (hne : v.ownBlock ≠ row ∨ row = none) : w'.ownsRow B e s v n xs := by
  refine ⟨h.1, ?_⟩
  rcases h.2 with h | ⟨g, cap, cur, rfl, h2, h3, h4⟩
  · exact .inl h
  · refine .inr ⟨g, cap, cur, rfl, h2, (hg.block g (lt_of_block h3) ?_).trans h3, h4⟩
    rcases hne with hne | rfl
    · exact hne
    · simp
def NoB (l : List UInt8) (q : Nat) (y : Int) (k : Nat) : Prop := (y = 0 ∧ ((l.length - q : Nat) : Int) < (k : Int)) ∨ y = 3
/-- read, at a Pad1. -/
theorem read_pad {g : Nat} {l : List UInt8} {p : Nat} {w : World} (h : Rd w g bv l p 0) (hp : p < l.length) (h0 : l[p].toNat = 0) :
    Calls Try.prog 41 #[.pointer (some ⟨g, 0, none⟩)] w fun e w' => e = .returned (.agg #[.int .u8 0, .slice none 0 0]) ∧ Now w w' g bv l (p + 1) 0 := by
  have HU : Hid (∀ w', Rd w' g bv l p 0 → Calls Try.prog 35 #[.pointer (some ⟨g, 0, none⟩)] w' fun e w2 => e = .returned (.int .u8 0) ∧ Now w' w2 g bv l (p + 1) 0) := by
    intro w' h'
    have := u8_at h' hp
    rw [h0] at this
    exact this
  clear h0
  have hgl := h.lt
  have hR := Row.new w 60 [.int .u8 0, .slice none 0 0]
  go_enter Try.func41, Try.ntmps41
  go_wp2_with (first
    | (have k := hn1; refine stR (.tmp 2) (.tmp 16) (by rfl) rfl w.heap.size (.int .u8 0) (.slice none 0 0) (.int .u8 0) (.slice none 0 0) rfl rfl ((row_now hR hn1 (by omega)).alloc _) rfl rfl ?_; intro w3 hg3 hr3)
    | (go_at_call 35; refine (HU.out _ (h.now.alloc _).rd).mono ?_; rintro e w1 ⟨rfl, hn1⟩))
  exact bodyPost_ret (retC rfl _ _ 0 rfl (lvR hr3.range)) rfl ⟨rfl, Now.fresh h (((h.now.alloc _).trans hn1).alloc _) hg3 (Nat.le_refl _)⟩

/-- read, where a piece stands. -/
theorem read_yes {g : Nat} {l : List UInt8} {p : Nat} {w : World} (h : Rd w g bv l p 0) (hp : p + 1 < l.length) (h0 : l[p].toNat ≠ 0) (hk : p + 2 + l[p + 1].toNat ≤ l.length) :
    Calls Try.prog 41 #[.pointer (some ⟨g, 0, none⟩)] w fun e w' => ∃ a c, e = .returned (.agg #[.int .u8 (l[p].toNat : Int), .slice a l[p + 1].toNat c]) ∧ w'.ownsRow w.heap.size 5 1 (.slice a l[p + 1].toNat c) l[p + 1].toNat (bcells ((l.drop (p + 2)).take l[p + 1].toNat)) ∧ Now w w' g bv l (p + 2 + l[p + 1].toNat) 0 := by
  have HU1 : Hid (∀ w', Rd w' g bv l p 0 → Calls Try.prog 35 #[.pointer (some ⟨g, 0, none⟩)] w' fun e w2 => e = .returned (.int .u8 (l[p].toNat : Int)) ∧ Now w' w2 g bv l (p + 1) 0) := fun w' h' => u8_at h' (by omega)
  have HU2 : Hid (∀ w', Rd w' g bv l (p + 1) 0 → Calls Try.prog 35 #[.pointer (some ⟨g, 0, none⟩)] w' fun e w2 => e = .returned (.int .u8 (l[p + 1].toNat : Int)) ∧ Now w' w2 g bv l (p + 2) 0) := fun w' h' => u8_at h' hp
  have ht := l[p].toNat_lt
  have hm := l[p + 1].toNat_lt
  generalize l[p].toNat = t at *
  generalize l[p + 1].toNat = k at *
  have h0' : ((t : Int) == 0) = false := by simpa using h0
  have hgl := h.lt
  have hR := Row.new w 60 [.int .u8 0, .slice none 0 0]
  go_enter Try.func41, Try.ntmps41
  go_wp2_with (first
    | (have kk := hn5; refine stR (.tmp 2) (.tmp 16) (by rfl) rfl w.heap.size (.int .u8 (t : Int)) (.slice a5 k c5) (.int .u8 0) (.slice none 0 0) rfl rfl (hq5.grown (grownBy_setCell w5 w1.heap.size 1 _) (fun e => hne5 (Option.some.inj e))) rfl rfl ?_; intro w7 hg7 hr7)
    | (go_at_call 39; have kk := hn4; refine (bytes_ok (k := k) hn4.rd (by omega)).mono ?_; rintro e w5 ⟨a5, c5, rfl, hown5, hn5⟩; have hr5 := row_now hr4 hn5 hne4; have d0 : w5.cell? ⟨w1.heap.size, 0, none⟩ = some (.int .u8 (t : Int)) := hr5.cell 0; have d1 : w5.cell? ⟨w1.heap.size, 1, none⟩ = some (.slice none 0 0) := hr5.cell 1; have d2 := hr5.frozen 1; have hne6 : w.heap.size ≠ g := (by omega); have hne5 : w.heap.size ≠ w1.heap.size := (by have := hn1.grown.size; simp at this; omega); have hq5 : Row w5 w.heap.size 60 [.int .u8 0, .slice none 0 0] := row_now (row_now ((row_now hR hn1 hne6).alloc _) hn4 hne6) hn5 hne6)
    | (go_at_call 35; have kk := hn1; refine (HU2.out _ (hn1.alloc _).rd).mono ?_; rintro e w4 ⟨rfl, hn4⟩; have hne4 : w1.heap.size ≠ g := (by have := hn1.grown.size; simp at this; omega); have hr4 := row_now (Row.new w1 60 [.int .u8 (t : Int), .slice none 0 0]) hn4 hne4)
    | (go_at_call 35; refine (HU1.out _ (h.now.alloc _).rd).mono ?_; rintro e w1 ⟨rfl, hn1⟩))
  have z0 : Now w w5 g bv l (p + 2 + k) 0 := ((((h.now.alloc _).trans hn1).alloc _).trans hn4).trans hn5
  have z1 := Now.fresh h z0 (grownBy_setCell w5 w1.heap.size 1 (.slice a5 k c5)) (by have := hn1.grown.size; simp at this; omega)
  have z2 := Now.fresh h z1 hg7 (Nat.le_refl _)
  have hs4 : w.heap.size ≤ w4.heap.size := ((((h.now.alloc _).trans hn1).alloc _).trans hn4).grown.size
  have o1 := own_keep hown5 (grownBy_setCell w5 w1.heap.size 1 (.slice a5 k c5)) (.inl fun e => own_ne hown5 hr5 ne51 e.symm)
  have o2 := own_keep o1 hg7 (.inl fun e => own_ne o1 (hq5.grown (grownBy_setCell w5 w1.heap.size 1 _) (fun e => hne5 (Option.some.inj e))) ne51 e.symm)
  exact bodyPost_ret (retC rfl _ _ 0 rfl (lvR hr7.range)) rfl ⟨a5, c5, rfl, own_le o2 hs4, z2⟩

/-- read, where the bytes end within a piece. -/
theorem read_no {g : Nat} {l : List UInt8} {p : Nat} {w : World} (h : Rd w g bv l p 0) (hp : p < l.length) (h0 : l[p].toNat ≠ 0) (hk : ∀ hp1 : p + 1 < l.length, l.length < p + 2 + l[p + 1].toNat) :
    Calls Try.prog 41 #[.pointer (some ⟨g, 0, none⟩)] w fun e w' => ∃ t a c q, e = .returned (.agg #[.int .u8 t, .slice a 0 c]) ∧ Now w w' g bv l q 3 := by
  have HU1 : Hid (∀ w', Rd w' g bv l p 0 → Calls Try.prog 35 #[.pointer (some ⟨g, 0, none⟩)] w' fun e w2 => e = .returned (.int .u8 (l[p].toNat : Int)) ∧ Now w' w2 g bv l (p + 1) 0) := fun w' h' => u8_at h' (by omega)
  have HU2 : Hid (∀ w', Rd w' g bv l (p + 1) 0 → Calls Try.prog 35 #[.pointer (some ⟨g, 0, none⟩)] w' fun e w2 => ∃ (k q : Nat) (y : Int), k < 256 ∧ e = .returned (.int .u8 (k : Int)) ∧ Now w' w2 g bv l q y ∧ NoB l q y k) := by
    intro w' h'
    by_cases hp1 : p + 1 < l.length
    · refine (u8_at h' hp1).mono ?_
      rintro e w2 ⟨rfl, hn⟩
      exact ⟨_, _, _, l[p + 1].toNat_lt, rfl, hn, .inl ⟨rfl, by have := hk hp1; omega⟩⟩
    · refine (u8_end h' hp1).mono ?_
      rintro e w2 ⟨rfl, hn⟩
      exact ⟨0, _, _, by decide, rfl, hn, .inr rfl⟩
  have ht := l[p].toNat_lt
  clear hk
  generalize l[p].toNat = t at *
  have h0' : ((t : Int) == 0) = false := by simpa using h0
  have hgl := h.lt
  have hR := Row.new w 60 [.int .u8 0, .slice none 0 0]
  go_enter Try.func41, Try.ntmps41
  go_wp2_with (first
    | (have kk := hn5; refine stR (.tmp 2) (.tmp 16) (by rfl) rfl w.heap.size (.int .u8 (t : Int)) (.slice a5 0 c5) (.int .u8 0) (.slice none 0 0) rfl rfl (hq5.grown (grownBy_setCell w5 w1.heap.size 1 _) (fun e => hne5 (Option.some.inj e))) rfl rfl ?_; intro w7 hg7 hr7)
    | (go_at_call 39; have kk := hn4; refine (bytes_no hn4.rd hB).mono ?_; rintro e w5 ⟨a5, c5, rfl, hn5⟩; have hr5 := row_now hr4 hn5 hne4; have d0 : w5.cell? ⟨w1.heap.size, 0, none⟩ = some (.int .u8 (t : Int)) := hr5.cell 0; have d1 : w5.cell? ⟨w1.heap.size, 1, none⟩ = some (.slice none 0 0) := hr5.cell 1; have d2 := hr5.frozen 1; have hne6 : w.heap.size ≠ g := (by omega); have hne5 : w.heap.size ≠ w1.heap.size := (by have := hn1.grown.size; simp at this; omega); have hq5 : Row w5 w.heap.size 60 [.int .u8 0, .slice none 0 0] := row_now (row_now ((row_now hR hn1 hne6).alloc _) hn4 hne6) hn5 hne6)
    | (go_at_call 35; have kk := hn1; refine (HU2.out _ (hn1.alloc _).rd).mono ?_; rintro e w4 ⟨k, q, y, hk256, rfl, hn4, hB⟩; have hne4 : w1.heap.size ≠ g := (by have := hn1.grown.size; simp at this; omega); have hr4 := row_now (Row.new w1 60 [.int .u8 (t : Int), .slice none 0 0]) hn4 hne4)
    | (go_at_call 35; refine (HU1.out _ (h.now.alloc _).rd).mono ?_; rintro e w1 ⟨rfl, hn1⟩))
  have z0 : Now w w5 g bv l q 3 := ((((h.now.alloc _).trans hn1).alloc _).trans hn4).trans hn5
  have z1 := Now.fresh h z0 (grownBy_setCell w5 w1.heap.size 1 (.slice a5 0 c5)) (by have := hn1.grown.size; simp at this; omega)
  have z2 := Now.fresh h z1 hg7 (Nat.le_refl _)
  exact bodyPost_ret (retC rfl _ _ 0 rfl (lvR hr7.range)) rfl ⟨t, a5, c5, q, rfl, z2⟩
end Go.Proofs.Ytaleclmccmeglaa
