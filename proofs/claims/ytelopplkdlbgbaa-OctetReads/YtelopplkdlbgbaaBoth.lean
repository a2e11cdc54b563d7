/-
  Both readers in one state, and what the methods that only read leave.
-/
import Derived.Test.YtelopplkdlbgbaaRefNum
import Derived.Deep.QuietTactic
import Derived.BigQuiet
import Derived.Laws.BitsAllLaws
namespace Go.Proofs.Ytelopplkdlbgbaa
open Go.RowKit

theorem at_drew {bv : Option Addr} (g : Nat) (l : List UInt8) (p : Nat) (y : Int) (w : World) (h : Rd w g bv l p y) :
    Calls Try.prog 29 #[.pointer (some ⟨g, 0, none⟩)] w fun e w' => e = .returned (.int .i64 p) ∧ ∃ n, w' = w.drewN n := by
  obtain ⟨c, c0, c1, c2, hf, _⟩ := h.cells
  clear hf
  go_enter Try.func29, Try.ntmps29
  go_wp2
  go_ret
  exact ⟨rfl, 0, rfl⟩
theorem num_drew (x : Int) (w : World) : Calls Try.prog 28 #[.int .i64 x] w fun e w' => e = .returned (.int .i64 x) ∧ ∃ n, w' = w.drewN n := by
  go_enter Try.func28, Try.ntmps28
  go_wp2
  go_ret
  exact ⟨rfl, 0, rfl⟩
theorem why_drew {bv : Option Addr} (g : Nat) (l : List UInt8) (p : Nat) (y : Int) (w : World) (h : Rd w g bv l p y) :
    Calls Try.prog 27 #[.pointer (some ⟨g, 0, none⟩)] w fun e w' => e = .returned (.tuple #[.int .i64 y, .int .i64 (if y = 0 then 0 else (p : Int))]) ∧ ∃ n, w' = w.drewN n := by
  obtain ⟨c, c0, c1, c2, hf, _⟩ := h.cells
  clear hf
  by_cases hy : y = 0
  · subst hy
    rw [if_pos rfl]
    go_enter Try.func27, Try.ntmps27
    go_wp2
    go_ret2
    exact ⟨rfl, 0, rfl⟩
  · have hy' : (y == 0) = false := by simpa using hy
    rw [if_neg hy]
    clear hy
    go_enter Try.func27, Try.ntmps27
    go_wp2
    go_quiet (fail)
    go_wp2
    go_ret2
    exact ⟨rfl, _, rfl⟩
theorem done_drew {bv : Option Addr} (g : Nat) (l : List UInt8) (p : Nat) (y : Int) (w : World) (h : Rd w g bv l p y) :
    Calls Try.prog 31 #[.pointer (some ⟨g, 0, none⟩)] w fun e w' => e = .returned (.int .i64 (dnE l p y)) ∧ ∃ n, w' = w.drewN n := by
  have hle := h.le
  by_cases hy : y = 0
  · subst hy
    by_cases hp : p < l.length
    · have e : dnE l p 0 = 4 := by simp [dnE, hp]
      rw [e]
      clear e
      have hd : decide (0 < ((l.length - p : Nat) : Int)) = true := by simp; omega
      go_enter Try.func31, Try.ntmps31
      go_wp2_with (first
        | (go_at_call 27; refine (why_drew g l p 0 w h).mono ?_; rintro e w0 ⟨rfl, m, rfl⟩)
        | (go_at_call 30; refine (left_drew g l p 0 _ (h.drewN m).rd).mono ?_; rintro e w1 ⟨rfl, k, rfl⟩))
      go_ret
      exact ⟨rfl, m + k, by simp⟩
    · have e : dnE l p 0 = 0 := by simp [dnE, hp]
      rw [e]
      clear e
      have hd : decide (0 < ((l.length - p : Nat) : Int)) = false := by simp; omega
      go_enter Try.func31, Try.ntmps31
      go_wp2_with (first
        | (go_at_call 27; refine (why_drew g l p 0 w h).mono ?_; rintro e w0 ⟨rfl, m, rfl⟩)
        | (go_at_call 30; refine (left_drew g l p 0 _ (h.drewN m).rd).mono ?_; rintro e w1 ⟨rfl, k, rfl⟩))
      go_ret
      exact ⟨rfl, m + k, by simp⟩
  · have e : dnE l p y = y := by simp [dnE, hy]
    rw [e]
    clear e
    have hy' : (y == 0) = false := by simpa using hy
    go_enter Try.func31, Try.ntmps31
    go_wp2_with (go_at_call 27; refine (why_drew g l p y w h).mono ?_; rintro e w0 ⟨rfl, m, rfl⟩)
    go_ret
    exact ⟨rfl, m, rfl⟩

/-- Both readers, in one state. -/
structure Both (w wr : World) (g1 : Nat) (b1 : Option Addr) (g2 : Nat) (b2 : Option Addr) (L : List UInt8) (p : Nat) (y s : Int) : Prop where
  r1 : Rd wr g1 b1 L p y
  r2 : RR wr g2 b2 L p y s
  ne : g1 ≠ g2
  n1 : ∀ ad, b1 = some ad → L ≠ [] → ad.block ≠ g2
  n2 : ∀ ad, b2 = some ad → L ≠ [] → ad.block ≠ g1
  l1 : w.heap.size ≤ g1
  l2 : w.heap.size ≤ g2
  bel : Below w.heap.size w wr
  sp : s = if y = 0 then 0 else (p : Int)
theorem Both.read {w wr u u' : World} {g1 : Nat} {b1 : Option Addr} {g2 : Nat} {b2 : Option Addr} {L : List UInt8} {p q : Nat} {y s z t : Int} (h : Both w wr g1 b1 g2 b2 L p y s) (k1 : Now wr u g1 b1 L q z) (k2 : RNow u u' g2 b2 L q z t) (ht : t = if z = 0 then 0 else (q : Int)) : Both w u' g1 b1 g2 b2 L q z t :=
  ⟨k1.rd.kept k2.grown (fun e => h.ne (Option.some.inj e)) (fun ad had hl e => h.n1 ad had hl (Option.some.inj e)), k2.rd, h.ne, h.n1, h.n2, h.l1, h.l2,
    (h.bel.grown k1.grown h.bel.size (fun k hk => by cases hk; exact h.l1)).grown k2.grown (Nat.le_trans h.bel.size k1.grown.size) (fun k hk => by cases hk; exact h.l2), ht⟩
theorem Both.mid {w wr u : World} {g1 : Nat} {b1 : Option Addr} {g2 : Nat} {b2 : Option Addr} {L : List UInt8} {p q : Nat} {y s z : Int} (h : Both w wr g1 b1 g2 b2 L p y s) (k1 : Now wr u g1 b1 L q z) : RR u g2 b2 L p y s :=
  h.r2.kept k1.grown (fun e => h.ne (Option.some.inj e).symm) (fun ad had hl e => h.n2 ad had hl (Option.some.inj e))
theorem Both.drewN {w wr : World} {g1 : Nat} {b1 : Option Addr} {g2 : Nat} {b2 : Option Addr} {L : List UInt8} {p : Nat} {y s : Int} (h : Both w wr g1 b1 g2 b2 L p y s) (n : Nat) : Both w (wr.drewN n) g1 b1 g2 b2 L p y s :=
  ⟨(h.r1.drewN n).rd, (h.r2.drewN n).rd, h.ne, h.n1, h.n2, h.l1, h.l2, below_drewN h.bel n, h.sp⟩
theorem sp_take {L : List UInt8} {p : Nat} {y s n : Int} (h : s = if y = 0 then 0 else (p : Int)) : spT L p y s n = if tkE L p y n = 0 then 0 else ((p + (tkB L p y n).length : Nat) : Int) := by
  by_cases hy : y = 0
  · subst hy
    rw [if_pos rfl] at h
    by_cases he : tkE L p 0 n = 0
    · simp [spT, he, h]
    · have hb : tkB L p 0 n = [] := by
        unfold tkE at he
        unfold tkB
        rw [if_neg]
        intro hh
        rw [if_neg (by simp), if_neg (by omega), if_pos (by omega)] at he
        exact he rfl
      simp [spT, he, hb]
  · have he : tkE L p y n = y := by simp [tkE, hy]
    have hb : tkB L p y n = [] := by simp [tkB, hy]
    rw [if_neg hy] at h
    simp [spT, he, hb, hy, h]
end Go.Proofs.Ytelopplkdlbgbaa
