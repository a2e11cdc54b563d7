/-
  The contracts of noSource and source of package packet.
-/
import Derived.Test.YtaleclmccmeglaaKp
namespace Go.Proofs.Ytaleclmccmeglaa
open Go.RowKit
set_option linter.unusedSimpArgs false
set_option maxRecDepth 20000
variable {bv : Option Addr}

/-- Whether a piece of AeAny says something. -/
def nsB (l : List UInt8) (r : RS) : Bool := wiB [128] l r && decide ((wiL [128] l r).length = 0)
theorem noSource_any {w : World} {P g : Nat} {l : List UInt8} {r : RS} (hp : Pg w P g) (h : RdS w g bv l r) (hl : l.length ≤ 100000) :
    Calls Try.prog 79 #[.pointer (some ⟨P, 0, none⟩)] w fun e w' => e = .returned (.bool (nsB l r)) ∧ NowS w w' g bv l (wiR l r) := by
  have hlt := h.lt
  have HW : Hid (∀ W a, Pg W P g → RdS W g bv l r → Src W (some a) 1 1 (bcells [128]) → a.block ≠ g → Calls Try.prog 72 #[.pointer (some ⟨P, 0, none⟩), .slice (some a) 1 1] W fun e w' => ∃ a' c' n, Hid (n = (wiL [128] l r).length) ∧ e = .returned (.tuple #[.slice a' n c', .bool (wiB [128] l r)]) ∧ NowS W w' g bv l (wiR l r)) := fun W a h1 h2 h3 h4 => by
    refine (within_any h1 h2 hl (some a) 1 1 [128] h3 (by decide) (fun _ h => by cases h; exact h4)).mono ?_
    rintro e w' ⟨a', c', ps, rfl, k1, k2, k3, hn⟩
    exact ⟨a', c', _, by show _ = _; rw [← k1]; simp [keys], rfl, hn⟩
  obtain ⟨N, hN⟩ : ∃ N, Hid ((wiL [128] l r).length = N) := ⟨_, rfl⟩
  unfold nsB
  rw [hN.out] at HW ⊢
  generalize wiB [128] l r = b at *
  clear hN
  cases b
  all_goals
    go_enter Try.func79, Try.ntmps79
    go_wp2_with (go_at_call 72; refine (HW.out _ _ (hp.below (ba _ _)) (h.below (ba _ _)) (new_src w #[.int .u8 128]) (show w.heap.size ≠ g by omega)).mono ?_; rintro e w3 ⟨a3, c3, n3, hn3, rfl, hn2⟩)
    go_ret
    have e3 := hn3.out
    subst e3
    refine ⟨?_, hn2.after (ba _ _)⟩
    have e : ((n3 : Int) == 0) = (true && decide (n3 = 0)) := by rw [Bool.eq_iff_iff]; simp
    first
      | rfl
      | (rw [← e]; rfl)

/-- The prefix that a SubSource tells. -/
def soR (l : List UInt8) (r : RS) : RS := if r.val l 1 = 0 then (r.adv l 1).bad else r.adv l 1
def soP (s : St) (ae : Nat) (l : List UInt8) (r : RS) : Pf := pfP s ae (r.val l 1) 0 l (soR l r)
def soN (s : St) (ae : Nat) (l : List UInt8) (r : RS) : RS := pfR s ae (r.val l 1) 0 l (soR l r)
theorem source_any {w : World} {P g : Nat} {l : List UInt8} {r : RS} {s : St} (ae : Nat) (hpar : Par w P (some g) s) (h : RdS w g bv l r) :
    Calls Try.prog 96 #[.pointer (some ⟨P, 0, none⟩), .int .u8 (ae : Int)] w fun e w' => e = .returned (Value.agg (pcells (soP s ae l r)).toArray) ∧ NowS w w' g bv l (soN s ae l r) := by
  have hp := hpar.pg h
  have hlt := h.lt
  have hpl := val1_lt r l
  have HU1 : Hid (∀ W, RdS W g bv l r → Calls Try.prog 35 #[.pointer (some ⟨g, 0, none⟩)] W fun e w' => e = .returned (.int .u8 (r.val l 1)) ∧ NowS W w' g bv l (r.adv l 1)) := fun W h => u8_r h
  unfold soP soN
  obtain ⟨rb, hrb⟩ : ∃ rb, soR l r = rb := ⟨_, rfl⟩
  have hrb0 : Hid ((r.val l 1 = 0 → rb = (r.adv l 1).bad) ∧ (r.val l 1 ≠ 0 → rb = r.adv l 1)) := by
    unfold soR at hrb
    constructor
    · intro h0; rw [if_pos h0] at hrb; exact hrb.symm
    · intro h0; rw [if_neg h0] at hrb; exact hrb.symm
  rw [hrb]
  generalize r.val l 1 = pl at *
  have HP : Hid (∀ W, Par W P (some g) s → RdS W g bv l rb → Calls Try.prog 80 #[.pointer (some ⟨P, 0, none⟩), .int .u8 (ae : Int), .int .i64 (pl : Int), .int .i64 0] W fun e w' => e = .returned (Value.agg (pcells (pfP s ae pl 0 l rb)).toArray) ∧ NowS W w' g bv l (pfR s ae pl 0 l rb)) := fun W h1 h2 => prefix_any ae pl 0 hpl (by decide) h1 h2
  generalize pfP s ae pl 0 l rb = q at *
  generalize pfR s ae pl 0 l rb = rn at *
  clear hrb
  by_cases h0 : pl = 0
  · subst h0
    have e0 := hrb0.out.1 rfl
    subst e0
    clear hrb0
    go_enter Try.func96, Try.ntmps96
    go_wp2_with (first
      | (have kk := hn4; refine stP0 (.tmp 4) (.tmp 19) (by rfl) rfl gA q _ (pcells_len _) rfl rfl (rA.nowS N4 (by omega)) ?_; intro w5 hg5 r5)
      | (go_at_call 80; refine (HP.out _ ((hpar.below a3).now (h.below a3) (hn1.trans hn3)) hn3.rd).mono ?_; rintro e w4 ⟨rfl, hn4⟩; have N4 := (hn1.trans hn3).trans hn4)
      | (go_at_call 78; refine (bad_any ((hp.below a3).now hn1) hn1.rd).mono ?_; rintro e w3 ⟨rfl, hn3⟩)
      | (go_at_call 35; refine (HU1.out _ (h.below a3)).mono ?_; rintro e w1 ⟨rfl, hn1⟩)
      | (refine alG infoPz (by rfl) rfl ?_; intro gA wA a1 a2 a3 rA; have c1 := (hp.below a3).c))
    exact bodyPost_ret (retC rfl _ _ 0 rfl (lvP r5.range)) rfl ⟨rfl, (N4.after a3).fresh h hg5 a1⟩
  · have h0' : ((pl : Int) == 0) = false := by simp; omega
    have e0 := hrb0.out.2 h0
    subst e0
    clear hrb0 h0
    go_enter Try.func96, Try.ntmps96
    go_wp2_with (first
      | (have kk := hn4; refine stP0 (.tmp 4) (.tmp 19) (by rfl) rfl gA q _ (pcells_len _) rfl rfl (rA.nowS N4 (by omega)) ?_; intro w5 hg5 r5)
      | (go_at_call 80; refine (HP.out _ ((hpar.below a3).now (h.below a3) hn1) hn1.rd).mono ?_; rintro e w4 ⟨rfl, hn4⟩; have N4 := hn1.trans hn4)
      | (go_at_call 35; refine (HU1.out _ (h.below a3)).mono ?_; rintro e w1 ⟨rfl, hn1⟩)
      | (refine alG infoPz (by rfl) rfl ?_; intro gA wA a1 a2 a3 rA; have c1 := (hp.below a3).c))
    exact bodyPost_ret (retC rfl _ _ 0 rfl (lvP r5.range)) rfl ⟨rfl, (N4.after a3).fresh h hg5 a1⟩
end Go.Proofs.Ytaleclmccmeglaa
