/-
  The contracts of take, Bytes, Rest and Done of octet.Reader for every reader that is there, whatever is asked.
-/
import Derived.Test.YtaleclmccmeglaaReader
namespace Go.Proofs.Ytaleclmccmeglaa
open Go.RowKit
variable {bv : Option Addr}

/-- Left, its world told: it only draws. -/
theorem left_drew (g : Nat) (l : List UInt8) (p : Nat) (y : Int) (w : World) (h : Rd w g bv l p y) :
    Calls Try.prog 38 #[.pointer (some ⟨g, 0, none⟩)] w fun e w' => e = .returned (.int .i64 ((l.length - p : Nat) : Int)) ∧ ∃ n, w' = w.drewN n := by
  obtain ⟨c, c0, c1, c2, hf, _⟩ := h.cells
  have hle := h.le
  have hbig := h.big
  have e : ((l.length - p : Nat) : Int) = (l.length : Int) - (p : Int) := by omega
  rw [e]
  clear hf e
  go_enter Try.func38, Try.ntmps38
  go_wp2
  go_quiet (fail)
  go_wp2
  go_ret
  exact ⟨rfl, _, rfl⟩

/-- What a reading of n bytes gives, the place and the error behind it. -/
def tkB (l : List UInt8) (p : Nat) (y n : Int) : List UInt8 := if y = 0 ∧ 0 ≤ n ∧ n ≤ ((l.length - p : Nat) : Int) then (l.drop p).take n.toNat else []
def tkE (l : List UInt8) (p : Nat) (y n : Int) : Int := if y ≠ 0 then y else if n < 0 then 2 else if n ≤ ((l.length - p : Nat) : Int) then 0 else 3

/-- What take answers. -/
def Took (w : World) (g : Nat) (bv : Option Addr) (l : List UInt8) (p : Nat) (y n : Int) (e : Ending) (w' : World) : Prop :=
  ∃ a c, e = .returned (.slice a (tkB l p y n).length c) ∧ Src w' a (tkB l p y n).length c (bcells (tkB l p y n)) ∧ Now w w' g bv l (p + (tkB l p y n).length) (tkE l p y n)

theorem took_none {w w' : World} {g : Nat} {l : List UInt8} {p : Nat} {y n z : Int} (eb : tkB l p y n = []) (ee : tkE l p y n = z) (h : Now w w' g bv l p z) : Took w g bv l p y n (.returned (.slice none 0 0)) w' := by
  unfold Took; rw [eb, ee]; exact ⟨none, 0, rfl, Src.nil w', h⟩
theorem took_some {w w' : World} {g : Nat} {l : List UInt8} {p k : Nat} {a : Option Addr} {c : Nat} (hk : p + k ≤ l.length) (h : Now w w' g bv l (p + k) 0) (hs : Src w' a k c (bcells ((l.drop p).take k))) : Took w g bv l p 0 k (.returned (.slice a k c)) w' := by
  have eb : tkB l p 0 k = (l.drop p).take k := by unfold tkB; rw [if_pos (by omega)]; simp
  have ee : tkE l p 0 k = 0 := by unfold tkE; rw [if_neg (by simp), if_neg (by omega), if_pos (by omega)]
  have el : ((l.drop p).take k).length = k := by simp; omega
  unfold Took; rw [eb, ee, el]; exact ⟨a, c, rfl, hs, h⟩
/-- A part of what a slice leads to. -/
theorem Src.part {w : World} {ad : Addr} {n c p k : Nat} {xs : List Value} (h : Src w (some ad) n c xs) (d : Nat) : Src w (some (ad.add p)) ((xs.drop p).take k).length d ((xs.drop p).take k) := by
  refine ⟨rfl, (fun h => by cases h), fun ad' had j u hu => ?_⟩
  cases had
  have e : (ad.add p).add j = ad.add (p + j) := by
    unfold Addr.add
    by_cases hp : p = 0 <;> by_cases hj : j = 0 <;> simp [hp, hj, Nat.add_assoc]
  rw [e]
  refine h.cell ad rfl (p + j) u ?_
  rw [List.getElem?_take] at hu
  split at hu
  · rwa [List.getElem?_drop] at hu
  · cases hu
theorem bcells_part (l : List UInt8) (p k : Nat) : ((bcells l).drop p).take k = bcells ((l.drop p).take k) := by simp [bcells]

theorem take_no (g : Nat) (l : List UInt8) (p : Nat) (y n : Int) (w : World) (h : Rd w g bv l p y) (hy : y ≠ 0) : Calls Try.prog 69 #[.pointer (some ⟨g, 0, none⟩), .int .i64 n] w (Took w g bv l p y n) := by
  obtain ⟨c, c0, c1, c2, hf, hc, hs⟩ := h.cells
  have hne := h.ne
  clear hf
  have HY : Hid (y ≠ 0) := hy
  have hy' : (y == 0) = false := by simpa using hy
  clear hy
  go_enter Try.func69, Try.ntmps69
  go_wp2
  go_ret
  have hy := HY.out
  exact took_none (by simp [tkB, hy]) (by simp [tkE, hy]) h.now

theorem take_neg (g : Nat) (l : List UInt8) (p : Nat) (n : Int) (w : World) (h : Rd w g bv l p 0) (hn : n < 0) : Calls Try.prog 69 #[.pointer (some ⟨g, 0, none⟩), .int .i64 n] w (Took w g bv l p 0 n) := by
  obtain ⟨c, c0, c1, c2, hf, hc, hs⟩ := h.cells
  have hne := h.ne
  clear hf
  go_enter Try.func69, Try.ntmps69
  go_wp2_with (go_at_call 92; refine (fail_any g l p 0 2 w h).mono ?_; rintro e w0 ⟨rfl, hn0⟩)
  go_ret
  exact took_none (by unfold tkB; rw [if_neg (by omega)]) (by simp [tkE, hn]) hn0

theorem take_short (g : Nat) (l : List UInt8) (p : Nat) (n : Int) (w : World) (h : Rd w g bv l p 0) (hn : ((l.length - p : Nat) : Int) < n) : Calls Try.prog 69 #[.pointer (some ⟨g, 0, none⟩), .int .i64 n] w (Took w g bv l p 0 n) := by
  obtain ⟨c, c0, c1, c2, hf, hc, hs⟩ := h.cells
  have hne := h.ne
  clear hf
  have h0 : 0 ≤ n := by omega
  go_enter Try.func69, Try.ntmps69
  go_wp2_with (first
    | (go_at_call 92; refine (fail_any g l p 0 3 _ (h.drewN m).rd).mono ?_; rintro e w0 ⟨rfl, hn0⟩)
    | (go_at_call 38; refine (left_drew g l p 0 w h).mono ?_; rintro e w0 ⟨rfl, m, rfl⟩))
  go_ret
  exact took_none (by unfold tkB; rw [if_neg (by omega)]) (by unfold tkE; rw [if_neg (by simp), if_neg (by omega), if_neg (by omega)]; simp) ((h.drewN m).trans hn0)

theorem take_yes (g : Nat) (l : List UInt8) (p k : Nat) (w : World) (h : Rd w g bv l p 0) (hk : p + k ≤ l.length) : Calls Try.prog 69 #[.pointer (some ⟨g, 0, none⟩), .int .i64 k] w (Took w g bv l p 0 k) := by
  obtain ⟨c, c0, c1, c2, hf, hc, hs⟩ := h.cells
  have hne := h.ne
  have hr := h
  have f1 := hf 1
  have hbig := h.big
  clear hf
  have n1 : ¬ l.length - p < k := by omega
  have n0 : (0 : Int) ≤ (k : Int) := by omega
  have fin : ∀ m nq, Now w (((w.drewN m).setCell ⟨g, 1, none⟩ (.int .i64 ((p : Int) + (k : Int)))).drewN nq) g bv l (p + k) 0 := fun m nq => by
    have e : ((p : Int) + (k : Int)) = ((p + k : Nat) : Int) := by omega
    rw [e]
    have t1 := (h.drewN m).rd.setAt (p + k) hk
    exact (h.drewN m).trans (t1.trans (t1.rd.drewN nq))
  have FIN : Hid (∀ m nq, Now w (((w.drewN m).setCell ⟨g, 1, none⟩ (.int .i64 ((p : Int) + (k : Int)))).drewN nq) g bv l (p + k) 0) := fin
  clear fin
  cases bv with
  | none =>
    go_enter Try.func69, Try.ntmps69
    go_wp2_with (go_at_call 38; refine (left_drew g l p 0 w h).mono ?_; rintro e w0 ⟨rfl, m, rfl⟩)
    go_quiet (fail)
    go_wp2
    go_ret
    obtain ⟨hl, rfl⟩ := hs.bare rfl
    have hp0 : p = 0 := by omega
    have hk0 : k = 0 := by omega
    have hl0 : l = [] := List.eq_nil_of_length_eq_zero hl
    have hF := FIN.out m nq
    subst hp0 hk0 hl0
    exact took_some (Nat.le_refl _) hF (Src.nil _)
  | some ad =>
    have HN : Hid (∀ ad_1, some ad = some ad_1 → ad_1.block ≠ g) := hne
    clear hne
    go_enter Try.func69, Try.ntmps69
    go_wp2_with (go_at_call 38; refine (left_drew g l p 0 w h).mono ?_; rintro e w0 ⟨rfl, m, rfl⟩)
    go_quiet (fail)
    go_wp2
    all_goals
      go_ret
      have hF := FIN.out m nq
      have hs2 := hs.grown hF.grown (fun ad' had _ e => HN.out ad' had (Option.some.inj e))
    · have hk0 : k = 0 := by omega
      subst hk0
      exact took_some hk hF ⟨by simp [bcells], (fun h => by cases h), fun _ _ j u hu => by simp [bcells] at hu⟩
    · have h3 := hs2.part (p := p) (k := k) (c - p)
      rw [bcells_part] at h3
      have el : (bcells ((l.drop p).take k)).length = k := by simp [bcells]; omega
      rw [el] at h3
      exact took_some hk hF h3

/-- take, whatever is asked. -/
theorem take_any (g : Nat) (l : List UInt8) (p : Nat) (y n : Int) (w : World) (h : Rd w g bv l p y) : Calls Try.prog 69 #[.pointer (some ⟨g, 0, none⟩), .int .i64 n] w (Took w g bv l p y n) := by
  by_cases hy : y = 0
  · subst hy
    by_cases h0 : n < 0
    · exact take_neg g l p n w h h0
    · by_cases h1 : ((l.length - p : Nat) : Int) < n
      · exact take_short g l p n w h h1
      · obtain ⟨k, rfl⟩ : ∃ k : Nat, n = k := ⟨n.toNat, by omega⟩
        have := h.le
        exact take_yes g l p k w h (by omega)
  · exact take_no g l p y n w h hy

theorem tkB_len (l : List UInt8) (p : Nat) (y n : Int) (hp : p ≤ l.length) : p + (tkB l p y n).length ≤ l.length := by
  unfold tkB; split <;> simp <;> omega

/-- Reader.Bytes. -/
theorem bytes_any (g : Nat) (l : List UInt8) (p : Nat) (y n : Int) (w : World) (h : Rd w g bv l p y) :
    Calls Try.prog 39 #[.pointer (some ⟨g, 0, none⟩), .int .i64 n] w fun e w' => ∃ a c, e = .returned (.slice a (tkB l p y n).length c) ∧ Src w' a (tkB l p y n).length c (bcells (tkB l p y n)) ∧ (∀ ad, a = some ad → w.heap.size ≤ ad.block) ∧ Now w w' g bv l (p + (tkB l p y n).length) (tkE l p y n) := by
  have hb := h.big
  have hl := tkB_len l p y n h.le
  go_enter Try.func39, Try.ntmps39
  go_wp2_with (first
    | (go_at_call 69; refine (take_any g l p y n w h).mono ?_; rintro e w0 ⟨a0, c0, rfl, hs0, hn0⟩)
    | (go_at_call 67; refine (clone_any a0 _ c0 (tkB l p y n) w0 hs0 (by omega)).mono ?_; rintro e w1 ⟨a1, c1, rfl, hown, hb1⟩))
  go_ret
  obtain ⟨a2, c2, hv, hs2, hlt⟩ := Src.ofOwn hown
  cases hv
  exact ⟨a1, c1, rfl, hs2, fun ad had => Nat.le_trans hn0.grown.size (hlt ad had).1, ⟨hn0.rd.below hb1, grownBy_trans hn0.grown (grownBy_below _ hb1)⟩⟩

/-- Reader.Rest. -/
theorem rest_any (g : Nat) (l : List UInt8) (p : Nat) (y : Int) (w : World) (h : Rd w g bv l p y) :
    Calls Try.prog 40 #[.pointer (some ⟨g, 0, none⟩)] w fun e w' => ∃ a c, e = .returned (.slice a (tkB l p y (l.length - p : Nat)).length c) ∧ Src w' a (tkB l p y (l.length - p : Nat)).length c (bcells (tkB l p y (l.length - p : Nat))) ∧ (∀ ad, a = some ad → w.heap.size ≤ ad.block) ∧ Now w w' g bv l (p + (tkB l p y (l.length - p : Nat)).length) (tkE l p y (l.length - p : Nat)) := by
  go_enter Try.func40, Try.ntmps40
  go_wp2_with (first
    | (go_at_call 38; refine (left_any g l p y w h).mono ?_; rintro e w0 ⟨rfl, hn0⟩)
    | (go_at_call 39; refine (bytes_any g l p y _ w0 hn0.rd).mono ?_; rintro e w1 ⟨a1, c1, rfl, hs1, hge, hn1⟩))
  go_ret
  exact ⟨a1, c1, rfl, hs1, fun ad had => Nat.le_trans hn0.grown.size (hge ad had), hn0.trans hn1⟩

/-- Reader.Done. -/
def dnE (l : List UInt8) (p : Nat) (y : Int) : Int := if y = 0 ∧ p < l.length then 4 else y
end Go.Proofs.Ytaleclmccmeglaa
