/-
  The first way of which something is true; whether there is one; the way to take; whether ways starve: the program's.
-/
import Derived.Test.YtjjfijbjnkgfbaaY2
namespace Go.Proofs.Ytjjfijbjnkgfbaa
open Go.RowKit
set_option linter.unusedSimpArgs false
theorem fst_step {p : Cd → Bool} {l : List Cd} {j : Nat} (hj : j < l.length) (h : ∀ i c, i < j → l[i]? = some c → p c = false) (hp : p l[j] = true) : num (fst? p l) = j := by
  rw [fst_of ⟨l[j], List.getElem?_eq_getElem hj, hp, fun i c hi hc => h i c hi hc⟩]
  rfl
theorem fst_end {p : Cd → Bool} {l : List Cd} (h : ∀ i c, i < l.length → l[i]? = some c → p c = false) : num (fst? p l) = -1 := by
  rw [fst_not fun c hc => ?_]
  · rfl
  · obtain ⟨i, hi, rfl⟩ := List.mem_iff_getElem.1 hc
    exact h i _ hi (List.getElem?_eq_getElem hi)
theorem index_any (k : Nat) (p : Cd → Bool) (HE : ∀ args w, (callFunc k args).run Try.prog w = .ok (.enter k args) w) (hp : ∀ c W, Calls Try.prog k #[cdV c] W (Gives W (.bool (p c)))) (ad : Option Addr) (n cp : Nat) (l : List Cd) (w : World) (hn : n ≤ 140737488355328) (hs : Cs w ad n l) :
    Calls Try.prog 15 #[.slice ad n cp, .func (.func k) #[] #[]] w (Gives w (.int .i64 (num (fst? p l)))) := by
  have HL : Hid (l.length = n) := hs.len
  go_enter Try.func15, Try.ntmps15
  go_wp2
  go_loopw [8] (fun i wr => ∃ j : Nat, j ≤ n ∧ i = .int .i64 j ∧ (∀ i c, i < j → l[i]? = some c → p c = false) ∧ Below w.heap.size w wr) (fun i _ => n - (intOf i).toNat)
  case atStart => exact ⟨0, Nat.zero_le _, rfl, fun i _ h => absurd h (Nat.not_lt_zero i), Below.refl _ _⟩
  case round =>
    obtain ⟨j, hj, rfl, hno, hb⟩ := hrel
    rename World => W
    by_cases hlt : j < n
    · rcases hs.lies with h0 | ⟨g, o, rfl, hg, hl⟩
      · omega
      have hjl : j < l.length := by rw [HL.out]; exact hlt
      have hq := hl j _ (List.getElem?_eq_getElem hjl)
      have hlj : Hid (l[j]? = some l[j]) := List.getElem?_eq_getElem hjl
      have C := fun w => hp l[j] w
      have HF : Hid (p l[j] = true → num (fst? p l) = j) := fun h => fst_step hjl hno h
      replace hno : Hid (p l[j] = false → ∀ i c, i < j + 1 → l[i]? = some c → p c = false) := fun h i c hi hc => by
        by_cases e : i = j
        · subst e
          rw [hlj.out] at hc
          cases hc
          exact h
        · exact hno i c (by omega) hc
      generalize num (fst? p l) = R at *
      clear hlj
      generalize l[j] = q at *
      have c1 : W.cell? ⟨g, o + j * 3, none⟩ = some (.int .u16 q.m) := (hb.cell (p := ⟨g, o + j * 3, none⟩) hg).trans (hq 0 _ rfl)
      have c2 : W.cell? ⟨g, o + j * 3 + 1, none⟩ = some (.bool q.f) := (hb.cell (p := ⟨g, o + j * 3 + 1, none⟩) hg).trans (hq 1 _ rfl)
      have c3 : W.cell? ⟨g, o + j * 3 + 2, none⟩ = some (.bool q.s) := (hb.cell (p := ⟨g, o + j * 3 + 2, none⟩) hg).trans (hq 2 _ rfl)
      have hji : (j : Int) < (n : Int) := by omega
      have hbW := hb.size
      clear hl hq hs
      cases hpq : p q with
      | false =>
        replace hno := hno.out hpq
        replace hno : Hid (∀ i c, i < j + 1 → l[i]? = some c → p c = false) := hno
        rw [hpq] at C
        clear HF hpq
        go_wp2_with (have kk := C; refine (C _).mono ?_; rintro e w1 ⟨rfl, hB1⟩; clear C kk)
        go_roundw
        case rel => exact ⟨j + 1, by omega, by go_num, hno.out, hb.trans (hB1.mono hbW)⟩
        case measure => simp [intOf]; omega
      | true =>
        obtain rfl : R = j := HF.out hpq
        rw [hpq] at C
        clear HF hno hpq
        go_wp2_with (have kk := C; refine (C _).mono ?_; rintro e w1 ⟨rfl, hB1⟩; clear C kk)
        go_ret
        exact ⟨rfl, hb.trans (hB1.mono hbW)⟩
    · have hR : Hid (num (fst? p l) = -1) := fst_end fun i c hi hc => hno i c (by have := HL.out; omega) hc
      generalize num (fst? p l) = R at *
      obtain rfl := hR.out
      clear hno
      go_wp2
      go_ret
      exact ⟨rfl, hb⟩
theorem contains_any (k : Nat) (p : Cd → Bool) (HE : ∀ args w, (callFunc k args).run Try.prog w = .ok (.enter k args) w) (hp : ∀ c W, Calls Try.prog k #[cdV c] W (Gives W (.bool (p c)))) (ad : Option Addr) (n cp : Nat) (l : List Cd) (w : World) (hn : n ≤ 140737488355328) (hs : Cs w ad n l) :
    Calls Try.prog 18 #[.slice ad n cp, .func (.func k) #[] #[]] w (Gives w (.bool (l.any p))) := by
  have C := fun W (h : Below w.heap.size w W) => index_any k p HE hp ad n cp l W hn (hs.below (Nat.le_refl _) h)
  have HA : (l.any p = false ∧ num (fst? p l) = -1) ∨ (l.any p = true ∧ ∃ i : Nat, num (fst? p l) = i) := by
    cases e : fst? p l with
    | none =>
      refine .inl ⟨?_, rfl⟩
      rw [List.any_eq_false]
      intro c hc
      rw [fst_none e c hc]
      simp
    | some i =>
      obtain ⟨c, hc, hpc, _⟩ := fst_some e
      refine .inr ⟨?_, i, rfl⟩
      rw [List.any_eq_true]
      exact ⟨c, List.mem_of_getElem? hc, hpc⟩
  generalize num (fst? p l) = R at *
  generalize l.any p = A at *
  clear hs hp HE
  have hb := Below.refl w.heap.size w
  rcases HA with ⟨rfl, rfl⟩ | ⟨rfl, i, rfl⟩
  · go_enter Try.func18, Try.ntmps18
    go_wp2_with (have kk := C; go_at_call 15; refine (C _ hb).mono ?_; rintro e w1 ⟨rfl, hB1⟩; clear C kk)
    go_ret
    exact ⟨rfl, hB1⟩
  · have hi : (0 : Int) ≤ (i : Int) := Int.natCast_nonneg i
    go_enter Try.func18, Try.ntmps18
    go_wp2_with (have kk := C; go_at_call 15; refine (C _ hb).mono ?_; rintro e w1 ⟨rfl, hB1⟩; clear C kk)
    go_ret
    exact ⟨rfl, hB1⟩
end Go.Proofs.Ytjjfijbjnkgfbaa
