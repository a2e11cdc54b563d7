/-
  The law PickGreedy returns true for every input.
-/
import Derived.Test.YtjjfijbjnkgfbaaY7
namespace Go.Proofs.Ytjjfijbjnkgfbaa
open Go.RowKit
set_option linter.unusedSimpArgs false
set_option linter.unusedVariables false
set_option maxRecDepth 20000
theorem pkd_none {l : List Cd} (h : ∀ c ∈ l, st c = false) (mg : Int) : pkd mg l = best l := by
  unfold pkd
  rw [fst_not h]
theorem st_us {c : Cd} (h : st c = true) : us c = true := by unfold st at h; simp at h; exact h.2
theorem no_st {l : List Cd} (h : (best l).2 = false) : ∀ c ∈ l, st c = false := fun c hc => by
  have := (best_no h).2 c hc
  unfold st
  rw [this]
  simp
theorem greedy_hit {l : List Cd} (hk : ∀ c ∈ l, c.ok) {i : Nat} (hj : i < l.length) (hs : st l[i] = true) (hno : ∀ k c, k < i → l[k]? = some c → st c = false) :
    (pkd 0 l).1 < l.length ∧ mAt l (pkd 0 l).1 = mAt l (best l).1 ∧ (pkd 65535 l).1 = i := by
  have e := fst_of ⟨l[i], List.getElem?_eq_getElem hj, hs, hno⟩
  have hB : (best l).2 = true := by
    rw [best_any, List.any_eq_true]
    exact ⟨_, List.getElem_mem hj, st_us hs⟩
  obtain ⟨b, hb, hlt, hu, hm⟩ := best_is hB
  have m1 := (hm i _ hj (List.getElem?_eq_getElem hj) (st_us hs)).1
  have m2 := mAt_of (List.getElem?_eq_getElem hj)
  have m3 := mAt_of hb
  have k1 := mAt_ok hk i
  have k2 := mAt_ok hk (best l).1
  unfold pkd
  rw [e]
  dsimp only
  refine ⟨?_, ?_, ?_⟩
  · split
    · exact hj
    · exact hlt
  · split
    · show mAt l i = _
      omega
    · rfl
  · rw [if_pos (by omega)]
theorem greedy_long (ad : Option Addr) (n k : Nat) (w : World) (h : 300 < n) :
    Calls Try.prog 6 #[.slice ad n k] w (Gives w (.bool true)) := by
  have hi : (300 : Int) < (n : Int) := by omega
  go_enter Try.func6, Try.ntmps6
  go_wp2_with (go_at_call 7; refine (live_any _).mono ?_; rintro e w' ⟨rfl, hw⟩)
  go_ret
  exact ⟨rfl, hw⟩
theorem greedy_walk (ad : Option Addr) (n k : Nat) (l : List Cd) (w : World) (hn : n ≤ 300) (hs : Cs w ad n l) :
    Calls Try.prog 6 #[.slice ad n k] w (Gives w (.bool true)) := by
  have HL : Hid (l.length = n) := hs.len
  have hi : ¬ (300 : Int) < (n : Int) := by omega
  have C1 := fun W (h : Below w.heap.size w W) => pick_prog 0 ad n k l W (by omega) (by decide) (by decide) (hs.below (Nat.le_refl _) h)
  have C2 := fun W (h : Below w.heap.size w W) => best_prog ad n k l W (by omega) (hs.below (Nat.le_refl _) h)
  have C3 := fun W (h : Below w.heap.size w W) => pick_prog 65535 ad n k l W (by omega) (by decide) (by decide) (hs.below (Nat.le_refl _) h)
  have hb := Below.refl w.heap.size w
  go_enter Try.func6, Try.ntmps6
  go_wp2_with (first
    | (have kk := C1; go_at_call 9; refine (C1 _ hb).mono ?_; rintro e w1 ⟨rfl, k1⟩; clear C1 kk; replace hb := bt hb k1; clear k1)
    | (have kk := C2; go_at_call 8; refine (C2 _ hb).mono ?_; rintro e w2 ⟨rfl, k1⟩; clear C2 kk; replace hb := bt hb k1; clear k1)
    | (have kk := C3; go_at_call 9; refine (C3 _ hb).mono ?_; rintro e w3 ⟨rfl, k1⟩; clear C3 kk; replace hb := bt hb k1; clear k1))
  go_loopw [9] (fun i wr => ∃ j : Nat, j ≤ n ∧ i = .int .i64 j ∧ (∀ i c, i < j → l[i]? = some c → st c = false) ∧ Below w.heap.size w wr) (fun i _ => n - (intOf i).toNat)
  case atStart => exact ⟨0, Nat.zero_le _, rfl, fun i _ h => absurd h (Nat.not_lt_zero i), hb⟩
  case round =>
    clear hb
    obtain ⟨j, hj, rfl, hno, hb⟩ := hrel
    rename World => W
    have E : Hid ((best l).2 = false ∨ j = n → (pkd 0 l).1 = (best l).1 ∧ (pkd 65535 l).1 = (best l).1) := fun h => by
      have hz : ∀ c ∈ l, st c = false := by
        rcases h with h | h
        · exact no_st h
        · intro c hc
          obtain ⟨i, hi, rfl⟩ := List.mem_iff_getElem.1 hc
          exact hno i _ (by have := HL.out; omega) (List.getElem?_eq_getElem hi)
      rw [pkd_none hz, pkd_none hz]
      exact ⟨rfl, rfl⟩
    have hu := pkd_some 0 l
    cases eB : (best l).2 with
    | false =>
      rw [eB] at hu
      obtain ⟨x1, x2⟩ := E.out (.inl eB)
      rw [hu, x1, x2]
      clear E hno hs HL eB hu x1 x2
      generalize (best l).1 = b at *
      by_cases hlt : j < n
      · have hji : (j : Int) < (n : Int) := by omega
        go_wp2_with (go_at_call 7; refine (live_any _).mono ?_; rintro e w' ⟨rfl, hw⟩)
        go_ret
        exact ⟨rfl, bt hb hw⟩
      · have hji : ¬ (j : Int) < (n : Int) := by omega
        go_wp2_with (go_at_call 7; refine (live_any _).mono ?_; rintro e w' ⟨rfl, hw⟩)
        go_ret
        exact ⟨rfl, bt hb hw⟩
    | true =>
      rw [eB] at hu
      rw [hu]
      by_cases hlt : j < n
      · rcases hs.lies with h0 | ⟨g, o, rfl, hg, hl⟩
        · omega
        have hji : (j : Int) < (n : Int) := by omega
        have hjl : j < l.length := by rw [HL.out]; exact hlt
        have hq := hl j _ (List.getElem?_eq_getElem hjl)
        have hlj : Hid (l[j]? = some l[j]) := List.getElem?_eq_getElem hjl
        have ok := hs.small l[j] (List.getElem_mem hjl)
        have HH : Hid (st l[j] = true → (pkd 0 l).1 < n ∧ mAt l (pkd 0 l).1 = mAt l (best l).1 ∧ (pkd 65535 l).1 = j) := fun h => by
          have q := greedy_hit hs.small hjl h hno
          rw [HL.out] at q
          exact q
        replace hno : Hid (st l[j] = false → ∀ i c, i < j + 1 → l[i]? = some c → st c = false) := fun h i c hi hc => by
          by_cases e : i = j
          · subst e
            rw [hlj.out] at hc
            cases hc
            exact h
          · exact hno i c (by omega) hc
        have hbl : (best l).1 < l.length := bz_lt l l.length (Nat.le_refl _) (by omega)
        have D : Hid (∀ W, Below w.heap.size w W → ∀ i, i < n → W.cell? ⟨g, o + i * 3, none⟩ = some (.int .u16 (mAt l i))) := fun W h i hi => Cs.at hl hg h i (by rw [HL.out]; exact hi)
        rw [HL.out] at hbl
        have ex : st l[j] = (l[j].s && (l[j].f && !(l[j].m == 65535))) := by
          rw [← us_ref ok]
          rfl
        rw [ex] at HH hno
        clear ex hs hlj E hu eB
        generalize l[j] = q at *
        generalize (pkd 65535 l).1 = c at *
        generalize (pkd 0 l).1 = a at *
        generalize (best l).1 = b at *
        have c1 : W.cell? ⟨g, o + j * 3, none⟩ = some (.int .u16 q.m) := (hb.cell (p := ⟨g, o + j * 3, none⟩) hg).trans (hq 0 _ rfl)
        have c2 : W.cell? ⟨g, o + j * 3 + 1, none⟩ = some (.bool q.f) := (hb.cell (p := ⟨g, o + j * 3 + 1, none⟩) hg).trans (hq 1 _ rfl)
        have c3 : W.cell? ⟨g, o + j * 3 + 2, none⟩ = some (.bool q.s) := (hb.cell (p := ⟨g, o + j * 3 + 2, none⟩) hg).trans (hq 2 _ rfl)
        obtain ⟨qm, qf, qs⟩ := q
        dsimp only at *
        have hbW := hb.size
        clear hl hq ok
        cases qs with
        | false =>
          replace hno : Hid (∀ i c, i < j + 1 → l[i]? = some c → st c = false) := hno.out (by simp)
          clear HH D
          go_wp2_with (fail)
          go_roundw
          case rel => exact ⟨j + 1, by omega, by go_num, hno.out, hb⟩
          case measure => simp [intOf]; omega
        | true =>
          cases qf with
          | false =>
            replace hno : Hid (∀ i c, i < j + 1 → l[i]? = some c → st c = false) := hno.out (by simp)
            clear HH D
            go_wp2_with (fail)
            go_roundw
            case rel => exact ⟨j + 1, by omega, by go_num, hno.out, hb⟩
            case measure => simp [intOf]; omega
          | true =>
            by_cases hm : qm = 65535
            · subst hm
              replace hno : Hid (∀ i c, i < j + 1 → l[i]? = some c → st c = false) := hno.out (by simp)
              clear HH D
              go_wp2_with (fail)
              go_roundw
              case rel => exact ⟨j + 1, by omega, by go_num, hno.out, hb⟩
              case measure => simp [intOf]; omega
            · obtain ⟨x1, x2, rfl⟩ := HH.out (by simp [hm])
              replace D : Hid (∀ W, Below w.heap.size w W → Below w.heap.size w W ∧ W.cell? ⟨g, o + a * 3, none⟩ = some (.int .u16 (mAt l b)) ∧ W.cell? ⟨g, o + b * 3, none⟩ = some (.int .u16 (mAt l b))) := fun W h => ⟨h, by rw [← x2]; exact D.out W h a x1, D.out W h b hbl⟩
              generalize mAt l b = y at *
              have hm' : (qm != 65535) = true := by simpa using hm
              have a0 : (0 : Int) ≤ (a : Int) := by omega
              have a1 : (a : Int) < (n : Int) := by omega
              have b0 : (0 : Int) ≤ (b : Int) := by omega
              have b1 : (b : Int) < (n : Int) := by omega
              clear hno HH x1 x2 hbl
              go_wp2_with (fail)
              refine wp_region_noPanic ?_
              refine wp_region_held_drew (S := fun W1 => Below w.heap.size w W1 ∧ W1.cell? ⟨g, o + a * 3, none⟩ = some (.int .u16 y) ∧ W1.cell? ⟨g, o + b * 3, none⟩ = some (.int .u16 y)) (by kernel_rfl) (D.out _ hb.drew) (fun hHeld => ?_)
              refine take_lit (i := 0) (v := ?_) rfl (by kernel_rfl) (by kernel_rfl) (by kernel_rfl) (fun _ _ _ h => h) (Or.inl ⟨by rfl, ?_⟩) (by assumption) ?_
              rotate_left
              · (intro w hSw; (try dsimp only at hSw); go_simp <;> with_reducible rfl)
              try simp only [Act.put, List.setIfInBounds_toArray, List.set_cons_zero, List.set_cons_succ]
              refine take_lit (i := 1) (v := ?_) rfl (by kernel_rfl) (by kernel_rfl) (by kernel_rfl) (fun _ _ _ h => h) (Or.inl ⟨by rfl, ?_⟩) (by assumption) ?_
              rotate_left
              · (intro w hSw; (try dsimp only at hSw); go_simp <;> with_reducible rfl)
              try simp only [Act.put, List.setIfInBounds_toArray, List.set_cons_zero, List.set_cons_succ]
              refine take_lit (i := 2) (v := ?_) rfl (by kernel_rfl) (by kernel_rfl) (by kernel_rfl) (fun _ _ _ h => h) (Or.inl ⟨by rfl, ?_⟩) (by assumption) ?_
              rotate_left
              · (intro w hSw; (try dsimp only at hSw); go_simp <;> with_reducible rfl)
              try simp only [Act.put, List.setIfInBounds_toArray, List.set_cons_zero, List.set_cons_succ]
              refine take_lit (i := 3) (v := ?_) rfl (by kernel_rfl) (by kernel_rfl) (by kernel_rfl) (fun _ _ _ h => h) (Or.inl ⟨by rfl, ?_⟩) (by assumption) ?_
              rotate_left
              · (intro w hSw; (try dsimp only at hSw); go_simp <;> with_reducible rfl)
              try simp only [Act.put, List.setIfInBounds_toArray, List.set_cons_zero, List.set_cons_succ]
              refine take_lit (i := 4) (v := ?_) rfl (by kernel_rfl) (by kernel_rfl) (by kernel_rfl) (fun _ _ _ h => h) (Or.inl ⟨by rfl, ?_⟩) (by assumption) ?_
              rotate_left
              · (intro w hSw; (try dsimp only at hSw); go_simp <;> with_reducible rfl)
              try simp only [Act.put, List.setIfInBounds_toArray, List.set_cons_zero, List.set_cons_succ]
              refine take_lit (i := 5) (v := ?_) rfl (by kernel_rfl) (by kernel_rfl) (by kernel_rfl) (fun _ _ _ h => h) (Or.inl ⟨by rfl, ?_⟩) (by assumption) ?_
              rotate_left
              · (intro w hSw; (try dsimp only at hSw); go_simp <;> with_reducible rfl)
              try simp only [Act.put, List.setIfInBounds_toArray, List.set_cons_zero, List.set_cons_succ]
              refine take_lit (i := 6) (v := ?_) rfl (by kernel_rfl) (by kernel_rfl) (by kernel_rfl) (fun _ _ _ h => h) (Or.inl ⟨by rfl, ?_⟩) (by assumption) ?_
              rotate_left
              · (intro w hSw; (try dsimp only at hSw); go_simp <;> with_reducible rfl)
              try simp only [Act.put, List.setIfInBounds_toArray, List.set_cons_zero, List.set_cons_succ]
              refine take_lit (i := 7) (v := ?_) rfl (by kernel_rfl) (by kernel_rfl) (by kernel_rfl) (fun _ _ _ h => h) (Or.inl ⟨by rfl, ?_⟩) (by assumption) ?_
              rotate_left
              · (intro w hSw; (try dsimp only at hSw); go_simp <;> with_reducible rfl)
              try simp only [Act.put, List.setIfInBounds_toArray, List.set_cons_zero, List.set_cons_succ]
              refine take_lit (i := 8) (v := ?_) rfl (by kernel_rfl) (by kernel_rfl) (by kernel_rfl) (fun _ _ _ h => h) (Or.inl ⟨by rfl, ?_⟩) (by assumption) ?_
              rotate_left
              · (intro w hSw; (try dsimp only at hSw); go_simp <;> with_reducible rfl)
              try simp only [Act.put, List.setIfInBounds_toArray, List.set_cons_zero, List.set_cons_succ]
              refine take_lit (i := 9) (v := ?_) rfl (by kernel_rfl) (by kernel_rfl) (by kernel_rfl) (fun _ _ _ h => h) (Or.inl ⟨by rfl, ?_⟩) (by assumption) ?_
              rotate_left
              · (intro w hSw; (try dsimp only at hSw); go_simp <;> with_reducible rfl)
              try simp only [Act.put, List.setIfInBounds_toArray, List.set_cons_zero, List.set_cons_succ]
              refine take_lit (i := 10) (v := ?_) rfl (by kernel_rfl) (by kernel_rfl) (by kernel_rfl) (fun _ _ _ h => h) (Or.inl ⟨by rfl, ?_⟩) (by assumption) ?_
              rotate_left
              · (intro w hSw; (try dsimp only at hSw); go_simp <;> with_reducible rfl)
              try simp only [Act.put, List.setIfInBounds_toArray, List.set_cons_zero, List.set_cons_succ]
              refine take_lit (i := 11) (v := ?_) rfl (by kernel_rfl) (by kernel_rfl) (by kernel_rfl) (fun _ _ _ h => h) (Or.inl ⟨by rfl, ?_⟩) (by assumption) ?_
              rotate_left
              · (intro w hSw; (try dsimp only at hSw); go_simp <;> with_reducible rfl)
              try simp only [Act.put, List.setIfInBounds_toArray, List.set_cons_zero, List.set_cons_succ]
              refine take_lit (i := 12) (v := ?_) rfl (by kernel_rfl) (by kernel_rfl) (by kernel_rfl) (fun _ _ _ h => h) (Or.inl ⟨by rfl, ?_⟩) (by assumption) ?_
              rotate_left
              · (intro w hSw; (try dsimp only at hSw); go_simp <;> with_reducible rfl)
              try simp only [Act.put, List.setIfInBounds_toArray, List.set_cons_zero, List.set_cons_succ]
              refine take_lit (i := 13) (v := ?_) rfl (by kernel_rfl) (by kernel_rfl) (by kernel_rfl) (fun _ _ _ h => h) (Or.inl ⟨by rfl, ?_⟩) (by assumption) ?_
              rotate_left
              · (intro w hSw; (try dsimp only at hSw); go_simp <;> with_reducible rfl)
              try simp only [Act.put, List.setIfInBounds_toArray, List.set_cons_zero, List.set_cons_succ]
              refine take_lit (i := 14) (v := ?_) rfl (by kernel_rfl) (by kernel_rfl) (by kernel_rfl) (fun _ _ _ h => h) (Or.inl ⟨by rfl, ?_⟩) (by assumption) ?_
              rotate_left
              · (intro w hSw; (try dsimp only at hSw); go_simp <;> with_reducible rfl)
              try simp only [Act.put, List.setIfInBounds_toArray, List.set_cons_zero, List.set_cons_succ]
              refine take_lit (i := 15) (v := ?_) rfl (by kernel_rfl) (by kernel_rfl) (by kernel_rfl) (fun _ _ _ h => h) (Or.inl ⟨by rfl, ?_⟩) (by assumption) ?_
              rotate_left
              · (intro w hSw; (try dsimp only at hSw); go_simp <;> with_reducible rfl)
              try simp only [Act.put, List.setIfInBounds_toArray, List.set_cons_zero, List.set_cons_succ]
              refine take_lit (i := 16) (v := ?_) rfl (by kernel_rfl) (by kernel_rfl) (by kernel_rfl) (fun _ _ _ h => h) (Or.inl ⟨by rfl, ?_⟩) (by assumption) ?_
              rotate_left
              · (intro w hSw; (try dsimp only at hSw); go_simp <;> with_reducible rfl)
              try simp only [Act.put, List.setIfInBounds_toArray, List.set_cons_zero, List.set_cons_succ]
              refine take_lit (i := 17) (v := ?_) rfl (by kernel_rfl) (by kernel_rfl) (by kernel_rfl) (fun _ _ _ h => h) (Or.inl ⟨by rfl, ?_⟩) (by assumption) ?_
              rotate_left
              · (intro w hSw; (try dsimp only at hSw); go_simp <;> with_reducible rfl)
              try simp only [Act.put, List.setIfInBounds_toArray, List.set_cons_zero, List.set_cons_succ]
              refine take_lit (i := 18) (v := ?_) rfl (by kernel_rfl) (by kernel_rfl) (by kernel_rfl) (fun _ _ _ h => h) (Or.inl ⟨by rfl, ?_⟩) (by assumption) ?_
              rotate_left
              · (intro w hSw; (try dsimp only at hSw); go_simp <;> with_reducible rfl)
              try simp only [Act.put, List.setIfInBounds_toArray, List.set_cons_zero, List.set_cons_succ]
              refine take_lit (i := 19) (v := ?_) rfl (by kernel_rfl) (by kernel_rfl) (by kernel_rfl) (fun _ _ _ h => h) (Or.inl ⟨by rfl, ?_⟩) (by assumption) ?_
              rotate_left
              · (intro w hSw; (try dsimp only at hSw); go_simp <;> with_reducible rfl)
              try simp only [Act.put, List.setIfInBounds_toArray, List.set_cons_zero, List.set_cons_succ]
              refine take_lit (i := 20) (v := ?_) rfl (by kernel_rfl) (by kernel_rfl) (by kernel_rfl) (fun _ _ _ h => h) (Or.inl ⟨by rfl, ?_⟩) (by assumption) ?_
              rotate_left
              · (intro w hSw; (try dsimp only at hSw); go_simp <;> with_reducible rfl)
              try simp only [Act.put, List.setIfInBounds_toArray, List.set_cons_zero, List.set_cons_succ]
              refine take_lit (i := 21) (v := ?_) rfl (by kernel_rfl) (by kernel_rfl) (by kernel_rfl) (fun _ _ _ h => h) (Or.inl ⟨by rfl, ?_⟩) (by assumption) ?_
              rotate_left
              · (intro w hSw; (try dsimp only at hSw); go_simp <;> with_reducible rfl)
              try simp only [Act.put, List.setIfInBounds_toArray, List.set_cons_zero, List.set_cons_succ]
              refine take_lit (i := 22) (v := ?_) rfl (by kernel_rfl) (by kernel_rfl) (by kernel_rfl) (fun _ _ _ h => h) (Or.inl ⟨by rfl, ?_⟩) (by assumption) ?_
              rotate_left
              · (intro w hSw; (try dsimp only at hSw); go_simp <;> with_reducible rfl)
              try simp only [Act.put, List.setIfInBounds_toArray, List.set_cons_zero, List.set_cons_succ]
              refine take_lit (i := 23) (v := ?_) rfl (by kernel_rfl) (by kernel_rfl) (by kernel_rfl) (fun _ _ _ h => h) (Or.inl ⟨by rfl, ?_⟩) (by assumption) ?_
              rotate_left
              · (intro w hSw; (try dsimp only at hSw); obtain ⟨_, hz, _⟩ := hSw; go_simp <;> with_reducible rfl)
              try simp only [Act.put, List.setIfInBounds_toArray, List.set_cons_zero, List.set_cons_succ]
              refine take_lit (i := 24) (v := ?_) rfl (by kernel_rfl) (by kernel_rfl) (by kernel_rfl) (fun _ _ _ h => h) (Or.inl ⟨by rfl, ?_⟩) (by assumption) ?_
              rotate_left
              · (intro w hSw; (try dsimp only at hSw); go_simp <;> with_reducible rfl)
              try simp only [Act.put, List.setIfInBounds_toArray, List.set_cons_zero, List.set_cons_succ]
              refine take_lit (i := 25) (v := ?_) rfl (by kernel_rfl) (by kernel_rfl) (by kernel_rfl) (fun _ _ _ h => h) (Or.inl ⟨by rfl, ?_⟩) (by assumption) ?_
              rotate_left
              · (intro w hSw; (try dsimp only at hSw); go_simp <;> with_reducible rfl)
              try simp only [Act.put, List.setIfInBounds_toArray, List.set_cons_zero, List.set_cons_succ]
              refine take_lit (i := 26) (v := ?_) rfl (by kernel_rfl) (by kernel_rfl) (by kernel_rfl) (fun _ _ _ h => h) (Or.inl ⟨by rfl, ?_⟩) (by assumption) ?_
              rotate_left
              · (intro w hSw; (try dsimp only at hSw); go_simp <;> with_reducible rfl)
              try simp only [Act.put, List.setIfInBounds_toArray, List.set_cons_zero, List.set_cons_succ]
              refine take_lit (i := 27) (v := ?_) rfl (by kernel_rfl) (by kernel_rfl) (by kernel_rfl) (fun _ _ _ h => h) (Or.inl ⟨by rfl, ?_⟩) (by assumption) ?_
              rotate_left
              · (intro w hSw; (try dsimp only at hSw); go_simp <;> with_reducible rfl)
              try simp only [Act.put, List.setIfInBounds_toArray, List.set_cons_zero, List.set_cons_succ]
              refine take_lit (i := 28) (v := ?_) rfl (by kernel_rfl) (by kernel_rfl) (by kernel_rfl) (fun _ _ _ h => h) (Or.inl ⟨by rfl, ?_⟩) (by assumption) ?_
              rotate_left
              · (intro w hSw; (try dsimp only at hSw); obtain ⟨_, _, hz⟩ := hSw; go_simp <;> with_reducible rfl)
              try simp only [Act.put, List.setIfInBounds_toArray, List.set_cons_zero, List.set_cons_succ]
              refine take_lit (i := 29) (v := ?_) rfl (by kernel_rfl) (by kernel_rfl) (by kernel_rfl) (fun _ _ _ h => h) (Or.inl ⟨by rfl, ?_⟩) (by assumption) ?_
              rotate_left
              · (intro w hSw; (try dsimp only at hSw); go_simp <;> with_reducible rfl)
              try simp only [Act.put, List.setIfInBounds_toArray, List.set_cons_zero, List.set_cons_succ]
              refine take_lit (i := 30) (v := ?_) rfl (by kernel_rfl) (by kernel_rfl) (by kernel_rfl) (fun _ _ _ h => h) (Or.inl ⟨by rfl, ?_⟩) (by assumption) ?_
              rotate_left
              · (intro w hSw; (try dsimp only at hSw); go_simp <;> with_reducible rfl)
              try simp only [Act.put, List.setIfInBounds_toArray, List.set_cons_zero, List.set_cons_succ]
              refine take_lit (i := 31) (v := ?_) rfl (by kernel_rfl) (by kernel_rfl) (by kernel_rfl) (fun _ _ _ h => h) (Or.inl ⟨by rfl, ?_⟩) (by assumption) ?_
              rotate_left
              · (intro w hSw; (try dsimp only at hSw); go_simp <;> with_reducible rfl)
              try simp only [Act.put, List.setIfInBounds_toArray, List.set_cons_zero, List.set_cons_succ]
              refine take_lit (i := 32) (v := ?_) rfl (by kernel_rfl) (by kernel_rfl) (by kernel_rfl) (fun _ _ _ h => h) (Or.inl ⟨by rfl, ?_⟩) (by assumption) ?_
              rotate_left
              · (intro w hSw; (try dsimp only at hSw); go_simp <;> with_reducible rfl)
              try simp only [Act.put, List.setIfInBounds_toArray, List.set_cons_zero, List.set_cons_succ]
              refine take_lit (i := 33) (v := ?_) rfl (by kernel_rfl) (by kernel_rfl) (by kernel_rfl) (fun _ _ _ h => h) (Or.inl ⟨by rfl, ?_⟩) (by assumption) ?_
              rotate_left
              · (intro w hSw; (try dsimp only at hSw); go_simp <;> with_reducible rfl)
              try simp only [Act.put, List.setIfInBounds_toArray, List.set_cons_zero, List.set_cons_succ]
              refine take_lit (i := 34) (v := ?_) rfl (by kernel_rfl) (by kernel_rfl) (by kernel_rfl) (fun _ _ _ h => h) (Or.inl ⟨by rfl, ?_⟩) (by assumption) ?_
              rotate_left
              · (intro w hSw; (try dsimp only at hSw); go_simp <;> with_reducible rfl)
              try simp only [Act.put, List.setIfInBounds_toArray, List.set_cons_zero, List.set_cons_succ]
              refine take_lit (i := 35) (v := ?_) rfl (by kernel_rfl) (by kernel_rfl) (by kernel_rfl) (fun _ _ _ h => h) (Or.inl ⟨by rfl, ?_⟩) (by assumption) ?_
              rotate_left
              · (intro w hSw; (try dsimp only at hSw); go_simp <;> with_reducible rfl)
              try simp only [Act.put, List.setIfInBounds_toArray, List.set_cons_zero, List.set_cons_succ]
              refine take_lit (i := 36) (v := ?_) rfl (by kernel_rfl) (by kernel_rfl) (by kernel_rfl) (fun _ _ _ h => h) (Or.inl ⟨by rfl, ?_⟩) (by assumption) ?_
              rotate_left
              · (intro w hSw; (try dsimp only at hSw); go_simp <;> with_reducible rfl)
              try simp only [Act.put, List.setIfInBounds_toArray, List.set_cons_zero, List.set_cons_succ]
              refine wpAnyH_ready (rs := [37]) (by kernel_rfl) (by simp) ?_
              refine cons_lit rfl (fun K hK => ?_) ?_
              · go_simp
                refine (live_any _).mono ?_
                rintro e w9 ⟨rfl, hB1⟩
                refine hK.out _ _ ?_ (fun hHeld => ?_)
                · exact D.out _ (bt hHeld.1 hB1)
                clear hK K
                try simp only [Act.put, List.setIfInBounds_toArray, List.set_cons_zero, List.set_cons_succ]
                refine take_lit (i := 38) (v := ?_) rfl (by kernel_rfl) (by kernel_rfl) (by kernel_rfl) (fun _ _ _ h => h) (Or.inl ⟨by rfl, ?_⟩) (by assumption) ?_
                rotate_left
                · (intro w hSw; (try dsimp only at hSw); go_simp <;> with_reducible rfl)
                try simp only [Act.put, List.setIfInBounds_toArray, List.set_cons_zero, List.set_cons_succ]
                refine take_lit (i := 39) (v := ?_) rfl (by kernel_rfl) (by kernel_rfl) (by kernel_rfl) (fun _ _ _ h => h) (Or.inl ⟨by rfl, ?_⟩) (by assumption) ?_
                rotate_left
                · (intro w hSw; (try dsimp only at hSw); go_simp <;> with_reducible rfl)
                try simp only [Act.put, List.setIfInBounds_toArray, List.set_cons_zero, List.set_cons_succ]
                refine wpAnyH_done (by kernel_rfl) ?_ _
                refine NoPanic.normal ?_
                go_wp2
                go_ret
                exact ⟨rfl, hHeld.1⟩
              exact AllReadyH.nil
      · have hjn : j = n := by omega
        obtain ⟨x1, x2⟩ := E.out (.inr hjn)
        rw [x1, x2]
        have hji : ¬ (j : Int) < (n : Int) := by omega
        clear E hno hs HL eB hu x1 x2
        generalize (best l).1 = b at *
        go_wp2_with (go_at_call 7; refine (live_any _).mono ?_; rintro e w' ⟨rfl, hw⟩)
        go_ret
        exact ⟨rfl, bt hb hw⟩
theorem greedy_any (ad : Option Addr) (n k : Nat) (l : List Cd) (w : World) (hs : Cs w ad n l) :
    Calls Try.prog 6 #[.slice ad n k] w (Gives w (.bool true)) := by
  by_cases h : 300 < n
  · exact greedy_long ad n k w h
  · exact greedy_walk ad n k l w (by omega) hs
end Go.Proofs.Ytjjfijbjnkgfbaa
