/-
  The document's: the way to take, whether ways starve.
-/
import Derived.Test.YtjjfijbjnkgfbaaY5
import Derived.BigQuiet
namespace Go.Proofs.Ytjjfijbjnkgfbaa
open Go.RowKit
set_option linter.unusedSimpArgs false
set_option linter.unusedVariables false
theorem rpick_any (mg : Int) (ad : Option Addr) (n k : Nat) (l : List Cd) (w : World) (hn : n ≤ 140737488355328) (h0 : 0 ≤ mg) (h1 : mg < 65536) (hs : Cs w ad n l) :
    Calls Try.prog 11 #[.int .u16 mg, .slice ad n k] w (Gives w (.int .i64 (neg1 (pkd mg l)))) := by
  have HL : Hid (l.length = n) := hs.len
  have C1 := rbest_any ad n k l w hn hs
  have HP : Hid (pkd mg l = match fst? st l with
    | some i => if mAt l i ≤ mAt l (best l).1 + mg then (i, true) else best l
    | none => best l) := rfl
  generalize pkd mg l = R at *
  go_enter Try.func11, Try.ntmps11
  go_wp2_with (have kk := C1; go_at_call 10; refine C1.mono ?_; rintro e w1 ⟨rfl, b1⟩; clear C1 kk)
  go_loopw [6] (fun i wr => ∃ j : Nat, j ≤ n ∧ i = .int .i64 j ∧ (∀ i c, i < j → l[i]? = some c → st c = false) ∧ Below w.heap.size w wr) (fun i _ => n - (intOf i).toNat)
  case atStart => exact ⟨0, Nat.zero_le _, rfl, fun i _ h => absurd h (Nat.not_lt_zero i), b1⟩
  case round =>
    clear b1
    obtain ⟨j, hj, rfl, hno, hb⟩ := hrel
    rename World => W
    by_cases hlt : j < n
    · rcases hs.lies with h0 | ⟨g, o, rfl, hg, hl⟩
      · omega
      have hjl : j < l.length := by rw [HL.out]; exact hlt
      have hq := hl j _ (List.getElem?_eq_getElem hjl)
      have hlj : Hid (l[j]? = some l[j]) := List.getElem?_eq_getElem hjl
      have ok := hs.small l[j] (List.getElem_mem hjl)
      have C := fun w => rusable_any l[j] w ok
      have HF : Hid (st l[j] = true → R = if mAt l j ≤ mAt l (best l).1 + mg then (j, true) else best l) := fun h => by
        have := HP.out
        rw [fst_of ⟨l[j], hlj.out, h, hno⟩] at this
        exact this
      have HB : Hid (us l[j] = true → (best l).2 = true) := fun h => by
        rw [best_any, List.any_eq_true]
        exact ⟨_, List.getElem_mem hjl, h⟩
      replace hno : Hid (st l[j] = false → ∀ i c, i < j + 1 → l[i]? = some c → st c = false) := fun h i c hi hc => by
        by_cases e : i = j
        · subst e
          rw [hlj.out] at hc
          cases hc
          exact h
        · exact hno i c (by omega) hc
      have hbl : (best l).1 < l.length := bz_lt l l.length (Nat.le_refl _) (by omega)
      have D : Hid (∀ W, Below w.heap.size w W → W.cell? ⟨g, o + j * 3, none⟩ = some (.int .u16 (mAt l j)) ∧ W.cell? ⟨g, o + (best l).1 * 3, none⟩ = some (.int .u16 (mAt l (best l).1))) := fun W h => ⟨Cs.at hl hg h j hjl, Cs.at hl hg h _ hbl⟩
      have k0 := mAt_ok hs.small j
      have k1 := mAt_ok hs.small (best l).1
      rw [HL.out] at hbl
      have ex : st l[j] = (l[j].s && us l[j]) := rfl
      rw [ex] at HF hno
      clear ex hs hlj
      generalize us l[j] = uq at *
      generalize l[j] = q at *
      generalize mAt l j = x at *
      generalize mAt l (best l).1 = y at *
      generalize best l = B at *
      obtain ⟨b, u⟩ := B
      dsimp only at *
      have c1 : W.cell? ⟨g, o + j * 3, none⟩ = some (.int .u16 q.m) := (hb.cell (p := ⟨g, o + j * 3, none⟩) hg).trans (hq 0 _ rfl)
      have c2 : W.cell? ⟨g, o + j * 3 + 1, none⟩ = some (.bool q.f) := (hb.cell (p := ⟨g, o + j * 3 + 1, none⟩) hg).trans (hq 1 _ rfl)
      have c3 : W.cell? ⟨g, o + j * 3 + 2, none⟩ = some (.bool q.s) := (hb.cell (p := ⟨g, o + j * 3 + 2, none⟩) hg).trans (hq 2 _ rfl)
      have hji : (j : Int) < (n : Int) := by omega
      have hb' : (b : Int) < (n : Int) := by omega
      have hb0 : (0 : Int) ≤ (b : Int) := by omega
      have hbW := hb.size
      have e1 : wrap64 (y + mg) = y + mg := w64 _ (by omega) (by omega)
      have e2 : IntKind.i64.wrap x = x := wrapI _ (by omega) (by omega)
      have e3 : IntKind.i64.wrap y = y := wrapI _ (by omega) (by omega)
      have e4 : IntKind.i64.wrap mg = mg := wrapI _ (by omega) (by omega)
      have e5 : IntKind.i64.wrap (y + mg) = y + mg := wrapI _ (by omega) (by omega)
      obtain ⟨qm, qf, qs⟩ := q
      dsimp only at *
      clear hl hq HP ok
      cases qs with
      | false =>
        replace hno : Hid (∀ i c, i < j + 1 → l[i]? = some c → st c = false) := hno.out rfl
        clear HF HB D e1 e2 e3 e4 e5 k0 k1
        go_wp2_with (have kk := C; go_at_call 17; refine (C _).mono ?_; rintro e w1 ⟨rfl, hB1⟩; clear C kk)
        go_roundw
        case rel => exact ⟨j + 1, by omega, by go_num, hno.out, hb⟩
        case measure => simp [intOf]; omega
      | true =>
        cases uq with
        | false =>
          replace hno : Hid (∀ i c, i < j + 1 → l[i]? = some c → st c = false) := hno.out rfl
          clear HF HB D e1 e2 e3 e4 e5 k0 k1
          go_wp2_with (have kk := C; go_at_call 17; refine (C _).mono ?_; rintro e w1 ⟨rfl, hB1⟩; clear C kk)
          go_roundw
          case rel => exact ⟨j + 1, by omega, by go_num, hno.out, hb.trans (hB1.mono hbW)⟩
          case measure => simp [intOf]; omega
        | true =>
          obtain rfl : u = true := HB.out rfl
          replace HF := HF.out rfl
          clear hno HB
          simp only [neg1, if_true]
          by_cases hc : x ≤ y + mg
          · rw [if_pos hc] at HF
            subst HF
            go_wp2_with (have kk := C; go_at_call 17; refine (C _).mono ?_; rintro e w1 ⟨rfl, hB1⟩; clear C kk; have k3 := hb.trans (hB1.mono hbW); obtain ⟨d1, d2⟩ := D.out _ k3)
            go_quiet (fail)
            go_wp2
            go_ret
            exact ⟨rfl, below_drewN k3 _⟩
          · rw [if_neg hc] at HF
            subst HF
            go_wp2_with (have kk := C; go_at_call 17; refine (C _).mono ?_; rintro e w1 ⟨rfl, hB1⟩; clear C kk; have k3 := hb.trans (hB1.mono hbW); obtain ⟨d1, d2⟩ := D.out _ k3)
            go_quiet (fail)
            go_wp2
            go_ret
            exact ⟨rfl, below_drewN k3 _⟩
    · have hR : Hid (R = best l) := by
        have := HP.out
        rw [fst_not (p := st) (l := l) fun c hc => ?_] at this
        · exact this
        · obtain ⟨i, hi, rfl⟩ := List.mem_iff_getElem.1 hc
          exact hno i _ (by have := HL.out; omega) (List.getElem?_eq_getElem hi)
      obtain rfl := hR.out
      clear hno hR HP
      go_wp2
      go_ret
      exact ⟨rfl, hb⟩
theorem any_step (p : Cd → Bool) (l : List Cd) (j : Nat) (h : j < l.length) : (l.take (j + 1)).any p = ((l.take j).any p || p l[j]) := by
  rw [List.take_succ_eq_append_getElem h, List.any_append]
  simp
theorem rstarved_any (ad : Option Addr) (n k : Nat) (l : List Cd) (w : World) (hn : n ≤ 140737488355328) (hs : Cs w ad n l) :
    Calls Try.prog 13 #[.slice ad n k] w (Gives w (.bool (stv l))) := by
  have HL : Hid (l.length = n) := hs.len
  have C1 := fun W (h : Below w.heap.size w W) => rbest_any ad n k l W hn (hs.below (Nat.le_refl _) h)
  go_enter Try.func13, Try.ntmps13
  go_wp2
  go_loopw [3, 4] (fun s i wr => ∃ j : Nat, j ≤ n ∧ i = .int .i64 j ∧ s = .bool ((l.take j).any rc) ∧ Below w.heap.size w wr) (fun _ i _ => n - (intOf i).toNat)
  case atStart => exact ⟨0, Nat.zero_le _, rfl, by simp, Below.refl _ _⟩
  case round =>
    obtain ⟨j, hj, rfl, rfl, hb⟩ := hrel
    rename World => W
    by_cases hlt : j < n
    · rcases hs.lies with h0 | ⟨g, o, rfl, hg, hl⟩
      · omega
      have hjl : j < l.length := by rw [HL.out]; exact hlt
      have hq := hl j _ (List.getElem?_eq_getElem hjl)
      have ok := hs.small l[j] (List.getElem_mem hjl)
      have HS : Hid ((l.take (j + 1)).any rc = ((l.take j).any rc || rc l[j])) := any_step rc l j hjl
      have ER : rc l[j] = !(l[j].m == 65535) := by
        unfold rc
        have h0 := ok.m0
        have h1 := ok.m1
        by_cases e : l[j].m < 65535
        · have : ¬ l[j].m = 65535 := by omega
          simp [e, this]
        · have : l[j].m = 65535 := by omega
          simp [this]
      rw [ER] at HS
      generalize l[j] = q at *
      generalize (l.take j).any rc = A at *
      have c1 : W.cell? ⟨g, o + j * 3, none⟩ = some (.int .u16 q.m) := (hb.cell (p := ⟨g, o + j * 3, none⟩) hg).trans (hq 0 _ rfl)
      have hji : (j : Int) < (n : Int) := by omega
      clear hl hq hs ER ok
      generalize q.m = x at *
      cases A with
      | true =>
        replace HS : Hid ((l.take (j + 1)).any rc = true) := by have h := HS.out; simp only [Bool.true_or] at h; exact h
        go_wp2
        go_roundw
        case rel => exact ⟨j + 1, by omega, by go_num, by rw [HS.out], hb⟩
        case measure => simp [intOf]; omega
      | false =>
        replace HS : Hid ((l.take (j + 1)).any rc = (x != 65535)) := by have h := HS.out; simp only [Bool.false_or] at h; exact h
        go_wp2
        go_roundw
        case rel => exact ⟨j + 1, by omega, by go_num, by rw [HS.out], hb⟩
        case measure => simp [intOf]; omega
    · have HE : Hid (stv l = ((l.take j).any rc && !(best l).2)) := by
        show _ = _
        unfold stv
        rw [best_any, List.take_of_length_le (by rw [HL.out]; omega)]
        cases l.any us <;> cases l.any rc <;> rfl
      generalize (l.take j).any rc = A at *
      clear hs
      cases A with
      | false =>
        go_wp2
        go_ret
        exact ⟨by rw [HE.out]; rfl, hb⟩
      | true =>
        generalize best l = B at *
        obtain ⟨b, u⟩ := B
        have hb0 : (0 : Int) ≤ (b : Int) := by omega
        have hb1 : ¬ (b : Int) < 0 := by omega
        cases u with
        | true =>
          simp only [neg1, if_true] at C1
          go_wp2_with (have kk := C1; go_at_call 10; refine (C1 _ hb).mono ?_; rintro e w1 ⟨rfl, b1⟩; clear C1 kk)
          go_ret
          exact ⟨by rw [HE.out]; simp, hb.trans (b1.mono hb.size)⟩
        | false =>
          simp only [neg1, Bool.false_eq_true, if_false] at C1
          go_wp2_with (have kk := C1; go_at_call 10; refine (C1 _ hb).mono ?_; rintro e w1 ⟨rfl, b1⟩; clear C1 kk)
          go_ret
          exact ⟨by rw [HE.out]; simp, hb.trans (b1.mono hb.size)⟩
end Go.Proofs.Ytjjfijbjnkgfbaa
