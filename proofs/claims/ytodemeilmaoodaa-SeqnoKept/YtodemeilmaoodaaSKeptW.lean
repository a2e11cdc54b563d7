/-
  The law SeqnoKept returns true for every input.
-/
import Derived.Test.YtodemeilmaoodaaSLive
namespace Go.Proofs.Ytodemeilmaoodaa
open Go.RowKit
set_option linter.unusedSimpArgs false
theorem bet_near {a1 a2 b1 b2 : Int} (ha : 0 ≤ a1) (ha' : a1 ≤ 16000) (hb : 0 ≤ b1) (hb' : b1 ≤ 16000) : betB a1 a2 b1 b2 = true ↔ b1 < a1 ∨ a1 = b1 ∧ a2 < b2 := by
  unfold betB lessB
  simp only [Bool.or_eq_true, Bool.and_eq_true, decide_eq_true_eq, beq_iff_eq]
  omega
theorem kept_self (a1 a2 : Int) : betB a1 a2 a1 a2 = false := by
  unfold betB lessB
  simp
theorem keep_near (q1 q2 k1 k2 d1 d2 : Int) (hq0 : 0 ≤ q1) (hq1 : q1 ≤ 16000) (hk0 : 0 ≤ k1) (hk1 : k1 ≤ 16000) (hd0 : 0 ≤ d1) (hd1 : d1 ≤ 16000) : ∃ m1 m2 : Int, (if betB q1 q2 k1 k2 = true then Value.agg #[.int .u16 q1, .int .u16 q2] else .agg #[.int .u16 k1, .int .u16 k2]) = .agg #[.int .u16 m1, .int .u16 m2] ∧ 0 ≤ m1 ∧ m1 ≤ 16000 ∧ betB q1 q2 m1 m2 = false ∧ (betB d1 d2 m1 m2 = true → betB d1 d2 k1 k2 = true) := by
  cases h : betB q1 q2 k1 k2 with
  | true =>
    refine ⟨q1, q2, rfl, hq0, hq1, kept_self q1 q2, ?_⟩
    have := (bet_near hq0 hq1 hk0 hk1).1 h
    rw [bet_near hd0 hd1 hq0 hq1, bet_near hd0 hd1 hk0 hk1]
    omega
  | false => exact ⟨k1, k2, rfl, hk0, hk1, h, fun x => x⟩
/-- Where the distances of the slice lie. -/
def Ds (w : World) (g o : Nat) (l : List (Int × Int)) : Prop := ∀ j q, l[j]? = some q → w.rangeAt g (o + j * 2) [.int .u16 q.1, .int .u16 q.2]
theorem Ds.below {w w' : World} {B g o : Nat} {l : List (Int × Int)} (h : Ds w g o l) (hb : Below B w w') (hlt : g < B) : Ds w' g o l := fun j q hq i v hv =>
  (hb.cell (p := ⟨g, o + j * 2 + i, none⟩) hlt).trans (h j q hq i v hv)
theorem Ds.one {w : World} {g o : Nat} {l : List (Int × Int)} (h : Ds w g o l) (j : Nat) (hj : j < l.length) : w.cell? ⟨g, o + j * 2, none⟩ = some (.int .u16 l[j].1) := h j _ (List.getElem?_eq_getElem hj) 0 _ rfl
theorem Ds.two {w : World} {g o : Nat} {l : List (Int × Int)} (h : Ds w g o l) (j : Nat) (hj : j < l.length) : w.cell? ⟨g, o + j * 2 + 1, none⟩ = some (.int .u16 l[j].2) := h j _ (List.getElem?_eq_getElem hj) 1 _ rfl
section
variable {ops : Array Oper} {rest : List Oper} {op : Oper} {a : Act} {w : World} {Q : Exit → Act → World → Prop}
theorem ldDo (x : Operand) (hw : Region.wanted op (yielded ops a.tmps) = true) (ho : op.op = .load 33 x) (b o : Nat) (c1 c2 : Int) (hx : a.eval x = .pointer (some ⟨b, o, none⟩)) (hc : w.rangeAt b o [.int .u16 c1, .int .u16 c2])
    (h : wpList Try.prog ops Q rest (a.put op.dst (.agg #[.int .u16 c1, .int .u16 c2])) w) : wpList Try.prog ops Q (op :: rest) a w :=
  wpList_step fun K hK => by
    rw [if_pos hw]
    exact wp_load_mid _ x ho b o hx [.int .u16 c1, .int .u16 c2] _ hc Try.underlying33 rfl (by rw [infoD]; rfl) (hK _ _ h)
end
theorem yDo {ops : Array Oper} {S : World → Prop} {op : Oper} {a : Act} {b o : Nat} {x : Operand} (c1 c2 : Int) (hS : ∀ w, S w → w.rangeAt b o [.int .u16 c1, .int .u16 c2]) (hw : Region.wanted op (yielded ops a.tmps) = true) (ho : op.op = .load 33 x) (hx : a.eval x = .pointer (some ⟨b, o, none⟩)) : YieldsIf Try.prog ops S op (.agg #[.int .u16 c1, .int .u16 c2]) a :=
  yieldsIf_load_mid hw _ x ho b o hx [.int .u16 c1, .int .u16 c2] _ hS Try.underlying33 rfl (by rw [infoD]; rfl)
theorem kept_long (ad : Option Addr) (n c : Nat) (d1 d2 : Int) (w : World) (hn : 200 < n ∨ n = 0) : Calls Try.prog 6 #[.slice ad n c, .agg #[.int .u16 d1, .int .u16 d2]] w (Gives w (.bool true)) := by
  rcases hn with hn | rfl
  · have hn' : (200 : Int) < (n : Int) := by omega
    go_enter Try.func6, Try.ntmps6
    go_wp2_with (go_at_call 9; refine (live_any _).mono ?_; rintro e w' ⟨rfl, hw⟩)
    go_ret
    exact ⟨rfl, ((Below.refl _ _).alloc (Nat.le_refl _) _).trans (hw.mono (by simp))⟩
  · go_enter Try.func6, Try.ntmps6
    go_wp2_with (go_at_call 9; refine (live_any _).mono ?_; rintro e w' ⟨rfl, hw⟩)
    go_ret
    exact ⟨rfl, ((Below.refl _ _).alloc (Nat.le_refl _) _).trans (hw.mono (by simp))⟩
theorem kept_walk (g o : Nat) (n c : Nat) (l : List (Int × Int)) (d1 d2 : Int) (w : World) (hn : ¬ 200 < n) (h0 : n ≠ 0) (hl : l.length = n) (hg : g < w.heap.size) (hD : Ds w g o l) (hq : ∀ q ∈ l, 0 ≤ q.1) (hd : 0 ≤ d1) :
    Calls Try.prog 6 #[.slice (some ⟨g, o, none⟩) n c, .agg #[.int .u16 d1, .int .u16 d2]] w (Gives w (.bool true)) := by
  have hn1 : ¬ (200 : Int) < (n : Int) := by omega
  have hn2 : ((n : Int) == 0) = false := by simpa using h0
  have hb : Below w.heap.size w (w.alloc (.cells #[.int .u16 d1, .int .u16 d2] 33)) := (Below.refl _ _).alloc (Nat.le_refl _) _
  have rd := Row.new w 33 [.int .u16 d1, .int .u16 d2]
  replace hD := hD.below hb hg
  go_enter Try.func6, Try.ntmps6
  go_wp2
  refine name_world (R := fun W => Code.wp _ _ _ _ W) (P := fun W => Below w.heap.size w W ∧ Row W w.heap.size 33 [.int .u16 d1, .int .u16 d2] ∧ Ds W g o l ∧ True) _ ⟨hb, rd, hD, trivial⟩ ?_
  clear hb rd hD
  rintro X ⟨hb, rd, hD, -⟩
  have z1 : X.cell? ⟨w.heap.size, 0, none⟩ = some (.int .u16 d1) := rd.cell 0
  have z2 : X.cell? ⟨w.heap.size, 1, none⟩ = some (.int .u16 d2) := rd.cell 1
  have HL : Hid (l.length = n) := hl
  clear hl
  go_loopw [5] (fun i wr => ∃ j : Nat, j ≤ n ∧ i = .int .i64 j ∧ (∀ i q, i < j → l[i]? = some q → q.1 ≤ 16000 ∧ q.2 ≠ 65535 ∧ d1 ≤ 16000 ∧ d2 ≠ 65535) ∧ X = wr) (fun i _ => n - (intOf i).toNat)
  case atStart => exact ⟨0, Nat.zero_le _, rfl, (fun i q hi => by omega), rfl⟩
  case round =>
    obtain ⟨j, hj, rfl, hok, rfl⟩ := hrel
    by_cases hlt : j < n
    · have hjl : j < l.length := by rw [HL.out]; exact hlt
      have c1 := hD.one j hjl
      have c2 := hD.two j hjl
      have HQ : Hid (l[j]? = some l[j]) := List.getElem?_eq_getElem hjl
      generalize l[j] = q at *
      obtain ⟨q1, q2⟩ := q
      dsimp only at c1 c2
      by_cases f1 : 16000 < q1
      · go_wp2_with (go_at_call 9; refine (live_any _).mono ?_; rintro e w' ⟨rfl, hw⟩)
        go_ret
        exact ⟨rfl, hb.trans (hw.mono hb.size)⟩
      by_cases f2 : 16000 < d1
      · go_wp2_with (go_at_call 9; refine (live_any _).mono ?_; rintro e w' ⟨rfl, hw⟩)
        go_ret
        exact ⟨rfl, hb.trans (hw.mono hb.size)⟩
      cases f3 : (q2 == 65535) with
      | true =>
        go_wp2_with (go_at_call 9; refine (live_any _).mono ?_; rintro e w' ⟨rfl, hw⟩)
        go_ret
        exact ⟨rfl, hb.trans (hw.mono hb.size)⟩
      | false =>
        cases f4 : (d2 == 65535) with
        | true =>
          go_wp2_with (go_at_call 9; refine (live_any _).mono ?_; rintro e w' ⟨rfl, hw⟩)
          go_ret
          exact ⟨rfl, hb.trans (hw.mono hb.size)⟩
        | false =>
          go_wp2
          go_roundw
          case rel =>
            refine ⟨j + 1, by omega, by go_num, ?_, trivial⟩
            intro i q hi hq'
            by_cases hij : i < j
            · exact hok i q hij hq'
            · obtain rfl : i = j := by omega
              rw [HQ.out] at hq'
              cases hq'
              refine ⟨by omega, by simpa using f3, by omega, by simpa using f4⟩
          case measure => simp [intOf]; omega
    · have hjn : j = n := by omega
      subst hjn
      have hl0 : 0 < l.length := by rw [HL.out]; omega
      obtain ⟨f0, f1, f2, f3⟩ := hok 0 l[0] (by omega) (List.getElem?_eq_getElem hl0)
      have HA : Hid (∀ (i : Nat) (q : Int × Int), l[i]? = some q → 0 ≤ q.1 ∧ q.1 ≤ 16000) := fun i q hiq =>
        ⟨hq q (List.mem_of_getElem? hiq), (hok i q (by rw [← HL.out]; exact (List.getElem?_eq_some_iff.1 hiq).1) hiq).1⟩
      have hm0 := hq l[0] (List.getElem_mem hl0)
      have hr0 := hD 0 _ (List.getElem?_eq_getElem hl0)
      generalize l[0] = q at *
      obtain ⟨q1, q2⟩ := q
      dsimp only at f0 f1 hm0 hr0
      rw [Nat.zero_mul, Nat.add_zero] at hr0
      clear hok hq z1 z2 f1
      have HF : Hid (∀ b1 b2, feaB d1 d2 b1 b2 = betB d1 d2 b1 b2) := fun b1 b2 => by
        unfold feaB
        rw [show (d2 == 65535) = false by simpa using f3, Bool.false_or]
      clear f3
      have HG : Hid (w.heap.size < X.heap.size) := rd.lt
      go_wp2_with (first
        | (refine ldDo (.tmp 51) (by rfl) rfl _ _ q1 q2 rfl hr0 ?_)
        | (refine stD (.tmp 6) (.tmp 52) (by rfl) rfl _ q1 q2 0 0 rfl rfl (Row.new X 33 [.int .u16 0, .int .u16 0]) ?_; intro w4 hw4 r1; have hw := ((Below.refl _ _).alloc (Nat.le_refl X.heap.size) (.cells #[.int .u16 0, .int .u16 0] 33)).trans hw4; clear hw4 hr0; replace rd := rd.below hw rd.lt; replace hD := hD.below hw (by have := hb.size; omega); replace hb := hb.trans (hw.mono hb.size); clear hw)
        | (refine ldD (.tmp 3) (by rfl) rfl _ d1 d2 rfl (LD.range rd) ?_)
        | (go_at_call 19; refine (feas_some _ _ _ _ _ _ (LD.range r1)).mono ?_; rintro e w5 ⟨rfl, hw⟩; rw [HF.out]; replace rd := rd.below hw rd.lt; replace hD := hD.below hw (by have := hb.size; omega); replace hb := hb.trans (hw.mono hb.size); replace r1 := r1.below hw r1.lt; clear hw))
      generalize X.heap.size = G at *
      go_loopw [7, 8] (fun v i wr => ∃ (i2 : Nat) (k1 k2 : Int), 1 ≤ i2 ∧ i2 ≤ j ∧ i = .int .i64 i2 ∧ v = .bool (betB d1 d2 k1 k2) ∧ 0 ≤ k1 ∧ k1 ≤ 16000 ∧ Row wr w.heap.size 33 [.int .u16 d1, .int .u16 d2] ∧ Ds wr g o l ∧ Below w.heap.size w wr ∧ Row wr G 33 [.int .u16 k1, .int .u16 k2]) (fun _ i _ => j - (intOf i).toNat)
      case atStart => exact ⟨1, q1, q2, by omega, by omega, rfl, rfl, hm0, f0, rd, hD, hb, r1⟩
      case round =>
        clear rd hD hb r1 f0 hm0
        rename_i wr
        obtain ⟨i2, k1, k2, hi1, hi2, rfl, rfl, hk0, hk1, rd, hD, hb, r1⟩ := hrel
        by_cases hlt2 : i2 < j
        · have hjl : i2 < l.length := by rw [HL.out]; exact hlt2
          have HQ : Hid (l[i2]? = some l[i2]) := List.getElem?_eq_getElem hjl
          generalize l[i2] = q at *
          obtain ⟨q1, q2⟩ := q
          obtain ⟨hq0, hq1⟩ := HA.out i2 _ HQ.out
          have hr := hD i2 _ HQ.out
          dsimp only at hq0 hq1 hr
          obtain ⟨m1, m2, hm, hm0, hm1, hself, hmono⟩ := keep_near q1 q2 k1 k2 d1 d2 hq0 hq1 hk0 hk1 hd f2
          go_wp2_with (first
            | (refine ldDo (.tmp 63) (by rfl) rfl _ _ q1 q2 rfl hr ?_)
            | (have k := hr; go_at_call 21; refine (keep_some _ _ _ _ _ _ (LD.range r1)).mono ?_; rintro e w6 ⟨rfl, hw⟩; rw [hm]; replace rd := rd.below hw rd.lt; replace hD := hD.below hw (by have := hb.size; omega); replace hb := hb.trans (hw.mono hb.size); replace r1 := r1.below hw r1.lt; clear hw hr k)
            | (refine stD (.tmp 6) (.tmp 65) (by rfl) rfl _ m1 m2 k1 k2 rfl rfl r1 ?_; intro w7 hw r2; have hG := HG.out; replace rd := rd.below hw hG; replace hD := hD.below hw (by omega); replace hb := hb.trans (hw.mono (by omega)); clear hw r1 hG)
            | (have k := r2; refine ldD (.tmp 3) (by rfl) rfl _ d1 d2 rfl (LD.range rd) ?_; clear k)
            | (have k := r2; go_at_call 19; refine (feas_some _ _ _ _ _ _ (LD.range r2)).mono ?_; rintro e w8 ⟨rfl, hw⟩; rw [HF.out]; replace rd := rd.below hw rd.lt; replace hD := hD.below hw (by have := hb.size; omega); replace hb := hb.trans (hw.mono hb.size); replace r2 := r2.below hw r2.lt; clear hw k))
          have HB : Hid (∀ W, Below w8.heap.size w8 W → Below w8.heap.size w8 W ∧ Below w.heap.size w W ∧ Row W w.heap.size 33 [.int .u16 d1, .int .u16 d2] ∧ Ds W g o l ∧ Row W G 33 [.int .u16 m1, .int .u16 m2]) := fun W h =>
            ⟨h, hb.trans (h.mono hb.size), rd.below h rd.lt, hD.below h (by have := hb.size; omega), r2.below h r2.lt⟩
          clear rd hD hb r2
          cases his : betB d1 d2 m1 m2 with
          | true =>
            have hwas := hmono his
            clear hmono
            rw [hwas]
            clear hwas
            refine wp_region_noPanic ?_
            refine wp_region_held_drew (S := fun W => Below w8.heap.size w8 W ∧ Below w.heap.size w W ∧ Row W w.heap.size 33 [.int .u16 d1, .int .u16 d2] ∧ Ds W g o l ∧ Row W G 33 [.int .u16 m1, .int .u16 m2]) (by kernel_rfl) (HB.out _ (Below.refl _ _).drew) (fun hHeld => ?_)
            refine take_lit (i := 0) (v := ?_) rfl (by kernel_rfl) (by kernel_rfl) (by kernel_rfl) (fun _ _ _ h => h) (Or.inl ⟨by rfl, ?_⟩) (by assumption) ?_
            rotate_left
            · (intro w hSw; (try dsimp only at hSw); go_simp <;> with_reducible rfl)
            try simp only [Act.put, List.setIfInBounds_toArray, List.set_cons_zero, List.set_cons_succ]
            refine take_lit (i := 1) (v := ?_) rfl (by kernel_rfl) (by kernel_rfl) (by kernel_rfl) (fun _ _ _ h => h) (Or.inl ⟨by rfl, ?_⟩) (by assumption) ?_
            rotate_left
            · (intro w hSw; (try dsimp only at hSw); go_simp <;> with_reducible rfl)
            try simp only [Act.put, List.setIfInBounds_toArray, List.set_cons_zero, List.set_cons_succ]
            refine take_lit (i := 2) (v := ?_) rfl (by kernel_rfl) (by kernel_rfl) (by kernel_rfl) (fun _ _ _ h => h) (Or.inl ⟨by rfl, ?_⟩) (by assumption) ?_
            rotate_left
            · (intro w hSw; (try dsimp only at hSw); go_simp <;> with_reducible rfl)
            try simp only [Act.put, List.setIfInBounds_toArray, List.set_cons_zero, List.set_cons_succ]
            refine take_lit (i := 3) (v := ?_) rfl (by kernel_rfl) (by kernel_rfl) (by kernel_rfl) (fun _ _ _ h => h) (Or.inl ⟨by rfl, ?_⟩) (by assumption) ?_
            rotate_left
            · (intro w hSw; (try dsimp only at hSw); go_simp <;> with_reducible rfl)
            try simp only [Act.put, List.setIfInBounds_toArray, List.set_cons_zero, List.set_cons_succ]
            refine take_lit (i := 4) (v := ?_) rfl (by kernel_rfl) (by kernel_rfl) (by kernel_rfl) (fun _ _ _ h => h) (Or.inl ⟨by rfl, ?_⟩) (by assumption) ?_
            rotate_left
            · (intro w hSw; (try dsimp only at hSw); go_simp <;> with_reducible rfl)
            try simp only [Act.put, List.setIfInBounds_toArray, List.set_cons_zero, List.set_cons_succ]
            refine take_lit (i := 5) (v := ?_) rfl (by kernel_rfl) (by kernel_rfl) (by kernel_rfl) (fun _ _ _ h => h) (Or.inl ⟨by rfl, ?_⟩) (by assumption) ?_
            rotate_left
            · (intro w hSw; (try dsimp only at hSw); go_simp <;> with_reducible rfl)
            try simp only [Act.put, List.setIfInBounds_toArray, List.set_cons_zero, List.set_cons_succ]
            refine take_lit (i := 6) (v := ?_) rfl (by kernel_rfl) (by kernel_rfl) (by kernel_rfl) (fun _ _ _ h => h) (Or.inl ⟨by rfl, ?_⟩) (by assumption) ?_
            rotate_left
            · (intro w hSw; (try dsimp only at hSw); go_simp <;> with_reducible rfl)
            try simp only [Act.put, List.setIfInBounds_toArray, List.set_cons_zero, List.set_cons_succ]
            refine take_lit (i := 7) (v := ?_) rfl (by kernel_rfl) (by kernel_rfl) (by kernel_rfl) (fun _ _ _ h => h) (Or.inl ⟨by rfl, ?_⟩) (by assumption) ?_
            rotate_left
            · (intro w hSw; (try dsimp only at hSw); go_simp <;> with_reducible rfl)
            try simp only [Act.put, List.setIfInBounds_toArray, List.set_cons_zero, List.set_cons_succ]
            refine take_lit (i := 8) (v := ?_) rfl (by kernel_rfl) (by kernel_rfl) (by kernel_rfl) (fun _ _ _ h => h) (Or.inl ⟨by rfl, ?_⟩) (by assumption) ?_
            rotate_left
            · (intro w hSw; (try dsimp only at hSw); go_simp <;> with_reducible rfl)
            try simp only [Act.put, List.setIfInBounds_toArray, List.set_cons_zero, List.set_cons_succ]
            refine take_lit (i := 9) rfl (by kernel_rfl) (by kernel_rfl) (by kernel_rfl) (fun _ _ _ h => h) (yDo q1 q2 (fun w h => h.2.2.2.1 i2 (q1, q2) HQ.out) (by rfl) rfl rfl) (by assumption) ?_
            try simp only [Act.put, List.setIfInBounds_toArray, List.set_cons_zero, List.set_cons_succ]
            refine take_lit (i := 10) rfl (by kernel_rfl) (by kernel_rfl) (by kernel_rfl) (fun _ _ _ h => h) (yD m1 m2 (fun w h => LD.range h.2.2.2.2) (by rfl) rfl rfl) (by assumption) ?_
            try simp only [Act.put, List.setIfInBounds_toArray, List.set_cons_zero, List.set_cons_succ]
            refine wpAnyH_ready (rs := [11]) (by kernel_rfl) (by simp) ?_
            refine cons_lit rfl (fun K hK => ?_) ?_
            · go_simp
              refine (better_any _ _ _ _ _).mono ?_
              rintro e w9 ⟨rfl, hB1⟩
              rw [hself]
              refine hK.out _ _ ?_ (fun hHeld => ?_)
              · exact HB.out _ (hHeld.1.trans (hB1.mono hHeld.1.size))
              clear hK K
              try simp only [Act.put, List.setIfInBounds_toArray, List.set_cons_zero, List.set_cons_succ]
              refine take_lit (i := 12) (v := ?_) rfl (by kernel_rfl) (by kernel_rfl) (by kernel_rfl) (fun _ _ _ h => h) (Or.inl ⟨by rfl, ?_⟩) (by assumption) ?_
              rotate_left
              · (intro w hSw; (try dsimp only at hSw); go_simp <;> with_reducible rfl)
              try simp only [Act.put, List.setIfInBounds_toArray, List.set_cons_zero, List.set_cons_succ]
              refine wpAnyH_done (by kernel_rfl) ?_ _
              refine NoPanic.normal ?_
              go_wp2
              go_roundw
              case rel => exact ⟨i2 + 1, m1, m2, by omega, by omega, by go_num, by rw [his], hm0, hm1, hHeld.2.2.1, hHeld.2.2.2.1, hHeld.2.1, hHeld.2.2.2.2⟩
              case measure => simp [intOf]; omega
            exact AllReadyH.nil
          | false =>
            clear hmono
            generalize betB d1 d2 k1 k2 = was
            refine wp_region_noPanic ?_
            refine wp_region_held_drew (S := fun W => Below w8.heap.size w8 W ∧ Below w.heap.size w W ∧ Row W w.heap.size 33 [.int .u16 d1, .int .u16 d2] ∧ Ds W g o l ∧ Row W G 33 [.int .u16 m1, .int .u16 m2]) (by kernel_rfl) (HB.out _ (Below.refl _ _).drew) (fun hHeld => ?_)
            refine take_lit (i := 0) (v := ?_) rfl (by kernel_rfl) (by kernel_rfl) (by kernel_rfl) (fun _ _ _ h => h) (Or.inl ⟨by rfl, ?_⟩) (by assumption) ?_
            rotate_left
            · (intro w hSw; (try dsimp only at hSw); go_simp <;> with_reducible rfl)
            try simp only [Act.put, List.setIfInBounds_toArray, List.set_cons_zero, List.set_cons_succ]
            refine take_lit (i := 1) (v := ?_) rfl (by kernel_rfl) (by kernel_rfl) (by kernel_rfl) (fun _ _ _ h => h) (Or.inl ⟨by rfl, ?_⟩) (by assumption) ?_
            rotate_left
            · (intro w hSw; (try dsimp only at hSw); go_simp <;> with_reducible rfl)
            try simp only [Act.put, List.setIfInBounds_toArray, List.set_cons_zero, List.set_cons_succ]
            refine take_lit (i := 2) rfl (by kernel_rfl) (by kernel_rfl) (by kernel_rfl) (fun _ _ _ h => h) (Or.inr ⟨by rfl, rfl⟩) (by assumption) ?_
            try simp only [Act.put, List.setIfInBounds_toArray, List.set_cons_zero, List.set_cons_succ]
            refine take_lit (i := 3) rfl (by kernel_rfl) (by kernel_rfl) (by kernel_rfl) (fun _ _ _ h => h) (Or.inr ⟨by rfl, rfl⟩) (by assumption) ?_
            try simp only [Act.put, List.setIfInBounds_toArray, List.set_cons_zero, List.set_cons_succ]
            refine take_lit (i := 4) (v := ?_) rfl (by kernel_rfl) (by kernel_rfl) (by kernel_rfl) (fun _ _ _ h => h) (Or.inl ⟨by rfl, ?_⟩) (by assumption) ?_
            rotate_left
            · (intro w hSw; (try dsimp only at hSw); go_simp <;> with_reducible rfl)
            try simp only [Act.put, List.setIfInBounds_toArray, List.set_cons_zero, List.set_cons_succ]
            refine take_lit (i := 5) (v := ?_) rfl (by kernel_rfl) (by kernel_rfl) (by kernel_rfl) (fun _ _ _ h => h) (Or.inl ⟨by rfl, ?_⟩) (by assumption) ?_
            rotate_left
            · (intro w hSw; (try dsimp only at hSw); go_simp <;> with_reducible rfl)
            try simp only [Act.put, List.setIfInBounds_toArray, List.set_cons_zero, List.set_cons_succ]
            refine take_lit (i := 6) (v := ?_) rfl (by kernel_rfl) (by kernel_rfl) (by kernel_rfl) (fun _ _ _ h => h) (Or.inl ⟨by rfl, ?_⟩) (by assumption) ?_
            rotate_left
            · (intro w hSw; (try dsimp only at hSw); go_simp <;> with_reducible rfl)
            try simp only [Act.put, List.setIfInBounds_toArray, List.set_cons_zero, List.set_cons_succ]
            refine take_lit (i := 7) (v := ?_) rfl (by kernel_rfl) (by kernel_rfl) (by kernel_rfl) (fun _ _ _ h => h) (Or.inl ⟨by rfl, ?_⟩) (by assumption) ?_
            rotate_left
            · (intro w hSw; (try dsimp only at hSw); go_simp <;> with_reducible rfl)
            try simp only [Act.put, List.setIfInBounds_toArray, List.set_cons_zero, List.set_cons_succ]
            refine take_lit (i := 8) (v := ?_) rfl (by kernel_rfl) (by kernel_rfl) (by kernel_rfl) (fun _ _ _ h => h) (Or.inl ⟨by rfl, ?_⟩) (by assumption) ?_
            rotate_left
            · (intro w hSw; (try dsimp only at hSw); go_simp <;> with_reducible rfl)
            try simp only [Act.put, List.setIfInBounds_toArray, List.set_cons_zero, List.set_cons_succ]
            refine take_lit (i := 9) rfl (by kernel_rfl) (by kernel_rfl) (by kernel_rfl) (fun _ _ _ h => h) (yDo q1 q2 (fun w h => h.2.2.2.1 i2 (q1, q2) HQ.out) (by rfl) rfl rfl) (by assumption) ?_
            try simp only [Act.put, List.setIfInBounds_toArray, List.set_cons_zero, List.set_cons_succ]
            refine take_lit (i := 10) rfl (by kernel_rfl) (by kernel_rfl) (by kernel_rfl) (fun _ _ _ h => h) (yD m1 m2 (fun w h => LD.range h.2.2.2.2) (by rfl) rfl rfl) (by assumption) ?_
            try simp only [Act.put, List.setIfInBounds_toArray, List.set_cons_zero, List.set_cons_succ]
            refine wpAnyH_ready (rs := [11]) (by kernel_rfl) (by simp) ?_
            refine cons_lit rfl (fun K hK => ?_) ?_
            · go_simp
              refine (better_any _ _ _ _ _).mono ?_
              rintro e w9 ⟨rfl, hB1⟩
              rw [hself]
              refine hK.out _ _ ?_ (fun hHeld => ?_)
              · exact HB.out _ (hHeld.1.trans (hB1.mono hHeld.1.size))
              clear hK K
              try simp only [Act.put, List.setIfInBounds_toArray, List.set_cons_zero, List.set_cons_succ]
              refine take_lit (i := 12) (v := ?_) rfl (by kernel_rfl) (by kernel_rfl) (by kernel_rfl) (fun _ _ _ h => h) (Or.inl ⟨by rfl, ?_⟩) (by assumption) ?_
              rotate_left
              · (intro w hSw; (try dsimp only at hSw); go_simp <;> with_reducible rfl)
              try simp only [Act.put, List.setIfInBounds_toArray, List.set_cons_zero, List.set_cons_succ]
              refine wpAnyH_done (by kernel_rfl) ?_ _
              refine NoPanic.normal ?_
              go_wp2
              go_roundw
              case rel => exact ⟨i2 + 1, m1, m2, by omega, by omega, by go_num, by rw [his], hm0, hm1, hHeld.2.2.1, hHeld.2.2.2.1, hHeld.2.1, hHeld.2.2.2.2⟩
              case measure => simp [intOf]; omega
            exact AllReadyH.nil
        · go_wp2_with (go_at_call 9; refine (live_any _).mono ?_; rintro e w9 ⟨rfl, hw⟩)
          go_ret
          exact ⟨rfl, hb.trans (hw.mono hb.size)⟩
theorem kept_all (ad : Option Addr) (n c : Nat) (l : List (Int × Int)) (d1 d2 : Int) (w : World) (e : l.length = n) (hq : ∀ q ∈ l, (0 ≤ q.1 ∧ q.1 ≤ 65535) ∧ 0 ≤ q.2 ∧ q.2 ≤ 65535) (m : n = 0 ∨ ∃ g o, ad = some ⟨g, o, none⟩ ∧ g < w.heap.size ∧ ∀ j q, l[j]? = some q → w.rangeAt g (o + j * 2) [.int .u16 q.1, .int .u16 q.2]) (hd : 0 ≤ d1) :
    Calls Try.prog 6 #[.slice ad n c, .agg #[.int .u16 d1, .int .u16 d2]] w (Gives w (.bool true)) := by
  by_cases hn : 200 < n
  · exact kept_long ad n c d1 d2 w (.inl hn)
  · rcases m with h0 | ⟨g, o, rfl, hg, hD⟩
    · exact kept_long ad n c d1 d2 w (.inr h0)
    · by_cases h0 : n = 0
      · exact kept_long _ n c d1 d2 w (.inr h0)
      · exact kept_walk g o n c l d1 d2 w hn h0 e hg hD (fun q h => (hq q h).1.1) hd
end Go.Proofs.Ytodemeilmaoodaa
