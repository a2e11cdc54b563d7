/-
  The law PickStays returns true for every input.
-/
import Derived.Test.YtjjfijbjnkgfbaaNoW
namespace Go.Proofs.Ytjjfijbjnkgfbaa
open Go.RowKit
set_option linter.unusedSimpArgs false
set_option linter.unusedVariables false
set_option maxRecDepth 20000
/-- The ways with the first j of them marked: whether they stand at k. -/
def mk (k : Nat) (c : Cd) (i : Nat) : Cd := ⟨c.m, c.f, decide ((i : Int) = (k : Int))⟩
def mdl (l : List Cd) (k : Nat) : Nat → List Cd
  | 0 => l
  | j + 1 => (mdl l k j).set j (mk k (gd (mdl l k j) j) j)
theorem mdl_len (l : List Cd) (k : Nat) : ∀ j, (mdl l k j).length = l.length
  | 0 => rfl
  | j + 1 => by rw [mdl, List.length_set, mdl_len l k j]
theorem mdl_at (l : List Cd) (k : Nat) : ∀ j, j ≤ l.length → ∀ i c, l[i]? = some c → (mdl l k j)[i]? = some (if i < j then mk k c i else c)
  | 0, _, i, c, h => by
    rw [if_neg (Nat.not_lt_zero i)]
    exact h
  | j + 1, hj, i, c, h => by
    rw [mdl, List.getElem?_set]
    have ih := mdl_at l k j (by omega) i c h
    have hl := mdl_len l k j
    by_cases e : j = i
    · subst e
      rw [if_pos rfl, if_pos (by omega), if_pos (by omega)]
      rw [gd_of ih, if_neg (Nat.lt_irrefl _)]
    · rw [if_neg e, ih]
      by_cases q : i < j
      · rw [if_pos q, if_pos (by omega)]
      · rw [if_neg q, if_neg (by omega)]
theorem mdl_end {l : List Cd} {k i : Nat} {c : Cd} (h : l[i]? = some c) : (mdl l k l.length)[i]? = some (mk k c i) := by
  rw [mdl_at l k _ (Nat.le_refl _) i c h, if_pos (List.getElem?_eq_some_iff.1 h).1]
theorem mdl_ok {l : List Cd} (k : Nat) (h : ∀ c ∈ l, c.ok) : ∀ c ∈ mdl l k l.length, c.ok := by
  intro c hc
  obtain ⟨i, hi⟩ := List.mem_iff_getElem?.1 hc
  have hlt : i < l.length := by have := (List.getElem?_eq_some_iff.1 hi).1; rwa [mdl_len] at this
  rw [mdl_end (List.getElem?_eq_getElem hlt)] at hi
  cases hi
  have := h l[i] (List.getElem_mem hlt)
  exact ⟨this.m0, this.m1⟩
theorem bz_same {l m : List Cd} (hl : m.length = l.length) (h : ∀ (i : Nat) (c : Cd), l[i]? = some c → ∃ c' : Cd, m[i]? = some c' ∧ c'.m = c.m ∧ us c' = us c) : ∀ j, j ≤ l.length → bz m j = bz l j
  | 0, _ => rfl
  | j + 1, hj => by
    have ih := bz_same hl h j (by omega)
    have hb := bz_lt l j (by omega) (by omega)
    obtain ⟨c, hc, cm, cu⟩ := h j _ (List.getElem?_eq_getElem (show j < l.length by omega))
    obtain ⟨b, hb', bm, bu⟩ := h _ _ (List.getElem?_eq_getElem hb)
    rw [bz_step l j _ _ (List.getElem?_eq_getElem (show j < l.length by omega)) (List.getElem?_eq_getElem hb), bz_step m j c b hc (by rw [ih]; exact hb'), ih, cm, cu, bm]
theorem stays_plain {l : List Cd} {mg : Int} (h0 : 0 ≤ mg) (h : (pkd mg l).2 = true) : pkd mg (mdl l (pkd mg l).1 l.length) = ((pkd mg l).1, true) ∧ (best l).2 = true ∧ ∃ c, l[(pkd mg l).1]? = some c ∧ us c = true ∧ c.m ≤ mAt l (best l).1 + mg := by
  have q := pkd_is h0 h
  refine ⟨?_, q⟩
  obtain ⟨e, c, hc, hu, hm⟩ := q
  generalize (pkd mg l).1 = k at *
  have hB : best (mdl l k l.length) = best l := by
    unfold best
    rw [mdl_len]
    exact bz_same (mdl_len l k _) (fun i c hc => ⟨_, mdl_end hc, rfl, rfl⟩) _ (Nat.le_refl _)
  have hF : fst? st (mdl l k l.length) = some k := by
    refine fst_of ⟨_, mdl_end hc, ?_, ?_⟩
    · show (decide ((k : Int) = (k : Int)) && us c) = true
      rw [hu]; simp
    · intro i c' hi hc'
      have hlt : i < l.length := by have := (List.getElem?_eq_some_iff.1 hc').1; rwa [mdl_len] at this
      rw [mdl_end (List.getElem?_eq_getElem hlt)] at hc'
      cases hc'
      show (decide ((i : Int) = (k : Int)) && us _) = false
      rw [decide_eq_false (by omega)]
      rfl
  have hA : ∀ i, i < l.length → mAt (mdl l k l.length) i = mAt l i := fun i hi => by
    rw [mAt_of (mdl_end (List.getElem?_eq_getElem hi)), mAt_of (List.getElem?_eq_getElem hi)]
    rfl
  unfold pkd
  rw [hF, hB]
  dsimp only
  rw [hA k (List.getElem?_eq_some_iff.1 hc).1, hA (best l).1 (bz_lt l l.length (Nat.le_refl _) (by have := (List.getElem?_eq_some_iff.1 hc).1; omega)), mAt_of hc, if_pos hm]
theorem cs_set : ∀ (l : List Cd) (j : Nat) (b : Bool), j < l.length → (kC.cs l).set (j * 3 + 2) (.bool b) = kC.cs (l.set j ⟨(gd l j).m, (gd l j).f, b⟩)
  | [], j, b, h => by simp at h
  | c :: r, 0, b, _ => rfl
  | c :: r, j + 1, b, h => by
    have ih := cs_set r j b (by simpa using h)
    have e : kC.cs (c :: r) = ccs c ++ kC.cs r := rfl
    have e' : ∀ x, kC.cs (c :: x) = ccs c ++ kC.cs x := fun _ => rfl
    rw [e, List.set_append_right _ _ (by simp [ccs]; omega), List.set_cons_succ, e']
    have e2 : (j + 1) * 3 + 2 - (ccs c).length = j * 3 + 2 := by simp [ccs]; omega
    rw [e2, ih]
    rfl
theorem cs_mdl (l : List Cd) (k j : Nat) (h : j < l.length) : (kC.cs (mdl l k j)).set (j * 3 + 2) (.bool (decide ((j : Int) = (k : Int)))) = kC.cs (mdl l k (j + 1)) := by
  rw [cs_set _ _ _ (by rw [mdl_len]; exact h)]
  rfl
theorem cs_three (l : List Cd) : (kC.cs l).length = l.length * 3 := kC.cs_len l
theorem Cs.pre {w : World} {g : Nat} {cs : List Value} {l : List Cd} (hr : Row w g 34 cs) (hp : cs.take (l.length * 3) = kC.cs l) (hk : ∀ c ∈ l, c.ok) : Cs w (some ⟨g, 0, none⟩) l.length l := by
  refine ⟨rfl, hk, .inr ⟨g, 0, rfl, hr.lt, ?_⟩⟩
  intro j c hc i v hv
  have hi : i < 3 := by have := (List.getElem?_eq_some_iff.1 hv).1; simpa [ccs] using this
  have h1 := kC.cs_get l j c hc i hi
  have h2 : (kC.cs l)[j * 3 + i]? = (ccs c)[i]? := h1
  rw [← hp, hv] at h2
  have hj := (List.getElem?_eq_some_iff.1 hc).1
  rw [List.getElem?_take_of_lt (by omega)] at h2
  rw [Nat.zero_add, hr.cell]
  exact h2
section
variable {ops : Array Oper} {rest : List Oper} {op : Oper} {a : Act} {w : World} {Q : Exit → Act → World → Prop}
theorem grownBy_setCell (w : World) (g o : Nat) (v : Value) : w.grownBy (w.setCell ⟨g, o, none⟩ v) (some g) :=
  ⟨rfl, rfl, rfl, by simp [World.setCell], fun i _ hne => Below.heap_setCell _ _ _ _ (fun e => hne (by rw [e]))⟩
theorem stBo (x y : Operand) (hw : Region.wanted op (yielded ops a.tmps) = true) (ho : op.op = .store 4 x y) (b c : Nat) {U : TypeId} (cs : List Value) (n : Bool) (hx : a.eval x = .pointer (some ⟨b, c, none⟩)) (hy : a.eval y = .bool n) (hr : Row w b U cs) (hc : c < cs.length)
    (h : ∀ W, w.grownBy W (some b) → Row W b U (cs.set c (.bool n)) → wpList Try.prog ops Q rest (a.put op.dst undef) W) : wpList Try.prog ops Q (op :: rest) a w :=
  wpList_step fun K hK => by
    rw [if_pos hw]
    have c1 : w.cell? ⟨b, c, none⟩ = some cs[c] := by rw [hr.cell]; exact List.getElem?_eq_getElem hc
    have c2 := hr.frozen c
    unfold Oper.wp execOp
    simp only [ho, hx, hy]
    go_simp
    exact hK _ _ (h _ (grownBy_setCell w b c _) (hr.set c _))
theorem bsC0 (w : World) : (Instr.buildSlice 23 0 #[]).run Try.prog w = .ok (.slice (some ⟨w.heap.size, 0, none⟩) 0 0) (w.alloc (.cells #[] 34)) := by kernel_rfl
/-- An append of ways behind none. -/
theorem apC (s x : Operand) (hw : Region.wanted op (yielded ops a.tmps) = true) (ho : op.op = .call { callee := .builtin .append, args := #[s, x], argTypes := #[23, 23] })
    (B : Nat) (v : Value) (hs : a.eval s = v) (hown : kC.Own w B v []) (ad : Option Addr) (n c : Nat) (l : List Cd) (hx : a.eval x = .slice ad n c) (hl : Cs w ad n l) (hn : 0 < n) (hn2 : n ≤ 300) (hB : B ≤ w.heap.size)
    (h : ∀ g cap cs W, B ≤ g → Row W g 34 cs → cs.take (n * 3) = kC.cs l → w.grownBy W v.ownBlock → wpList Try.prog ops Q rest (a.put op.dst (.slice (some ⟨g, 0, none⟩) n cap)) W) : wpList Try.prog ops Q (op :: rest) a w :=
  wpList_step fun K hK => by
    rw [if_pos hw]
    rcases hl.lies with h0 | ⟨g, o, rfl, hg, hc⟩
    · omega
    obtain ⟨i0, hi, hz0, hz1, hz2⟩ := info_parts kC.info
    refine wp_append_own w s x 23 ho B kC.T i0 kC.z kC.s kC.by_ kC.und hi hz0 hz1 hz2 kC.zl kC.sp v 0 [] hs hown ⟨g, o, none⟩ n c (kC.cs l) hx (by rw [kC.cs_len, hl.len]) (fun j u hu => ?_) (kC.cs_one l) (by unfold maxLen; omega) (by show (0 + n) * 4 ≤ _; omega) hB (fun v' w' h1 h2 h3 => ?_)
    · have hj : j < l.length * 3 := by have := (List.getElem?_eq_some_iff.1 hu).1; rwa [cs_three] at this
      have hd : j / 3 < l.length := by omega
      have e := kC.cs_get l (j / 3) _ (List.getElem?_eq_getElem hd) (j % 3) (Nat.mod_lt _ (by decide))
      have e2 : j / 3 * kC.s + j % 3 = j := by show j / 3 * 3 + j % 3 = j; omega
      rw [e2, hu] at e
      have := hc (j / 3) _ (List.getElem?_eq_getElem hd) (j % 3) u e.symm
      rw [Addr.add_mid]
      rw [show o + j / 3 * 3 + j % 3 = o + j by omega] at this
      exact this
    · rcases h1.2 with ⟨rfl, hz⟩ | ⟨g', cap, cur, rfl, hb, hh, _, _, _, ht⟩
      · omega
      · rw [Nat.zero_add] at *
        refine hK _ _ (h g' cap cur.toList w' hb ?_ ?_ h2)
        · unfold Row
          rw [Array.toArray_toList]
          exact hh
        · rw [show n * 3 = n * kC.s from rfl, ht]
          rfl
end
theorem stays_long (mg : Int) (ad : Option Addr) (n k : Nat) (w : World) (h : 300 < n) :
    Calls Try.prog 4 #[.int .u16 mg, .slice ad n k] w (Gives w (.bool true)) := by
  have hi : (300 : Int) < (n : Int) := by omega
  go_enter Try.func4, Try.ntmps4
  go_wp2_with (go_at_call 7; refine (live_any _).mono ?_; rintro e w' ⟨rfl, hw⟩)
  go_ret
  exact ⟨rfl, hw⟩
theorem stays_none (mg : Int) (ad : Option Addr) (n k : Nat) (l : List Cd) (w : World) (hn : n ≤ 300) (h0 : 0 ≤ mg) (h1 : mg < 65536) (hs : Cs w ad n l) (hp : (pkd mg l).2 = false) :
    Calls Try.prog 4 #[.int .u16 mg, .slice ad n k] w (Gives w (.bool true)) := by
  have hi : ¬ (300 : Int) < (n : Int) := by omega
  have C1 := pick_prog mg ad n k l w (by omega) h0 h1 hs
  rw [hp] at C1
  go_enter Try.func4, Try.ntmps4
  go_wp2_with (first
    | (have kk := C1; go_at_call 9; refine C1.mono ?_; rintro e w1 ⟨rfl, k1⟩; clear C1 kk)
    | (go_at_call 7; refine (live_any _).mono ?_; rintro e w' ⟨rfl, hw⟩))
  go_ret
  exact ⟨rfl, bt k1 hw⟩
set_option maxHeartbeats 2000000 in
theorem stays_walk (mg : Int) (ad : Option Addr) (n k : Nat) (l : List Cd) (w : World) (hn : n ≤ 300) (h0 : 0 ≤ mg) (h1 : mg < 65536) (hs : Cs w ad n l) (hp : (pkd mg l).2 = true) :
    Calls Try.prog 4 #[.int .u16 mg, .slice ad n k] w (Gives w (.bool true)) := by
  have HL : Hid (l.length = n) := hs.len
  have hi : ¬ (300 : Int) < (n : Int) := by omega
  obtain ⟨HM, hbest, c, hc, hu, hm⟩ := stays_plain h0 hp
  have C1 := pick_prog mg ad n k l w (by omega) h0 h1 hs
  have C3 := fun W (h : Below w.heap.size w W) => best_prog ad n k l W (by omega) (hs.below (Nat.le_refl _) h)
  rw [hp] at C1
  have hkl : (pkd mg l).1 < l.length := (List.getElem?_eq_some_iff.1 hc).1
  have hbl : (best l).1 < l.length := bz_lt l l.length (Nat.le_refl _) (by omega)
  rcases hs.lies with hz | ⟨g0, o, rfl, hg0, hl⟩
  · have := hs.len; omega
  have D : Hid (∀ W, Below w.heap.size w W → Below w.heap.size w W ∧ W.cell? ⟨g0, o + (pkd mg l).1 * 3, none⟩ = some (.int .u16 c.m) ∧ W.cell? ⟨g0, o + (pkd mg l).1 * 3 + 1, none⟩ = some (.bool true) ∧ W.cell? ⟨g0, o + (best l).1 * 3, none⟩ = some (.int .u16 (mAt l (best l).1))) := fun W h => by
    refine ⟨h, by rw [← mAt_of hc]; exact Cs.at hl hg0 h _ hkl, ?_, Cs.at hl hg0 h _ hbl⟩
    have := (h.cell (p := ⟨g0, o + (pkd mg l).1 * 3 + 1, none⟩) hg0).trans (hl _ c hc 1 _ rfl)
    have hf : c.f = true := by unfold us at hu; simp at hu; exact hu.1
    rwa [hf] at this
  have hcm : c.m < 65535 := by unfold us at hu; simp at hu; exact hu.2
  have k0 := mAt_ok hs.small (pkd mg l).1
  rw [mAt_of hc] at k0
  have k1 := mAt_ok hs.small (best l).1
  have OK := mdl_ok (pkd mg l).1 hs.small
  rw [HL.out] at hkl hbl
  have HS : Hid (∀ j, j < n → (kC.cs (mdl l (pkd mg l).1 j)).set (j * 3 + 2) (.bool (decide ((j : Int) = ((pkd mg l).1 : Int)))) = kC.cs (mdl l (pkd mg l).1 (j + 1))) := fun j hj => cs_mdl l _ j (by rw [HL.out]; exact hj)
  have C2 := fun W (h : Cs W (some ⟨g0, o, none⟩) n l) => h
  have M : Hid (∀ W g cap cs, Row W g 34 cs → cs.take (n * 3) = kC.cs (mdl l (pkd mg l).1 n) → Calls Try.prog 9 #[.int .u16 mg, .slice (some ⟨g, 0, none⟩) n cap] W (Gives W (.tuple #[.int .i64 (pkd mg l).1, .bool true]))) := fun W g cap cs hr ht => by
    have e : (mdl l (pkd mg l).1 n).length = n := by rw [mdl_len, HL.out]
    have q := Cs.pre (l := mdl l (pkd mg l).1 n) hr (by rw [e]; exact ht) (by rw [← HL.out]; exact OK)
    rw [e] at q
    have p := pick_prog mg _ n cap _ W (by omega) h0 h1 q
    rw [HL.out] at HM
    rw [HM] at p
    exact p
  clear C2 OK HM hp hc hu hl hbest
  have hl2 : 0 < n := by omega
  generalize (pkd mg l).1 = kk at *
  generalize (best l).1 = b at *
  generalize mAt l b = y at *
  generalize (best l).2 = bo at *
  generalize c.m = x at *
  have e1 : wrap64 (y + mg) = y + mg := w64 _ (by omega) (by omega)
  have e2 : IntKind.i64.wrap x = x := wrapI _ (by omega) (by omega)
  have e3 : IntKind.i64.wrap y = y := wrapI _ (by omega) (by omega)
  have e4 : IntKind.i64.wrap mg = mg := wrapI _ (by omega) (by omega)
  have e5 : IntKind.i64.wrap (y + mg) = y + mg := wrapI _ (by omega) (by omega)
  have x1 : (x != 65535) = true := by simp; omega
  have a0 : (0 : Int) ≤ (kk : Int) := by omega
  have a1 : (kk : Int) < (n : Int) := by omega
  have a2 : ¬ (kk : Int) < 0 := by omega
  have a3 : ¬ (n : Int) ≤ (kk : Int) := by omega
  have b0 : (0 : Int) ≤ (b : Int) := by omega
  have b1 : (b : Int) < (n : Int) := by omega
  have b2 : ¬ (b : Int) < 0 := by omega
  have b3 : ¬ (n : Int) ≤ (b : Int) := by omega
  go_enter Try.func4, Try.ntmps4
  go_wp2_with (first
    | (have qq := o1; at_builtin; refine apC (.tmp 26) (.tmp 27) rfl rfl w.heap.size _ rfl o1 (some ⟨g0, o, none⟩) n k l rfl (hs.below (Nat.le_refl _) hx) hl2 hn hx.size ?_; intro g cap cs W2 hgB r2 t2 g2; replace hx := below_keepO hx g2 (fun g hg => own_ne_lt o1 hg) hx.size; clear o1)
    | ((with_reducible refine bsG (T := 23) (U := 34) (n := 0) [] [] ?_ ?_ ?_ ?_); (focus rfl); (focus rfl); (focus exact (fun w => bsC0 w)); intro W1 r1 q1; have o1 : kC.Own W1 w.heap.size (.slice (some ⟨w1.heap.size, 0, none⟩) 0 0) [] := ⟨rfl, .inr ⟨w1.heap.size, 0, #[], rfl, hx.size, r1, Nat.le_refl _, Nat.zero_le _, rfl, rfl⟩⟩; replace hx := bt hx q1; clear q1 r1)
    | (have qq := C1; go_at_call 9; refine C1.mono ?_; rintro e w1 ⟨rfl, hx⟩; clear C1 qq))
  have hcl : n * 3 ≤ cs.length := by
    have := congrArg List.length t2
    rw [List.length_take, cs_three, HL.out] at this
    omega
  go_loopw [8] (fun i wr => ∃ (j : Nat) (cs' : List Value), j ≤ n ∧ i = .int .i64 j ∧ Row wr g 34 cs' ∧ n * 3 ≤ cs'.length ∧ cs'.take (n * 3) = kC.cs (mdl l kk j) ∧ Below w.heap.size w wr) (fun i _ => n - (intOf i).toNat)
  case atStart => exact ⟨0, cs, Nat.zero_le _, rfl, r2, hcl, t2, hx⟩
  case round =>
    clear hx r2 t2 hcl
    obtain ⟨j, cs', hj, rfl, r3, hcl, t3, hx⟩ := hrel
    rename World => W
    by_cases hlt : j < n
    · have hji : (j : Int) < (n : Int) := by omega
      have HT : Hid ((cs'.set (j * 3 + 2) (.bool (decide ((j : Int) = (kk : Int))))).take (n * 3) = kC.cs (mdl l kk (j + 1))) := by
        show _ = _
        rw [← HS.out j hlt, ← t3, List.take_set]
      have hlen : Hid (n * 3 ≤ (cs'.set (j * 3 + 2) (.bool (decide ((j : Int) = (kk : Int))))).length) := by
        show _ ≤ _
        rw [List.length_set]; exact hcl
      have hc2 : j * 3 + 2 < cs'.length := by omega
      clear HS M C3 D t3 hcl
      go_wp2_with (first
        | (have qq := r3; (with_reducible refine stBo (.tmp 41) (.tmp 39) ?_ ?_ g (j * 3 + 2) cs' (decide ((j : Int) = (kk : Int))) ?_ ?_ r3 hc2 ?_); (focus rfl); (focus rfl); (focus rfl); (focus rfl); intro W4 g4 r4; replace hx := below_keepO hx g4 (fun q hq => by intro e; cases e; omega) hx.size; clear r3 qq))
      go_roundw
      case rel => exact ⟨j + 1, _, by omega, by go_num, r4, hlen.out, HT.out, hx⟩
      case measure => simp [intOf]; omega
    · obtain rfl : j = n := by omega
      have hji : ¬ (j : Int) < (j : Int) := by omega
      have M' := fun cap => M.out W g cap cs' r3 t3
      clear HS M r3 t3 hcl hlt hj
      go_wp2_with (first
        | (have qq := M'; go_at_call 9; refine (M' _).mono ?_; rintro e w5 ⟨rfl, k5⟩; clear M' qq; replace hx := bt hx k5; clear k5)
        | (have qq := C3; go_at_call 8; refine (C3 _ hx).mono ?_; rintro e w6 ⟨rfl, k6⟩; clear C3 qq; replace hx := bt hx k6; clear k6))
      refine wp_region_noPanic ?_
      refine wp_region_held_drew (S := fun W1 => Below w.heap.size w W1 ∧ W1.cell? ⟨g0, o + kk * 3, none⟩ = some (.int .u16 x) ∧ W1.cell? ⟨g0, o + kk * 3 + 1, none⟩ = some (.bool true) ∧ W1.cell? ⟨g0, o + b * 3, none⟩ = some (.int .u16 y)) (by kernel_rfl) (D.out _ hx.drew) (fun hHeld => ?_)
      refine take_lit (i := 0) (v := ?_) rfl (by kernel_rfl) (by kernel_rfl) (by kernel_rfl) (fun _ _ _ h => h) (Or.inl ⟨by rfl, ?_⟩) (by assumption) ?_
      rotate_left
      · (intro w hSw; (try dsimp only at hSw); go_simp <;> with_reducible rfl)
      try simp only [Act.put, List.setIfInBounds_toArray, List.set_cons_zero, List.set_cons_succ]
      refine take_lit (i := 1) (v := ?_) rfl (by kernel_rfl) (by kernel_rfl) (by kernel_rfl) (fun _ _ _ h => h) (Or.inl ⟨by rfl, ?_⟩) (by assumption) ?_
      rotate_left
      · (intro w hSw; (try dsimp only at hSw); go_simp <;> with_reducible rfl)
      try simp only [Act.put, List.setIfInBounds_toArray, List.set_cons_zero, List.set_cons_succ]
      refine take_lit (i := 2) (v := ?_) rfl (by kernel_rfl) (by kernel_rfl) (by kernel_rfl) (fun _ _ _ h => h) (Or.inl ⟨by rfl, ?_⟩) (by assumption) ?_
      rotate_left
      · (intro w hSw; (try dsimp only at hSw); go_simp <;> with_reducible rfl)
      try simp only [Act.put, List.setIfInBounds_toArray, List.set_cons_zero, List.set_cons_succ]
      refine take_lit (i := 3) (v := ?_) rfl (by kernel_rfl) (by kernel_rfl) (by kernel_rfl) (fun _ _ _ h => h) (Or.inl ⟨by rfl, ?_⟩) (by assumption) ?_
      rotate_left
      · (intro w hSw; (try dsimp only at hSw); go_simp <;> with_reducible rfl)
      try simp only [Act.put, List.setIfInBounds_toArray, List.set_cons_zero, List.set_cons_succ]
      refine take_lit (i := 4) (v := ?_) rfl (by kernel_rfl) (by kernel_rfl) (by kernel_rfl) (fun _ _ _ h => h) (Or.inl ⟨by rfl, ?_⟩) (by assumption) ?_
      rotate_left
      · (intro w hSw; (try dsimp only at hSw); go_simp <;> with_reducible rfl)
      try simp only [Act.put, List.setIfInBounds_toArray, List.set_cons_zero, List.set_cons_succ]
      refine take_lit (i := 5) (v := ?_) rfl (by kernel_rfl) (by kernel_rfl) (by kernel_rfl) (fun _ _ _ h => h) (Or.inl ⟨by rfl, ?_⟩) (by assumption) ?_
      rotate_left
      · (intro w hSw; (try dsimp only at hSw); go_simp <;> with_reducible rfl)
      try simp only [Act.put, List.setIfInBounds_toArray, List.set_cons_zero, List.set_cons_succ]
      refine take_lit (i := 6) (v := ?_) rfl (by kernel_rfl) (by kernel_rfl) (by kernel_rfl) (fun _ _ _ h => h) (Or.inl ⟨by rfl, ?_⟩) (by assumption) ?_
      rotate_left
      · (intro w hSw; (try dsimp only at hSw); go_simp <;> with_reducible rfl)
      try simp only [Act.put, List.setIfInBounds_toArray, List.set_cons_zero, List.set_cons_succ]
      refine take_lit (i := 7) (v := ?_) rfl (by kernel_rfl) (by kernel_rfl) (by kernel_rfl) (fun _ _ _ h => h) (Or.inl ⟨by rfl, ?_⟩) (by assumption) ?_
      rotate_left
      · (intro w hSw; (try dsimp only at hSw); go_simp <;> with_reducible rfl)
      try simp only [Act.put, List.setIfInBounds_toArray, List.set_cons_zero, List.set_cons_succ]
      refine take_lit (i := 8) (v := ?_) rfl (by kernel_rfl) (by kernel_rfl) (by kernel_rfl) (fun _ _ _ h => h) (Or.inl ⟨by rfl, ?_⟩) (by assumption) ?_
      rotate_left
      · (intro w hSw; (try dsimp only at hSw); go_simp <;> with_reducible rfl)
      try simp only [Act.put, List.setIfInBounds_toArray, List.set_cons_zero, List.set_cons_succ]
      refine take_lit (i := 9) (v := ?_) rfl (by kernel_rfl) (by kernel_rfl) (by kernel_rfl) (fun _ _ _ h => h) (Or.inl ⟨by rfl, ?_⟩) (by assumption) ?_
      rotate_left
      · (intro w hSw; (try dsimp only at hSw); go_simp <;> with_reducible rfl)
      try simp only [Act.put, List.setIfInBounds_toArray, List.set_cons_zero, List.set_cons_succ]
      refine take_lit (i := 10) (v := ?_) rfl (by kernel_rfl) (by kernel_rfl) (by kernel_rfl) (fun _ _ _ h => h) (Or.inl ⟨by rfl, ?_⟩) (by assumption) ?_
      rotate_left
      · (intro w hSw; (try dsimp only at hSw); go_simp <;> with_reducible rfl)
      try simp only [Act.put, List.setIfInBounds_toArray, List.set_cons_zero, List.set_cons_succ]
      refine take_lit (i := 11) (v := ?_) rfl (by kernel_rfl) (by kernel_rfl) (by kernel_rfl) (fun _ _ _ h => h) (Or.inl ⟨by rfl, ?_⟩) (by assumption) ?_
      rotate_left
      · (intro w hSw; (try dsimp only at hSw); obtain ⟨_, _, hz, _⟩ := hSw; go_simp <;> with_reducible rfl)
      try simp only [Act.put, List.setIfInBounds_toArray, List.set_cons_zero, List.set_cons_succ]
      refine take_lit (i := 12) (v := ?_) rfl (by kernel_rfl) (by kernel_rfl) (by kernel_rfl) (fun _ _ _ h => h) (Or.inl ⟨by rfl, ?_⟩) (by assumption) ?_
      rotate_left
      · (intro w hSw; (try dsimp only at hSw); go_simp <;> with_reducible rfl)
      try simp only [Act.put, List.setIfInBounds_toArray, List.set_cons_zero, List.set_cons_succ]
      refine take_lit (i := 13) (v := ?_) rfl (by kernel_rfl) (by kernel_rfl) (by kernel_rfl) (fun _ _ _ h => h) (Or.inl ⟨by rfl, ?_⟩) (by assumption) ?_
      rotate_left
      · (intro w hSw; (try dsimp only at hSw); go_simp <;> with_reducible rfl)
      try simp only [Act.put, List.setIfInBounds_toArray, List.set_cons_zero, List.set_cons_succ]
      refine take_lit (i := 14) (v := ?_) rfl (by kernel_rfl) (by kernel_rfl) (by kernel_rfl) (fun _ _ _ h => h) (Or.inl ⟨by rfl, ?_⟩) (by assumption) ?_
      rotate_left
      · (intro w hSw; (try dsimp only at hSw); go_simp <;> with_reducible rfl)
      try simp only [Act.put, List.setIfInBounds_toArray, List.set_cons_zero, List.set_cons_succ]
      refine take_lit (i := 15) (v := ?_) rfl (by kernel_rfl) (by kernel_rfl) (by kernel_rfl) (fun _ _ _ h => h) (Or.inl ⟨by rfl, ?_⟩) (by assumption) ?_
      rotate_left
      · (intro w hSw; (try dsimp only at hSw); go_simp <;> with_reducible rfl)
      try simp only [Act.put, List.setIfInBounds_toArray, List.set_cons_zero, List.set_cons_succ]
      refine take_lit (i := 16) (v := ?_) rfl (by kernel_rfl) (by kernel_rfl) (by kernel_rfl) (fun _ _ _ h => h) (Or.inl ⟨by rfl, ?_⟩) (by assumption) ?_
      rotate_left
      · (intro w hSw; (try dsimp only at hSw); go_simp <;> with_reducible rfl)
      try simp only [Act.put, List.setIfInBounds_toArray, List.set_cons_zero, List.set_cons_succ]
      refine take_lit (i := 17) (v := ?_) rfl (by kernel_rfl) (by kernel_rfl) (by kernel_rfl) (fun _ _ _ h => h) (Or.inl ⟨by rfl, ?_⟩) (by assumption) ?_
      rotate_left
      · (intro w hSw; (try dsimp only at hSw); go_simp <;> with_reducible rfl)
      try simp only [Act.put, List.setIfInBounds_toArray, List.set_cons_zero, List.set_cons_succ]
      refine take_lit (i := 18) (v := ?_) rfl (by kernel_rfl) (by kernel_rfl) (by kernel_rfl) (fun _ _ _ h => h) (Or.inl ⟨by rfl, ?_⟩) (by assumption) ?_
      rotate_left
      · (intro w hSw; (try dsimp only at hSw); obtain ⟨_, hz, _⟩ := hSw; go_simp <;> with_reducible rfl)
      try simp only [Act.put, List.setIfInBounds_toArray, List.set_cons_zero, List.set_cons_succ]
      refine take_lit (i := 19) (v := ?_) rfl (by kernel_rfl) (by kernel_rfl) (by kernel_rfl) (fun _ _ _ h => h) (Or.inl ⟨by rfl, ?_⟩) (by assumption) ?_
      rotate_left
      · (intro w hSw; (try dsimp only at hSw); go_simp <;> with_reducible rfl)
      try simp only [Act.put, List.setIfInBounds_toArray, List.set_cons_zero, List.set_cons_succ]
      refine take_lit (i := 20) (v := ?_) rfl (by kernel_rfl) (by kernel_rfl) (by kernel_rfl) (fun _ _ _ h => h) (Or.inl ⟨by rfl, ?_⟩) (by assumption) ?_
      rotate_left
      · (intro w hSw; (try dsimp only at hSw); go_simp <;> with_reducible rfl)
      try simp only [Act.put, List.setIfInBounds_toArray, List.set_cons_zero, List.set_cons_succ]
      refine take_lit (i := 21) (v := ?_) rfl (by kernel_rfl) (by kernel_rfl) (by kernel_rfl) (fun _ _ _ h => h) (Or.inl ⟨by rfl, ?_⟩) (by assumption) ?_
      rotate_left
      · (intro w hSw; (try dsimp only at hSw); go_simp <;> with_reducible rfl)
      try simp only [Act.put, List.setIfInBounds_toArray, List.set_cons_zero, List.set_cons_succ]
      refine take_lit (i := 22) (v := ?_) rfl (by kernel_rfl) (by kernel_rfl) (by kernel_rfl) (fun _ _ _ h => h) (Or.inl ⟨by rfl, ?_⟩) (by assumption) ?_
      rotate_left
      · (intro w hSw; (try dsimp only at hSw); go_simp <;> with_reducible rfl)
      try simp only [Act.put, List.setIfInBounds_toArray, List.set_cons_zero, List.set_cons_succ]
      refine take_lit (i := 23) (v := ?_) rfl (by kernel_rfl) (by kernel_rfl) (by kernel_rfl) (fun _ _ _ h => h) (Or.inl ⟨by rfl, ?_⟩) (by assumption) ?_
      rotate_left
      · (intro w hSw; (try dsimp only at hSw); go_simp <;> with_reducible rfl)
      try simp only [Act.put, List.setIfInBounds_toArray, List.set_cons_zero, List.set_cons_succ]
      refine take_lit (i := 24) (v := ?_) rfl (by kernel_rfl) (by kernel_rfl) (by kernel_rfl) (fun _ _ _ h => h) (Or.inl ⟨by rfl, ?_⟩) (by assumption) ?_
      rotate_left
      · (intro w hSw; (try dsimp only at hSw); go_simp <;> with_reducible rfl)
      try simp only [Act.put, List.setIfInBounds_toArray, List.set_cons_zero, List.set_cons_succ]
      refine take_lit (i := 25) (v := ?_) rfl (by kernel_rfl) (by kernel_rfl) (by kernel_rfl) (fun _ _ _ h => h) (Or.inl ⟨by rfl, ?_⟩) (by assumption) ?_
      rotate_left
      · (intro w hSw; (try dsimp only at hSw); go_simp <;> with_reducible rfl)
      try simp only [Act.put, List.setIfInBounds_toArray, List.set_cons_zero, List.set_cons_succ]
      refine take_lit (i := 26) (v := ?_) rfl (by kernel_rfl) (by kernel_rfl) (by kernel_rfl) (fun _ _ _ h => h) (Or.inl ⟨by rfl, ?_⟩) (by assumption) ?_
      rotate_left
      · (intro w hSw; (try dsimp only at hSw); obtain ⟨_, hz, _⟩ := hSw; go_simp <;> with_reducible rfl)
      try simp only [Act.put, List.setIfInBounds_toArray, List.set_cons_zero, List.set_cons_succ]
      refine take_lit (i := 27) (v := ?_) rfl (by kernel_rfl) (by kernel_rfl) (by kernel_rfl) (fun _ _ _ h => h) (Or.inl ⟨by rfl, ?_⟩) (by assumption) ?_
      rotate_left
      · (intro w hSw; (try dsimp only at hSw); go_simp <;> with_reducible rfl)
      try simp only [Act.put, List.setIfInBounds_toArray, List.set_cons_zero, List.set_cons_succ]
      refine take_lit (i := 28) (v := ?_) rfl (by kernel_rfl) (by kernel_rfl) (by kernel_rfl) (fun _ _ _ h => h) (Or.inl ⟨by rfl, ?_⟩) (by assumption) ?_
      rotate_left
      · (intro w hSw; (try dsimp only at hSw); go_simp <;> with_reducible rfl)
      try simp only [Act.put, List.setIfInBounds_toArray, List.set_cons_zero, List.set_cons_succ]
      refine take_lit (i := 29) (v := ?_) rfl (by kernel_rfl) (by kernel_rfl) (by kernel_rfl) (fun _ _ _ h => h) (Or.inl ⟨by rfl, ?_⟩) (by assumption) ?_
      rotate_left
      · (intro w hSw; (try dsimp only at hSw); go_simp <;> with_reducible rfl)
      try simp only [Act.put, List.setIfInBounds_toArray, List.set_cons_zero, List.set_cons_succ]
      refine take_lit (i := 30) (v := ?_) rfl (by kernel_rfl) (by kernel_rfl) (by kernel_rfl) (fun _ _ _ h => h) (Or.inl ⟨by rfl, ?_⟩) (by assumption) ?_
      rotate_left
      · (intro w hSw; (try dsimp only at hSw); go_simp <;> with_reducible rfl)
      try simp only [Act.put, List.setIfInBounds_toArray, List.set_cons_zero, List.set_cons_succ]
      refine take_lit (i := 31) (v := ?_) rfl (by kernel_rfl) (by kernel_rfl) (by kernel_rfl) (fun _ _ _ h => h) (Or.inl ⟨by rfl, ?_⟩) (by assumption) ?_
      rotate_left
      · (intro w hSw; (try dsimp only at hSw); go_simp <;> with_reducible rfl)
      try simp only [Act.put, List.setIfInBounds_toArray, List.set_cons_zero, List.set_cons_succ]
      refine take_lit (i := 32) (v := ?_) rfl (by kernel_rfl) (by kernel_rfl) (by kernel_rfl) (fun _ _ _ h => h) (Or.inl ⟨by rfl, ?_⟩) (by assumption) ?_
      rotate_left
      · (intro w hSw; (try dsimp only at hSw); obtain ⟨_, _, _, hz⟩ := hSw; go_simp <;> with_reducible rfl)
      try simp only [Act.put, List.setIfInBounds_toArray, List.set_cons_zero, List.set_cons_succ]
      refine take_lit (i := 33) (v := ?_) rfl (by kernel_rfl) (by kernel_rfl) (by kernel_rfl) (fun _ _ _ h => h) (Or.inl ⟨by rfl, ?_⟩) (by assumption) ?_
      rotate_left
      · (intro w hSw; (try dsimp only at hSw); go_simp <;> with_reducible rfl)
      try simp only [Act.put, List.setIfInBounds_toArray, List.set_cons_zero, List.set_cons_succ]
      refine take_lit (i := 34) (v := ?_) rfl (by kernel_rfl) (by kernel_rfl) (by kernel_rfl) (fun _ _ _ h => h) (Or.inl ⟨by rfl, ?_⟩) (by assumption) ?_
      rotate_left
      · (intro w hSw; (try dsimp only at hSw); go_simp <;> with_reducible rfl)
      try simp only [Act.put, List.setIfInBounds_toArray, List.set_cons_zero, List.set_cons_succ]
      refine take_lit (i := 35) (v := ?_) rfl (by kernel_rfl) (by kernel_rfl) (by kernel_rfl) (fun _ _ _ h => h) (Or.inl ⟨by rfl, ?_⟩) (by assumption) ?_
      rotate_left
      · (intro w hSw; (try dsimp only at hSw); go_simp <;> with_reducible rfl)
      try simp only [Act.put, List.setIfInBounds_toArray, List.set_cons_zero, List.set_cons_succ]
      refine take_lit (i := 36) (v := ?_) rfl (by kernel_rfl) (by kernel_rfl) (by kernel_rfl) (fun _ _ _ h => h) (Or.inl ⟨by rfl, ?_⟩) (by assumption) ?_
      rotate_left
      · (intro w hSw; (try dsimp only at hSw); go_simp <;> with_reducible rfl)
      try simp only [Act.put, List.setIfInBounds_toArray, List.set_cons_zero, List.set_cons_succ]
      refine take_lit (i := 37) (v := ?_) rfl (by kernel_rfl) (by kernel_rfl) (by kernel_rfl) (fun _ _ _ h => h) (Or.inl ⟨by rfl, ?_⟩) (by assumption) ?_
      rotate_left
      · (intro w hSw; (try dsimp only at hSw); go_simp <;> with_reducible rfl)
      try simp only [Act.put, List.setIfInBounds_toArray, List.set_cons_zero, List.set_cons_succ]
      refine take_lit (i := 38) (v := ?_) rfl (by kernel_rfl) (by kernel_rfl) (by kernel_rfl) (fun _ _ _ h => h) (Or.inl ⟨by rfl, ?_⟩) (by assumption) ?_
      rotate_left
      · (intro w hSw; (try dsimp only at hSw); go_simp <;> with_reducible rfl)
      try simp only [Act.put, List.setIfInBounds_toArray, List.set_cons_zero, List.set_cons_succ]
      refine take_lit (i := 39) (v := ?_) rfl (by kernel_rfl) (by kernel_rfl) (by kernel_rfl) (fun _ _ _ h => h) (Or.inl ⟨by rfl, ?_⟩) (by assumption) ?_
      rotate_left
      · (intro w hSw; (try dsimp only at hSw); go_simp <;> with_reducible rfl)
      try simp only [Act.put, List.setIfInBounds_toArray, List.set_cons_zero, List.set_cons_succ]
      refine wpAnyH_ready (rs := [40]) (by kernel_rfl) (by simp) ?_
      refine cons_lit rfl (fun K hK => ?_) ?_
      · go_simp
        refine (live_any _).mono ?_
        rintro e w9 ⟨rfl, hB1⟩
        refine hK.out _ _ ?_ (fun hHeld => ?_)
        · exact D.out _ (bt hHeld.1 hB1)
        clear hK K
        try simp only [Act.put, List.setIfInBounds_toArray, List.set_cons_zero, List.set_cons_succ]
        refine take_lit (i := 41) (v := ?_) rfl (by kernel_rfl) (by kernel_rfl) (by kernel_rfl) (fun _ _ _ h => h) (Or.inl ⟨by rfl, ?_⟩) (by assumption) ?_
        rotate_left
        · (intro w hSw; (try dsimp only at hSw); go_simp <;> with_reducible rfl)
        try simp only [Act.put, List.setIfInBounds_toArray, List.set_cons_zero, List.set_cons_succ]
        refine take_lit (i := 42) (v := ?_) rfl (by kernel_rfl) (by kernel_rfl) (by kernel_rfl) (fun _ _ _ h => h) (Or.inl ⟨by rfl, ?_⟩) (by assumption) ?_
        rotate_left
        · (intro w hSw; (try dsimp only at hSw); go_simp <;> with_reducible rfl)
        try simp only [Act.put, List.setIfInBounds_toArray, List.set_cons_zero, List.set_cons_succ]
        refine wpAnyH_done (by kernel_rfl) ?_ _
        refine NoPanic.normal ?_
        go_wp2
        go_ret
        exact ⟨rfl, hHeld.1⟩
      exact AllReadyH.nil
theorem stays_any (mg : Int) (ad : Option Addr) (n k : Nat) (l : List Cd) (w : World) (h0 : 0 ≤ mg) (h1 : mg < 65536) (hs : Cs w ad n l) :
    Calls Try.prog 4 #[.int .u16 mg, .slice ad n k] w (Gives w (.bool true)) := by
  by_cases h : 300 < n
  · exact stays_long mg ad n k w h
  · cases hp : (pkd mg l).2 with
    | true => exact stays_walk mg ad n k l w (by omega) h0 h1 hs hp
    | false => exact stays_none mg ad n k l w (by omega) h0 h1 hs hp
end Go.Proofs.Ytjjfijbjnkgfbaa
