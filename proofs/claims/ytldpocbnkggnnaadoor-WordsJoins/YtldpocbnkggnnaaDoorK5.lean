/-
  The contracts of quote and Join: for every texts.
-/
import Derived.Test.YtldpocbnkggnnaaDoorK4
import Derived.Lib.AppendStr
namespace Go.Proofs.YtldpocbnkggnnaaDoor
open Go.RowKit
set_option linter.unusedSimpArgs false
set_option maxRecDepth 20000
def esc1 (c : UInt8) : List UInt8 := if c = 34 ∨ c = 92 then [92, c] else [c]
def quo (l : List UInt8) : List UInt8 := 34 :: (l.flatMap esc1 ++ [34])
def wrd (l : List UInt8) : List UInt8 := if mq l then quo l else l
def joinW : List (List UInt8) → List UInt8
  | [] => []
  | [x] => wrd x
  | x :: y :: r => wrd x ++ 32 :: joinW (y :: r)
theorem joinW_snoc : ∀ (ws : List (List UInt8)) (x : List UInt8), ws ≠ [] → joinW (ws ++ [x]) = joinW ws ++ 32 :: wrd x
  | [], _, h => absurd rfl h
  | [y], x, _ => rfl
  | y :: z :: r, x, _ => by
    have ih := joinW_snoc (z :: r) x (by simp)
    show wrd y ++ 32 :: joinW (z :: r ++ [x]) = _
    rw [ih]
    simp [joinW]
theorem joinW_take (ws : List (List UInt8)) (j : Nat) (hj : j < ws.length) : joinW (ws.take (j + 1)) = (if j = 0 then [] else joinW (ws.take j) ++ [32]) ++ wrd ws[j] := by
  rw [List.take_succ_eq_append_getElem hj]
  by_cases h : j = 0
  · subst h; simp [joinW]
  · rw [joinW_snoc _ _ (by intro e; have := congrArg List.length e; rw [List.length_take, List.length_nil] at this; omega), if_neg h]; simp
theorem esc1_len (c : UInt8) : (esc1 c).length ≤ 2 := by unfold esc1; split <;> simp
theorem flat_len (l : List UInt8) : (l.flatMap esc1).length ≤ 2 * l.length := by
  induction l with
  | nil => simp
  | cons c l ih => have := esc1_len c; simp only [List.flatMap_cons, List.length_append, List.length_cons]; omega
theorem flat_take (l : List UInt8) (j : Nat) (hj : j < l.length) : (l.take (j + 1)).flatMap esc1 = (l.take j).flatMap esc1 ++ esc1 l[j] := by
  rw [List.take_succ_eq_append_getElem hj, List.flatMap_append]; simp
/-- Bytes of the call's own that were laid behind others. -/
def Onto (base : Nat) (w : World) (l : List UInt8) (e : Ending) (w' : World) : Prop := ∃ v', e = .returned v' ∧ w'.ownsRow base 5 1 v' l.length (bcells l) ∧ Below base w w'
theorem quote_any (t : ByteArray) (base : Nat) (v : Value) (acc : List UInt8) (w : World) (hO : w.ownsRow base 5 1 v acc.length (bcells acc)) (hB : base ≤ w.heap.size) (hl : acc.length + 2 * t.size ≤ 100000000) :
    Calls Tryd.prog 33 #[v, .string t] w (Onto base w (acc ++ quo t.data.toList)) := by
  have HT : Hid (∀ j (h : j < t.size), (t.data.toList.take (j + 1)).flatMap esc1 = (t.data.toList.take j).flatMap esc1 ++ esc1 t[j]) := fun j h => by
    rw [flat_take _ j (by rw [len_t]; exact h)]; rfl
  have HL : Hid (∀ j, j ≤ t.size → ((t.data.toList.take j).flatMap esc1).length ≤ 2 * j) := fun j h => by
    have := flat_len (t.data.toList.take j)
    rw [List.length_take, len_t] at this
    omega
  have HE : Hid (t.data.toList.take t.size = t.data.toList) := List.take_of_length_le (by rw [len_t]; exact Nat.le_refl _)
  generalize t.data.toList = l at *
  have hb0 : Below base w w := Below.refl _ _
  go_enter Tryd.func33, Tryd.ntmps33
  go_wp2_with (at_builtin; refine append_b1 rfl (.tmp 6) (.tmp 7) rfl base _ acc rfl (hO.alloc _) 34 _ rfl rfl (by omega) hB hb0 ?_; intro v1 w1 hO1 hb1)
  clear hO hb0
  go_loopw [0, 11] (fun u i wr => ∃ (j : Nat), j ≤ t.size ∧ i = .int .i64 j ∧ wr.ownsRow base 5 1 u (acc ++ [34] ++ (l.take j).flatMap esc1).length (bcells (acc ++ [34] ++ (l.take j).flatMap esc1)) ∧ Below base w wr) (fun _ i _ => t.size - (intOf i).toNat)
  case atStart => exact ⟨0, Nat.zero_le _, rfl, by simpa using hO1, hb1⟩
  case round =>
    clear hO1 hb1
    rename_i wr
    obtain ⟨j, hj, rfl, hO, hb⟩ := hrel
    have hbs := Nat.le_trans hB hb.size
    by_cases hlt : j < t.size
    · have hT := HT.out j hlt
      have hL := HL.out j hj
      have hal : (acc ++ [34] ++ (l.take j).flatMap esc1).length ≤ 200000000 := by simp only [List.length_append, List.length_cons, List.length_nil]; omega
      have HG : Hid (acc ++ [34] ++ (l.take (j + 1)).flatMap esc1 = (acc ++ [34] ++ (l.take j).flatMap esc1) ++ esc1 t[j]) := by show _ = _; rw [hT]; simp
      clear hT hL
      generalize acc ++ [34] ++ (l.take j).flatMap esc1 = g at *
      have w1 : wrap64 ((j : Int) + 1) = (j : Int) + 1 := by unfold wrap64; omega
      have k1 : (g ++ [92]).length ≤ 200000001 := by simp; omega
      by_cases c1 : t[j] = 34
      · have b1 : ((t[j].toNat : Int) == 34) = true := by rw [c1]; rfl
        rw [show esc1 t[j] = [92] ++ [34] by rw [c1]; rfl, ← List.append_assoc] at HG
        have m0 := hb
        have m1 := hO
        go_wp2_with (first
          | (at_builtin; have k := m1; refine append_b1 rfl (.tmp 24) (.tmp 25) rfl base _ g rfl (hO.alloc _) 92 _ rfl rfl (by omega) hbs hb ?_; clear m1 hb hbs hO; intro v1 w1 hO1 hb1; have hbs1 := Nat.le_trans hB hb1.size)
          | (at_builtin; refine append_b1 rfl (.tmp 27) (.tmp 31) rfl base _ (g ++ [92]) rfl (hO1.alloc _) 34 _ rfl rfl (by omega) hbs1 hb1 ?_; clear hb1 hO1; intro v2 w2 hO2 hb2))
        go_roundw
        case rel => exact ⟨j + 1, by omega, by go_num, by rw [HG.out]; exact hO2, hb2⟩
        case measure => simp [intOf]; omega
      · have b1 : ((t[j].toNat : Int) == 34) = false := by
          rw [beq_eq_false_iff_ne]; intro e; exact c1 (UInt8.toNat.inj (by simp; omega))
        by_cases c2 : t[j] = 92
        · have b2 : ((t[j].toNat : Int) == 92) = true := by rw [c2]; rfl
          rw [show esc1 t[j] = [92] ++ [92] by rw [c2]; rfl, ← List.append_assoc] at HG
          have m0 := hb
          have m1 := hO
          go_wp2_with (first
            | (at_builtin; have k := m1; refine append_b1 rfl (.tmp 24) (.tmp 25) rfl base _ g rfl (hO.alloc _) 92 _ rfl rfl (by omega) hbs hb ?_; clear m1 hb hbs hO; intro v1 w1 hO1 hb1; have hbs1 := Nat.le_trans hB hb1.size)
            | (at_builtin; refine append_b1 rfl (.tmp 27) (.tmp 31) rfl base _ (g ++ [92]) rfl (hO1.alloc _) 92 _ rfl rfl (by omega) hbs1 hb1 ?_; clear hb1 hO1; intro v2 w2 hO2 hb2))
          go_roundw
          case rel => exact ⟨j + 1, by omega, by go_num, by rw [HG.out]; exact hO2, hb2⟩
          case measure => simp [intOf]; omega
        · have b2 : ((t[j].toNat : Int) == 92) = false := by
            rw [beq_eq_false_iff_ne]; intro e; exact c2 (UInt8.toNat.inj (by simp; omega))
          rw [show esc1 t[j] = [t[j]] by unfold esc1; rw [if_neg (by rintro (h | h); exact c1 h; exact c2 h)]] at HG
          clear c1 c2
          go_wp2_with (at_builtin; refine append_b1 rfl (.tmp 27) (.tmp 31) rfl base _ g rfl (hO.alloc _) t[j] _ rfl rfl (by omega) hbs hb ?_; clear hb hO; intro v2 w2 hO2 hb2)
          go_roundw
          case rel => exact ⟨j + 1, by omega, by go_num, by rw [HG.out]; exact hO2, hb2⟩
          case measure => simp [intOf]; omega
    · obtain rfl : t.size = j := by omega
      have hL := HL.out _ (Nat.le_refl _)
      rw [HE.out] at hL hO
      have hal : (acc ++ [34] ++ l.flatMap esc1).length ≤ 200000000 := by simp only [List.length_append, List.length_cons, List.length_nil]; omega
      have HG : Hid (acc ++ quo l = (acc ++ [34] ++ l.flatMap esc1) ++ [34]) := by show _ = _; simp [quo]
      generalize acc ++ quo l = z at *
      generalize acc ++ [34] ++ l.flatMap esc1 = g at *
      go_wp2_with (at_builtin; refine append_b1 rfl (.tmp 34) (.tmp 35) rfl base _ g rfl (hO.alloc _) 34 _ rfl rfl (by omega) hbs hb ?_; clear hb hO; intro v2 w2 hO2 hb2)
      go_ret
      exact ⟨_, rfl, by rw [HG.out]; exact hO2, hb2⟩
theorem strCells_b (t : ByteArray) : Lib.strCells t = bcells t.data.toList := by
  unfold Lib.strCells bcells
  first | rfl | simp
/-- A text behind bytes of the call's own. -/
theorem append_t {w : World} {ops : Array Oper} {rest : List Oper} {o : Oper} {a : Act} {Q : Exit → Act → World → Prop} (hgd : o.guard = none) (s x : Operand)
    (ho : o.op = .call { callee := .builtin .append, args := #[s, x], argTypes := #[62, 9] })
    (base : Nat) (v : Value) (acc : List UInt8) (hs : a.eval s = v) (hown : w.ownsRow base 5 1 v acc.length (bcells acc))
    (t : ByteArray) (hx : a.eval x = .string t) (hbytes : acc.length + t.size ≤ 140737488000000) (hbase : base ≤ w.heap.size) {w1 : World} (hb : Below base w1 w)
    (h : ∀ v' w', w'.ownsRow base 5 1 v' (acc ++ t.data.toList).length (bcells (acc ++ t.data.toList)) → Below base w1 w' → wpList Tryd.prog ops Q rest (a.put o.dst v') w') : wpList Tryd.prog ops Q (o :: rest) a w := by
  obtain ⟨i0, hi, hz0, hz1, hz2⟩ := info_parts info_b
  refine Lib.wpList_append_own_string w hgd s x 62 9 ho base 5 i0 Tryd.underlying62 Tryd.underlying9 hi hz0 hz1 hz2 v acc.length (bcells acc) hs hown t hx (by unfold maxLen; omega) (by omega) hbase ?_
  intro v' w' h1 h2 _
  exact h v' w' (by rw [bcells_append, List.length_append, len_t, ← strCells_b]; exact h1) (hb.grown h2 hbase (fun k hk => (hown.lt k hk).1))
theorem join_any (ws : List (List UInt8)) (a : Option Addr) (n c : Nat) (w : World) (hs : Src w a n c (scells ws)) (hn : n ≤ 1000000) (hl : ∀ j, j < ws.length → ws[j]!.length ≤ 1000000) (hJ : ∀ j, j ≤ ws.length → (joinW (ws.take j)).length ≤ 1000000) :
    Calls Tryd.prog 17 #[.slice a n c] w (Gives w (.string (str (joinW ws)))) := by
  have HN : Hid (n = ws.length) := hs.slen
  have HT : Hid (∀ j (h : j < ws.length), joinW (ws.take (j + 1)) = (if j = 0 then [] else joinW (ws.take j) ++ [32]) ++ wrd ws[j]) := joinW_take ws
  have HE : Hid (joinW (ws.take n) = joinW ws) := by show _ = _; rw [List.take_of_length_le (by rw [HN.out]; exact Nat.le_refl _)]
  have HL : Hid (∀ j (h : j < ws.length), ws[j].length ≤ 1000000) := fun j h => by have := hl j h; rwa [getElem!_pos ws j h] at this
  have HJ : Hid (∀ j, j ≤ ws.length → (joinW (ws.take j)).length ≤ 1000000) := hJ
  have HS : Hid (Src w a n c (scells ws)) := hs
  clear hl hJ hs
  go_enter Tryd.func17, Tryd.ntmps17
  go_wp2
  go_loopw [3, 8] (fun u i wr => ∃ (j : Nat), j ≤ n ∧ i = .int .i64 j ∧ wr.ownsRow w.heap.size 5 1 u (joinW (ws.take j)).length (bcells (joinW (ws.take j))) ∧ Below w.heap.size w wr) (fun _ i _ => n - (intOf i).toNat)
  case atStart => exact ⟨0, Nat.zero_le _, rfl, World.ownsRow_nil _ _ _ _, Below.refl _ _⟩
  case round =>
    rename_i wr
    obtain ⟨j, hj, rfl, hO, hb⟩ := hrel
    by_cases hlt : j < n
    · have j1 : j < ws.length := by have := HN.out; omega
      have hT := HT.out j j1
      have hL := HL.out j j1
      have hJ := HJ.out j (by omega)
      have w1 : wrap64 ((j : Int) + 1) = (j : Int) + 1 := by unfold wrap64; omega
      cases a with
      | none => exact absurd (HS.out.bare rfl).1 (by omega)
      | some a =>
      have c1 := (HS.out.stay hb).textAt j j1
      have hbs := hb.size
      obtain ⟨x, hx⟩ : ∃ x, x = ws[j] := ⟨_, rfl⟩
      rw [← hx] at c1 hT hL
      clear hx
      obtain ⟨t, ht⟩ : ∃ t, t = str x := ⟨_, rfl⟩
      have hts : t.size = x.length := by rw [ht, ← len_t]
      have htd : Hid (t.data.toList = x) := by show _ = _; rw [ht]
      rw [← ht] at c1
      have hmq := fun W => mustQuote_any t W
      rw [htd.out] at hmq
      have HW : Hid (wrd x = if mq x then quo x else x) := rfl
      generalize hG : joinW (ws.take j) = g at *
      have HZ0 : Hid (j = 0 → g = []) := fun h => by rw [← hG, h]; rfl
      clear hG ht
      by_cases h0 : j = 0
      · have hg0 := HZ0.out h0
        rw [if_pos h0] at hT
        subst h0
        have c0 : wr.cell? a = some (.string t) := by
          have e : a.add 0 = a := by cases a; simp [Addr.add]
          rwa [e] at c1
        have hgl : g.length ≤ 1000001 := by omega
        cases hm : mq x
        · rw [hm] at hmq HW
          have HZ : Hid (joinW (ws.take (0 + 1)) = g ++ t.data.toList) := by show _ = _; rw [hT, HW.out, htd.out, hg0]; rfl
          clear hT HW hm hg0
          go_wp2_with (first
            | (go_at_call 32; refine (hmq _).mono ?_; rintro e w' ⟨rfl, rfl⟩)
            | (at_builtin; refine append_t rfl (.tmp 23) (.tmp 24) rfl w.heap.size _ g rfl hO t rfl (by omega) hbs hb ?_; clear hb hO; intro v2 w2 hO2 hb2))
          go_roundw
          case rel => exact ⟨0 + 1, by omega, by go_num, by rw [HZ.out]; exact hO2, hb2⟩
          case measure => simp [intOf]; omega
        · rw [hm] at hmq HW
          have HZ : Hid (joinW (ws.take (0 + 1)) = g ++ quo t.data.toList) := by show _ = _; rw [hT, HW.out, htd.out, hg0]; rfl
          have hq := fun v W h1 h2 => quote_any t w.heap.size v g W h1 h2 (by omega)
          clear hT HW hm hg0
          go_wp2_with (first
            | (go_at_call 32; refine (hmq _).mono ?_; rintro e w' ⟨rfl, rfl⟩)
            | (go_at_call 33; refine (hq _ _ hO hbs).mono ?_; rintro e w2 ⟨v2, rfl, hO2, hb2⟩; replace hb2 := hb.trans hb2; clear hb hO))
          go_roundw
          case rel => exact ⟨0 + 1, by omega, by go_num, by rw [HZ.out]; exact hO2, hb2⟩
          case measure => simp [intOf]; omega
      · have h0' : (0 : Int) < (j : Int) := by omega
        rw [if_neg h0] at hT
        have hgl : (g ++ [32]).length ≤ 1000001 := by simp; omega
        cases hm : mq x
        · rw [hm] at hmq HW
          have HZ : Hid (joinW (ws.take (j + 1)) = (g ++ [32]) ++ t.data.toList) := by show _ = _; rw [hT, HW.out, htd.out]; rfl
          clear hT HW hm
          have m1 := hO
          go_wp2_with (first
            | (go_at_call 32; refine (hmq _).mono ?_; rintro e w' ⟨rfl, rfl⟩)
            | (at_builtin; have k := m1; refine append_b1 rfl (.tmp 15) (.tmp 16) rfl w.heap.size _ g rfl (hO.alloc _) 32 _ rfl rfl (by omega) hbs hb ?_; clear m1 hb hbs hO; intro v1 w1 hO1 hb1; have hbs1 := hb1.size)
            | (at_builtin; refine append_t rfl (.tmp 23) (.tmp 24) rfl w.heap.size _ (g ++ [32]) rfl hO1 t rfl (by omega) hbs1 hb1 ?_; clear hb1 hO1; intro v2 w2 hO2 hb2))
          go_roundw
          case rel => exact ⟨j + 1, by omega, by go_num, by rw [HZ.out]; exact hO2, hb2⟩
          case measure => simp [intOf]; omega
        · rw [hm] at hmq HW
          have HZ : Hid (joinW (ws.take (j + 1)) = (g ++ [32]) ++ quo t.data.toList) := by show _ = _; rw [hT, HW.out, htd.out]; rfl
          have hq := fun v W h1 h2 => quote_any t w.heap.size v (g ++ [32]) W h1 h2 (by omega)
          clear hT HW hm
          have m1 := hO
          go_wp2_with (first
            | (go_at_call 32; refine (hmq _).mono ?_; rintro e w' ⟨rfl, rfl⟩)
            | (at_builtin; have k := m1; refine append_b1 rfl (.tmp 15) (.tmp 16) rfl w.heap.size _ g rfl (hO.alloc _) 32 _ rfl rfl (by omega) hbs hb ?_; clear m1 hb hbs hO; intro v1 w1 hO1 hb1; have hbs1 := hb1.size)
            | (go_at_call 33; refine (hq _ _ hO1 hbs1).mono ?_; rintro e w2 ⟨v2, rfl, hO2, hb2⟩; replace hb2 := hb1.trans hb2; clear hb1 hO1))
          go_roundw
          case rel => exact ⟨j + 1, by omega, by go_num, by rw [HZ.out]; exact hO2, hb2⟩
          case measure => simp [intOf]; omega
    · obtain rfl : n = j := by omega
      rw [HE.out] at hO
      obtain ⟨av, cv, rfl, hsv, hlv⟩ := Src.ofOwn hO
      have hcv := hsv.conv
      generalize joinW ws = g at *
      go_wp2
      go_ret
      exact ⟨rfl, hb⟩
end Go.Proofs.YtldpocbnkggnnaaDoor
