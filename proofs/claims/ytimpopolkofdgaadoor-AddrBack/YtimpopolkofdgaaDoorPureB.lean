/-
  What is printed is read again: addresses, prefixes and pairs, as facts on lists and numbers alone.
-/
import Derived.Test.YtimpopolkofdgaaDoorPure
import Derived.Test.YtimpopolkofdgaaDoorPPair
import Derived.Test.YtimpopolkofdgaaDoorPrQ
namespace Go.Proofs.YtimpopolkofdgaaDoor
set_option maxRecDepth 20000
/-! ### Pieces of what was joined -/
theorem pieces_no {c : UInt8} : ∀ {l : List UInt8}, c ∉ l → pieces c l = [l]
  | [], _ => rfl
  | x :: r, h => by
    simp only [List.mem_cons, not_or] at h
    rw [pieces, if_neg (fun e => h.1 e.symm), pieces_no h.2]
theorem pieces_app {c : UInt8} : ∀ {p : List UInt8} (r : List UInt8), c ∉ p → pieces c (p ++ c :: r) = p :: pieces c r
  | [], r, _ => by simp [pieces]
  | x :: p, r, h => by
    simp only [List.mem_cons, not_or] at h
    rw [List.cons_append, pieces, if_neg (fun e => h.1 e.symm), pieces_app r h.2]
theorem join_two (x y : List UInt8) (r : List (List UInt8)) (c : UInt8) : Lib.join (x :: y :: r) [c] = x ++ c :: Lib.join (y :: r) [c] := by
  rw [Lib.join_cons, Lib.join_cons]
  simp [Lib.joinTail]
theorem pieces_join {c : UInt8} : ∀ (ws : List (List UInt8)), ws ≠ [] → (∀ w ∈ ws, c ∉ w) → pieces c (Lib.join ws [c]) = ws
  | [], h, _ => absurd rfl h
  | [x], _, h => by rw [Lib.join_one, pieces_no (h x (by simp))]
  | x :: y :: r, _, h => by
    rw [join_two, pieces_app _ (h x (by simp)), pieces_join (y :: r) (by simp) (fun w hw => h w (by simp [hw]))]
theorem mem_join {c d : UInt8} : ∀ (ws : List (List UInt8)), d ∈ Lib.join ws [c] → d = c ∨ ∃ w ∈ ws, d ∈ w
  | [], h => by rw [Lib.join_nil] at h; cases h
  | [x], h => by rw [Lib.join_one] at h; exact .inr ⟨x, by simp, h⟩
  | x :: y :: r, h => by
    rw [join_two] at h
    simp only [List.mem_append, List.mem_cons] at h
    rcases h with h | h | h
    · exact .inr ⟨x, by simp, h⟩
    · exact .inl h
    · rcases mem_join (y :: r) h with h | ⟨w, hw, h⟩
      · exact .inl h
      · exact .inr ⟨w, by simp [hw], h⟩
/-! ### Numbers -/
theorem itoa_byte (n : Nat) (h : n < 256) : numS (Lib.itoa (n : Int)) = some n ∧ ∀ c ∈ Lib.itoa (n : Int), 48 ≤ c.toNat ∧ c.toNat ≤ 57 := by
  have k : ((List.range 256).all fun b => numS (Lib.itoa (b : Int)) == some b && (Lib.itoa (b : Int)).all fun c => decide (48 ≤ c.toNat) && decide (c.toNat ≤ 57)) = true := by kernel_rfl
  have k1 := List.all_eq_true.1 k n (List.mem_range.2 h)
  rw [Bool.and_eq_true] at k1
  refine ⟨eq_of_beq k1.1, fun c hc => ?_⟩
  have := List.all_eq_true.1 k1.2 c hc
  simpa using this
theorem dig_hexd (n : Nat) (h : n < 16) : dig (hexd n) = some n ∧ (48 ≤ (hexd n).toNat ∧ (hexd n).toNat ≤ 57 ∨ 97 ≤ (hexd n).toNat ∧ (hexd n).toNat ≤ 102) := by
  have k : ((List.range 16).all fun n => dig (hexd n) == some n && (decide (48 ≤ (hexd n).toNat) && decide ((hexd n).toNat ≤ 57) || decide (97 ≤ (hexd n).toNat) && decide ((hexd n).toNat ≤ 102))) = true := by kernel_rfl
  have k1 := List.all_eq_true.1 k n (List.mem_range.2 h)
  rw [Bool.and_eq_true] at k1
  exact ⟨eq_of_beq k1.1, by simpa using k1.2⟩
theorem pu_snoc (b : Nat) : ∀ (l : List UInt8) (acc v d : Nat) (c : UInt8), pu b acc l = some v → dig c = some d → d < b → v * b + d ≤ 65535 → pu b acc (l ++ [c]) = some (v * b + d)
  | [], acc, v, d, c, h, hd, hb, hv => by
    simp only [pu, Option.some.injEq] at h
    subst h
    simp only [List.nil_append, pu, hd]
    rw [if_pos ⟨hb, hv⟩]
  | x :: l, acc, v, d, c, h, hd, hb, hv => by
    simp only [List.cons_append, pu] at h ⊢
    cases hx : dig x with
    | none => rw [hx] at h; cases h
    | some u =>
      rw [hx] at h
      dsimp only at h ⊢
      split at h
      · rename_i hc
        rw [if_pos hc]
        exact pu_snoc b l _ v d c h hd hb hv
      · cases h
theorem hexs_ok : ∀ (k u : Nat), u < k → u < 65536 → pu 16 0 (hexs u) = some u ∧ hexs u ≠ [] ∧ ∀ c ∈ hexs u, 48 ≤ c.toNat ∧ c.toNat ≤ 57 ∨ 97 ≤ c.toNat ∧ c.toNat ≤ 102
  | 0, u, h, _ => by omega
  | k + 1, u, h, hu => by
    rw [hexs_eq]
    by_cases h16 : u < 16
    · rw [if_pos h16]
      have hd := dig_hexd u h16
      refine ⟨?_, by simp, fun c hc => ?_⟩
      · simp only [pu, hd.1]
        rw [if_pos ⟨h16, by omega⟩]
        simp
      · simp only [List.mem_cons, List.not_mem_nil, or_false] at hc
        rw [hc]; exact hd.2
    · rw [if_neg h16]
      obtain ⟨i1, i2, i3⟩ := hexs_ok k (u / 16) (by omega) (by omega)
      have hd := dig_hexd (u % 16) (by omega)
      refine ⟨?_, by simp, fun c hc => ?_⟩
      · rw [pu_snoc 16 _ _ _ _ _ i1 hd.1 (by omega) (by omega)]
        congr 1; omega
      · rcases List.mem_append.1 hc with hc | hc
        · exact i3 c hc
        · simp only [List.mem_cons, List.not_mem_nil, or_false] at hc
          rw [hc]; exact hd.2
theorem grps_ok : ∀ (l : List UInt8), ∀ w ∈ grps l, w ≠ [] ∧ ∀ c ∈ w, 48 ≤ c.toNat ∧ c.toNat ≤ 57 ∨ 97 ≤ c.toNat ∧ c.toNat ≤ 102
  | [], w, h => by simp [grps] at h
  | [_], w, h => by simp [grps] at h
  | a :: b :: r, w, h => by
    simp only [grps, List.mem_cons] at h
    rcases h with rfl | h
    · exact (hexs_ok _ _ (Nat.lt_succ_self _) (by have := a.toNat_lt; have := b.toNat_lt; omega)).2
    · exact grps_ok r w h
/-- A byte that is no digit and no letter from a to f. -/
def Odd (c : UInt8) : Prop := ¬ (48 ≤ c.toNat ∧ c.toNat ≤ 57 ∨ 97 ≤ c.toNat ∧ c.toNat ≤ 102)
theorem grps_no {c : UInt8} (hc : Odd c) (l : List UInt8) : ∀ w ∈ grps l, c ∉ w := fun w hw h => hc ((grps_ok l w hw).2 c h)
theorem grpGo_ok : ∀ (l acc : List UInt8), l.length % 2 = 0 → acc.length + l.length ≤ 16 → grpGo (grps l) acc = some (acc ++ l)
  | [], acc, _, _ => by simp [grps, grpGo]
  | [_], _, h, _ => by simp at h
  | a :: b :: r, acc, h, h' => by
    have ha := a.toNat_lt
    have hb := b.toNat_lt
    have hx := hexs_ok _ (a.toNat * 256 + b.toNat) (Nat.lt_succ_self _) (by omega)
    simp only [List.length_cons] at h h'
    have hp : puE 16 (hexs (a.toNat * 256 + b.toNat)) = some (a.toNat * 256 + b.toNat) := by rw [puE, if_neg hx.2.1, hx.1]
    simp only [grps, grpGo, hp]
    rw [if_pos ⟨hexs_len _ (by omega), by omega⟩]
    have e1 : UInt8.ofNat ((a.toNat * 256 + b.toNat) / 256) = a := by
      rw [show (a.toNat * 256 + b.toNat) / 256 = a.toNat by omega]; exact UInt8.ofNat_toNat
    have e2 : UInt8.ofNat (a.toNat * 256 + b.toNat) = b := by
      apply UInt8.toNat.inj
      simp only [UInt8.toNat_ofNat']
      omega
    rw [e1, e2, grpGo_ok r _ (by omega) (by simp; omega)]
    simp
theorem grp_join (l : List UInt8) (h : l.length % 2 = 0) (h' : l.length ≤ 16) : grp (joinG l) = some l := by
  unfold grp joinG
  match l, h, h' with
  | [], _, _ => rfl
  | [_], h, _ => simp at h
  | a :: b :: r, h, h' =>
    have hne : grps (a :: b :: r) ≠ [] := by simp [grps]
    have hj : Lib.join (grps (a :: b :: r)) [58] ≠ [] := by
      simp only [grps]
      rw [Lib.join_cons]
      intro e
      exact (hexs_ok _ (a.toNat * 256 + b.toNat) (Nat.lt_succ_self _) (by have := a.toNat_lt; have := b.toNat_lt; omega)).2.1 (List.append_eq_nil_iff.1 e).1
    rw [if_neg hj, pieces_join _ hne (grps_no (by unfold Odd; decide) _), grpGo_ok _ [] h (by simpa using h')]
    rfl
/-! ### No two colons -/
/-- No two colons stand side by side, and none at the end. -/
def good : List UInt8 → Bool
  | [] => true
  | [b] => b != 58
  | b :: c :: r => !(b == 58 && c == 58) && good (c :: r)
theorem pre2 (b c : UInt8) (l : List UInt8) (h : (b == 58 && c == 58) = false) : List.isPrefixOf [58, 58] (b :: c :: l) = false := by
  show ((58 : UInt8) == b && ((58 : UInt8) == c && true)) = false
  rw [Bool.and_true, BEq.comm (a := (58 : UInt8)) (b := b), BEq.comm (a := (58 : UInt8)) (b := c)]
  exact h
theorem good_index : ∀ (l r : List UInt8), good l = true → Lib.index (l ++ 58 :: 58 :: r) [58, 58] = (l.length : Int)
  | [], r, _ => by simp [Lib.index]
  | [b], r, h => by
    have hb : b ≠ 58 := by simpa [good] using h
    have hb' : ((58 : UInt8) == b) = false := by simpa using fun e => hb (Eq.symm e)
    simp [Lib.index, List.isPrefixOf, hb']
  | b :: c :: l, r, h => by
    simp only [good, Bool.and_eq_true, Bool.not_eq_true'] at h
    have ih := good_index (c :: l) r h.2
    have hp := pre2 b c (l ++ 58 :: 58 :: r) h.1
    have hu : Lib.index (b :: (c :: l ++ 58 :: 58 :: r)) [58, 58] = if Lib.index (c :: l ++ 58 :: 58 :: r) [58, 58] == -1 then -1 else Lib.index (c :: l ++ 58 :: 58 :: r) [58, 58] + 1 := by
      rw [Lib.index]
      rw [if_neg (by rw [List.cons_append]; simp [hp])]
    rw [List.cons_append, hu, ih]
    have : ¬ (((c :: l).length : Int) == -1) = true := by simp; omega
    rw [if_neg this]
    simp
theorem good_none : ∀ (l : List UInt8), good l = true → Lib.index l [58, 58] = -1
  | [], _ => by simp [Lib.index]
  | [b], h => by simp [Lib.index, List.isPrefixOf]
  | b :: c :: l, h => by
    simp only [good, Bool.and_eq_true, Bool.not_eq_true'] at h
    have ih := good_none (c :: l) h.2
    have hp := pre2 b c l h.1
    rw [Lib.index, if_neg (by simp [hp]), ih]
    rfl
theorem good_no : ∀ (l : List UInt8), (58 : UInt8) ∉ l → good l = true
  | [], _ => rfl
  | [b], h => by simp at h; simpa [good] using fun e => h (Eq.symm e)
  | b :: c :: l, h => by
    simp only [List.mem_cons, not_or] at h
    have ih := good_no (c :: l) (by simp only [List.mem_cons, not_or]; exact h.2)
    simp only [good, ih, Bool.and_true, Bool.not_eq_true']
    have : (b == 58) = false := by simpa using fun e => h.1 (Eq.symm e)
    rw [this]; rfl
theorem good_app : ∀ (l : List UInt8) (c : UInt8) (r : List UInt8), l ≠ [] → (58 : UInt8) ∉ l → c ≠ 58 → good (c :: r) = true → good (l ++ 58 :: c :: r) = true
  | [], _, _, h, _, _, _ => absurd rfl h
  | [b], c, r, _, h, hc, hr => by
    have hb : (b == 58) = false := by simp at h; simpa using fun e => h (Eq.symm e)
    have hc' : (c == 58) = false := by simpa using hc
    show good (b :: 58 :: c :: r) = true
    simp [good, hb, hc', hr]
  | b :: d :: l, c, r, _, h, hc, hr => by
    simp only [List.mem_cons, not_or] at h
    have ih := good_app (d :: l) c r (by simp) (by simp only [List.mem_cons, not_or]; exact h.2) hc hr
    have hb : (b == 58) = false := by simpa using fun e => h.1 (Eq.symm e)
    show good (b :: d :: (l ++ 58 :: c :: r)) = true
    rw [good, hb]
    simpa using ih
theorem good_join : ∀ (ws : List (List UInt8)), (∀ w ∈ ws, w ≠ [] ∧ (58 : UInt8) ∉ w) → good (Lib.join ws [58]) = true
  | [], _ => rfl
  | [x], h => by rw [Lib.join_one]; exact good_no _ (h x (by simp)).2
  | x :: y :: r, h => by
    have ih := good_join (y :: r) (fun w hw => h w (by simp [hw]))
    have hy := h y (by simp)
    rw [join_two]
    obtain ⟨c, t, ht⟩ : ∃ c t, y = c :: t := by
      cases y with
      | nil => exact absurd rfl hy.1
      | cons c t => exact ⟨c, t, rfl⟩
    have hj : Lib.join (y :: r) [58] = c :: (t ++ Lib.joinTail [58] r) := by rw [Lib.join_cons, ht]; rfl
    rw [hj] at ih ⊢
    refine good_app x c _ (h x (by simp)).1 (h x (by simp)).2 (fun e => hy.2 (by rw [ht, e]; simp)) ih
theorem good_joinG (l : List UInt8) : good (joinG l) = true := good_join _ fun w hw => ⟨(grps_ok l w hw).1, grps_no (by unfold Odd; decide) l w hw⟩
/-! ### Zeros that :: stands for -/
theorem zrl_zero : ∀ (l : List UInt8) (i : Nat), i < zrl l → l[i]? = some 0
  | [], i, h => by simp [zrl] at h
  | [_], i, h => by simp [zrl] at h
  | a :: b :: r, i, h => by
    simp only [zrl] at h
    split at h
    · rename_i hab
      match i, h with
      | 0, _ => simp [hab.1]
      | 1, _ => simp [hab.2]
      | i + 2, h => simpa using zrl_zero r i (by omega)
    · omega
theorem lzF_zero (l : List UInt8) : ∀ k i, (lzF l k).1 ≤ i → i < (lzF l k).2 → l[i]? = some 0
  | 0, i, _, h => by simp [lzF] at h
  | k + 1, i, h1, h2 => by
    simp only [lzF] at h1 h2
    split at h1
    · rename_i hc
      rw [if_pos hc] at h2
      dsimp only at h1 h2
      have := zrl_zero (l.drop (2 * k)) (i - 2 * k) (by omega)
      rw [List.getElem?_drop] at this
      rwa [show 2 * k + (i - 2 * k) = i by omega] at this
    · rename_i hc
      rw [if_neg hc] at h2
      exact lzF_zero l k i h1 h2
theorem lzF_wide (l : List UInt8) : ∀ k, (lzF l k).1 = (lzF l k).2 ∨ (lzF l k).1 + 4 ≤ (lzF l k).2
  | 0 => .inl rfl
  | k + 1 => by
    simp only [lzF]
    split
    · rename_i hc; exact .inr (by dsimp only; omega)
    · exact lzF_wide l k
/-! ### What is printed is read again -/
theorem index_no {c : UInt8} : ∀ (l : List UInt8), c ∉ l → Lib.indexByte l c = -1
  | [], _ => rfl
  | b :: l, h => by
    simp only [List.mem_cons, not_or] at h
    have hb : (b == c) = false := by simpa using fun e => h.1 (Eq.symm e)
    rw [Lib.indexByte, hb, index_no l h.2]
    rfl
theorem index_yes {c : UInt8} : ∀ (l : List UInt8), c ∈ l → 0 ≤ Lib.indexByte l c
  | b :: l, h => by
    rw [Lib.indexByte]
    by_cases hb : b = c
    · rw [if_pos (by simpa using hb)]; omega
    · rw [if_neg (by simpa using hb)]
      have := index_yes l ((List.mem_cons.1 h).resolve_left (fun e => hb (Eq.symm e)))
      rw [if_neg (by simp; omega)]; omega
theorem six_back (a : Ad) : six (pgS a) = some a ∧ (58 : UInt8) ∈ pgS a := by
  have hle := lzF_le a.l a.len 8 (by omega)
  have hev := lzF_even a.l 8
  have hzero := lzF_zero a.l 8
  have hwide := lzF_wide a.l 8
  unfold pgS
  generalize (lzF a.l 8).1 = f at *
  generalize (lzF a.l 8).2 = t at *
  have hlen := a.len
  by_cases hft : f = t
  · rw [if_pos hft]
    have hcut : Lib.cut (joinG a.l) [58, 58] = (joinG a.l, [], false) := by
      unfold Lib.cut
      rw [good_none _ (good_joinG _)]
      rfl
    refine ⟨?_, ?_⟩
    · unfold six
      rw [hcut]
      dsimp only
      rw [grp_join a.l (by omega) (by omega), show grp [] = some [] from rfl]
      dsimp only
      rw [if_neg (by simp [hlen])]
      congr 1
      apply Ad.ext
      show (a.l ++ List.replicate (16 - a.l.length - 0) 0 ++ [] ++ List.replicate 16 0).take 16 = a.l
      rw [hlen]
      simp [hlen]
    · match a.l, hlen with
      | x0 :: x1 :: x2 :: x3 :: r, _ =>
        unfold joinG
        simp only [grps]
        rw [join_two]
        simp
  · rw [if_neg hft]
    have h4 : f + 4 ≤ t := by rcases hwide with h | h <;> omega
    have hcut : Lib.cut (joinG (a.l.take f) ++ [58, 58] ++ joinG (a.l.drop t)) [58, 58] = (joinG (a.l.take f), joinG (a.l.drop t), true) := by
      have e : joinG (a.l.take f) ++ [58, 58] ++ joinG (a.l.drop t) = joinG (a.l.take f) ++ 58 :: 58 :: joinG (a.l.drop t) := by simp
      have hi := good_index (joinG (a.l.take f)) (joinG (a.l.drop t)) (good_joinG _)
      rw [e]
      unfold Lib.cut
      rw [hi, if_pos (by omega), Int.toNat_natCast]
      simp
    refine ⟨?_, by simp⟩
    unfold six
    rw [hcut]
    dsimp only
    rw [grp_join (a.l.take f) (by simp; omega) (by simp; omega), grp_join (a.l.drop t) (by simp; omega) (by simp; omega)]
    dsimp only
    rw [if_neg (by simp [hlen]; omega)]
    congr 1
    apply Ad.ext
    show (a.l.take f ++ List.replicate (16 - (a.l.take f).length - (a.l.drop t).length) 0 ++ a.l.drop t ++ List.replicate 16 0).take 16 = a.l
    have e1 : (a.l.take f).length = f := by simp [hlen]; omega
    have e2 : (a.l.drop t).length = 16 - t := by simp [hlen]
    rw [e1, e2, show 16 - f - (16 - t) = t - f by omega, List.take_append_of_le_length (by simp [hlen]; omega), List.take_of_length_le (by simp [hlen]; omega)]
    apply List.ext_getElem?
    intro i
    by_cases h1 : i < f
    · rw [List.append_assoc, List.getElem?_append_left (by omega), List.getElem?_take_of_lt h1]
    · by_cases h2 : i < t
      · rw [List.append_assoc, List.getElem?_append_right (by omega), e1, List.getElem?_append_left (by simp; omega), List.getElem?_replicate, if_pos (by omega), hzero i (by omega) h2]
      · rw [List.getElem?_append_right (by simp [hlen]; omega), List.getElem?_drop]
        congr 1
        simp [hlen]; omega
theorem fam_head {a : Ad} (h : famA a = 4) : a.l = [0, 0, 0, 0, 0, 0, 0, 0, 0, 0, 255, 255] ++ a.l.drop 12 := by
  unfold famA at h
  split at h
  · rename_i hc
    rw [show ([0, 0, 0, 0, 0, 0, 0, 0, 0, 0, 255, 255] : List UInt8) = mapA.l.take 12 from rfl, ← hc]
    apply List.ext_getElem?
    intro i
    by_cases hi : i < 12
    · rw [List.getElem?_append_left (by simp [cutA, a.len]; omega), List.getElem?_take_of_lt hi]
      simp only [cutA, List.getElem?_mapIdx]
      rw [List.getElem?_eq_getElem (by rw [a.len]; omega), Option.map_some, keepB_all (by omega)]
    · rw [List.getElem?_append_right (by simp [cutA, a.len]; omega), List.getElem?_drop]
      congr 1
      simp [cutA, a.len]; omega
  · cases h
theorem four_of {α : Type} : ∀ {l : List α}, l.length = 4 → ∃ a b c d, l = [a, b, c, d]
  | [a, b, c, d], _ => ⟨a, b, c, d, rfl⟩
theorem ppW_no {c : UInt8} (hc : Odd c) (l : List UInt8) : ∀ w ∈ ppW l, c ∉ w := fun w hw h => by
  unfold ppW at hw
  obtain ⟨b, _, rfl⟩ := List.mem_map.1 hw
  exact hc (.inl ((itoa_byte b.toNat b.toNat_lt).2 c h))
theorem pts_back {a : Ad} (h : famA a = 4) : pts (ppS a) = some a := by
  have hh := fam_head h
  obtain ⟨b0, b1, b2, b3, hb⟩ := four_of (l := a.l.drop 12) (by rw [List.length_drop, a.len])
  unfold pts ppS
  rw [hb] at hh ⊢
  rw [pieces_join (ppW [b0, b1, b2, b3]) (by simp [ppW]) (ppW_no (by unfold Odd; decide) _)]
  have e : ∀ b : UInt8, numS (Lib.itoa (b.toNat : Int)) = some b.toNat := fun b => (itoa_byte b.toNat b.toNat_lt).1
  have l : ∀ b : UInt8, b.toNat ≤ 255 := fun b => Nat.le_of_lt_succ b.toNat_lt
  have o : ∀ b : UInt8, UInt8.ofNat b.toNat = b := fun b => UInt8.ofNat_toNat
  simp only [ppW, List.map_cons, List.map_nil, ptsGo, e, o, l, List.nil_append, List.cons_append, List.length_cons, List.length_nil, true_and, Nat.reduceAdd, Nat.reduceLT, if_true, Option.map_some]
  congr 1
  apply Ad.ext
  rw [hh]
  rfl
theorem pps_no {c : UInt8} (hc : Odd c) (h46 : c ≠ 46) (a : Ad) : c ∉ ppS a := fun h => by
  rcases mem_join _ h with h | ⟨w, hw, h⟩
  · exact h46 h
  · exact ppW_no hc _ w hw h
theorem joinG_no {c : UInt8} (hc : Odd c) (h58 : c ≠ 58) (l : List UInt8) : c ∉ joinG l := fun h => by
  rcases mem_join _ h with h | ⟨w, hw, h⟩
  · exact h58 h
  · exact grps_no hc _ w hw h
theorem pgs_no {c : UInt8} (hc : Odd c) (h58 : c ≠ 58) (a : Ad) : c ∉ pgS a := by
  unfold pgS
  split
  · exact joinG_no hc h58 _
  · simp only [List.mem_append, List.mem_cons, List.not_mem_nil, or_false, not_or]
    exact ⟨⟨joinG_no hc h58 _, h58, h58⟩, joinG_no hc h58 _⟩
theorem inG_points (a : Ad) : inG (ppS a) = false := by
  unfold inG
  rw [index_no _ (pps_no (by unfold Odd; decide) (by decide) a)]
  rfl
theorem inG_groups (a : Ad) : inG (pgS a) = true := by
  unfold inG
  simpa using index_yes _ (six_back a).2
theorem prs_points {a : Ad} (h : famA a = 4) : prs (ppS a) = some a := by
  rw [prs, if_neg (by rw [inG_points]; simp), pts_back h]
theorem prs_groups (a : Ad) : prs (pgS a) = some a := by
  rw [prs, if_pos (inG_groups a), (six_back a).1]
/-- An address that is printed is read again. -/
theorem prs_back (a : Ad) : prs (prtA a) = some a := by
  unfold prtA
  split
  · rename_i h; exact prs_points h
  · exact prs_groups a
theorem index_one {c : UInt8} : ∀ (l r : List UInt8), c ∉ l → Lib.index (l ++ c :: r) [c] = (l.length : Int)
  | [], r, _ => by simp [Lib.index]
  | b :: l, r, h => by
    simp only [List.mem_cons, not_or] at h
    have ih := index_one l r h.2
    have hp : List.isPrefixOf [c] (b :: (l ++ c :: r)) = false := by
      show (c == b && true) = false
      have : (c == b) = false := by simpa using h.1
      rw [this]; rfl
    rw [List.cons_append, Lib.index, if_neg (by rw [hp]; simp), ih, if_neg (by simp)]
    simp
theorem index_mis {c : UInt8} : ∀ (l : List UInt8), c ∉ l → Lib.index l [c] = -1
  | [], _ => by simp [Lib.index]
  | b :: l, h => by
    simp only [List.mem_cons, not_or] at h
    have ih := index_mis l h.2
    have hp : List.isPrefixOf [c] (b :: l) = false := by
      show (c == b && true) = false
      have : (c == b) = false := by simpa using h.1
      rw [this]; rfl
    rw [Lib.index, if_neg (by rw [hp]; simp), ih]
    rfl
theorem cut_at {c : UInt8} (l r : List UInt8) (h : c ∉ l) : Lib.cut (l ++ [c] ++ r) [c] = (l, r, true) := by
  rw [List.append_assoc, List.singleton_append]
  unfold Lib.cut
  rw [index_one l r h, if_pos (by omega), Int.toNat_natCast]
  simp
/-- A prefix that is printed is read again. -/
theorem prf_back {p : Pf} (h : chk p = 0) : prf (prtP p) = (p, 0) := by
  have hr := chk_range h
  unfold prtP
  rw [if_neg (by simpa using h)]
  by_cases h4 : famP p = 4
  · rw [if_pos h4]
    have h96 := famP_range h4
    have ha : famA p.a = 4 := by
      unfold famP at h4
      split at h4
      · rename_i hh; exact hh.2
      · cases h4
    have hp : prtA p.a = ppS p.a := by rw [prtA, if_pos ha]
    obtain ⟨n, hn⟩ : ∃ n : Nat, p.n - 96 = (n : Int) := ⟨(p.n - 96).toNat, by omega⟩
    unfold prf
    rw [hp, hn, cut_at _ _ (pps_no (by unfold Odd; decide) (by decide) _)]
    dsimp only
    rw [prs_points ha, (itoa_byte n (by omega)).1]
    dsimp only
    simp only [inG_points, Bool.false_eq_true, if_false]
    have hq : (⟨p.a, (n : Int) + 96⟩ : Pf) = p := Pf.ext rfl (by show (n : Int) + 96 = p.n; omega)
    rw [hq, if_pos h]
  · rw [if_neg h4]
    obtain ⟨n, hn⟩ : ∃ n : Nat, p.n = (n : Int) := ⟨p.n.toNat, by omega⟩
    unfold prf
    rw [hn, cut_at _ _ (pgs_no (by unfold Odd; decide) (by decide) _)]
    dsimp only
    rw [prs_groups, (itoa_byte n (by omega)).1]
    dsimp only
    rw [inG_groups, if_pos rfl]
    have hq : (⟨p.a, (n : Int)⟩ : Pf) = p := Pf.ext rfl hn.symm
    rw [hq, if_pos h]
theorem prtP_no {c : UInt8} (hc : Odd c) (h46 : c ≠ 46) (h58 : c ≠ 58) (h47 : c ≠ 47) {p : Pf} (h : chk p = 0) : c ∉ prtP p := by
  have hr := chk_range h
  have hi : ∀ n : Int, 0 ≤ n → n ≤ 128 → c ∉ Lib.itoa n := fun n h0 h1 hm => by
    obtain ⟨k, rfl⟩ : ∃ k : Nat, n = (k : Int) := ⟨n.toNat, by omega⟩
    exact hc (.inl ((itoa_byte k (by omega)).2 c hm))
  unfold prtP
  rw [if_neg (by simpa using h)]
  split
  · rename_i h4
    have h96 := famP_range h4
    simp only [List.mem_append, List.mem_cons, List.not_mem_nil, or_false, not_or]
    refine ⟨⟨?_, h47⟩, hi _ (by omega) (by omega)⟩
    unfold prtA
    split
    · exact pps_no hc h46 _
    · exact pgs_no hc h58 _
  · simp only [List.mem_append, List.mem_cons, List.not_mem_nil, or_false, not_or]
    exact ⟨⟨pgs_no hc h58 _, h47⟩, hi _ hr.1 hr.2⟩
theorem words_one {s : List UInt8} (h : (32 : UInt8) ∉ s) : words s = [s] := by
  unfold words
  rw [Lib.splitB_miss _ _ _ _ (by show Lib.index s [32] = -1; exact index_mis s h)]
  rfl
theorem words_three {x m y : List UInt8} (hx : (32 : UInt8) ∉ x) (hm : (32 : UInt8) ∉ m) (hy : (32 : UInt8) ∉ y) : words (x ++ [32] ++ m ++ [32] ++ y) = [x, m, y] := by
  have e : x ++ [32] ++ m ++ [32] ++ y = x ++ 32 :: (m ++ 32 :: y) := by simp
  rw [e]
  unfold words
  have hk : min 4 ((x ++ 32 :: (m ++ 32 :: y)).length + 1) - 1 = (if 4 ≤ (x ++ 32 :: (m ++ 32 :: y)).length + 1 then 3 else 2) := by
    simp only [List.length_append, List.length_cons]
    split <;> omega
  have h1 : Lib.indexB (str (x ++ 32 :: (m ++ 32 :: y))) ⟨#[32]⟩ = (x.length : Int) := index_one x (m ++ 32 :: y) hx
  have s1 : (str (x ++ 32 :: (m ++ 32 :: y))).extract (x.length + (ByteArray.mk #[32]).size) (str (x ++ 32 :: (m ++ 32 :: y))).size = str (m ++ 32 :: y) := by
    apply ByteArray.ext
    apply Array.toList_inj.1
    rw [Lib.extract_to_end]
    show (x ++ 32 :: (m ++ 32 :: y)).drop (x.length + 1) = m ++ 32 :: y
    simp
  have t1 : ((str (x ++ 32 :: (m ++ 32 :: y))).extract 0 (x.length + 0)).data.toList = x := by
    rw [Lib.extract_data]
    show ((x ++ 32 :: (m ++ 32 :: y)).drop 0).take (x.length + 0 - 0) = x
    simp
  have h2 : Lib.indexB (str (m ++ 32 :: y)) ⟨#[32]⟩ = (m.length : Int) := index_one m y hm
  have s2 : (str (m ++ 32 :: y)).extract (m.length + (ByteArray.mk #[32]).size) (str (m ++ 32 :: y)).size = str y := by
    apply ByteArray.ext
    apply Array.toList_inj.1
    rw [Lib.extract_to_end]
    show (m ++ 32 :: y).drop (m.length + 1) = y
    simp
  have t2 : ((str (m ++ 32 :: y)).extract 0 (m.length + 0)).data.toList = m := by
    rw [Lib.extract_data]
    show ((m ++ 32 :: y).drop 0).take (m.length + 0 - 0) = m
    simp
  have h3 : Lib.indexB (str y) ⟨#[32]⟩ = -1 := index_mis y hy
  have key : ∀ k, (Lib.splitB ⟨#[32]⟩ 0 (k + 2) (str (x ++ 32 :: (m ++ 32 :: y)))).map (·.data.toList) = [x, m, y] := fun k => by
    rw [Lib.splitB_hit _ _ _ _ _ h1, s1, Lib.splitB_hit _ _ _ _ _ h2, s2, Lib.splitB_miss _ _ _ _ h3]
    simp only [List.map_cons, List.map_nil, t1, t2]
  rw [hk]
  split
  · exact key 1
  · exact key 0
/-- A pair that is printed is read again. -/
theorem prq_back {q : Pr} (h : chkQ q = 0) : prq (prtQ q) = (q, 0) := by
  have hd : chk q.d = 0 ∧ chk q.s = 0 ∧ famP q.d = famP q.s := by
    by_cases h1 : chk q.d = 0
    · have e : orI (chk q.d) (chk q.s) = chk q.s := by rw [orI, if_pos h1]
      rw [chkQ, e] at h
      by_cases h2 : chk q.s = 0
      · rw [if_neg (by simpa using h2)] at h
        by_cases h3 : famP q.d = famP q.s
        · exact ⟨h1, h2, h3⟩
        · rw [if_neg h3] at h; cases h
      · rw [if_pos h2] at h; exact absurd h h2
    · have e : orI (chk q.d) (chk q.s) = chk q.d := by rw [orI, if_neg h1]
      rw [chkQ, e, if_pos h1] at h; exact absurd h h1
  obtain ⟨h1, h2, h3⟩ := hd
  have n1 : (32 : UInt8) ∉ prtP q.d := prtP_no (by unfold Odd; decide) (by decide) (by decide) (by decide) h1
  have n2 : (32 : UInt8) ∉ prtP q.s := prtP_no (by unfold Odd; decide) (by decide) (by decide) (by decide) h2
  have ne : prtP q.s ≠ [] := by
    unfold prtP
    rw [if_neg (by simpa using h2)]
    split <;> simp
  unfold prtQ
  rw [if_neg (by simpa using h)]
  cases hs : spec q with
  | true =>
    rw [if_pos rfl]
    have hw := words_three n1 (m := [102, 114, 111, 109]) (by decide) n2
    unfold prq
    rw [hw]
    have hp : pwB [prtP q.d, [102, 114, 111, 109], prtP q.s] = true := by
      simp [pwB, ne]
    rw [if_pos hp]
    simp only [List.getD_cons_zero, List.getD_cons_succ, List.length_cons, List.length_nil, Nat.reduceAdd, if_true, prf_back h1, prf_back h2]
    rw [prq2, if_pos h]
  | false =>
    rw [if_neg (by simp)]
    have hw := words_one n1
    unfold prq
    rw [hw]
    have hp : pwB [prtP q.d] = true := by simp [pwB]
    rw [if_pos hp]
    simp only [List.getD_cons_zero, List.length_cons, List.length_nil, Nat.reduceAdd, if_true, prf_back h1]
    have hq : (⟨q.d, anyP (famP q.d)⟩ : Pr) = q := by
      refine Pr.ext rfl ?_
      show anyP (famP q.d) = q.s
      unfold spec at hs
      simp only [Bool.not_eq_false'] at hs
      rw [h3]
      exact ((eqPf q.s (anyP (famP q.s))).1 hs).symm
    rw [if_neg (by decide), prq2, hq, if_pos h]
end Go.Proofs.YtimpopolkofdgaaDoor
