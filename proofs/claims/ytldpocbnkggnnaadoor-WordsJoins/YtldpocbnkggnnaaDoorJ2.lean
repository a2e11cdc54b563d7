/-
  The document's Join, Decimal, Number and PrintId.
-/
import Derived.Test.YtldpocbnkggnnaaDoorJ1
import Derived.Test.YtldpocbnkggnnaaDoorBaW
namespace Go.Proofs.YtldpocbnkggnnaaDoor
open Go.RowKit
set_option linter.unusedSimpArgs false
set_option maxRecDepth 20000
set_option maxHeartbeats 2000000 in
theorem rjoin_any (ws : List (List UInt8)) (hP : Prn ws) (a : Option Addr) (n c : Nat) (w : World) (hs : Src w a n c (scells ws)) :
    Calls Tryd.prog 18 #[.slice a n c] w fun e w' => e = .returned (.string (str (joinW ws))) ∧ w' = w := by
  have HN : Hid (n = ws.length) := hs.slen
  have hn : n ≤ 300 := by rw [HN.out]; exact hP.2.1
  have HT : Hid (∀ j (h : j < ws.length), joinW (ws.take (j + 1)) = (if j = 0 then [] else joinW (ws.take j) ++ [32]) ++ wrd ws[j]) := joinW_take ws
  have HE : Hid (joinW (ws.take n) = joinW ws) := by show _ = _; rw [List.take_of_length_le (by rw [HN.out]; exact Nat.le_refl _)]
  have HL : Hid (∀ j (h : j < ws.length), ws[j].length ≤ 70000) := fun j h => Nat.le_trans (mem_tot ws _ (List.getElem_mem h)) hP.2.2
  have HJ : Hid (∀ j, (joinW (ws.take j)).length ≤ 1000000) := fun j => hP.joins j
  have HS : Hid (Src w a n c (scells ws)) := hs
  clear hs hP
  go_enter Tryd.func18, Tryd.ntmps18
  go_wp2
  go_loopw [3, 4] (fun u i wr => ∃ (j : Nat) (ot : ByteArray), j ≤ n ∧ i = .int .i64 j ∧ u = .string ot ∧ ot.size ≤ 1000000 ∧ Hid (ot.data.toList = joinW (ws.take j)) ∧ w = wr) (fun _ i _ => n - (intOf i).toNat)
  case atStart => exact ⟨0, ⟨#[]⟩, Nat.zero_le _, rfl, rfl, by decide, (rfl : _ = _), rfl⟩
  case round =>
    obtain ⟨j, ot, hj, rfl, rfl, hos, hD, rfl⟩ := hrel
    by_cases hlt : j < n
    · have j1 : j < ws.length := by rw [← HN.out]; exact hlt
      have hT := HT.out j j1
      have hL := HL.out j j1
      have hJ := HJ.out (j + 1)
      have v1 : wrap64 ((j : Int) + 1) = (j : Int) + 1 := by unfold wrap64; omega
      cases a with
      | none => exact absurd (HS.out.bare rfl).1 (by omega)
      | some a =>
      have c1 := HS.out.textAt j j1
      obtain ⟨x, hx⟩ : ∃ x, x = ws[j] := ⟨_, rfl⟩
      rw [← hx] at c1 hT hL
      clear hx
      have hwl := wrd_len x
      obtain ⟨t, ht⟩ : ∃ t, t = str x := ⟨_, rfl⟩
      have hts : t.size = x.length := by rw [ht, ← len_t]
      have hw := fun W => rword_any t W (by omega)
      rw [show t.data.toList = x by rw [ht]] at hw
      rw [← ht] at c1
      obtain ⟨sw, hsw⟩ : ∃ s, s = str (wrd x) := ⟨_, rfl⟩
      have hss : sw.size = (wrd x).length := by rw [hsw, ← len_t]
      have hsd : sw.data.toList = wrd x := by rw [hsw]
      rw [← hsw] at hw
      clear hsw ht
      rw [hT] at hJ
      by_cases h0 : j = 0
      · subst h0
        have c0 : w.cell? a = some (.string t) := by
          have e : a.add 0 = a := by cases a; simp [Addr.add]
          rwa [e] at c1
        obtain ⟨x2, e2⟩ : ∃ x, ot ++ sw = x := ⟨_, rfl⟩
        have hoe : ot.size = 0 := by rw [← len_t, hD.out]; rfl
        have y2 : ¬ 9223372036854775807 < ot.size + sw.size := by omega
        have hD2 : Hid (x2.data.toList = joinW (ws.take (0 + 1))) := by show _ = _; rw [← e2, app_t, hD.out, hT, hsd]; rfl
        have s2 : x2.size ≤ 1000000 := by rw [← e2, ByteArray.size_append]; omega
        clear hD hT hJ hsd
        go_wp2_with (go_at_call 34; refine (hw _).mono ?_; rintro e w ⟨rfl, rfl⟩)
        go_roundw
        case rel => exact ⟨0 + 1, x2, by omega, by go_num, by simp, s2, hD2, trivial⟩
        case measure => simp [intOf]; omega
      · have h0' : (0 : Int) < (j : Int) := by omega
        rw [if_neg h0] at hT hJ
        obtain ⟨x1, e1⟩ : ∃ x, ot ++ ⟨#[32]⟩ = x := ⟨_, rfl⟩
        obtain ⟨x2, e2⟩ : ∃ x, x1 ++ sw = x := ⟨_, rfl⟩
        have z1 : x1.size = ot.size + 1 := by rw [← e1, ByteArray.size_append]; rfl
        have y1 : ¬ 9223372036854775807 < ot.size + 1 := by omega
        have y2 : ¬ 9223372036854775807 < x1.size + sw.size := by omega
        have hD2 : Hid (x2.data.toList = joinW (ws.take (j + 1))) := by show _ = _; rw [← e2, app_t, ← e1, app_t, hD.out, hT, hsd]
        have s2 : x2.size ≤ 1000000 := by rw [← len_t, hD2.out, hT]; exact hJ
        clear hD hT hJ hsd
        go_wp2_with (go_at_call 34; refine (hw _).mono ?_; rintro e w ⟨rfl, rfl⟩)
        go_roundw
        case rel => exact ⟨j + 1, x2, by omega, by go_num, by simp, s2, hD2, trivial⟩
        case measure => simp [intOf]; omega
    · obtain rfl : n = j := Nat.le_antisymm (Nat.le_of_not_lt hlt) hj
      have hx : Hid (ot = str (joinW ws)) := by show _ = _; rw [← HE.out, ← hD.out, str_t]
      go_wp2
      go_ret
      exact ⟨by rw [← hx.out]; rfl, rfl⟩
def decV : Option Nat → Value
  | some u => .tuple #[.int .i64 (u : Int), .bool true]
  | none => .tuple #[.int .i64 0, .bool false]
theorem rdec_any (t : ByteArray) (w : World) : Calls Tryd.prog 35 #[.string t, .int .i64 10] w fun e w' => e = .returned (decV (decN t.data.toList)) ∧ w' = w := by
  have hl := len_t t
  by_cases h0 : t.size = 0
  · have hn : t.data.toList = [] := List.eq_nil_of_length_eq_zero (by rw [len_t]; omega)
    have e0 : t.toList.isEmpty = true := by rw [ByteArray.toList_eq, hn]; rfl
    have HV : Hid (decN t.data.toList = none) := by rw [hn]; rfl
    generalize decN t.data.toList = V at *
    clear hl hn h0
    go_enter Tryd.func35, Tryd.ntmps35
    go_wp2
    go_ret2
    exact ⟨by rw [HV.out]; rfl, rfl⟩
  have hne : t.data.toList ≠ [] := by intro h; rw [h] at hl; simp at hl; omega
  have e0 : t.toList.isEmpty = false := by rw [ByteArray.toList_eq]; simpa using hne
  by_cases h3 : 10 < t.size
  · have HV : Hid (decN t.data.toList = none) := by
      show _ = _
      unfold decN; rw [if_pos (.inr (.inl (by omega)))]
    generalize decN t.data.toList = V at *
    have h3' : (10 : Int) < (t.size : Int) := by omega
    clear hl hne h0 h3
    go_enter Tryd.func35, Tryd.ntmps35
    go_wp2
    go_ret2
    exact ⟨by rw [HV.out]; rfl, rfl⟩
  have h3' : ¬ (10 : Int) < (t.size : Int) := by omega
  have hp : 0 < t.size := by omega
  have hz : t.data.toList.head? = some t[0] := by
    have := at_byte t 0 hp
    rw [← this]; cases t.data.toList <;> rfl
  have hone : 1 < t.size ∨ (t[0] = 48 → t.data.toList = [48]) := by
    by_cases h : 1 < t.size
    · exact .inl h
    · right
      intro h48
      have hd := drop_byte t 0 hp
      rw [List.drop_zero, List.drop_eq_nil_of_le (by rw [len_t]; omega), h48] at hd
      exact hd
  by_cases h1 : 1 < t.size ∧ t[0] = 48
  · have HV : Hid (decN t.data.toList = none) := by
      show _ = _
      unfold decN; rw [if_pos (.inr (.inr ⟨by rw [hz, h1.2], fun h => by have := congrArg List.length h; rw [len_t] at this; simp at this; omega⟩))]
    generalize decN t.data.toList = V at *
    have h1' : (1 : Int) < (t.size : Int) := by omega
    have hb : ((t[0].toNat : Int) == 48) = true := by rw [h1.2]; rfl
    clear hl h0 h3 h1 hz hne hone
    go_enter Tryd.func35, Tryd.ntmps35
    go_wp2
    go_ret2
    exact ⟨by rw [HV.out]; rfl, rfl⟩
  have HN : Hid (decN t.data.toList = decGo 0 t.data.toList) := by
    show _ = _
    unfold decN
    rw [if_neg]
    rintro (h | h | ⟨h, h'⟩)
    · exact hne h
    · omega
    · rw [hz] at h
      have h48 := Option.some.inj h
      rcases hone with h2 | h2
      · exact h1 ⟨h2, h48⟩
      · exact h' (h2 h48)
  have HI : Hid (∀ j (h : j < t.size), t.data.toList[j]? = some t[j]) := at_byte t
  have HL : Hid (t.data.toList.length = t.size) := hl
  have h1' : ¬ (1 : Int) < (t.size : Int) ∨ (1 : Int) < (t.size : Int) ∧ ((t[0].toNat : Int) == 48) = false := by
    by_cases h : 1 < t.size
    · right
      refine ⟨by omega, ?_⟩
      rw [beq_eq_false_iff_ne]
      intro e
      exact h1 ⟨h, UInt8.toNat.inj (by simp; omega)⟩
    · left; omega
  generalize decN t.data.toList = D at *
  generalize t.data.toList = l at *
  clear hl h0 h1 hz hne hone
  go_enter Tryd.func35, Tryd.ntmps35
  rcases h1' with h1' | ⟨h1', h2'⟩
  all_goals go_wp2
  all_goals
    go_loopw [6, 7] (fun v i wr => ∃ (j n : Nat), j ≤ t.size ∧ i = .int .i64 j ∧ v = .int .i64 n ∧ Hid (n < 10 ^ j) ∧ Hid (decGo 0 l = decGo n (l.drop j)) ∧ w = wr) (fun _ i _ => t.size - (intOf i).toNat)
    case atStart => exact ⟨0, 0, Nat.zero_le _, rfl, rfl, (by decide : 0 < 10 ^ 0), (rfl : _ = _), rfl⟩
    case round =>
      obtain ⟨j, n, hj, rfl, rfl, hn, hd, rfl⟩ := hrel
      by_cases hlt : j < t.size
      · have hst := dec_step n (HI.out j hlt)
        have hn2 : n < 1000000000 := by
          have : 10 ^ j ≤ 10 ^ 9 := Nat.pow_le_pow_right (by decide) (by omega)
          have := hn.out
          omega
        have hb8 := t[j].toNat_lt
        have w1 : wrap64 ((j : Int) + 1) = (j : Int) + 1 := by unfold wrap64; omega
        by_cases c1 : t[j].toNat < 48
        · have c1' : ((t[j].toNat : Nat) : Int) < 48 := by omega
          have HF : Hid (D = none) := by show _ = _; rw [HN.out, hd.out, hst, if_neg (by omega)]
          clear hst hd
          go_wp2
          go_ret2
          exact ⟨by rw [HF.out]; rfl, rfl⟩
        · by_cases c2 : 57 < t[j].toNat
          · have c1' : ¬ ((t[j].toNat : Nat) : Int) < 48 := by omega
            have c2' : (57 : Int) < ((t[j].toNat : Nat) : Int) := by omega
            have HF : Hid (D = none) := by show _ = _; rw [HN.out, hd.out, hst, if_neg (by omega)]
            clear hst hd
            go_wp2
            go_ret2
            exact ⟨by rw [HF.out]; rfl, rfl⟩
          · have c1' : ¬ ((t[j].toNat : Nat) : Int) < 48 := by omega
            have c2' : ¬ (57 : Int) < ((t[j].toNat : Nat) : Int) := by omega
            have HF : Hid (decGo 0 l = decGo (10 * n + (t[j].toNat - 48)) (l.drop (j + 1))) := by show _ = _; rw [hd.out, hst, if_pos (by omega)]
            have HP : Hid (10 * n + (t[j].toNat - 48) < 10 ^ (j + 1)) := by
              show _ < _
              have := hn.out
              rw [Nat.pow_succ]; omega
            have hw8 : IntKind.u8.wrap (((t[j].toNat : Nat) : Int) - 48) = ((t[j].toNat - 48 : Nat) : Int) := by
              simp [IntKind.wrap, IntKind.signed, IntKind.bits]; omega
            clear hst hd
            go_wp2
            go_roundw
            case rel => exact ⟨j + 1, 10 * n + (t[j].toNat - 48), by omega, by go_num, by go_num, HP.out, HF.out, trivial⟩
            case measure => simp [intOf]; omega
      · have HF : Hid (D = some n) := by
          show _ = _
          rw [HN.out, hd.out, List.drop_eq_nil_of_le (by rw [HL.out]; omega)]; rfl
        clear hd
        go_wp2
        go_ret2
        exact ⟨by rw [HF.out]; rfl, rfl⟩
theorem rnumber_any (t : ByteArray) (most : Int) (w : World) : Calls Tryd.prog 20 #[.string t, .int .i64 most] w fun e w' => e = .returned (numV (decN t.data.toList) most) ∧ w' = w := by
  have hd := rdec_any t w
  generalize decN t.data.toList = D at *
  cases D with
  | none =>
    unfold decV at hd
    dsimp only at hd
    go_enter Tryd.func20, Tryd.ntmps20
    go_wp2_with (go_at_call 35; refine hd.mono ?_; rintro e w' ⟨rfl, rfl⟩)
    go_ret2
    exact ⟨rfl, rfl⟩
  | some u =>
    unfold decV at hd
    dsimp only at hd
    by_cases hm : most < (u : Int)
    · go_enter Tryd.func20, Tryd.ntmps20
      go_wp2_with (go_at_call 35; refine hd.mono ?_; rintro e w' ⟨rfl, rfl⟩)
      go_ret2
      exact ⟨by show _ = Ending.returned (numV (some u) most); unfold numV; dsimp only; rw [if_neg (by omega)]; rfl, rfl⟩
    · go_enter Tryd.func20, Tryd.ntmps20
      go_wp2_with (go_at_call 35; refine hd.mono ?_; rintro e w' ⟨rfl, rfl⟩)
      go_ret2
      exact ⟨by show _ = Ending.returned (numV (some u) most); unfold numV; dsimp only; rw [if_pos (by omega)]; rfl, rfl⟩
end Go.Proofs.YtldpocbnkggnnaaDoor
