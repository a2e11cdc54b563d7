/-
  The document's Cut and Lines, for every text.
-/
import Derived.Test.YtldpocbnkggnnaaDoorR2
import Derived.Test.YtldpocbnkggnnaaDoorL1
namespace Go.Proofs.YtldpocbnkggnnaaDoor
open Go.RowKit
set_option linter.unusedSimpArgs false
set_option maxRecDepth 20000
theorem pieces_first (c : UInt8) : ∀ (m : List UInt8) (k : Nat), (∀ i, i < k → m[i]? ≠ some c) → m[k]? = some c → pieces c m = m.take k :: pieces c (m.drop (k + 1))
  | [], k, _, h => by simp at h
  | x :: m, 0, _, h => by
    simp at h
    subst h
    simp [pieces]
  | x :: m, k + 1, hn, h => by
    have hx : x ≠ c := fun e => hn 0 (by omega) (by simp [e])
    have ih := pieces_first c m k (fun i hi => by have := hn (i + 1) (by omega); simpa using this) (by simpa using h)
    simp only [pieces, if_neg hx, ih]
    simp
theorem pieces_none (c : UInt8) : ∀ (m : List UInt8), (∀ i : Nat, m[i]? ≠ some c) → pieces c m = [m]
  | [], _ => rfl
  | x :: m, hn => by
    have hx : x ≠ c := fun e => hn 0 (by simp [e])
    have ih := pieces_none c m (fun i => by have := hn (i + 1); simpa using this)
    simp only [pieces, if_neg hx, ih]
theorem infoS : (Tryd.prog.info? 9).map (fun i => (i.zero, i.size, i.bytes)) = some (some (.string ⟨#[]⟩), 1, 16) := by kernel_rfl
/-- What holds while a text is cut. -/
def CutAt (c : UInt8) (l : List UInt8) (j p : Nat) (out : List (List UInt8)) : Prop :=
  (j ≤ l.length ∧ p ≤ j ∧ out ++ pieces c (l.drop p) = pieces c l ∧ ∀ k, p ≤ k → k < j → l[k]? ≠ some c) ∨ (j = l.length + 1 ∧ out = pieces c l)
theorem CutAt.small {c : UInt8} {l : List UInt8} {j p : Nat} {out : List (List UInt8)} (h : CutAt c l j p out) : out.length ≤ l.length + 1 := by
  have hc := pieces_count c l
  rcases h with ⟨_, _, h, _⟩ | ⟨_, h⟩
  · have := congrArg List.length h
    rw [List.length_append] at this
    omega
  · rw [h]; exact hc
theorem CutAt.go {c : UInt8} {l : List UInt8} {j p : Nat} {out : List (List UInt8)} (h : CutAt c l j p out) (hj : j < l.length) (hb : l[j]? ≠ some c) : CutAt c l (j + 1) p out := by
  rcases h with ⟨h1, h2, h3, h4⟩ | ⟨h, _⟩
  · exact .inl ⟨by omega, by omega, h3, fun k hk hkj => by
      by_cases e : k = j
      · subst e; exact hb
      · exact h4 k hk (by omega)⟩
  · omega
theorem CutAt.cut {c : UInt8} {l : List UInt8} {j p : Nat} {out : List (List UInt8)} (h : CutAt c l j p out) (hj : j < l.length) (hb : l[j]? = some c) : CutAt c l (j + 1) (j + 1) (out ++ [(l.drop p).take (j - p)]) := by
  rcases h with ⟨h1, h2, h3, h4⟩ | ⟨h, _⟩
  · refine .inl ⟨by omega, by omega, ?_, fun k hk hkj => by omega⟩
    rw [pieces_first c (l.drop p) (j - p) (fun i hi => by rw [List.getElem?_drop]; exact h4 _ (by omega) (by omega)) (by rw [List.getElem?_drop, show p + (j - p) = j by omega]; exact hb)] at h3
    rw [← h3, List.append_assoc, List.drop_drop]
    rw [show p + (j - p + 1) = j + 1 by omega]
    rfl
  · omega
theorem CutAt.last {c : UInt8} {l : List UInt8} {j p : Nat} {out : List (List UInt8)} (h : CutAt c l j p out) (hj : j = l.length) : CutAt c l (j + 1) (j + 1) (out ++ [(l.drop p).take (j - p)]) := by
  rcases h with ⟨h1, h2, h3, h4⟩ | ⟨h, _⟩
  · refine .inr ⟨by omega, ?_⟩
    rw [pieces_none c (l.drop p) (fun i => by
      rw [List.getElem?_drop]
      by_cases hi : p + i < j
      · exact h4 _ (by omega) hi
      · rw [List.getElem?_eq_none (by omega)]; simp)] at h3
    rw [← h3, List.take_of_length_le (by simp; omega)]
  · omega
theorem CutAt.le {c : UInt8} {l : List UInt8} {j p : Nat} {out : List (List UInt8)} (h : CutAt c l j p out) (hj : j ≤ l.length) : p ≤ j := by
  rcases h with ⟨h1, h2, h3, h4⟩ | ⟨h, _⟩ <;> omega
theorem rcut_any (t : ByteArray) (c : UInt8) (w : World) (hlim : t.size ≤ 1000000) : Calls Tryd.prog 31 #[.string t, .int .u8 c.toNat] w fun e w' => ∃ v, e = .returned v ∧ w'.ownsRow w.heap.size 9 1 v (pieces c t.data.toList).length (scells (pieces c t.data.toList)) ∧ Below w.heap.size w w' := by
  have hl : t.data.toList.length = t.size := Lib.size_eq t
  have HI : Hid (∀ j (h : j < t.size), t.data.toList[j]? = some t[j]) := fun j h => by
    rw [List.getElem?_eq_getElem (by rw [hl]; exact h)]; rfl
  have HL : Hid (t.data.toList.length = t.size) := hl
  have HX : Hid (∀ p j, t.extract p j = str ((t.data.toList.drop p).take (j - p))) := ext_str t
  obtain ⟨i0, hi, hz0, hz1, hz2⟩ := info_parts infoS
  have hA0 : CutAt c t.data.toList 0 0 [] := .inl ⟨Nat.zero_le _, Nat.le_refl _, by simp, fun k _ hk => by omega⟩
  generalize t.data.toList = l at *
  clear hl
  go_enter Tryd.func31, Tryd.ntmps31
  go_wp2
  go_loopw [5, 6, 7] (fun v a i wr => ∃ (j p : Nat) (out : List (List UInt8)), j ≤ t.size + 1 ∧ i = .int .i64 j ∧ a = .int .i64 p ∧ CutAt c l j p out ∧ wr.ownsRow w.heap.size 9 1 v out.length (scells out) ∧ Below w.heap.size w wr) (fun _ _ i _ => t.size + 1 - (intOf i).toNat)
  case atStart => exact ⟨0, 0, [], by omega, rfl, rfl, hA0, World.ownsRow_nil _ _ _ _, Below.refl _ _⟩
  case round =>
    clear hA0
    rename_i wr
    obtain ⟨j, p, out, hj, rfl, rfl, hC, hO, hb⟩ := hrel
    have hsm := hC.small
    rw [HL.out] at hsm
    by_cases hlt : j < t.size
    · have hle := hC.le (by rw [HL.out]; omega)
      have e1 : ((j : Int) == (t.size : Int)) = false := by rw [beq_eq_false_iff_ne]; omega
      have hjI := HI.out j hlt
      by_cases hbc : t[j] = c
      · have e2 : ((t[j].toNat : Int) == (c.toNat : Int)) = true := by rw [hbc]; simp
        have hC' := hC.cut (by rw [HL.out]; exact hlt) (by rw [hjI, hbc])
        go_wp2_with (at_builtin; refine wpList_append_own _ rfl (.tmp 25) (.tmp 30) 23 rfl w.heap.size 9 i0 (.string ⟨#[]⟩) 1 16 Tryd.underlying23 hi hz0 hz1 hz2 rfl (by decide) _ _ _ rfl (hO.alloc _) ⟨wr.heap.size, 0, none⟩ 1 1 [.string (t.extract p j)] rfl rfl (fun i u hu => by rw [Addr.add_mid]; simpa using (Row.new wr 9 [.string (t.extract p j)]).range i u hu) (by simp [Value.oneCell']) (by unfold maxLen; omega) (by omega) (by have := hb.size; simp; omega) ?_; intro v' w3 hown hgrow _; replace hb := (hb.alloc hb.size _).grown hgrow (by have := hb.size; simp; omega) (fun k hk => (hO.lt k hk).1); clear hgrow hO; rw [HX.out] at hown)
        go_roundw
        case rel => exact ⟨j + 1, j + 1, _, by omega, by go_num, by go_num, hC', by rw [scells_append]; simpa [scells] using hown, hb⟩
        case measure => simp [intOf]; omega
      · have e2 : ((t[j].toNat : Int) == (c.toNat : Int)) = false := by
          rw [beq_eq_false_iff_ne]
          intro e
          exact hbc (UInt8.toNat.inj (by omega))
        have hC' := hC.go (by rw [HL.out]; exact hlt) (by rw [hjI]; intro e; exact hbc (Option.some.inj e))
        go_wp2
        go_roundw
        case rel => exact ⟨j + 1, p, out, by omega, by go_num, rfl, hC', hO, hb⟩
        case measure => simp [intOf]; omega
    · by_cases hje : j = t.size
      · subst hje
        have hle := hC.le (by rw [HL.out]; omega)
        have e1 : ((t.size : Int) == (t.size : Int)) = true := by simp
        have hC' := hC.last (HL.out.symm)
        go_wp2_with (at_builtin; refine wpList_append_own _ rfl (.tmp 25) (.tmp 30) 23 rfl w.heap.size 9 i0 (.string ⟨#[]⟩) 1 16 Tryd.underlying23 hi hz0 hz1 hz2 rfl (by decide) _ _ _ rfl (hO.alloc _) ⟨wr.heap.size, 0, none⟩ 1 1 [.string (t.extract p t.size)] rfl rfl (fun i u hu => by rw [Addr.add_mid]; simpa using (Row.new wr 9 [.string (t.extract p t.size)]).range i u hu) (by simp [Value.oneCell']) (by unfold maxLen; omega) (by omega) (by have := hb.size; simp; omega) ?_; intro v' w3 hown hgrow _; replace hb := (hb.alloc hb.size _).grown hgrow (by have := hb.size; simp; omega) (fun k hk => (hO.lt k hk).1); clear hgrow hO; rw [HX.out] at hown)
        go_roundw
        case rel => exact ⟨t.size + 1, t.size + 1, _, by omega, by go_num, by go_num, hC', by rw [scells_append]; simpa [scells] using hown, hb⟩
        case measure => simp [intOf]
      · have hC' : out = pieces c l := by
          rcases hC with ⟨h, _⟩ | ⟨_, h⟩
          · rw [HL.out] at h; omega
          · exact h
        subst hC'
        have e1 : ¬ (j : Int) ≤ (t.size : Int) := by omega
        go_wp2
        go_ret
        exact ⟨_, rfl, hO, hb⟩
theorem rwords_l (t : ByteArray) (A : Ans) (h : wordsL t.data.toList = A) (w : World) : Calls Tryd.prog 10 #[.string t] w fun e w' => ∃ a c, e = .returned (.tuple #[.slice a A.1.length c, .int .i64 (A.2 : Int)]) ∧ w'.ownsRow w.heap.size 9 1 (.slice a A.1.length c) A.1.length (scells A.1) ∧ Src w' a A.1.length c (scells A.1) ∧ Below w.heap.size w w' := by
  subst h
  refine (rwords_any t w).mono fun e w' ⟨v, h1, h2, h3⟩ => ?_
  obtain ⟨a, c, rfl, hs, _⟩ := Src.ofOwn h2
  exact ⟨a, c, h1, h2, hs, h3⟩
theorem rcut_10 (t : ByteArray) (w : World) (hlim : t.size ≤ 1000000) : Calls Tryd.prog 31 #[.string t, .int .u8 10] w fun e w' => ∃ a c, e = .returned (.slice a (pieces 10 t.data.toList).length c) ∧ w'.ownsRow w.heap.size 9 1 (.slice a (pieces 10 t.data.toList).length c) (pieces 10 t.data.toList).length (scells (pieces 10 t.data.toList)) ∧ Below w.heap.size w w' := by
  have h : Calls Tryd.prog 31 #[.string t, .int .u8 10] w fun e w' => ∃ v, e = .returned v ∧ w'.ownsRow w.heap.size 9 1 v (pieces 10 t.data.toList).length (scells (pieces 10 t.data.toList)) ∧ Below w.heap.size w w' := rcut_any t 10 w hlim
  refine h.mono fun e w' ⟨v, h1, h2, h3⟩ => ?_
  obtain ⟨a, c, rfl⟩ := own_shape2 h2
  exact ⟨a, c, h1, h2, h3⟩
set_option maxHeartbeats 1000000 in
theorem rlines_any (t : ByteArray) (w : World) : Calls Tryd.prog 12 #[.string t] w (LTold w (linesL t.data.toList)) := by
  have hlen := len_t t
  by_cases hbig : 65536 < t.size
  · have HA : Hid (linesL t.data.toList = ([], 1, 0)) := by show _ = _; unfold linesL; rw [if_pos (by omega)]
    generalize linesL t.data.toList = A at *
    have hb' : (65536 : Int) < (t.size : Int) := by omega
    clear hlen
    go_enter Tryd.func12, Tryd.ntmps12
    go_wp2
    go_ret3
    rw [HA.out]
    exact ⟨none, 0, [], rfl, rfl, World.ownsRow_nil _ _ _ _, (fun x hx => by cases hx), Below.refl _ _⟩
  · have HA : Hid (linesL t.data.toList = lnG 0 (pieces 10 t.data.toList) []) := by show _ = _; unfold linesL; rw [if_neg (by omega)]
    have hsp := rcut_10 t w (by omega)
    have hpn := pieces_count 10 t.data.toList
    have hb' : ¬ (65536 : Int) < (t.size : Int) := by omega
    generalize linesL t.data.toList = A at *
    obtain ⟨ps, hps⟩ : ∃ ps, ps = pieces 10 t.data.toList := ⟨_, rfl⟩
    rw [← hps] at hsp HA hpn
    obtain ⟨n, hn⟩ : ∃ n, n = ps.length := ⟨_, rfl⟩
    rw [← hn] at hsp hpn
    have HN : Hid (n = ps.length) := hn
    rw [hlen] at hpn
    clear hps hlen hn
    have m1 : True := trivial
    go_enter Tryd.func12, Tryd.ntmps12
    go_wp2_with (go_at_call 31; refine hsp.mono ?_; rintro e w1 ⟨al, cl, rfl, hr1, hb1⟩)
    clear hsp
    go_loopw [6, 7] (fun v i wr => ∃ (j : Nat) (ls : List Ln), j ≤ n ∧ i = .int .i64 j ∧ ls.length ≤ j ∧ Hid (A = lnG j (ps.drop j) (ls.map lkey)) ∧ wr.ownsRow w.heap.size 52 2 v ls.length (lcs ls) ∧ Wds w.heap.size wr ls ∧ wr.ownsRow w.heap.size 9 1 (.slice al n cl) n (scells ps) ∧ Below w.heap.size w wr) (fun _ i _ => n - (intOf i).toNat)
    case atStart => exact ⟨0, [], Nat.zero_le _, rfl, Nat.le_refl _, HA.out, World.ownsRow_nil _ _ _ _, (fun x hx => by cases hx), hr1, hb1⟩
    case round =>
      clear hr1 hb1 HA
      rename_i wr
      obtain ⟨j, ls, hj, rfl, hll, hQ, hO, hW, hr, hb⟩ := hrel
      have w1 : wrap64 ((j : Int) + 1) = (j : Int) + 1 := by unfold wrap64; omega
      by_cases hlt : j < n
      · have j1 : j < ps.length := by rw [← HN.out]; exact hlt
        obtain ⟨g, rfl⟩ : ∃ g, al = some ⟨g, 0, none⟩ := by
          rcases hr.2 with ⟨e, h0⟩ | ⟨g, cap, cur, e, _⟩
          · omega
          · cases e; exact ⟨g, rfl⟩
        have c1 : wr.cell? ⟨g, j, none⟩ = some (.string (str ps[j])) := by
          have := hr.cells (g := g) rfl j _ (scells_at (List.getElem?_eq_getElem j1))
          simpa [Addr.add_lit] using this
        have hQ2 : Hid (A = if (wordsL ps[j]).2 = 0 then lnG (j + 1) (ps.drop (j + 1)) (if (wordsL ps[j]).1 = [] then ls.map lkey else ls.map lkey ++ [(j + 1, (wordsL ps[j]).1)]) else ([], (wordsL ps[j]).2, j + 1)) := by
          show _ = _
          rw [hQ.out, List.drop_eq_getElem_cons j1]
          rfl
        obtain ⟨x, hx⟩ : ∃ x, x = ps[j] := ⟨_, rfl⟩
        rw [← hx] at c1 hQ2
        clear hx hQ
        obtain ⟨sx, hsx⟩ : ∃ sx, sx = str x := ⟨_, rfl⟩
        have hWd := rwords_l sx (wordsL x) (by rw [hsx]) wr
        rw [← hsx] at c1
        have hfew := words_few x
        clear hsx
        generalize wordsL x = WA at *
        obtain ⟨vs, en⟩ := WA
        dsimp only at hWd hQ2 hfew
        by_cases he : en = 0
        · subst he
          rw [if_pos rfl] at hQ2
          by_cases hv : vs = []
          · subst hv
            rw [if_pos rfl] at hQ2
            go_wp2_with (go_at_call 10; refine hWd.mono ?_; rintro e w2 ⟨a2, c2, rfl, hO2, hs2, hb2⟩; replace hO := own_below hO hb2; replace hW := hW.below hb2; replace hr := own_below hr hb2; replace hb := bt hb hb2)
            go_roundw
            case rel => exact ⟨j + 1, ls, by omega, by go_num, by omega, hQ2, hO, hW, hr, hb⟩
            case measure => simp [intOf]; omega
          · rw [if_neg hv] at hQ2
            have hv0 : 0 < vs.length := List.length_pos_iff.2 hv
            have HV : Hid (vs ≠ []) := hv
            clear hv
            generalize hvn : vs.length = vn at *
            have hbs := hb.size
            go_wp2_with (first
              | (go_at_call 10; refine hWd.mono ?_; rintro e w2 ⟨a2, c2, rfl, hO2, hs2, hb2⟩; replace hO := own_below hO hb2; replace hW := hW.below hb2; replace hr := own_below hr hb2; replace hb := bt hb hb2; replace hO2 := own_weak hO2 hbs)
              | (at_builtin; refine append_l rfl (.tmp 37) (.tmp 42) rfl w.heap.size _ _ ls rfl (hO.alloc _) w2.heap.size ⟨j + 1, a2, vn, c2, vs⟩ 1 rfl (Row.new w2 _ (lc ⟨j + 1, a2, vn, c2, vs⟩)) (by omega) (by have := hb.size; simp; omega) ?_; intro v3 w3 hO3 hg3))
            have hW3 : Wds w.heap.size w3 (ls ++ [⟨j + 1, a2, vn, c2, vs⟩]) := by
              intro y hy
              rcases List.mem_append.1 hy with hy | hy
              · exact (hW.below ((Below.refl _ _).alloc (Nat.le_refl _) _)).grown (hO.alloc _) hg3 y hy
              · simp at hy
                subst hy
                exact own_grown (hO2.alloc _) hg3 (own_apart hO hO2 (by decide))
            have hr3 := own_grown (hr.alloc _) hg3 (own_apart hO hr (by decide))
            have hb3 := (hb.alloc hb.size _).grown hg3 (by have := hb.size; simp; omega) (fun k hk => (hO.lt k hk).1)
            go_roundw
            case rel => exact ⟨j + 1, ls ++ [⟨j + 1, a2, vn, c2, vs⟩], by omega, by go_num, by simp; omega, by show _ = _; rw [hQ2.out]; simp [lkey], by simpa using hO3, hW3, hr3, hb3⟩
            case measure => simp [intOf]; omega
        · have he' : ((en : Int) == 0) = false := by rw [beq_eq_false_iff_ne]; omega
          rw [if_neg he] at hQ2
          clear he
          go_wp2_with (go_at_call 10; refine hWd.mono ?_; rintro e w2 ⟨a2, c2, rfl, hO2, hs2, hb2⟩; replace hb := bt hb hb2)
          go_ret3
          rw [hQ2.out]
          exact ⟨none, 0, [], rfl, rfl, World.ownsRow_nil _ _ _ _, (fun x hx => by cases hx), hb⟩
      · obtain rfl : n = j := by omega
        have HA : Hid (A = (ls.map lkey, 0, 0)) := by
          show _ = _
          rw [hQ.out, List.drop_eq_nil_of_le (by rw [HN.out]; exact Nat.le_refl _)]; rfl
        obtain ⟨a5, c5, rfl⟩ := own_shape2 hO
        go_wp2
        go_ret3
        rw [HA.out]
        exact ⟨_, _, ls, rfl, rfl, hO, hW, hb⟩
end Go.Proofs.YtldpocbnkggnnaaDoor
