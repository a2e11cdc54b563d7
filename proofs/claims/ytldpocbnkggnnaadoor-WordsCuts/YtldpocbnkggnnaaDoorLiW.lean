/-
  The walk of WordsLines.
-/
import Derived.Test.YtldpocbnkggnnaaDoorL3
namespace Go.Proofs.YtldpocbnkggnnaaDoor
open Go.RowKit
set_option linter.unusedSimpArgs false
set_option maxRecDepth 20000
theorem count_take (l : List UInt8) (j : Nat) (hj : j < l.length) : (l.take (j + 1)).count 10 = (l.take j).count 10 + if l[j] = 10 then 1 else 0 := by
  rw [List.take_succ_eq_append_getElem hj, List.count_append]
  by_cases h : l[j] = 10
  · simp [h]
  · rw [if_neg h, List.count_cons_of_ne (by simpa using h)]; simp
theorem lines_l (t : ByteArray) (A : LAns) (h : linesL t.data.toList = A) (w : World) (hM : Ml w) : Calls Tryd.prog 11 #[.string t] w (LTold w A) := by
  subst h
  exact lines_any t w hM
theorem grownBy_trans {a b c : World} {row : Option Nat} (h : a.grownBy b row) (k : b.grownBy c row) : a.grownBy c row :=
  ⟨k.os.trans h.os, k.tape.trans h.tape, k.output.trans h.output, Nat.le_trans h.size k.size, fun i hi hne => (k.block i (Nat.lt_of_lt_of_le hi h.size) hne).trans (h.block i hi hne)⟩
theorem grownBy_setCell (w : World) (g j : Nat) (v : Value) : w.grownBy (w.setCell ⟨g, j, none⟩ v) (some g) :=
  ⟨rfl, rfl, rfl, by simp [World.setCell], fun k _ hne => Below.heap_setCell _ _ _ _ (fun e => hne (by rw [e]))⟩
theorem w64_1 (j : Nat) (h : j ≤ 1000000) : wrap64 ((j : Int) + 1) = (j : Int) + 1 := by unfold wrap64; omega
theorem w64_2 (a b : Nat) (h : a ≤ 1000000) (h2 : b ≤ 1000000) : wrap64 ((a : Int) + (b : Int)) = (a : Int) + (b : Int) := by unfold wrap64; omega
theorem le_m {a b : Nat} (h : a ≤ b) (hb : b ≤ 65537) : a ≤ 1000000 := by omega
theorem le_c {a : Nat} (h : a ≤ 20001) : a ≤ 1000000 := by omega
theorem le_3 {a b : Nat} (h : a ≤ 65537) (h2 : b ≤ 65537) : a + b ≤ 1000000 := by omega
theorem wds_sh {B : Nat} {w : World} {ls : List Ln} (k : Nat) (h : Wds B w ls) : Wds B w (ls.map (shL k)) := fun x hx => by
  obtain ⟨y, hy, rfl⟩ := List.mem_map.1 hx
  exact h y hy
theorem wds_two {B B' : Nat} {w : World} {ls ks : List Ln} (h : Wds B w ls) (h2 : Wds B' w ks) : Wds 0 w (ls ++ ks) := fun x hx => by
  rcases List.mem_append.1 hx with hx | hx
  · exact own_weak (h x hx) (Nat.zero_le _)
  · exact own_weak (h2 x hx) (Nat.zero_le _)
theorem lt_no {j n : Nat} (h : j < n) (h0 : n = 0) : False := by omega
theorem meas {j n : Nat} (h : j < n) : n - (intOf (.int .i64 ((j : Int) + 1))).toNat < n - (intOf (.int .i64 (j : Int))).toNat := by simp [intOf]; omega
set_option maxHeartbeats 2000000 in
theorem lin_walk (s t : ByteArray) (w : World) (hM : Ml w) (hs : s.size ≤ 140737488355328) (ht : t.size ≤ 140737488355328) (hL : ∀ W, Below w.heap.size w W → Calls Tryd.prog 8 #[] W fun e w' => e = .returned (.bool true) ∧ Below W.heap.size W w') :
    Calls Tryd.prog 7 #[.string s, .string t] w fun e w' => e = .returned (.bool true) ∧ Below w.heap.size w w' := by
  have w0 : wrap64 ((s.size : Int) + (t.size : Int)) = (s.size : Int) + (t.size : Int) := by unfold wrap64; omega
  by_cases hbig : 20000 < s.size + t.size
  · have hb' : (20000 : Int) < (s.size : Int) + (t.size : Int) := by omega
    go_enter Tryd.func7, Tryd.ntmps7
    go_wp2_with (go_at_call 8; refine (hL _ (Below.refl _ _)).mono ?_; rintro e w' ⟨rfl, hb⟩)
    go_ret
    exact ⟨rfl, hb⟩
  have hb' : ¬ (20000 : Int) < (s.size : Int) + (t.size : Int) := by omega
  have HI : Hid (∀ j (h : j < s.size), s.data.toList[j]? = some s[j]) := at_byte s
  have HSL : Hid (s.data.toList.length = s.size) := len_t s
  obtain ⟨x1, e1⟩ : ∃ x, s ++ ⟨#[10]⟩ = x := ⟨_, rfl⟩
  obtain ⟨x2, e2⟩ : ∃ x, x1 ++ t = x := ⟨_, rfl⟩
  have z1 : x1.size = s.size + 1 := by rw [← e1, ByteArray.size_append]; rfl
  have y1 : ¬ 9223372036854775807 < s.size + 1 := by omega
  have y2 : ¬ 9223372036854775807 < x1.size + t.size := by omega
  have h2 := lines_two s.data.toList t.data.toList (by rw [len_t, len_t]; omega)
  have hx2 : x2.data.toList = s.data.toList ++ 10 :: t.data.toList := by rw [← e2, app_t, ← e1, app_t]; simp
  rw [← hx2] at h2
  have hA := fun W h => lines_l s _ rfl W h
  have hB := fun W h => lines_l t _ rfl W h
  have hC := fun W h => lines_l x2 _ rfl W h
  have f1 := lines_few s.data.toList
  have f2 := lines_few t.data.toList
  have f3 := lines_few x2.data.toList
  have p1 := lines_place s.data.toList
  have p2 := lines_place t.data.toList
  have hcl : s.data.toList.count 10 ≤ 20000 := by
    have := List.count_le_length (a := (10 : UInt8)) (l := s.data.toList)
    rw [HSL.out] at this
    omega
  clear hx2
  generalize linesL s.data.toList = A at *
  generalize linesL t.data.toList = B at *
  generalize linesL x2.data.toList = C at *
  obtain ⟨l, hl⟩ : ∃ l, l = s.data.toList := ⟨_, rfl⟩
  rw [← hl] at HI HSL h2 hcl
  clear hl
  obtain ⟨K, eA, pA⟩ := A
  obtain ⟨M, eB, pB⟩ := B
  obtain ⟨D, eC, pC⟩ := C
  dsimp only at *
  have H2 : Hid ((D, eC, pC) = if eA = 0 then (if eB = 0 then (K ++ M.map (shiftK (l.count 10 + 1)), 0, 0) else ([], eB, pB + (l.count 10 + 1))) else ([], eA, pA)) := h2
  have F1 : Hid (K.length ≤ 65537 ∧ ∀ x ∈ K, x.2.length ≤ 1025 ∧ x.1 ≤ 65537) := f1
  have F2 : Hid (M.length ≤ 65537 ∧ ∀ x ∈ M, x.2.length ≤ 1025 ∧ x.1 ≤ 65537) := f2
  have F3 : Hid (D.length ≤ 65537 ∧ ∀ x ∈ D, x.2.length ≤ 1025 ∧ x.1 ≤ 65537) := f3
  clear h2 f1 f2 f3
  have m1 : True := trivial
  have m2 : True := trivial
  go_enter Tryd.func7, Tryd.ntmps7
  go_wp2_with (first
    | (go_at_call 11; have k := m1; clear m1; refine (hA _ hM).mono ?_; rintro e w1 ⟨a1, c1, L1, rfl, k1, o1, d1, b1⟩; have hM1 := hM.keep b1)
    | (go_at_call 11; have k := m2; clear m2; refine (hB _ hM1).mono ?_; rintro e w2 ⟨a2, c2, L2, rfl, k2, o2, d2, b2⟩; have hM2 := hM1.keep b2)
    | (go_at_call 11; refine (hC _ hM2).mono ?_; rintro e w3 ⟨a3, c3, L3, rfl, k3, o3, d3, b3⟩))
  have HK : Hid (∀ W, w3.grownBy W (Value.slice a2 L2.length c2).ownBlock → W.ownsRow w.heap.size 52 2 (.slice a1 L1.length c1) L1.length (lcs L1) ∧ Wds w.heap.size W L1 ∧ W.ownsRow w2.heap.size 52 2 (.slice a3 L3.length c3) L3.length (lcs L3) ∧ Wds w2.heap.size W L3 ∧ Wds w1.heap.size W L2) := fun W hg => by
    have q2 : ∀ b, (Value.slice a2 L2.length c2).ownBlock = some b → w1.heap.size ≤ b ∧ b < w2.heap.size := fun b hb => o2.lt b hb
    refine ⟨own_grown (own_below (own_below o1 b2) b3) hg (fun b hb e => ?_), fun x hx => own_grown (own_below (own_below (d1 x hx) b2) b3) hg (fun b hb e => ?_), own_grown o3 hg (fun b hb e => ?_), fun x hx => own_grown (d3 x hx) hg (fun b hb e => ?_), fun x hx => own_grown (own_below (d2 x hx) b3) hg (own_apart (own_below o2 b3) (own_below (d2 x hx) b3) (by decide))⟩
    · have h1 := o1.lt b hb; have h2 := q2 b e.symm; omega
    · have h1 := (d1 x hx).lt b hb; have h2 := q2 b e.symm; omega
    · have h1 := o3.lt b hb; have h2 := q2 b e.symm; omega
    · have h1 := (d3 x hx).lt b hb; have h2 := q2 b e.symm; omega
  have hO2 := own_below o2 b3
  have hB3 := bt (bt b1 b2) b3
  have hz2 := b1.size
  have HZ : Hid (∀ b, (Value.slice a2 L2.length c2).ownBlock = some b → w1.heap.size ≤ b) := fun b hb => (o2.lt b hb).1
  have HK1 : Hid (L1.map lkey = K) := k1
  have HK2 : Hid (L2.map lkey = M) := k2
  have HK3 : Hid (L3.map lkey = D) := k3
  have HP : Hid (pA ≤ 65537 ∧ pB ≤ 65537) := ⟨p1, p2⟩
  have HC : Hid (l.count 10 ≤ 20000 ∧ s.size ≤ 20000) := ⟨hcl, by omega⟩
  clear p1 p2 hcl hbig hs ht w0
  clear hA hB hC o1 d1 b1 o2 d2 b2 o3 d3 b3 hM1 hM2 k1 k2 k3 z1 y1 y2 e1 e2
  go_loopw [14, 15] (fun c i wr => ∃ (j q : Nat), j ≤ s.size ∧ i = .int .i64 j ∧ c = .int .i64 (q : Int) ∧ Hid (q = (l.take j).count 10 + 1) ∧ q ≤ 20001 ∧ w3 = wr) (fun _ i _ => s.size - (intOf i).toNat)
  case atStart => exact ⟨0, 1, Nat.zero_le _, rfl, rfl, (rfl : _ = _), by omega, rfl⟩
  case round =>
    obtain ⟨j, q, hj, rfl, rfl, hq, hq2, rfl⟩ := hrel
    have hs2 := HC.out.2
    have v1 : wrap64 ((j : Int) + 1) = (j : Int) + 1 := by unfold wrap64; omega
    by_cases hlt : j < s.size
    · have jl : j < l.length := by rw [HSL.out]; exact hlt
      have hct := count_take l j jl
      have hjb : l[j] = s[j] := by have := HI.out j hlt; rw [List.getElem?_eq_getElem jl] at this; exact Option.some.inj this
      rw [hjb] at hct
      have hcj : (l.take (j + 1)).count 10 ≤ 20000 := Nat.le_trans List.count_le_length (by rw [List.length_take]; omega)
      have v2 : wrap64 ((q : Int) + 1) = (q : Int) + 1 := by unfold wrap64; omega
      by_cases h10 : s[j] = 10
      · have b10 : ((s[j].toNat : Int) == 10) = true := by rw [h10]; rfl
        rw [if_pos h10] at hct
        have HQ : Hid (q + 1 = (l.take (j + 1)).count 10 + 1) := by show _ = _; rw [hct, hq.out]
        have HQ2 : q + 1 ≤ 20001 := by rw [HQ.out]; omega
        clear hct hjb h10 hcj hq jl
        go_wp2
        go_roundw
        case rel => exact ⟨j + 1, q + 1, by omega, by go_num, by go_num, HQ, HQ2, trivial⟩
        case measure => simp [intOf]; omega
      · have b10 : ((s[j].toNat : Int) == 10) = false := by
          rw [beq_eq_false_iff_ne]; intro e; exact h10 (UInt8.toNat.inj (by simp; omega))
        rw [if_neg h10] at hct
        have HQ : Hid (q = (l.take (j + 1)).count 10 + 1) := by show _ = _; rw [hct, hq.out]
        clear hct hjb h10 hcj hq jl
        go_wp2
        go_roundw
        case rel => exact ⟨j + 1, q, by omega, by go_num, rfl, HQ, hq2, trivial⟩
        case measure => simp [intOf]; omega
    · obtain rfl : s.size = j := Nat.le_antisymm (Nat.le_of_not_lt hlt) hj
      have hq3 : q = l.count 10 + 1 := by have := hq.out; rwa [List.take_of_length_le (by rw [HSL.out]; exact Nat.le_refl _)] at this
      obtain ⟨cn, hcn⟩ : ∃ cn, cn = q := ⟨_, rfl⟩
      rw [← hq3, ← hcn] at H2
      rw [← hcn]
      have hcb : cn ≤ 20001 := by omega
      clear hcn hq3 hq hq2
      have num := fun x W => num_any x W
      by_cases hA0 : eA = 0
      · subst hA0
        by_cases hB0 : eB = 0
        · subst hB0
          have H3 : Hid (D = K ++ M.map (shiftK cn)) := by
            have := H2.out
            rw [if_pos rfl, if_pos rfl] at this
            exact (Prod.mk.inj this).1
          obtain rfl : eC = 0 := by
            have := H2.out
            rw [if_pos rfl, if_pos rfl] at this
            exact (Prod.mk.inj (Prod.mk.inj this).2).1
          have HD3 : Hid (L3.map lkey = (L1 ++ L2.map (shL cn)).map lkey) := by
            show _ = _
            rw [HK3.out, H3.out, List.map_append, HK1.out, ← HK2.out, List.map_map, List.map_map]
            rfl
          have HF : Hid (L3.length ≤ 65537 ∧ (∀ x ∈ L3, x.ws.length ≤ 1000000) ∧ L1.length ≤ 65537 ∧ L2.length ≤ 65537 ∧ ∀ x ∈ L2, x.n ≤ 65537) := by
            have f1 := F1.out
            have f2 := F2.out
            have f3 := F3.out
            rw [← HK1.out, List.length_map] at f1
            rw [← HK2.out, List.length_map] at f2
            rw [← HK3.out, List.length_map] at f3
            exact ⟨f3.1, fun x hx => Nat.le_trans (f3.2 _ (List.mem_map.2 ⟨x, hx, rfl⟩)).1 (by decide), f1.1, f2.1, fun x hx => (f2.2 _ (List.mem_map.2 ⟨x, hx, rfl⟩)).2⟩
          have hl1 := HF.out.2.2.1
          have hl2 := HF.out.2.2.2.1
          have hl3 := HF.out.1
          clear H2 H3 HK1 HK2 HK3 F1 F2 F3 HP HC HI HSL
          obtain ⟨n2, hn2⟩ : ∃ n2, n2 = L2.length := ⟨_, rfl⟩
          have HN2 : Hid (n2 = L2.length) := hn2
          obtain ⟨n1, hn1⟩ : ∃ n1, n1 = L1.length := ⟨_, rfl⟩
          have HN1 : Hid (n1 = L1.length) := hn1
          obtain ⟨n3, hn3⟩ : ∃ n3, n3 = L3.length := ⟨_, rfl⟩
          have HN3 : Hid (n3 = L3.length) := hn3
          rw [← hn2] at HK HZ hO2 hl2 ⊢
          rw [← hn1] at HK hl1 ⊢
          rw [← hn3] at HK hl3 ⊢
          clear hn1 hn2 hn3
          go_wp2_with (go_at_call 14; refine (num _ _).mono ?_; rintro e w3 ⟨rfl, rfl⟩)
          go_loopw [16] (fun i wr => ∃ (j : Nat), j ≤ n2 ∧ i = .int .i64 j ∧ wr.ownsRow w1.heap.size 52 2 (.slice a2 n2 c2) n2 (lcs (partL cn L2 j)) ∧ w3.grownBy wr (Value.slice a2 n2 c2).ownBlock ∧ Below w.heap.size w wr) (fun i _ => n2 - (intOf i).toNat)
          case atStart => exact ⟨0, Nat.zero_le _, rfl, hO2, World.grownBy.refl _ _, hB3⟩
          case round =>
            clear hO2 hB3
            rename_i wr
            obtain ⟨j, hj, rfl, hO, hg, hb⟩ := hrel
            by_cases hlt : j < n2
            · have v1 := w64_1 j (le_m hj hl2)
              have j1 : j < L2.length := by rw [← HN2.out]; exact hlt
              obtain ⟨g, rfl⟩ : ∃ g, a2 = some ⟨g, 0, none⟩ := by
                rcases hO.2 with ⟨e, h0⟩ | ⟨g, cap, cur, e, _⟩
                · exact (lt_no hlt h0).elim
                · cases e; exact ⟨g, rfl⟩
              have hge : w.heap.size ≤ g := Nat.le_trans hz2 (HZ.out g rfl)
              have hjp : j < (partL cn L2 j).length := by rw [partL_len]; exact j1
              have hcl : wr.cell? ⟨g, j * 2, none⟩ = some (.int .i64 (L2[j].n : Int)) := by
                have g0 := lcs_get (partL cn L2 j) j L2[j] (by rw [List.getElem?_eq_getElem hjp, partL_at cn L2 j j1]) 0 (by decide)
                have k0 := hO.cells (g := g) rfl (j * 2) _ g0
                simpa [Addr.add_lit, lc] using k0
              have hfr := own_frozen hO (j * 2)
              have hN := HF.out.2.2.2.2 _ (List.getElem_mem j1)
              have v2 := w64_2 L2[j].n cn (le_m (Nat.le_refl _) hN) (le_c hcb)
              have HS : Hid ((lcs (partL cn L2 j)).set (j * 2) (.int .i64 ((L2[j].n : Int) + (cn : Int))) = lcs (partL cn L2 (j + 1))) := by
                show _ = _
                have e := lcs_set cn (partL cn L2 j) j hjp
                rw [partL_at cn L2 j j1, partL_step cn L2 j j1] at e
                rw [← e]
                congr 2
              obtain ⟨N, hNN⟩ : ∃ N, N = L2[j].n := ⟨_, rfl⟩
              rw [← hNN] at hcl v2 HS
              clear hNN hN hjp
              have k0 : (j : Int) < (n2 : Int) := Int.ofNat_lt.2 hlt
              have k1 : (0 : Int) ≤ (j : Int) := Int.natCast_nonneg j
              clear v1
              go_wp2
              exact ⟨⟨j + 1, hlt, rfl, by rw [← HS.out]; exact own_set hO _ _, grownBy_trans hg (grownBy_setCell wr g (j * 2) _), hb.setCell (p := ⟨g, j * 2, none⟩) hge _⟩, meas hlt⟩
            · obtain rfl : n2 = j := Nat.le_antisymm (Nat.le_of_not_lt hlt) hj
              have eP : partL cn L2 n2 = L2.map (shL cn) := by rw [HN2.out]; exact partL_all cn L2
              rw [eP] at hO
              obtain ⟨q1, q2, q3, q4, q5⟩ := HK.out wr hg
              have hmade : (wr.alloc (.cells #[] 52)).ownsRow wr.heap.size 52 2 (.slice (some ⟨wr.heap.size, 0, none⟩) 0 0) 0 (lcs []) := World.ownsRow_made wr #[] 0 (Nat.le_refl _) (Nat.zero_le _) rfl
              have hba : Below wr.heap.size wr (wr.alloc (.cells #[] 52)) := (Below.refl _ _).alloc (Nat.le_refl _) _
              clear HK hg
              have hn12 : 0 + n1 ≤ 1000000 := by rw [Nat.zero_add]; exact le_m hl1 (Nat.le_refl _)
              have hn13 : n1 + n2 ≤ 1000000 := le_3 hl1 hl2
              have hn3m : L3.length ≤ 1000000 := by rw [← HN3.out]; exact le_m hl3 (Nat.le_refl _)
              have hsm := fun b d W h1 h2 => same_true L3 (L1 ++ L2.map (shL cn)) HD3.out a3 b c3 d W h1 h2 hn3m HF.out.2.1
              rw [← HN3.out, show (L1 ++ L2.map (shL cn)).length = n1 + n2 by rw [List.length_append, List.length_map, HN1.out, HN2.out]] at hsm
              have m5 : True := trivial
              clear hlt hj hl1 hl2 hl3 hcb hz2 eP
              go_wp2_with (go_at_call 14; refine (num _ _).mono ?_; rintro e wr ⟨rfl, rfl⟩; refine Hid.out ?_)
              unfold Hid
              have hq1 := own_below q1 hba
              go_wp2_with (at_builtin; refine Hid.out ?_)
              unfold Hid
              refine append_ls (.tmp 118) (.tmp 119) ?_ ?_ wr.heap.size _ 0 [] ?_ hmade a1 n1 c1 w.heap.size L1 ?_ hq1 hn12 hba.size ?_
              focus rfl
              focus rfl
              focus rfl
              focus rfl
              intro v5 w5 hO5 hg5
              rw [Nat.zero_add, List.nil_append] at hO5
              have hb5 := hba.grown hg5 hba.size (fun k hk => (hmade.lt k hk).1)
              have hq2 := own_below hO hb5
              have hz5 := hb5.size
              clear hg5 hmade hba hq1 m5
              go_wp2_with (at_builtin; refine Hid.out ?_)
              unfold Hid
              refine append_ls (.tmp 120) (.tmp 121) ?_ ?_ wr.heap.size _ n1 L1 ?_ hO5 a2 n2 c2 w1.heap.size (L2.map (shL cn)) ?_ hq2 hn13 hz5 ?_
              focus rfl
              focus rfl
              focus rfl
              focus rfl
              intro v6 w6 hO6 hg6
              have hb6 := hb5.grown hg6 hz5 (fun k hk => (hO5.lt k hk).1)
              obtain ⟨a6, c6, rfl⟩ := own_shape2 hO6
              have l3 := LS.of (own_below q3 hb6) (q4.below hb6)
              have l6 := LS.of (B' := 0) hO6 (wds_two (q2.below hb6) (wds_sh cn (q5.below hb6)))
              have hbb := bt hb hb6
              clear hg6 hO5 hO6 hq2 hz5 q1 q2 q3 q4 q5 hO hb5 hb6
              go_wp2_with (first
                | (go_at_call 15; refine (hsm _ _ _ l3 l6).mono ?_; rintro e w7 ⟨rfl, hb7⟩; replace hbb := bt hbb hb7)
                | (go_at_call 8; refine (hL _ hbb).mono ?_; rintro e w8 ⟨rfl, hb8⟩))
              go_ret
              exact ⟨rfl, bt hbb hb8⟩
        · have bB : ((eB : Int) == 0) = false := by rw [beq_eq_false_iff_ne]; omega
          obtain ⟨rfl, rfl⟩ : eC = eB ∧ pC = pB + cn := by
            have := H2.out
            rw [if_pos rfl, if_neg hB0] at this
            exact ⟨(Prod.mk.inj (Prod.mk.inj this).2).1, (Prod.mk.inj (Prod.mk.inj this).2).2⟩
          have hpp := HP.out
          have v3 : wrap64 ((pB : Int) + (cn : Int)) = ((pB + cn : Nat) : Int) := by unfold wrap64; omega
          clear H2 HK
          go_wp2_with (first
            | (go_at_call 14; refine (num _ _).mono ?_; rintro e w5 ⟨rfl, rfl⟩)
            | (go_at_call 8; refine (hL _ hB3).mono ?_; rintro e w6 ⟨rfl, hb6⟩))
          go_ret
          exact ⟨rfl, bt hB3 hb6⟩
      · have H3 : Hid (L3.length = 0) := by
          show _ = _
          have := H2.out
          rw [if_neg hA0] at this
          have e := congrArg List.length HK3.out
          rw [(Prod.mk.inj this).1] at e
          simpa using e
        obtain ⟨rfl, rfl⟩ : eC = eA ∧ pC = pA := by
          have := H2.out
          rw [if_neg hA0] at this
          exact ⟨(Prod.mk.inj (Prod.mk.inj this).2).1, (Prod.mk.inj (Prod.mk.inj this).2).2⟩
        have bA : ((eC : Int) == 0) = false := by rw [beq_eq_false_iff_ne]; omega
        have h3 := H3.out
        clear H2 H3 HK
        generalize L3.length = n3 at *
        subst h3
        go_wp2_with (first
          | (go_at_call 14; refine (num _ _).mono ?_; rintro e w5 ⟨rfl, rfl⟩)
          | (go_at_call 8; refine (hL _ hB3).mono ?_; rintro e w6 ⟨rfl, hb6⟩))
        go_ret
        exact ⟨rfl, bt hB3 hb6⟩
end Go.Proofs.YtldpocbnkggnnaaDoor
