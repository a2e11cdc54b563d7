/-
  FilterChains: the walk.
-/
import Derived.Test.YtfohknbgfpbmiaaSaW
import Derived.Test.YtfohknbgfpbmiaaRt
import Derived.Test.YtfohknbgfpbmiaaAp
namespace Go.Proofs.Ytfohknbgfpbmiaa
open Go.RowKit
set_option linter.unusedSimpArgs false
set_option maxRecDepth 20000
theorem mat_mine (r : Ru) (chain : Int) (name : ByteArray) (p : Pr) (i : Id8) : (mineB r chain name && matB r chain name p i) = matB r chain name p i := by
  unfold matB
  cases mineB r chain name <;> simp
theorem met_mine (m : Nat) (chain : Int) (name : ByteArray) (p : Pr) (i : Id8) (l : List Ru) : metN m (fun r => matB r chain name p i) (l.filter fun r => mineB r chain name) = metN m (fun r => matB r chain name p i) l := by
  unfold metN
  rw [List.find?_filter]
  have e : (fun a => decide (mineB a chain name = true ∧ matB a chain name p i = true)) = fun r => matB r chain name p i := by
    funext r
    rw [← mat_mine r chain name p i]
    cases mineB r chain name <;> cases matB r chain name p i <;> rfl
  rw [e]
theorem take_filter (f : Ru → Bool) (l : List Ru) (j : Nat) (h : j < l.length) : (l.take (j + 1)).filter f = (l.take j).filter f ++ (if f l[j] = true then [l[j]] else []) := by
  rw [List.take_succ_eq_append_getElem h, List.filter_append]
  congr 1
  cases hf : f l[j] <;> simp [List.filter, hf]
set_option maxHeartbeats 8000000 in
theorem chains_any (ad : Option Addr) (n c : Nat) (l : List Ru) (hc0 : ad = none → c = 0) (chain : Int) (name : ByteArray) (p : Pr) (i : Id8) (m : Nat) (hm : m < 65536) (w : World) (hl : RlW w ad n l) :
    Calls Try.prog 5 #[.slice ad n c, .int .i64 chain, .string name, (Value.agg (qcells p).toArray), idV i, .int .u16 (m : Int)] w (Gives w (.bool true)) := by
  have hQ := (LQ.new w p 28).alloc (.cells (icells i).toArray 30)
  have hI : LI ((w.alloc (.cells (qcells p).toArray 28)).alloc (.cells (icells i).toArray 30)) (w.heap.size + 1) 0 i := by
    have := LI.new (w.alloc (.cells (qcells p).toArray 28)) i 30
    simpa using this
  have HB : Hid (Below w.heap.size w ((w.alloc (.cells (qcells p).toArray 28)).alloc (.cells (icells i).toArray 30))) := bt (ba _ _) (ba _ _)
  go_enter Try.func5, Try.ntmps5
  go_upto_region 1 with fail
  refine name_world (R := fun W => Code.wp _ _ _ _ W) (P := fun W => Below w.heap.size w W ∧ LQ W w.heap.size 0 p ∧ LI W (w.heap.size + 1) 0 i ∧ w.heap.size < W.heap.size ∧ w.heap.size + 1 < W.heap.size) _ ⟨HB.out, hQ, hI, by simp; omega, by simp⟩ ?_
  clear HB hQ hI
  rintro X ⟨hB, hQ, hI, hlt1, hlt2⟩
  replace hl := hl.below hB
  have hRt := right_any ad n c l p X hl
  go_wp2_with (first
    | (refine ldQ (.tmp 9) rfl rfl _ _ p rfl hQ ?_)
    | (go_at_call 7; refine hRt.mono ?_; rintro e W ⟨b, rfl, hW, hn⟩; cases b)
    | (have kk := hn; go_at_call 8; refine (live_any _).mono ?_; rintro e w1 ⟨rfl, h1⟩))
  · go_ret
    exact ⟨rfl, hB.trans ((hW.trans (h1.mono hW.size)).mono hB.size)⟩
  replace hn : n ≤ 300 := by simpa using hn
  replace hB := hB.trans (hW.mono hB.size)
  replace hl := hl.below hW
  replace hQ := hQ.below hW hlt1
  replace hI := hI.below hW hlt2
  replace hlt1 := Nat.lt_of_lt_of_le hlt1 hW.size
  replace hlt2 := Nat.lt_of_lt_of_le hlt2 hW.size
  clear hW hRt
  have HN : Hid (l.length = n ∧ n ≤ 300) := ⟨hl.len, hn⟩
  clear hn
  go_loopw [13, 14] (fun v i wr => ∃ (j : Nat) (ms : List Ru), j ≤ n ∧ i = .int .i64 j ∧ Hid (ms = (l.take j).filter fun r => mineB r chain name) ∧ ms.length ≤ j ∧ wr.ownsRow W.heap.size 41 50 v ms.length (rcs ms) ∧ Below W.heap.size W wr) (fun _ i _ => n - (intOf i).toNat)
  case atStart => exact ⟨0, [], Nat.zero_le _, rfl, rfl, Nat.le_refl _, World.ownsRow_nil _ _ _ _, Below.refl _ _⟩
  case round =>
    obtain ⟨j, ms, hj, rfl, hms, hmj, hO, hwr⟩ := hrel
    by_cases hlt : j < n
    · obtain ⟨g, o, rfl, hg, hcell⟩ := hl.mem (by omega)
      have hjl : j < l.length := by rw [HN.out.1]; exact hlt
      have hR := (hcell j l[j] (List.getElem?_eq_getElem hjl)).below hwr hg
      have c0 := hR.ch
      have c1 := hR.nm
      have hj1 : (j : Int) < (n : Int) := Int.ofNat_lt.2 hlt
      have hwj : wrap64 ((j : Int) + 1) = (j : Int) + 1 := w64 _ (by omega) (by have := HN.out; omega)
      have HT : Hid (j + 1 ≤ n ∧ n - ((j : Int) + 1).toNat < n - ((j : Int)).toNat ∧ ms.length + 1 ≤ 301 ∧ ms.length ≤ j + 1 ∧ (ms ++ [l[j]]).length ≤ j + 1) := by
        have := HN.out
        refine ⟨?_, ?_, ?_, ?_, ?_⟩ <;> (try simp) <;> omega
      have HF := take_filter (fun r => mineB r chain name) l j hjl
      rw [← hms] at HF
      replace HF : Hid (_ = _) := HF
      have HM : Hid (mineB l[j] chain name = ((l[j].ch == chain) && (l[j].nm.toList.isEmpty || l[j].nm.toList == name.toList))) := rfl
      have HL : Hid (RlW W (some ⟨g, o, none⟩) n l) := hl
      generalize l[j] = r at *
      generalize mineB r chain name = s1 at *
      clear hcell hl hjl hlt hj hms hmj
      go_upto_region 7 with fail
      apply wp_region_lit
      refine cutB 24 26 23 (fun b W => b = s1 ∧ wr = W) ?_ ?_
      · simp only [List.take_succ_cons, List.take_zero]
        cases k1 : r.ch == chain with
        | true =>
          go_wp2_with fail
          all_goals exact CutQ.normal ⟨by kernel_rfl, by kernel_rfl, _, rfl, by rw [HM.out, k1]; simp [*], rfl⟩
        | false =>
          go_wp2_with fail
          all_goals exact CutQ.normal ⟨by kernel_rfl, by kernel_rfl, _, rfl, by rw [HM.out, k1]; rfl, rfl⟩
      · intro xs0 b1 W1 hl0 hPB
        obtain ⟨u26, xs1, rfl, hl1⟩ := len_s hl0
        obtain ⟨u27, xs2, rfl, hl2⟩ := len_s hl1
        obtain ⟨u28, xs3, rfl, hl3⟩ := len_s hl2
        obtain ⟨u29, xs4, rfl, hl4⟩ := len_s hl3
        obtain ⟨u30, xs5, rfl, hl5⟩ := len_s hl4
        obtain ⟨u31, xs6, rfl, hl6⟩ := len_s hl5
        obtain ⟨u32, xs7, rfl, hl7⟩ := len_s hl6
        obtain ⟨u33, xs8, rfl, hl8⟩ := len_s hl7
        obtain ⟨u34, xs9, rfl, hl9⟩ := len_s hl8
        obtain ⟨u35, xs10, rfl, hl10⟩ := len_s hl9
        obtain ⟨u36, xs11, rfl, hl11⟩ := len_s hl10
        obtain ⟨u37, xs12, rfl, hl12⟩ := len_s hl11
        obtain ⟨u38, xs13, rfl, hl13⟩ := len_s hl12
        obtain ⟨u39, xs14, rfl, hl14⟩ := len_s hl13
        obtain ⟨u40, xs15, rfl, hl15⟩ := len_s hl14
        obtain ⟨u41, xs16, rfl, hl16⟩ := len_s hl15
        obtain ⟨u42, xs17, rfl, hl17⟩ := len_s hl16
        obtain ⟨u43, xs18, rfl, hl18⟩ := len_s hl17
        obtain ⟨u44, xs19, rfl, hl19⟩ := len_s hl18
        obtain ⟨u45, xs20, rfl, hl20⟩ := len_s hl19
        obtain ⟨u46, xs21, rfl, hl21⟩ := len_s hl20
        obtain ⟨u47, xs22, rfl, hl22⟩ := len_s hl21
        obtain ⟨u48, xs23, rfl, hl23⟩ := len_s hl22
        obtain rfl := len_z hl23
        clear hl0 hl1 hl2 hl3 hl4 hl5 hl6 hl7 hl8 hl9 hl10 hl11 hl12 hl13 hl14 hl15 hl16 hl17 hl18 hl19 hl20 hl21 hl22 hl23
        simp only [List.drop_succ_cons, List.drop_zero]
        simp only [over, List.cons_append, List.nil_append, Act.put, List.setIfInBounds_toArray, List.set_cons_zero, List.set_cons_succ, Nat.reduceAdd]
        obtain ⟨rfl, rfl⟩ := hPB
        clear HM c0 c1
        cases b1 with
        | true =>
          go_wp2_with (first
            | (refine ldR (.tmp 53) rfl rfl _ _ r rfl hR ?_; have m1 := True.intro)
            | (have kk := m1; (with_reducible refine bsG (T := 22) (U := 41) (n := 1) [(0, .tmp 54)] (rcells r) ?_ ?_ ?_ ?_); (focus rfl); (focus rfl); (focus exact bsR1 r); intro w2 q2 h2; clear m1; refine Hid.out ?_))
          unfold Hid
          have hb2 : W.heap.size ≤ w2.heap.size := Nat.le_trans hwr.size h2.size
          have hms : ms.length + 1 ≤ 1000000000 := by have := HT.out.2.2.1; omega
          refine append_r (.tmp 50) (.tmp 55) ?_ ?_ W.heap.size _ _ ms ?_ (own_below hO h2) (some ⟨wr.heap.size, 0, none⟩) 1 1 [r] ?_ (RlW.one q2) (fun h => by cases h) hms hb2 ?_
          · rfl
          · rfl
          · rfl
          · rfl
          intro v3 w3 hO3 hg3
          have hwr3 : Below W.heap.size W w3 := (hwr.trans (h2.mono hwr.size)).grown hg3 hb2 (fun k hk => ((own_below hO h2).lt k hk).1)
          simp only [Act.put, List.setIfInBounds_toArray, List.set_cons_zero, List.set_cons_succ]
          clear hO hg3 q2 hR h2 hwr hms hb2
          go_wp2_with fail
          go_roundw
          case rel => exact ⟨j + 1, ms ++ [r], HT.out.1, by (try rw [hwj]); simp, by show _ = _; rw [HF.out]; rfl, HT.out.2.2.2.2, by simpa using hO3, hwr3⟩
          case measure =>
            try rw [hwj]
            simp only [intOf]
            exact HT.out.2.1
        | false =>
          go_wp2_with fail
          go_roundw
          case rel => exact ⟨j + 1, ms, HT.out.1, by (try rw [hwj]); simp, by show _ = _; rw [HF.out]; simp, HT.out.2.2.2.1, hO, hwr⟩
          case measure =>
            try rw [hwj]
            simp only [intOf]
            exact HT.out.2.1
    · have hjn : j = n := by omega
      have hmf : ms = l.filter fun r => mineB r chain name := by rw [hms.out, List.take_of_length_le (by rw [HN.out.1]; omega)]
      have hn3 := HN.out.2
      obtain ⟨a2, c2, rfl⟩ := own_shape2 hO
      have hms3 : ms.length ≤ 140737488355328 := by omega
      have hM1 : Hid (∀ Z, Below wr.heap.size wr Z → Calls Try.prog 11 #[.int .i64 chain, .string name, (Value.agg (qcells p).toArray), idV i, .int .u16 (m : Int), .slice ad n c] Z (Gives Z (.int .u16 (metN m (fun r => matB r chain name p i) l : Nat)))) := fun Z hZ =>
        metric_any chain name p i m hm ad n c l Z ((hl.below hwr).below hZ) (by omega)
      have hM2 : Hid (∀ Z, Below wr.heap.size wr Z → Calls Try.prog 11 #[.int .i64 chain, .string name, (Value.agg (qcells p).toArray), idV i, .int .u16 (m : Int), .slice a2 ms.length c2] Z (Gives Z (.int .u16 (metN m (fun r => matB r chain name p i) l : Nat)))) := fun Z hZ => by
        have h := metric_any chain name p i m hm a2 ms.length c2 ms Z (RlW.own (own_below hO hZ)) hms3
        have e : metN m (fun r => matB r chain name p i) ms = metN m (fun r => matB r chain name p i) l := by rw [hmf]; exact met_mine m chain name p i l
        rw [e] at h
        exact h
      have hM3 : Hid (∀ Z, Calls Try.prog 11 #[.int .i64 chain, .string name, (Value.agg (qcells p).toArray), idV i, .int .u16 (m : Int), .slice none 0 0] Z (Gives Z (.int .u16 (m : Int)))) := fun Z =>
        metric_any chain name p i m hm none 0 0 [] Z (RlW.nil _ _) (by omega)
      generalize metN m (fun r => matB r chain name p i) l = M at *
      have HK : Hid (∀ Z, Below wr.heap.size wr Z → LQ Z w.heap.size 0 p ∧ LI Z (w.heap.size + 1) 0 i) := fun Z h => ⟨(hQ.below hwr hlt1).below h (Nat.lt_of_lt_of_le hlt1 hwr.size), (hI.below hwr hlt2).below h (Nat.lt_of_lt_of_le hlt2 hwr.size)⟩
      have hj0 : ¬ (j : Int) < (n : Int) := by omega
      generalize ms.length = k2 at *
      clear hmf hn3 hms3 hms hmj hO hl hlt hjn hQ hI HN hj
      go_upto_region 9 with fail
      refine wp_region_noPanic ?_
      refine wp_region_held_drew (S := fun Z => Below wr.heap.size wr Z) (by kernel_rfl) ((Below.refl _ _).drew) (fun hHeld => ?_)
      refine take_lit (i := 0) (v := ?_) rfl (by kernel_rfl) (by kernel_rfl) (by kernel_rfl) (fun _ _ _ h => h) (Or.inl ⟨by rfl, ?_⟩) (by assumption) ?_
      rotate_left
      · (intro w hSw; (try dsimp only at hSw); go_simp <;> with_reducible rfl)
      try simp only [Act.put, List.setIfInBounds_toArray, List.set_cons_zero, List.set_cons_succ]
      refine take_lit (i := 1) (v := ?_) rfl (by kernel_rfl) (by kernel_rfl) (by kernel_rfl) (fun _ _ _ h => h) (Or.inl ⟨by rfl, ?_⟩) (by assumption) ?_
      rotate_left
      · (intro w hSw; (try dsimp only at hSw); go_simp <;> with_reducible rfl)
      try simp only [Act.put, List.setIfInBounds_toArray, List.set_cons_zero, List.set_cons_succ]
      refine take_lit (i := 2) rfl (by kernel_rfl) (by kernel_rfl) (by kernel_rfl) (fun _ _ _ h => h) (yQ p (fun Z h => (HK.out Z h).1) (by rfl) rfl rfl) (by assumption) ?_
      try simp only [Act.put, List.setIfInBounds_toArray, List.set_cons_zero, List.set_cons_succ]
      refine take_lit (i := 3) rfl (by kernel_rfl) (by kernel_rfl) (by kernel_rfl) (fun _ _ _ h => h) (yI i (fun Z h => (HK.out Z h).2) (by rfl) rfl rfl) (by assumption) ?_
      try simp only [Act.put, List.setIfInBounds_toArray, List.set_cons_zero, List.set_cons_succ]
      refine take_lit (i := 4) (v := ?_) rfl (by kernel_rfl) (by kernel_rfl) (by kernel_rfl) (fun _ _ _ h => h) (Or.inl ⟨by rfl, ?_⟩) (by assumption) ?_
      rotate_left
      · (intro w hSw; (try dsimp only at hSw); go_simp <;> with_reducible rfl)
      try simp only [Act.put, List.setIfInBounds_toArray, List.set_cons_zero, List.set_cons_succ]
      refine take_lit (i := 5) (v := ?_) rfl (by kernel_rfl) (by kernel_rfl) (by kernel_rfl) (fun _ _ _ h => h) (Or.inl ⟨by rfl, ?_⟩) (by assumption) ?_
      rotate_left
      · (intro w hSw; (try dsimp only at hSw); go_simp <;> with_reducible rfl)
      try simp only [Act.put, List.setIfInBounds_toArray, List.set_cons_zero, List.set_cons_succ]
      refine take_lit (i := 7) (v := ?_) rfl (by kernel_rfl) (by kernel_rfl) (by kernel_rfl) (fun _ _ _ h => h) (Or.inl ⟨by rfl, ?_⟩) (by assumption) ?_
      rotate_left
      · (intro w hSw; (try dsimp only at hSw); go_simp <;> with_reducible rfl)
      try simp only [Act.put, List.setIfInBounds_toArray, List.set_cons_zero, List.set_cons_succ]
      refine take_lit (i := 8) (v := ?_) rfl (by kernel_rfl) (by kernel_rfl) (by kernel_rfl) (fun _ _ _ h => h) (Or.inl ⟨by rfl, ?_⟩) (by assumption) ?_
      rotate_left
      · (intro w hSw; (try dsimp only at hSw); go_simp <;> with_reducible rfl)
      try simp only [Act.put, List.setIfInBounds_toArray, List.set_cons_zero, List.set_cons_succ]
      refine take_lit (i := 9) rfl (by kernel_rfl) (by kernel_rfl) (by kernel_rfl) (fun _ _ _ h => h) (yQ p (fun Z h => (HK.out Z h).1) (by rfl) rfl rfl) (by assumption) ?_
      try simp only [Act.put, List.setIfInBounds_toArray, List.set_cons_zero, List.set_cons_succ]
      refine take_lit (i := 10) rfl (by kernel_rfl) (by kernel_rfl) (by kernel_rfl) (fun _ _ _ h => h) (yI i (fun Z h => (HK.out Z h).2) (by rfl) rfl rfl) (by assumption) ?_
      try simp only [Act.put, List.setIfInBounds_toArray, List.set_cons_zero, List.set_cons_succ]
      refine take_lit (i := 11) (v := ?_) rfl (by kernel_rfl) (by kernel_rfl) (by kernel_rfl) (fun _ _ _ h => h) (Or.inl ⟨by rfl, ?_⟩) (by assumption) ?_
      rotate_left
      · (intro w hSw; (try dsimp only at hSw); go_simp <;> with_reducible rfl)
      try simp only [Act.put, List.setIfInBounds_toArray, List.set_cons_zero, List.set_cons_succ]
      refine take_lit (i := 12) (v := ?_) rfl (by kernel_rfl) (by kernel_rfl) (by kernel_rfl) (fun _ _ _ h => h) (Or.inl ⟨by rfl, ?_⟩) (by assumption) ?_
      rotate_left
      · (intro w hSw; (try dsimp only at hSw); go_simp <;> with_reducible rfl)
      try simp only [Act.put, List.setIfInBounds_toArray, List.set_cons_zero, List.set_cons_succ]
      refine wpAnyH_ready (rs := [6]) (by kernel_rfl) (by simp) ?_
      refine cons_lit rfl (fun K hK => ?_) ?_
      · go_simp
        refine (hM1.out _ hHeld).mono ?_
        rintro e w1 ⟨rfl, h1⟩
        refine hK.out _ _ ?_ (fun hHeld => ?_)
        · exact hHeld.trans (h1.mono hHeld.size)
        clear hK K
        try simp only [Act.put, List.setIfInBounds_toArray, List.set_cons_zero, List.set_cons_succ]
        refine wpAnyH_ready (rs := [13]) (by kernel_rfl) (by simp) ?_
        refine cons_lit rfl (fun K hK => ?_) ?_
        · go_simp
          refine (hM2.out _ hHeld).mono ?_
          rintro e w2 ⟨rfl, h2⟩
          refine hK.out _ _ ?_ (fun hHeld => ?_)
          · exact hHeld.trans (h2.mono hHeld.size)
          clear hK K
          try simp only [Act.put, List.setIfInBounds_toArray, List.set_cons_zero, List.set_cons_succ]
          refine take_lit (i := 14) (v := ?_) rfl (by kernel_rfl) (by kernel_rfl) (by kernel_rfl) (fun _ _ _ h => h) (Or.inl ⟨by rfl, ?_⟩) (by assumption) ?_
          rotate_left
          · (intro w hSw; (try dsimp only at hSw); go_simp <;> with_reducible rfl)
          try simp only [Act.put, List.setIfInBounds_toArray, List.set_cons_zero, List.set_cons_succ]
          refine take_lit (i := 15) (v := ?_) rfl (by kernel_rfl) (by kernel_rfl) (by kernel_rfl) (fun _ _ _ h => h) (Or.inl ⟨by rfl, ?_⟩) (by assumption) ?_
          rotate_left
          · (intro w hSw; (try dsimp only at hSw); go_simp <;> with_reducible rfl)
          try simp only [Act.put, List.setIfInBounds_toArray, List.set_cons_zero, List.set_cons_succ]
          refine take_lit (i := 16) (v := ?_) rfl (by kernel_rfl) (by kernel_rfl) (by kernel_rfl) (fun _ _ _ h => h) (Or.inl ⟨by rfl, ?_⟩) (by assumption) ?_
          rotate_left
          · (intro w hSw; (try dsimp only at hSw); go_simp <;> with_reducible rfl)
          try simp only [Act.put, List.setIfInBounds_toArray, List.set_cons_zero, List.set_cons_succ]
          refine take_lit (i := 17) (v := ?_) rfl (by kernel_rfl) (by kernel_rfl) (by kernel_rfl) (fun _ _ _ h => h) (Or.inl ⟨by rfl, ?_⟩) (by assumption) ?_
          rotate_left
          · (intro w hSw; (try dsimp only at hSw); go_simp <;> with_reducible rfl)
          try simp only [Act.put, List.setIfInBounds_toArray, List.set_cons_zero, List.set_cons_succ]
          refine take_lit (i := 18) rfl (by kernel_rfl) (by kernel_rfl) (by kernel_rfl) (fun _ _ _ h => h) (yQ p (fun Z h => (HK.out Z h).1) (by rfl) rfl rfl) (by assumption) ?_
          try simp only [Act.put, List.setIfInBounds_toArray, List.set_cons_zero, List.set_cons_succ]
          refine take_lit (i := 19) rfl (by kernel_rfl) (by kernel_rfl) (by kernel_rfl) (fun _ _ _ h => h) (yI i (fun Z h => (HK.out Z h).2) (by rfl) rfl rfl) (by assumption) ?_
          try simp only [Act.put, List.setIfInBounds_toArray, List.set_cons_zero, List.set_cons_succ]
          refine take_lit (i := 20) (v := ?_) rfl (by kernel_rfl) (by kernel_rfl) (by kernel_rfl) (fun _ _ _ h => h) (Or.inl ⟨by rfl, ?_⟩) (by assumption) ?_
          rotate_left
          · (intro w hSw; (try dsimp only at hSw); go_simp <;> with_reducible rfl)
          try simp only [Act.put, List.setIfInBounds_toArray, List.set_cons_zero, List.set_cons_succ]
          refine take_lit (i := 22) (v := ?_) rfl (by kernel_rfl) (by kernel_rfl) (by kernel_rfl) (fun _ _ _ h => h) (Or.inl ⟨by rfl, ?_⟩) (by assumption) ?_
          rotate_left
          · (intro w hSw; (try dsimp only at hSw); go_simp <;> with_reducible rfl)
          try simp only [Act.put, List.setIfInBounds_toArray, List.set_cons_zero, List.set_cons_succ]
          refine wpAnyH_ready (rs := [21]) (by kernel_rfl) (by simp) ?_
          refine cons_lit rfl (fun K hK => ?_) ?_
          · go_simp
            refine (hM3.out _).mono ?_
            rintro e w3 ⟨rfl, h3⟩
            refine hK.out _ _ ?_ (fun hHeld => ?_)
            · exact hHeld.trans (h3.mono hHeld.size)
            clear hK K
            try simp only [Act.put, List.setIfInBounds_toArray, List.set_cons_zero, List.set_cons_succ]
            refine take_lit (i := 23) (v := ?_) rfl (by kernel_rfl) (by kernel_rfl) (by kernel_rfl) (fun _ _ _ h => h) (Or.inl ⟨by rfl, ?_⟩) (by assumption) ?_
            rotate_left
            · (intro w hSw; (try dsimp only at hSw); go_simp <;> with_reducible rfl)
            try simp only [Act.put, List.setIfInBounds_toArray, List.set_cons_zero, List.set_cons_succ]
            refine take_lit (i := 24) (v := ?_) rfl (by kernel_rfl) (by kernel_rfl) (by kernel_rfl) (fun _ _ _ h => h) (Or.inl ⟨by rfl, ?_⟩) (by assumption) ?_
            rotate_left
            · (intro w hSw; (try dsimp only at hSw); go_simp <;> with_reducible rfl)
            try simp only [Act.put, List.setIfInBounds_toArray, List.set_cons_zero, List.set_cons_succ]
            refine take_lit (i := 25) (v := ?_) rfl (by kernel_rfl) (by kernel_rfl) (by kernel_rfl) (fun _ _ _ h => h) (Or.inl ⟨by rfl, ?_⟩) (by assumption) ?_
            rotate_left
            · (intro w hSw; (try dsimp only at hSw); go_simp <;> with_reducible rfl)
            try simp only [Act.put, List.setIfInBounds_toArray, List.set_cons_zero, List.set_cons_succ]
            refine wpAnyH_ready (rs := [26]) (by kernel_rfl) (by simp) ?_
            refine cons_lit rfl (fun K hK => ?_) ?_
            · go_simp
              refine (live_any _).mono ?_
              rintro e w4 ⟨rfl, h4⟩
              refine hK.out _ _ ?_ (fun hHeld => ?_)
              · exact hHeld.trans (h4.mono hHeld.size)
              clear hK K
              try simp only [Act.put, List.setIfInBounds_toArray, List.set_cons_zero, List.set_cons_succ]
              refine take_lit (i := 27) (v := ?_) rfl (by kernel_rfl) (by kernel_rfl) (by kernel_rfl) (fun _ _ _ h => h) (Or.inl ⟨by rfl, ?_⟩) (by assumption) ?_
              rotate_left
              · (intro w hSw; (try dsimp only at hSw); go_simp <;> with_reducible rfl)
              try simp only [Act.put, List.setIfInBounds_toArray, List.set_cons_zero, List.set_cons_succ]
              refine take_lit (i := 28) (v := ?_) rfl (by kernel_rfl) (by kernel_rfl) (by kernel_rfl) (fun _ _ _ h => h) (Or.inl ⟨by rfl, ?_⟩) (by assumption) ?_
              rotate_left
              · (intro w hSw; (try dsimp only at hSw); go_simp <;> with_reducible rfl)
              try simp only [Act.put, List.setIfInBounds_toArray, List.set_cons_zero, List.set_cons_succ]
              refine wpAnyH_done (by kernel_rfl) ?_ _
              refine NoPanic.normal ?_
              go_wp2
              go_ret
              exact ⟨rfl, hB.trans ((hwr.trans (hHeld.mono hwr.size)).mono hB.size)⟩
            exact AllReadyH.nil
          exact AllReadyH.nil
        exact AllReadyH.nil
      exact AllReadyH.nil
theorem chains_all (ad : Option Addr) (n c : Nat) (l : List Ru) (hc0 : n ≤ c ∧ (ad = none → c = 0)) (chain : Int) (name : ByteArray) (p : Pr) (i : Id8) (m : Int) (hm : (Lit.int .u16 m).wf = true) (w : World) (hl : RlW w ad n l) :
    Calls Try.prog 5 #[.slice ad n c, .int .i64 chain, .string name, (Value.agg (qcells p).toArray), idV i, .int .u16 m] w (Gives w (.bool true)) := by
  obtain ⟨m, rfl, hm1⟩ := nat_of16 hm
  exact chains_any ad n c l hc0.2 chain name p i m hm1 w hl
end Go.Proofs.Ytfohknbgfpbmiaa
