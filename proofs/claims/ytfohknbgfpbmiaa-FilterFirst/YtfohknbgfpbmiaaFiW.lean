/-
  FilterFirst: the walk.
-/
import Derived.Test.YtfohknbgfpbmiaaSaW
import Derived.Test.YtfohknbgfpbmiaaRt
import Derived.Test.YtfohknbgfpbmiaaAp2
namespace Go.Proofs.Ytfohknbgfpbmiaa
open Go.RowKit
set_option linter.unusedSimpArgs false
set_option maxRecDepth 20000
set_option maxHeartbeats 8000000 in
theorem first_any (ad : Option Addr) (n c : Nat) (l : List Ru) (hc0 : n ≤ c ∧ (ad = none → c = 0)) (ad2 : Option Addr) (n2 c2 : Nat) (l2 : List Ru) (hc2 : n2 ≤ c2 ∧ (ad2 = none → c2 = 0)) (chain : Int) (name : ByteArray) (p : Pr) (i : Id8) (m : Nat) (hm : m < 65536) (w : World) (hl : RlW w ad n l) (hl2 : RlW w ad2 n2 l2) :
    Calls Try.prog 4 #[.slice ad n c, .slice ad2 n2 c2, .int .i64 chain, .string name, (Value.agg (qcells p).toArray), idV i, .int .u16 (m : Int)] w (Gives w (.bool true)) := by
  have hQ := (LQ.new w p 28).alloc (.cells (icells i).toArray 30)
  have hI : LI ((w.alloc (.cells (qcells p).toArray 28)).alloc (.cells (icells i).toArray 30)) (w.heap.size + 1) 0 i := by
    have := LI.new (w.alloc (.cells (qcells p).toArray 28)) i 30
    simpa using this
  have HB : Hid (Below w.heap.size w ((w.alloc (.cells (qcells p).toArray 28)).alloc (.cells (icells i).toArray 30))) := bt (ba _ _) (ba _ _)
  go_enter Try.func4, Try.ntmps4
  go_upto_region 1 with fail
  refine name_world (R := fun W => Code.wp _ _ _ _ W) (P := fun W => Below w.heap.size w W ∧ LQ W w.heap.size 0 p ∧ LI W (w.heap.size + 1) 0 i ∧ w.heap.size < W.heap.size ∧ w.heap.size + 1 < W.heap.size) _ ⟨HB.out, hQ, hI, by simp; omega, by simp⟩ ?_
  clear HB hQ hI
  rintro X ⟨hB, hQ, hI, hlt1, hlt2⟩
  replace hl := hl.below hB
  replace hl2 := hl2.below hB
  have HK : Hid (∀ Z, Below X.heap.size X Z → LQ Z w.heap.size 0 p ∧ LI Z (w.heap.size + 1) 0 i) := fun Z h => ⟨hQ.below h hlt1, hI.below h hlt2⟩
  have HR1 : Hid (∀ Z, Below X.heap.size X Z → Calls Try.prog 7 #[.slice ad n c, (Value.agg (qcells p).toArray)] Z (RightV Z n)) := fun Z h => right_any ad n c l p Z (hl.below h)
  have HR2 : Hid (∀ Z, Below X.heap.size X Z → Calls Try.prog 7 #[.slice ad2 n2 c2, (Value.agg (qcells p).toArray)] Z (RightV Z n2)) := fun Z h => right_any ad2 n2 c2 l2 p Z (hl2.below h)
  clear hQ hI
  have hb := Below.refl X.heap.size X
  go_upto_region 3 with (first
    | (refine ldQ (.tmp 11) (by rfl) rfl _ _ p rfl (HK.out _ hb).1 ?_)
    | (go_at_call 8; refine (live_any _).mono ?_; rintro e w1 ⟨rfl, h1⟩; replace hb := hb.trans (h1.mono hb.size))
    | (have kk := g1; go_at_call 7; refine (HR2.out _ hb).mono ?_; rintro e w2 ⟨b2, rfl, h2, g2⟩; replace hb := hb.trans (h2.mono hb.size); clear h2; cases b2)
    | (go_at_call 7; refine (HR1.out _ hb).mono ?_; rintro e w1 ⟨b1, rfl, h1, g1⟩; replace hb := hb.trans (h1.mono hb.size); clear h1; cases b1))
  · go_ret
    exact ⟨rfl, hB.trans (hb.mono hB.size)⟩
  · go_ret
    exact ⟨rfl, hB.trans (hb.mono hB.size)⟩
  have hn : n ≤ 300 := by simpa using g1
  have hn2 : n2 ≤ 300 := by simpa using g2
  clear g1 g2 kk HR1 HR2
  have HM1 : Hid (∀ Z, Below X.heap.size X Z → Calls Try.prog 11 #[.int .i64 chain, .string name, (Value.agg (qcells p).toArray), idV i, .int .u16 (m : Int), .slice ad n c] Z (Gives Z (.int .u16 (metN m (fun r => matB r chain name p i) l : Nat)))) := fun Z hZ => metric_any chain name p i m hm ad n c l Z (hl.below hZ) (by omega)
  have HW1 : Hid (∀ Z, Below X.heap.size X Z → Calls Try.prog 9 #[.int .i64 chain, .string name, (Value.agg (qcells p).toArray), idV i, .slice ad n c] Z (Gives Z (whV (l.findIdx? fun r => matB r chain name p i)))) := fun Z hZ => which_any chain name p i ad n c l Z (hl.below hZ) (by omega)
  cases hf : l.findIdx? (fun r => matB r chain name p i) with
  | none =>
    rw [metN_none hf] at HM1
    rw [hf] at HW1
    have hmm : ¬ (m : Int) < (m : Int) := by omega
    clear hf hl hl2 hc0 hc2 hn hn2 hm
    go_wp2_with (first
      | (refine ldQ (.tmp 11) (by rfl) rfl _ _ p rfl (HK.out _ hb).1 ?_)
      | (refine ldI (.tmp 12) (by rfl) rfl _ _ i rfl (HK.out _ hb).2 ?_)
      | (go_at_call 11; refine (HM1.out _ hb).mono ?_; rintro e w3 ⟨rfl, h3⟩; replace hb := hb.trans (h3.mono hb.size); clear h3)
      | (go_at_call 9; refine (HW1.out _ hb).mono ?_; rintro e w4 ⟨rfl, h4⟩; replace hb := hb.trans (h4.mono hb.size); clear h4; unfold whV)
      | (go_at_call 8; refine (live_any _).mono ?_; rintro e w5 ⟨rfl, h5⟩; replace hb := hb.trans (h5.mono hb.size); clear h5))
    go_ret
    exact ⟨rfl, hB.trans (hb.mono hB.size)⟩
  | some k =>
    obtain ⟨hk, hmet⟩ := metN_some (m := m) hf
    obtain ⟨_, hhit⟩ := find_hit hf
    have hfr := met_front (m := m) (more := l2) hf
    have hge := one_ge m l[k] hm
    rw [← hmet] at hge
    rw [hf] at HW1
    have hn0 : n ≠ 0 := by have := hl.len; omega
    have hkn : k < n := by have := hl.len; omega
    obtain ⟨g, o, rfl, hg, hcell⟩ := hl.mem hn0
    have hR := hcell k l[k] (List.getElem?_eq_getElem hk)
    have hT : RlW X (some ⟨g, o, none⟩) (k + 1) (l.take (k + 1)) := hl.take (by omega)
    have hMt : Hid (∀ Z, Calls Try.prog 13 #[ruV l[k], .int .i64 chain, .string name, (Value.agg (qcells p).toArray), idV i] Z (Gives Z (.bool true))) := fun Z => by
      have h := matches_any l[k] chain name p i Z
      rw [hhit] at h
      exact h
    have HM2 : Hid (∀ Z a c', Z.ownsRow X.heap.size 41 50 (.slice a (k + 1 + n2) c') (k + 1 + n2) (rcs (l.take (k + 1) ++ l2)) → Calls Try.prog 11 #[.int .i64 chain, .string name, (Value.agg (qcells p).toArray), idV i, .int .u16 (m : Int), .slice a (k + 1 + n2) c'] Z (Gives Z (.int .u16 (metN m (fun r => matB r chain name p i) l : Nat)))) := fun Z a c' hO => by
      have h := metric_any chain name p i m hm a (k + 1 + n2) c' (l.take (k + 1) ++ l2) Z (RlW.own hO) (by omega)
      rw [hfr] at h
      exact h
    have hkc : k + 1 ≤ c := by omega
    generalize metN m (fun r => matB r chain name p i) l = M at *
    generalize l[k] = r at *
    have hmM : ¬ (M : Int) < (m : Int) := by omega
    have hk1 : ((k : Int)) < (n : Int) := Int.ofNat_lt.2 hkn
    have HKN : Hid (k + 1 ≤ n ∧ n ≤ 300 ∧ n2 ≤ 300 ∧ k + 1 ≤ c ∧ (n2 ≤ c2 ∧ (ad2 = none → c2 = 0))) := ⟨hkn, hn, hn2, hkc, hc2⟩
    clear hf hcell hl hc0 hc2 hn hn2 hm hge hmet hhit hfr hn0 hkn hkc hk
    go_upto_region 8 with (first
      | (refine ldQ (.tmp 11) (by rfl) rfl _ _ p rfl (HK.out _ hb).1 ?_)
      | (refine ldI (.tmp 12) (by rfl) rfl _ _ i rfl (HK.out _ hb).2 ?_)
      | (go_at_call 11; refine (HM1.out _ hb).mono ?_; rintro e w3 ⟨rfl, h3⟩; replace hb := hb.trans (h3.mono hb.size); clear h3)
      | (go_at_call 9; refine (HW1.out _ hb).mono ?_; rintro e w4 ⟨rfl, h4⟩; replace hb := hb.trans (h4.mono hb.size); clear h4; unfold whV))
    have q1 : IntKind.i64.wrap ((k : Int) + 1) = ((k + 1 : Nat) : Int) := by
      have h := HKN.out
      rw [wrap_64]
      exact w64 _ (by omega) (by omega)
    have q2 : ((k + 1 : Nat) : Int) ≤ (c : Int) := Int.ofNat_le.2 HKN.out.2.2.2.1
    have q3 : (0 : Int) ≤ ((k + 1 : Nat) : Int) := Int.natCast_nonneg _
    have HKN2 : Hid (0 + (k + 1) ≤ 1000000000 ∧ 0 + (k + 1) + n2 ≤ 1000000000) := by
      have h := HKN.out
      constructor <;> omega
    generalize hk1e : k + 1 = k1 at *
    refine wp_region_noPanic ?_
    refine wp_region_held_drew (S := fun Z => Below X.heap.size X Z) (by kernel_rfl) (hb.drew) (fun hHeld => ?_)
    refine take_lit (i := 0) (v := ?_) rfl (by kernel_rfl) (by kernel_rfl) (by kernel_rfl) (fun _ _ _ h => h) (Or.inl ⟨by rfl, ?_⟩) (by assumption) ?_
    rotate_left
    · (intro w hSw; (try dsimp only at hSw); go_simp <;> with_reducible rfl)
    try simp only [Act.put, List.setIfInBounds_toArray, List.set_cons_zero, List.set_cons_succ]
    refine take_lit (i := 1) (v := ?_) rfl (by kernel_rfl) (by kernel_rfl) (by kernel_rfl) (fun _ _ _ h => h) (Or.inl ⟨by rfl, ?_⟩) (by assumption) ?_
    rotate_left
    · (intro w hSw; (try dsimp only at hSw); go_simp <;> with_reducible rfl)
    try simp only [Act.put, List.setIfInBounds_toArray, List.set_cons_zero, List.set_cons_succ]
    refine take_lit (i := 2) rfl (by kernel_rfl) (by kernel_rfl) (by kernel_rfl) (fun _ _ _ h => h) (yQ p (fun Z h => (HK.out Z h).1) (by rfl) rfl rfl) (by assumption) ?_
    try simp only [Act.put, List.setIfInBounds_toArray, List.set_cons_zero, List.set_cons_succ]
    refine take_lit (i := 3) rfl (by kernel_rfl) (by kernel_rfl) (by kernel_rfl) (fun _ _ _ h => h) (yI i (fun Z h => (HK.out Z h).2) (by rfl) rfl rfl) (by assumption) ?_
    try simp only [Act.put, List.setIfInBounds_toArray, List.set_cons_zero, List.set_cons_succ]
    refine take_lit (i := 4) (v := ?_) rfl (by kernel_rfl) (by kernel_rfl) (by kernel_rfl) (fun _ _ _ h => h) (Or.inl ⟨by rfl, ?_⟩) (by assumption) ?_
    rotate_left
    · (intro w hSw; (try dsimp only at hSw); go_simp <;> with_reducible rfl)
    try simp only [Act.put, List.setIfInBounds_toArray, List.set_cons_zero, List.set_cons_succ]
    refine take_lit (i := 6) (v := ?_) rfl (by kernel_rfl) (by kernel_rfl) (by kernel_rfl) (fun _ _ _ h => h) (Or.inl ⟨by rfl, ?_⟩) (by assumption) ?_
    rotate_left
    · (intro w hSw; (try dsimp only at hSw); go_simp <;> with_reducible rfl)
    try simp only [Act.put, List.setIfInBounds_toArray, List.set_cons_zero, List.set_cons_succ]
    refine take_lit (i := 7) (v := ?_) rfl (by kernel_rfl) (by kernel_rfl) (by kernel_rfl) (fun _ _ _ h => h) (Or.inl ⟨by rfl, ?_⟩) (by assumption) ?_
    rotate_left
    · (intro w hSw; (try dsimp only at hSw); go_simp <;> with_reducible rfl)
    try simp only [Act.put, List.setIfInBounds_toArray, List.set_cons_zero, List.set_cons_succ]
    refine take_lit (i := 8) (v := ?_) rfl (by kernel_rfl) (by kernel_rfl) (by kernel_rfl) (fun _ _ _ h => h) (Or.inl ⟨by rfl, ?_⟩) (by assumption) ?_
    rotate_left
    · (intro w hSw; (try dsimp only at hSw); go_simp <;> with_reducible rfl)
    try simp only [Act.put, List.setIfInBounds_toArray, List.set_cons_zero, List.set_cons_succ]
    refine take_lit (i := 9) (v := ?_) rfl (by kernel_rfl) (by kernel_rfl) (by kernel_rfl) (fun _ _ _ h => h) (Or.inl ⟨by rfl, ?_⟩) (by assumption) ?_
    rotate_left
    · (intro w hSw; (try dsimp only at hSw); go_simp <;> with_reducible rfl)
    try simp only [Act.put, List.setIfInBounds_toArray, List.set_cons_zero, List.set_cons_succ]
    refine take_lit (i := 11) (v := ?_) rfl (by kernel_rfl) (by kernel_rfl) (by kernel_rfl) (fun _ _ _ h => h) (Or.inl ⟨by rfl, ?_⟩) (by assumption) ?_
    rotate_left
    · (intro w hSw; (try dsimp only at hSw); go_simp <;> with_reducible rfl)
    try simp only [Act.put, List.setIfInBounds_toArray, List.set_cons_zero, List.set_cons_succ]
    refine wpAnyH_ready (rs := [5]) (by kernel_rfl) (by simp) ?_
    refine cons_lit rfl (fun K hK => ?_) ?_
    · skip
      refine sBsG (T := 22) (U := 41) (n := 0) [] [] (by rfl) rfl bsR0 ?_
      intro wA rA hA
      have hOA := own_zero rA hHeld.size
      refine hK.out _ _ ?_ (fun hHeld => ?_)
      · exact hHeld.trans (hA.mono hHeld.size)
      clear hK K
      try simp only [Act.put, List.setIfInBounds_toArray, List.set_cons_zero, List.set_cons_succ]
      refine wpAnyH_ready (rs := [10]) (by kernel_rfl) (by simp) ?_
      refine cons_lit rfl (fun K hK => ?_) ?_
      · skip
        refine sAppend (.tmp 64) (.tmp 68) (by rfl) rfl X.heap.size _ 0 [] rfl hOA (some ⟨g, o, none⟩) k1 c (l.take k1) rfl (hT.below hHeld) (fun h => by cases h) HKN2.out.1 hHeld.size ?_
        intro vB wB hOB hgB
        refine hK.out _ _ ?_ (fun hHeld => ?_)
        · exact hHeld.grown hgB hHeld.size (fun q hq => (hOA.lt q hq).1)
        clear hK K
        try simp only [Act.put, List.setIfInBounds_toArray, List.set_cons_zero, List.set_cons_succ]
        refine wpAnyH_ready (rs := [12]) (by kernel_rfl) (by simp) ?_
        refine cons_lit rfl (fun K hK => ?_) ?_
        · skip
          refine sAppend (.tmp 69) (.tmp 70) (by rfl) rfl X.heap.size _ (0 + k1) ([] ++ l.take k1) rfl hOB ad2 n2 c2 l2 rfl (hl2.below hHeld) HKN.out.2.2.2.2.2 HKN2.out.2 hHeld.size ?_
          intro vC wC hOC hgC
          simp only [Nat.zero_add, List.nil_append] at hOC
          obtain ⟨aC, cC, rfl⟩ := own_shape2 hOC
          refine hK.out _ _ ?_ (fun hHeld => ?_)
          · exact hHeld.grown hgC hHeld.size (fun q hq => (hOB.lt q hq).1)
          clear hK K
          try simp only [Act.put, List.setIfInBounds_toArray, List.set_cons_zero, List.set_cons_succ]
          refine wpAnyH_ready (rs := [13]) (by kernel_rfl) (by simp) ?_
          refine cons_lit rfl (fun K hK => ?_) ?_
          · go_simp
            refine (HM2.out _ _ _ hOC).mono ?_
            rintro e w5 ⟨rfl, h5⟩
            refine hK.out _ _ ?_ (fun hHeld => ?_)
            · exact hHeld.trans (h5.mono hHeld.size)
            clear hK K
            try simp only [Act.put, List.setIfInBounds_toArray, List.set_cons_zero, List.set_cons_succ]
            refine take_lit (i := 14) (v := ?_) rfl (by kernel_rfl) (by kernel_rfl) (by kernel_rfl) (fun _ _ _ h => h) (Or.inl ⟨by rfl, ?_⟩) (by assumption) ?_
            rotate_left
            · (intro w hSw; (try dsimp only at hSw); go_simp <;> with_reducible rfl)
            try simp only [Act.put, List.setIfInBounds_toArray, List.set_cons_zero, List.set_cons_succ]
            refine wpAnyH_done (by kernel_rfl) ?_ _
            refine NoPanic.normal ?_
            go_upto_region 9 with fail
            refine wp_region_noPanic ?_
            refine wp_region_held_drew (S := fun Z => Below X.heap.size X Z) (by kernel_rfl) (hHeld.drew) (fun hHeld => ?_)
            refine take_lit (i := 0) (v := ?_) rfl (by kernel_rfl) (by kernel_rfl) (by kernel_rfl) (fun _ _ _ h => h) (Or.inl ⟨by rfl, ?_⟩) (by assumption) ?_
            rotate_left
            · (intro w hSw; (try dsimp only at hSw); go_simp <;> with_reducible rfl)
            try simp only [Act.put, List.setIfInBounds_toArray, List.set_cons_zero, List.set_cons_succ]
            refine take_lit (i := 1) (v := ?_) rfl (by kernel_rfl) (by kernel_rfl) (by kernel_rfl) (fun _ _ _ h => h) (Or.inl ⟨by rfl, ?_⟩) (by assumption) ?_
            rotate_left
            · (intro w hSw; (try dsimp only at hSw); go_simp <;> with_reducible rfl)
            try simp only [Act.put, List.setIfInBounds_toArray, List.set_cons_zero, List.set_cons_succ]
            refine take_lit (i := 2) (v := ?_) rfl (by kernel_rfl) (by kernel_rfl) (by kernel_rfl) (fun _ _ _ h => h) (Or.inl ⟨by rfl, ?_⟩) (by assumption) ?_
            rotate_left
            · (intro w hSw; (try dsimp only at hSw); go_simp <;> with_reducible rfl)
            try simp only [Act.put, List.setIfInBounds_toArray, List.set_cons_zero, List.set_cons_succ]
            refine take_lit (i := 3) (v := ?_) rfl (by kernel_rfl) (by kernel_rfl) (by kernel_rfl) (fun _ _ _ h => h) (Or.inl ⟨by rfl, ?_⟩) (by assumption) ?_
            rotate_left
            · (intro w hSw; (try dsimp only at hSw); go_simp <;> with_reducible rfl)
            try simp only [Act.put, List.setIfInBounds_toArray, List.set_cons_zero, List.set_cons_succ]
            refine take_lit (i := 4) (v := ?_) rfl (by kernel_rfl) (by kernel_rfl) (by kernel_rfl) (fun _ _ _ h => h) (Or.inl ⟨by rfl, ?_⟩) (by assumption) ?_
            rotate_left
            · (intro w hSw; (try dsimp only at hSw); go_simp <;> with_reducible rfl)
            try simp only [Act.put, List.setIfInBounds_toArray, List.set_cons_zero, List.set_cons_succ]
            refine take_lit (i := 5) (v := ?_) rfl (by kernel_rfl) (by kernel_rfl) (by kernel_rfl) (fun _ _ _ h => h) (Or.inl ⟨by rfl, ?_⟩) (by assumption) ?_
            rotate_left
            · (intro w hSw; (try dsimp only at hSw); go_simp <;> with_reducible rfl)
            try simp only [Act.put, List.setIfInBounds_toArray, List.set_cons_zero, List.set_cons_succ]
            refine take_lit (i := 6) (v := ?_) rfl (by kernel_rfl) (by kernel_rfl) (by kernel_rfl) (fun _ _ _ h => h) (Or.inl ⟨by rfl, ?_⟩) (by assumption) ?_
            rotate_left
            · (intro w hSw; (try dsimp only at hSw); go_simp <;> with_reducible rfl)
            try simp only [Act.put, List.setIfInBounds_toArray, List.set_cons_zero, List.set_cons_succ]
            refine take_lit (i := 7) rfl (by kernel_rfl) (by kernel_rfl) (by kernel_rfl) (fun _ _ _ h => h) (yR r (fun Z h => hR.below h hg) (by rfl) rfl rfl) (by assumption) ?_
            try simp only [Act.put, List.setIfInBounds_toArray, List.set_cons_zero, List.set_cons_succ]
            refine take_lit (i := 8) (v := ?_) rfl (by kernel_rfl) (by kernel_rfl) (by kernel_rfl) (fun _ _ _ h => h) (Or.inl ⟨by rfl, ?_⟩) (by assumption) ?_
            rotate_left
            · (intro w hSw; (try dsimp only at hSw); go_simp <;> with_reducible rfl)
            try simp only [Act.put, List.setIfInBounds_toArray, List.set_cons_zero, List.set_cons_succ]
            refine take_lit (i := 9) (v := ?_) rfl (by kernel_rfl) (by kernel_rfl) (by kernel_rfl) (fun _ _ _ h => h) (Or.inl ⟨by rfl, ?_⟩) (by assumption) ?_
            rotate_left
            · (intro w hSw; (try dsimp only at hSw); go_simp <;> with_reducible rfl)
            try simp only [Act.put, List.setIfInBounds_toArray, List.set_cons_zero, List.set_cons_succ]
            refine take_lit (i := 10) rfl (by kernel_rfl) (by kernel_rfl) (by kernel_rfl) (fun _ _ _ h => h) (yQ p (fun Z h => (HK.out Z h).1) (by rfl) rfl rfl) (by assumption) ?_
            try simp only [Act.put, List.setIfInBounds_toArray, List.set_cons_zero, List.set_cons_succ]
            refine take_lit (i := 11) rfl (by kernel_rfl) (by kernel_rfl) (by kernel_rfl) (fun _ _ _ h => h) (yI i (fun Z h => (HK.out Z h).2) (by rfl) rfl rfl) (by assumption) ?_
            try simp only [Act.put, List.setIfInBounds_toArray, List.set_cons_zero, List.set_cons_succ]
            refine wpAnyH_ready (rs := [12]) (by kernel_rfl) (by simp) ?_
            refine cons_lit rfl (fun K hK => ?_) ?_
            · go_simp
              refine (hMt.out _).mono ?_
              rintro e w6 ⟨rfl, h6⟩
              refine hK.out _ _ ?_ (fun hHeld => ?_)
              · exact hHeld.trans (h6.mono hHeld.size)
              clear hK K
              try simp only [Act.put, List.setIfInBounds_toArray, List.set_cons_zero, List.set_cons_succ]
              refine take_lit (i := 13) (v := ?_) rfl (by kernel_rfl) (by kernel_rfl) (by kernel_rfl) (fun _ _ _ h => h) (Or.inl ⟨by rfl, ?_⟩) (by assumption) ?_
              rotate_left
              · (intro w hSw; (try dsimp only at hSw); go_simp <;> with_reducible rfl)
              try simp only [Act.put, List.setIfInBounds_toArray, List.set_cons_zero, List.set_cons_succ]
              refine take_lit (i := 14) (v := ?_) rfl (by kernel_rfl) (by kernel_rfl) (by kernel_rfl) (fun _ _ _ h => h) (Or.inl ⟨by rfl, ?_⟩) (by assumption) ?_
              rotate_left
              · (intro w hSw; (try dsimp only at hSw); go_simp <;> with_reducible rfl)
              try simp only [Act.put, List.setIfInBounds_toArray, List.set_cons_zero, List.set_cons_succ]
              refine wpAnyH_done (by kernel_rfl) ?_ _
              refine NoPanic.normal ?_
              go_wp2_with (go_at_call 8; refine (live_any _).mono ?_; rintro e w7 ⟨rfl, h7⟩; replace hHeld := hHeld.trans (h7.mono hHeld.size); clear h7)
              go_ret
              exact ⟨rfl, hB.trans (hHeld.mono hB.size)⟩
            exact AllReadyH.nil
          exact AllReadyH.nil
        exact AllReadyH.nil
      exact AllReadyH.nil
    exact AllReadyH.nil
theorem first_all (ad : Option Addr) (n c : Nat) (l : List Ru) (hc0 : n ≤ c ∧ (ad = none → c = 0)) (ad2 : Option Addr) (n2 c2 : Nat) (l2 : List Ru) (hc2 : n2 ≤ c2 ∧ (ad2 = none → c2 = 0)) (chain : Int) (name : ByteArray) (p : Pr) (i : Id8) (m : Int) (hm : (Lit.int .u16 m).wf = true) (w : World) (hl : RlW w ad n l) (hl2 : RlW w ad2 n2 l2) :
    Calls Try.prog 4 #[.slice ad n c, .slice ad2 n2 c2, .int .i64 chain, .string name, (Value.agg (qcells p).toArray), idV i, .int .u16 m] w (Gives w (.bool true)) := by
  obtain ⟨m, rfl, hm1⟩ := nat_of16 hm
  exact first_any ad n c l hc0 ad2 n2 c2 l2 hc2 chain name p i m hm1 w hl hl2
end Go.Proofs.Ytfohknbgfpbmiaa
