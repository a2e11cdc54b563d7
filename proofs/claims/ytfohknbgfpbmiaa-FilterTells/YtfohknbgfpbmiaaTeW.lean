/-
  FilterTells: the walk.
-/
import Derived.Test.YtfohknbgfpbmiaaSaW
import Derived.Test.YtfohknbgfpbmiaaRt
import Derived.Test.YtfohknbgfpbmiaaRw
namespace Go.Proofs.Ytfohknbgfpbmiaa
open Go.RowKit
set_option linter.unusedSimpArgs false
set_option maxRecDepth 20000
theorem rw_max (R : Option Nat) : (if rwI R < 0 then (0 : Int) else rwI R) = ((R.getD 0 : Nat) : Int) := by
  cases R with
  | none => rfl
  | some k =>
    have : ¬ rwI (some k) < 0 := by show ¬ (k : Int) < 0; omega
    rw [if_neg this]
    rfl
theorem rw_ge (R : Option Nat) : decide (0 ≤ rwI R) = R.isSome := by
  cases R with
  | none => rfl
  | some k =>
    have : 0 ≤ rwI (some k) := by show 0 ≤ (k : Int); omega
    simp [this]
set_option maxHeartbeats 8000000 in
theorem tells_any (ad : Option Addr) (n c : Nat) (l : List Ru) (chain : Int) (name : ByteArray) (p : Pr) (hp : PfIn p.d) (i : Id8) (m : Nat) (hm : m < 65536) (w : World) (hl : RlW w ad n l) :
    Calls Try.prog 3 #[.slice ad n c, .int .i64 chain, .string name, (Value.agg (qcells p).toArray), idV i, .int .u16 (m : Int)] w (Gives w (.bool true)) := by
  have hQ := (LQ.new w p 28).alloc (.cells (icells i).toArray 30)
  have hI : LI ((w.alloc (.cells (qcells p).toArray 28)).alloc (.cells (icells i).toArray 30)) (w.heap.size + 1) 0 i := by
    have := LI.new (w.alloc (.cells (qcells p).toArray 28)) i 30
    simpa using this
  have HB : Hid (Below w.heap.size w ((w.alloc (.cells (qcells p).toArray 28)).alloc (.cells (icells i).toArray 30))) := bt (ba _ _) (ba _ _)
  go_enter Try.func3, Try.ntmps3
  go_upto_region 1 with fail
  refine name_world (R := fun W => Code.wp _ _ _ _ W) (P := fun W => Below w.heap.size w W ∧ LQ W w.heap.size 0 p ∧ LI W (w.heap.size + 1) 0 i ∧ w.heap.size < W.heap.size ∧ w.heap.size + 1 < W.heap.size) _ ⟨HB.out, hQ, hI, by simp; omega, by simp⟩ ?_
  clear HB hQ hI
  rintro X ⟨hB, hQ, hI, hlt1, hlt2⟩
  replace hl := hl.below hB
  have HK : Hid (∀ Z, Below X.heap.size X Z → LQ Z w.heap.size 0 p ∧ LI Z (w.heap.size + 1) 0 i) := fun Z h => ⟨hQ.below h hlt1, hI.below h hlt2⟩
  have hRt := right_any ad n c l p X hl
  clear hQ hI hlt1 hlt2
  have hb := Below.refl X.heap.size X
  go_upto_region 3 with (first
    | (refine ldQ (.tmp 9) rfl rfl _ _ p rfl (HK.out _ hb).1 ?_)
    | (go_at_call 7; refine hRt.mono ?_; rintro e W ⟨b, rfl, hW, hn⟩; cases b)
    | (have kk := hn; go_at_call 8; refine (live_any _).mono ?_; rintro e w1 ⟨rfl, h1⟩))
  · go_ret
    exact ⟨rfl, hB.trans ((hW.trans (h1.mono hW.size)).mono hB.size)⟩
  replace hn : n ≤ 300 := by simpa using hn
  replace hb := hW
  clear hW hRt
  have HM1 : Hid (∀ Z, Below X.heap.size X Z → Calls Try.prog 11 #[.int .i64 chain, .string name, (Value.agg (qcells p).toArray), idV i, .int .u16 (m : Int), .slice ad n c] Z (Gives Z (.int .u16 (metN m (fun r => matB r chain name p i) l : Nat)))) := fun Z hZ => metric_any chain name p i m hm ad n c l Z (hl.below hZ) (by omega)
  have HM2 : Hid (∀ Z, Below X.heap.size X Z → Calls Try.prog 12 #[.int .i64 chain, .string name, (Value.agg (qcells p).toArray), idV i, .int .u16 (m : Int), .slice ad n c] Z (Gives Z (.int .u16 (metN m (fun r => matB r chain name p i) l : Nat)))) := fun Z hZ => rmetric_any chain name p hp i m hm ad n c l Z (hl.below hZ) (by omega)
  have HW1 : Hid (∀ Z, Below X.heap.size X Z → Calls Try.prog 9 #[.int .i64 chain, .string name, (Value.agg (qcells p).toArray), idV i, .slice ad n c] Z (Gives Z (whV (l.findIdx? fun r => matB r chain name p i)))) := fun Z hZ => which_any chain name p i ad n c l Z (hl.below hZ) (by omega)
  have HW2 : Hid (∀ Z, Below X.heap.size X Z → Calls Try.prog 10 #[.int .i64 chain, .string name, (Value.agg (qcells p).toArray), idV i, .slice ad n c] Z (Gives Z (.int .i64 (rwI (l.findIdx? fun r => matB r chain name p i))))) := fun Z hZ => rwhich_any chain name p hp i ad n c l Z (hl.below hZ) (by omega)
  generalize metN m (fun r => matB r chain name p i) l = M at *
  generalize (l.findIdx? fun r => matB r chain name p i) = R at *
  have r1 := rw_max R
  have r2 := rw_ge R
  have HN : Hid (l.length = n ∧ n ≤ 300) := ⟨hl.len, hn⟩
  have HMa : Hid (∀ j (hj : j < l.length) Z, Calls Try.prog 13 #[ruV l[j], .int .i64 chain, .string name, (Value.agg (qcells p).toArray), idV i] Z (Gives Z (.bool (matB l[j] chain name p i)))) := fun j hj Z => matches_any l[j] chain name p i Z
  have HMb : Hid (∀ j (hj : j < l.length) Z, Calls Try.prog 14 #[ruV l[j], .int .i64 chain, .string name, (Value.agg (qcells p).toArray), idV i] Z (Gives Z (.bool (matB l[j] chain name p i)))) := fun j hj Z => rmatches_any l[j] chain name p hp i Z
  have HL : Hid (RlW X ad n l) := hl
  clear hl hn hp hm
  unfold whV at HW1
  generalize ((R.getD 0 : Nat) : Int) = k at *
  generalize R.isSome = ok at *
  generalize rwI R = q at *
  go_upto_region 5 with (first
    | (refine ldQ (.tmp 9) rfl rfl _ _ p rfl (HK.out _ hb).1 ?_)
    | (refine ldI (.tmp 10) rfl rfl _ _ i rfl (HK.out _ hb).2 ?_)
    | (go_at_call 9; refine (HW1.out _ hb).mono ?_; rintro e w3 ⟨rfl, h3⟩; replace hb := hb.trans (h3.mono hb.size); clear h3)
    | (go_at_call 10; refine (HW2.out _ hb).mono ?_; rintro e w4 ⟨rfl, h4⟩; replace hb := hb.trans (h4.mono hb.size); clear h4))
  refine wp_region_noPanic ?_
  refine wp_region_held_drew (S := fun Z => Below X.heap.size X Z) (by kernel_rfl) (hb.drew) (fun hHeld => ?_)
  refine take_lit (i := 0) (v := ?_) rfl (by kernel_rfl) (by kernel_rfl) (by kernel_rfl) (fun _ _ _ h => h) (Or.inl ⟨by rfl, ?_⟩) (by assumption) ?_
  rotate_left
  · (intro w hSw; (try dsimp only at hSw); go_simp <;> with_reducible rfl)
  try simp only [Act.put, List.setIfInBounds_toArray, List.set_cons_zero, List.set_cons_succ]
  refine take_lit (i := 1) (v := ?_) rfl (by kernel_rfl) (by kernel_rfl) (by kernel_rfl) (fun _ _ _ h => h) (Or.inl ⟨by rfl, ?_⟩) (by assumption) ?_
  rotate_left
  · (intro w hSw; (try dsimp only at hSw); go_simp <;> with_reducible rfl)
  try simp only [Act.put, List.setIfInBounds_toArray, List.set_cons_zero, List.set_cons_succ]
  refine take_lit (i := 2) (v := ?_) rfl (by kernel_rfl) (by kernel_rfl) (by kernel_rfl) (fun _ _ _ h => h) (Or.inl ⟨by rfl, ?_⟩) (by assumption) ?_
  rotate_left
  · (intro w hSw; (try dsimp only at hSw); go_simp <;> with_reducible rfl)
  try simp only [Act.put, List.setIfInBounds_toArray, List.set_cons_zero, List.set_cons_succ]
  refine take_lit (i := 3) (v := ?_) rfl (by kernel_rfl) (by kernel_rfl) (by kernel_rfl) (fun _ _ _ h => h) (Or.inl ⟨by rfl, ?_⟩) (by assumption) ?_
  rotate_left
  · (intro w hSw; (try dsimp only at hSw); go_simp <;> with_reducible rfl)
  try simp only [Act.put, List.setIfInBounds_toArray, List.set_cons_zero, List.set_cons_succ]
  refine take_lit (i := 4) (v := ?_) rfl (by kernel_rfl) (by kernel_rfl) (by kernel_rfl) (fun _ _ _ h => h) (Or.inl ⟨by rfl, ?_⟩) (by assumption) ?_
  rotate_left
  · (intro w hSw; (try dsimp only at hSw); go_simp <;> with_reducible rfl)
  try simp only [Act.put, List.setIfInBounds_toArray, List.set_cons_zero, List.set_cons_succ]
  refine take_lit (i := 5) (v := ?_) rfl (by kernel_rfl) (by kernel_rfl) (by kernel_rfl) (fun _ _ _ h => h) (Or.inl ⟨by rfl, ?_⟩) (by assumption) ?_
  rotate_left
  · (intro w hSw; (try dsimp only at hSw); go_simp <;> with_reducible rfl)
  try simp only [Act.put, List.setIfInBounds_toArray, List.set_cons_zero, List.set_cons_succ]
  refine take_lit (i := 6) (v := ?_) rfl (by kernel_rfl) (by kernel_rfl) (by kernel_rfl) (fun _ _ _ h => h) (Or.inl ⟨by rfl, ?_⟩) (by assumption) ?_
  rotate_left
  · (intro w hSw; (try dsimp only at hSw); go_simp <;> with_reducible rfl)
  try simp only [Act.put, List.setIfInBounds_toArray, List.set_cons_zero, List.set_cons_succ]
  refine take_lit (i := 7) (v := ?_) rfl (by kernel_rfl) (by kernel_rfl) (by kernel_rfl) (fun _ _ _ h => h) (Or.inl ⟨by rfl, ?_⟩) (by assumption) ?_
  rotate_left
  · (intro w hSw; (try dsimp only at hSw); go_simp <;> with_reducible rfl)
  try simp only [Act.put, List.setIfInBounds_toArray, List.set_cons_zero, List.set_cons_succ]
  refine take_lit (i := 8) (v := ?_) rfl (by kernel_rfl) (by kernel_rfl) (by kernel_rfl) (fun _ _ _ h => h) (Or.inl ⟨by rfl, ?_⟩) (by assumption) ?_
  rotate_left
  · (intro w hSw; (try dsimp only at hSw); go_simp <;> with_reducible rfl)
  try simp only [Act.put, List.setIfInBounds_toArray, List.set_cons_zero, List.set_cons_succ]
  refine take_lit (i := 9) (v := ?_) rfl (by kernel_rfl) (by kernel_rfl) (by kernel_rfl) (fun _ _ _ h => h) (Or.inl ⟨by rfl, ?_⟩) (by assumption) ?_
  rotate_left
  · (intro w hSw; (try dsimp only at hSw); go_simp <;> with_reducible rfl)
  try simp only [Act.put, List.setIfInBounds_toArray, List.set_cons_zero, List.set_cons_succ]
  refine take_lit (i := 10) (v := ?_) rfl (by kernel_rfl) (by kernel_rfl) (by kernel_rfl) (fun _ _ _ h => h) (Or.inl ⟨by rfl, ?_⟩) (by assumption) ?_
  rotate_left
  · (intro w hSw; (try dsimp only at hSw); go_simp <;> with_reducible rfl)
  try simp only [Act.put, List.setIfInBounds_toArray, List.set_cons_zero, List.set_cons_succ]
  refine take_lit (i := 11) (v := ?_) rfl (by kernel_rfl) (by kernel_rfl) (by kernel_rfl) (fun _ _ _ h => h) (Or.inl ⟨by rfl, ?_⟩) (by assumption) ?_
  rotate_left
  · (intro w hSw; (try dsimp only at hSw); go_simp <;> with_reducible rfl)
  try simp only [Act.put, List.setIfInBounds_toArray, List.set_cons_zero, List.set_cons_succ]
  refine take_lit (i := 12) (v := ?_) rfl (by kernel_rfl) (by kernel_rfl) (by kernel_rfl) (fun _ _ _ h => h) (Or.inl ⟨by rfl, ?_⟩) (by assumption) ?_
  rotate_left
  · (intro w hSw; (try dsimp only at hSw); go_simp <;> with_reducible rfl)
  try simp only [Act.put, List.setIfInBounds_toArray, List.set_cons_zero, List.set_cons_succ]
  refine take_lit (i := 13) rfl (by kernel_rfl) (by kernel_rfl) (by kernel_rfl) (fun _ _ _ h => h) (yQ p (fun Z h => (HK.out Z h).1) (by rfl) rfl rfl) (by assumption) ?_
  try simp only [Act.put, List.setIfInBounds_toArray, List.set_cons_zero, List.set_cons_succ]
  refine take_lit (i := 14) rfl (by kernel_rfl) (by kernel_rfl) (by kernel_rfl) (fun _ _ _ h => h) (yI i (fun Z h => (HK.out Z h).2) (by rfl) rfl rfl) (by assumption) ?_
  try simp only [Act.put, List.setIfInBounds_toArray, List.set_cons_zero, List.set_cons_succ]
  refine take_lit (i := 15) (v := ?_) rfl (by kernel_rfl) (by kernel_rfl) (by kernel_rfl) (fun _ _ _ h => h) (Or.inl ⟨by rfl, ?_⟩) (by assumption) ?_
  rotate_left
  · (intro w hSw; (try dsimp only at hSw); go_simp <;> with_reducible rfl)
  try simp only [Act.put, List.setIfInBounds_toArray, List.set_cons_zero, List.set_cons_succ]
  refine take_lit (i := 16) (v := ?_) rfl (by kernel_rfl) (by kernel_rfl) (by kernel_rfl) (fun _ _ _ h => h) (Or.inl ⟨by rfl, ?_⟩) (by assumption) ?_
  rotate_left
  · (intro w hSw; (try dsimp only at hSw); go_simp <;> with_reducible rfl)
  try simp only [Act.put, List.setIfInBounds_toArray, List.set_cons_zero, List.set_cons_succ]
  refine take_lit (i := 18) (v := ?_) rfl (by kernel_rfl) (by kernel_rfl) (by kernel_rfl) (fun _ _ _ h => h) (Or.inl ⟨by rfl, ?_⟩) (by assumption) ?_
  rotate_left
  · (intro w hSw; (try dsimp only at hSw); go_simp <;> with_reducible rfl)
  try simp only [Act.put, List.setIfInBounds_toArray, List.set_cons_zero, List.set_cons_succ]
  refine take_lit (i := 19) (v := ?_) rfl (by kernel_rfl) (by kernel_rfl) (by kernel_rfl) (fun _ _ _ h => h) (Or.inl ⟨by rfl, ?_⟩) (by assumption) ?_
  rotate_left
  · (intro w hSw; (try dsimp only at hSw); go_simp <;> with_reducible rfl)
  try simp only [Act.put, List.setIfInBounds_toArray, List.set_cons_zero, List.set_cons_succ]
  refine take_lit (i := 20) rfl (by kernel_rfl) (by kernel_rfl) (by kernel_rfl) (fun _ _ _ h => h) (yQ p (fun Z h => (HK.out Z h).1) (by rfl) rfl rfl) (by assumption) ?_
  try simp only [Act.put, List.setIfInBounds_toArray, List.set_cons_zero, List.set_cons_succ]
  refine take_lit (i := 21) rfl (by kernel_rfl) (by kernel_rfl) (by kernel_rfl) (fun _ _ _ h => h) (yI i (fun Z h => (HK.out Z h).2) (by rfl) rfl rfl) (by assumption) ?_
  try simp only [Act.put, List.setIfInBounds_toArray, List.set_cons_zero, List.set_cons_succ]
  refine take_lit (i := 22) (v := ?_) rfl (by kernel_rfl) (by kernel_rfl) (by kernel_rfl) (fun _ _ _ h => h) (Or.inl ⟨by rfl, ?_⟩) (by assumption) ?_
  rotate_left
  · (intro w hSw; (try dsimp only at hSw); go_simp <;> with_reducible rfl)
  try simp only [Act.put, List.setIfInBounds_toArray, List.set_cons_zero, List.set_cons_succ]
  refine take_lit (i := 23) (v := ?_) rfl (by kernel_rfl) (by kernel_rfl) (by kernel_rfl) (fun _ _ _ h => h) (Or.inl ⟨by rfl, ?_⟩) (by assumption) ?_
  rotate_left
  · (intro w hSw; (try dsimp only at hSw); go_simp <;> with_reducible rfl)
  try simp only [Act.put, List.setIfInBounds_toArray, List.set_cons_zero, List.set_cons_succ]
  refine wpAnyH_ready (rs := [17]) (by kernel_rfl) (by simp) ?_
  refine cons_lit rfl (fun K hK => ?_) ?_
  · go_simp
    refine (HM1.out _ hHeld).mono ?_
    rintro e w5 ⟨rfl, h5⟩
    refine hK.out _ _ ?_ (fun hHeld => ?_)
    · exact hHeld.trans (h5.mono hHeld.size)
    clear hK K
    try simp only [Act.put, List.setIfInBounds_toArray, List.set_cons_zero, List.set_cons_succ]
    refine wpAnyH_ready (rs := [24]) (by kernel_rfl) (by simp) ?_
    refine cons_lit rfl (fun K hK => ?_) ?_
    · go_simp
      refine (HM2.out _ hHeld).mono ?_
      rintro e w6 ⟨rfl, h6⟩
      refine hK.out _ _ ?_ (fun hHeld => ?_)
      · exact hHeld.trans (h6.mono hHeld.size)
      clear hK K
      try simp only [Act.put, List.setIfInBounds_toArray, List.set_cons_zero, List.set_cons_succ]
      refine take_lit (i := 25) (v := ?_) rfl (by kernel_rfl) (by kernel_rfl) (by kernel_rfl) (fun _ _ _ h => h) (Or.inl ⟨by rfl, ?_⟩) (by assumption) ?_
      rotate_left
      · (intro w hSw; (try dsimp only at hSw); go_simp <;> with_reducible rfl)
      try simp only [Act.put, List.setIfInBounds_toArray, List.set_cons_zero, List.set_cons_succ]
      refine take_lit (i := 26) (v := ?_) rfl (by kernel_rfl) (by kernel_rfl) (by kernel_rfl) (fun _ _ _ h => h) (Or.inl ⟨by rfl, ?_⟩) (by assumption) ?_
      rotate_left
      · (intro w hSw; (try dsimp only at hSw); go_simp <;> with_reducible rfl)
      try simp only [Act.put, List.setIfInBounds_toArray, List.set_cons_zero, List.set_cons_succ]
      refine wpAnyH_done (by kernel_rfl) ?_ _
      refine NoPanic.normal ?_
      go_wp2_with fail
      replace hb := hHeld
      clear hHeld HM1 HM2 HW1 HW2 r1 r2
      go_loopw [16] (fun i wr => ∃ j : Nat, j ≤ n ∧ i = .int .i64 j ∧ Below X.heap.size X wr) (fun i _ => n - (intOf i).toNat)
      case atStart => exact ⟨0, Nat.zero_le _, rfl, hb⟩
      case round =>
        obtain ⟨j, hj, rfl, hW⟩ := hrel
        by_cases hlt : j < n
        · obtain ⟨g, o, rfl, hg, hcell⟩ := HL.out.mem (by omega)
          have hjl : j < l.length := by rw [HN.out.1]; exact hlt
          have hR := hcell j l[j] (List.getElem?_eq_getElem hjl)
          have hMa := HMa.out j hjl
          have hMb := HMb.out j hjl
          have hj1 : (j : Int) < (n : Int) := Int.ofNat_lt.2 hlt
          have hwj : wrap64 ((j : Int) + 1) = (j : Int) + 1 := w64 _ (by omega) (by have := HN.out; omega)
          have HT : Hid (j + 1 ≤ n ∧ n - ((j : Int) + 1).toNat < n - ((j : Int)).toNat) := by
            constructor <;> omega
          generalize l[j] = r at *
          generalize matB r chain name p i = b at *
          have HR : Hid (∀ Z, Below X.heap.size X Z → LR Z g (o + j * 50) r) := fun Z h => hR.below h hg
          clear hcell HL HN HMa HMb hR hlt hj hjl hb
          go_upto_region 10 with fail
          refine wp_region_noPanic ?_
          refine wp_region_held_drew (S := fun Z => Below X.heap.size X Z) (by kernel_rfl) (hW.drew) (fun hHeld => ?_)
          refine take_lit (i := 0) (v := ?_) rfl (by kernel_rfl) (by kernel_rfl) (by kernel_rfl) (fun _ _ _ h => h) (Or.inl ⟨by rfl, ?_⟩) (by assumption) ?_
          rotate_left
          · (intro w hSw; (try dsimp only at hSw); go_simp <;> with_reducible rfl)
          try simp only [Act.put, List.setIfInBounds_toArray, List.set_cons_zero, List.set_cons_succ]
          refine take_lit (i := 1) (v := ?_) rfl (by kernel_rfl) (by kernel_rfl) (by kernel_rfl) (fun _ _ _ h => h) (Or.inl ⟨by rfl, ?_⟩) (by assumption) ?_
          rotate_left
          · (intro w hSw; (try dsimp only at hSw); go_simp <;> with_reducible rfl)
          try simp only [Act.put, List.setIfInBounds_toArray, List.set_cons_zero, List.set_cons_succ]
          refine take_lit (i := 2) (v := ?_) rfl (by kernel_rfl) (by kernel_rfl) (by kernel_rfl) (fun _ _ _ h => h) (Or.inl ⟨by rfl, ?_⟩) (by assumption) ?_
          rotate_left
          · (intro w hSw; (try dsimp only at hSw); go_simp <;> with_reducible rfl)
          try simp only [Act.put, List.setIfInBounds_toArray, List.set_cons_zero, List.set_cons_succ]
          refine take_lit (i := 3) rfl (by kernel_rfl) (by kernel_rfl) (by kernel_rfl) (fun _ _ _ h => h) (yR r (fun Z h => HR.out Z h) (by rfl) rfl rfl) (by assumption) ?_
          try simp only [Act.put, List.setIfInBounds_toArray, List.set_cons_zero, List.set_cons_succ]
          refine take_lit (i := 4) (v := ?_) rfl (by kernel_rfl) (by kernel_rfl) (by kernel_rfl) (fun _ _ _ h => h) (Or.inl ⟨by rfl, ?_⟩) (by assumption) ?_
          rotate_left
          · (intro w hSw; (try dsimp only at hSw); go_simp <;> with_reducible rfl)
          try simp only [Act.put, List.setIfInBounds_toArray, List.set_cons_zero, List.set_cons_succ]
          refine take_lit (i := 5) (v := ?_) rfl (by kernel_rfl) (by kernel_rfl) (by kernel_rfl) (fun _ _ _ h => h) (Or.inl ⟨by rfl, ?_⟩) (by assumption) ?_
          rotate_left
          · (intro w hSw; (try dsimp only at hSw); go_simp <;> with_reducible rfl)
          try simp only [Act.put, List.setIfInBounds_toArray, List.set_cons_zero, List.set_cons_succ]
          refine take_lit (i := 6) rfl (by kernel_rfl) (by kernel_rfl) (by kernel_rfl) (fun _ _ _ h => h) (yQ p (fun Z h => (HK.out Z h).1) (by rfl) rfl rfl) (by assumption) ?_
          try simp only [Act.put, List.setIfInBounds_toArray, List.set_cons_zero, List.set_cons_succ]
          refine take_lit (i := 7) rfl (by kernel_rfl) (by kernel_rfl) (by kernel_rfl) (fun _ _ _ h => h) (yI i (fun Z h => (HK.out Z h).2) (by rfl) rfl rfl) (by assumption) ?_
          try simp only [Act.put, List.setIfInBounds_toArray, List.set_cons_zero, List.set_cons_succ]
          refine take_lit (i := 9) (v := ?_) rfl (by kernel_rfl) (by kernel_rfl) (by kernel_rfl) (fun _ _ _ h => h) (Or.inl ⟨by rfl, ?_⟩) (by assumption) ?_
          rotate_left
          · (intro w hSw; (try dsimp only at hSw); go_simp <;> with_reducible rfl)
          try simp only [Act.put, List.setIfInBounds_toArray, List.set_cons_zero, List.set_cons_succ]
          refine take_lit (i := 10) (v := ?_) rfl (by kernel_rfl) (by kernel_rfl) (by kernel_rfl) (fun _ _ _ h => h) (Or.inl ⟨by rfl, ?_⟩) (by assumption) ?_
          rotate_left
          · (intro w hSw; (try dsimp only at hSw); go_simp <;> with_reducible rfl)
          try simp only [Act.put, List.setIfInBounds_toArray, List.set_cons_zero, List.set_cons_succ]
          refine take_lit (i := 11) (v := ?_) rfl (by kernel_rfl) (by kernel_rfl) (by kernel_rfl) (fun _ _ _ h => h) (Or.inl ⟨by rfl, ?_⟩) (by assumption) ?_
          rotate_left
          · (intro w hSw; (try dsimp only at hSw); go_simp <;> with_reducible rfl)
          try simp only [Act.put, List.setIfInBounds_toArray, List.set_cons_zero, List.set_cons_succ]
          refine take_lit (i := 12) rfl (by kernel_rfl) (by kernel_rfl) (by kernel_rfl) (fun _ _ _ h => h) (yR r (fun Z h => HR.out Z h) (by rfl) rfl rfl) (by assumption) ?_
          try simp only [Act.put, List.setIfInBounds_toArray, List.set_cons_zero, List.set_cons_succ]
          refine take_lit (i := 13) (v := ?_) rfl (by kernel_rfl) (by kernel_rfl) (by kernel_rfl) (fun _ _ _ h => h) (Or.inl ⟨by rfl, ?_⟩) (by assumption) ?_
          rotate_left
          · (intro w hSw; (try dsimp only at hSw); go_simp <;> with_reducible rfl)
          try simp only [Act.put, List.setIfInBounds_toArray, List.set_cons_zero, List.set_cons_succ]
          refine take_lit (i := 14) (v := ?_) rfl (by kernel_rfl) (by kernel_rfl) (by kernel_rfl) (fun _ _ _ h => h) (Or.inl ⟨by rfl, ?_⟩) (by assumption) ?_
          rotate_left
          · (intro w hSw; (try dsimp only at hSw); go_simp <;> with_reducible rfl)
          try simp only [Act.put, List.setIfInBounds_toArray, List.set_cons_zero, List.set_cons_succ]
          refine take_lit (i := 15) rfl (by kernel_rfl) (by kernel_rfl) (by kernel_rfl) (fun _ _ _ h => h) (yQ p (fun Z h => (HK.out Z h).1) (by rfl) rfl rfl) (by assumption) ?_
          try simp only [Act.put, List.setIfInBounds_toArray, List.set_cons_zero, List.set_cons_succ]
          refine take_lit (i := 16) rfl (by kernel_rfl) (by kernel_rfl) (by kernel_rfl) (fun _ _ _ h => h) (yI i (fun Z h => (HK.out Z h).2) (by rfl) rfl rfl) (by assumption) ?_
          try simp only [Act.put, List.setIfInBounds_toArray, List.set_cons_zero, List.set_cons_succ]
          refine wpAnyH_ready (rs := [8]) (by kernel_rfl) (by simp) ?_
          refine cons_lit rfl (fun K hK => ?_) ?_
          · go_simp
            refine (hMa _).mono ?_
            rintro e w7 ⟨rfl, h7⟩
            refine hK.out _ _ ?_ (fun hHeld => ?_)
            · exact hHeld.trans (h7.mono hHeld.size)
            clear hK K
            try simp only [Act.put, List.setIfInBounds_toArray, List.set_cons_zero, List.set_cons_succ]
            refine wpAnyH_ready (rs := [17]) (by kernel_rfl) (by simp) ?_
            refine cons_lit rfl (fun K hK => ?_) ?_
            · go_simp
              refine (hMb _).mono ?_
              rintro e w8 ⟨rfl, h8⟩
              refine hK.out _ _ ?_ (fun hHeld => ?_)
              · exact hHeld.trans (h8.mono hHeld.size)
              clear hK K
              try simp only [Act.put, List.setIfInBounds_toArray, List.set_cons_zero, List.set_cons_succ]
              refine take_lit (i := 18) (v := ?_) rfl (by kernel_rfl) (by kernel_rfl) (by kernel_rfl) (fun _ _ _ h => h) (Or.inl ⟨by rfl, ?_⟩) (by assumption) ?_
              rotate_left
              · (intro w hSw; (try dsimp only at hSw); go_simp <;> with_reducible rfl)
              try simp only [Act.put, List.setIfInBounds_toArray, List.set_cons_zero, List.set_cons_succ]
              refine wpAnyH_done (by kernel_rfl) ?_ _
              refine NoPanic.normal ?_
              go_wp2_with fail
              go_roundw
              case rel => exact ⟨j + 1, HT.out.1, by (try rw [hwj]); simp, hHeld⟩
              case measure =>
                try rw [hwj]
                simp only [intOf]
                exact HT.out.2
            exact AllReadyH.nil
          exact AllReadyH.nil
        · have hj0 : ¬ (j : Int) < (n : Int) := by omega
          clear HL HN HMa HMb hb
          go_wp2_with (go_at_call 8; refine (live_any _).mono ?_; rintro e w9 ⟨rfl, h9⟩)
          go_ret
          exact ⟨rfl, hB.trans ((hW.trans (h9.mono hW.size)).mono hB.size)⟩
    exact AllReadyH.nil
  exact AllReadyH.nil
theorem tells_all (ad : Option Addr) (n c : Nat) (l : List Ru) (chain : Int) (name : ByteArray) (p : Pr) (hp : (-9223372036854775808 ≤ p.d.n ∧ p.d.n ≤ 9223372036854775807) ∧ -9223372036854775808 ≤ p.s.n ∧ p.s.n ≤ 9223372036854775807) (i : Id8) (m : Int) (hm : (Lit.int .u16 m).wf = true) (w : World) (hl : RlW w ad n l) :
    Calls Try.prog 3 #[.slice ad n c, .int .i64 chain, .string name, (Value.agg (qcells p).toArray), idV i, .int .u16 m] w (Gives w (.bool true)) := by
  obtain ⟨m, rfl, hm1⟩ := nat_of16 hm
  exact tells_any ad n c l chain name p hp.1 i m hm1 w hl
end Go.Proofs.Ytfohknbgfpbmiaa
