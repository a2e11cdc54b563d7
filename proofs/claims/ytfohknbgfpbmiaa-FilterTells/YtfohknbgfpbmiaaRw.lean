/-
  The document's Which and Metric of package culvertref10, for all rules and routes.
-/
import Derived.Test.YtfohknbgfpbmiaaRm
import Derived.Test.YtfohknbgfpbmiaaMe
namespace Go.Proofs.Ytfohknbgfpbmiaa
open Go.RowKit
set_option linter.unusedSimpArgs false
set_option maxRecDepth 20000
/-- What the document's Which answers. -/
def rwI (o : Option Nat) : Int := match o with | none => -1 | some k => (k : Int)
set_option maxHeartbeats 4000000 in
theorem rwhich_any (chain : Int) (name : ByteArray) (p : Pr) (hp : PfIn p.d) (i : Id8) (ad : Option Addr) (n c : Nat) (l : List Ru) (w : World) (hl : RlW w ad n l) (hn : n ≤ 140737488355328) :
    Calls Try.prog 10 #[.int .i64 chain, .string name, (Value.agg (qcells p).toArray), idV i, .slice ad n c] w (Gives w (.int .i64 (rwI (l.findIdx? fun r => matB r chain name p i)))) := by
  have hM := fun r W => rmatches_any r chain name p hp i W
  have HN : Hid (l.length = n) := hl.len
  have HE : Hid (∀ j (hj : j < l.length), matB l[j] chain name p i = true → (∀ t (ht : t < l.length), t < j → matB l[t] chain name p i = false) → l.findIdx? (fun r => matB r chain name p i) = some j) := fun j hj h1 h2 => by
    rw [List.findIdx?_eq_some_iff_getElem]
    exact ⟨hj, h1, fun t ht => by rw [h2 t (by omega) ht]; simp⟩
  have HZ : Hid ((∀ t (ht : t < l.length), matB l[t] chain name p i = false) → l.findIdx? (fun r => matB r chain name p i) = none) := fun h => by
    rw [List.findIdx?_eq_none_iff]
    intro x hx
    obtain ⟨t, ht, rfl⟩ := List.getElem_of_mem hx
    exact h t ht
  clear hp
  generalize (l.findIdx? fun r => matB r chain name p i) = R at *
  go_enter Try.func10, Try.ntmps10
  go_upto_region 1 with fail
  have hQ := (LQ.new w p 28).alloc (.cells (icells i).toArray 30)
  have hI : LI ((w.alloc (.cells (qcells p).toArray 28)).alloc (.cells (icells i).toArray 30)) (w.heap.size + 1) 0 i := by
    have := LI.new (w.alloc (.cells (qcells p).toArray 28)) i 30
    simpa using this
  refine name_world (R := fun W => Code.wp _ _ _ _ W) (P := fun W => Below w.heap.size w W ∧ LQ W w.heap.size 0 p ∧ LI W (w.heap.size + 1) 0 i ∧ w.heap.size + 1 < W.heap.size) _ ⟨bt (ba _ _) (ba _ _), hQ, hI, by simp⟩ ?_
  clear hQ hI
  rintro X ⟨hB, hQ, hI, hs⟩
  replace hl := hl.below hB
  go_wp2_with fail
  go_loopw [11] (fun i wr => ∃ j : Nat, j ≤ n ∧ i = .int .i64 j ∧ (∀ t (ht : t < l.length), t < j → matB l[t] chain name p _ = false) ∧ Below X.heap.size X wr) (fun i _ => n - (intOf i).toNat)
  case atStart => exact ⟨0, Nat.zero_le _, rfl, (fun t _ h => by omega), Below.refl _ _⟩
  case round =>
    obtain ⟨j, hj, rfl, hok, hW⟩ := hrel
    by_cases hlt : j < n
    · obtain ⟨g, o, rfl, hg, hcell⟩ := hl.mem (by omega)
      have hjl : j < l.length := by rw [HN.out]; exact hlt
      have hR := hcell j l[j] (List.getElem?_eq_getElem hjl)
      have hj1 : (j : Int) < (n : Int) := Int.ofNat_lt.2 hlt
      have HJ : Hid (matB l[j] chain name p i = true → R = some j) := fun h => HE.out j hjl h hok
      have HS : Hid (matB l[j] chain name p i = false → ∀ t (ht : t < l.length), t < j + 1 → matB l[t] chain name p i = false) := fun h t ht h' => by
        by_cases e : t = j
        · subst e; exact h
        · exact hok t ht (by omega)
      replace hM := hM l[j]
      have hwj : wrap64 ((j : Int) + 1) = (j : Int) + 1 := w64 _ (by omega) (by omega)
      have HT : Hid (j + 1 ≤ n ∧ n - ((j : Int) + 1).toNat < n - ((j : Int)).toNat) := by
        constructor <;> omega
      generalize l[j] = r at *
      obtain ⟨b, hb⟩ : ∃ b, matB r chain name p i = b := ⟨_, rfl⟩
      rw [hb] at hM HJ HS
      have HK : Hid (∀ Z, Below X.heap.size X Z → LR Z g (o + j * 50) r ∧ LQ Z w.heap.size 0 p ∧ LI Z (w.heap.size + 1) 0 i) := fun Z h => ⟨hR.below h hg, hQ.below h (by omega), hI.below h hs⟩
      clear hb hok hcell hl HE HZ HN hn hlt hj hjl hR hQ hI
      go_upto_region 4 with fail
      refine wp_region_noPanic ?_
      refine wp_region_held_drew (S := fun Z => Below X.heap.size X Z) (by kernel_rfl) (hW.drew) (fun hHeld => ?_)
      refine take_lit (i := 0) (v := ?_) rfl (by kernel_rfl) (by kernel_rfl) (by kernel_rfl) (fun _ _ _ h => h) (Or.inl ⟨by rfl, ?_⟩) (by assumption) ?_
      rotate_left
      · (intro w hSw; (try dsimp only at hSw); go_simp <;> with_reducible rfl)
      try simp only [Act.put, List.setIfInBounds_toArray, List.set_cons_zero, List.set_cons_succ]
      refine take_lit (i := 1) (v := ?_) rfl (by kernel_rfl) (by kernel_rfl) (by kernel_rfl) (fun _ _ _ h => h) (Or.inl ⟨by rfl, ?_⟩) (by assumption) ?_
      rotate_left
      · (intro w hSw; (try dsimp only at hSw); go_simp <;> with_reducible rfl)
      try simp only [Act.put, List.setIfInBounds_toArray, List.set_cons_zero, List.set_cons_succ]
      refine take_lit (i := 2) (v := ?_) rfl (by kernel_rfl) (by kernel_rfl) (by kernel_rfl) (fun _ _ _ h => h) (Or.inl ⟨by rfl, ?_⟩) (by assumption) ?_
      rotate_left
      · (intro w hSw; (try dsimp only at hSw); go_simp <;> with_reducible rfl)
      try simp only [Act.put, List.setIfInBounds_toArray, List.set_cons_zero, List.set_cons_succ]
      refine take_lit (i := 3) rfl (by kernel_rfl) (by kernel_rfl) (by kernel_rfl) (fun _ _ _ h => h) (yR r (fun Z h => (HK.out Z h).1) (by rfl) rfl rfl) (by assumption) ?_
      try simp only [Act.put, List.setIfInBounds_toArray, List.set_cons_zero, List.set_cons_succ]
      refine take_lit (i := 4) (v := ?_) rfl (by kernel_rfl) (by kernel_rfl) (by kernel_rfl) (fun _ _ _ h => h) (Or.inl ⟨by rfl, ?_⟩) (by assumption) ?_
      rotate_left
      · (intro w hSw; (try dsimp only at hSw); go_simp <;> with_reducible rfl)
      try simp only [Act.put, List.setIfInBounds_toArray, List.set_cons_zero, List.set_cons_succ]
      refine take_lit (i := 5) (v := ?_) rfl (by kernel_rfl) (by kernel_rfl) (by kernel_rfl) (fun _ _ _ h => h) (Or.inl ⟨by rfl, ?_⟩) (by assumption) ?_
      rotate_left
      · (intro w hSw; (try dsimp only at hSw); go_simp <;> with_reducible rfl)
      try simp only [Act.put, List.setIfInBounds_toArray, List.set_cons_zero, List.set_cons_succ]
      refine take_lit (i := 6) rfl (by kernel_rfl) (by kernel_rfl) (by kernel_rfl) (fun _ _ _ h => h) (yQ p (fun Z h => (HK.out Z h).2.1) (by rfl) rfl rfl) (by assumption) ?_
      try simp only [Act.put, List.setIfInBounds_toArray, List.set_cons_zero, List.set_cons_succ]
      refine take_lit (i := 7) rfl (by kernel_rfl) (by kernel_rfl) (by kernel_rfl) (fun _ _ _ h => h) (yI i (fun Z h => (HK.out Z h).2.2) (by rfl) rfl rfl) (by assumption) ?_
      try simp only [Act.put, List.setIfInBounds_toArray, List.set_cons_zero, List.set_cons_succ]
      refine wpAnyH_ready (rs := [8]) (by kernel_rfl) (by simp) ?_
      refine cons_lit rfl (fun K hK => ?_) ?_
      · go_simp
        refine (hM _).mono ?_
        rintro e w3 ⟨rfl, h3⟩
        refine hK.out _ _ ?_ (fun hHeld => ?_)
        · exact hHeld.trans (h3.mono hHeld.size)
        clear hK K
        try simp only [Act.put, List.setIfInBounds_toArray, List.set_cons_zero, List.set_cons_succ]
        refine wpAnyH_done (by kernel_rfl) ?_ _
        refine NoPanic.normal ?_
        cases b with
        | true =>
          have e := HJ.out rfl
          go_wp2
          go_ret
          exact ⟨by (try rw [e]); rfl, hB.trans (hHeld.mono hB.size)⟩
        | false =>
          go_wp2
          go_roundw
          case rel => exact ⟨j + 1, HT.out.1, by (try rw [hwj]); simp, HS.out rfl, hHeld⟩
          case measure =>
            try rw [hwj]
            simp only [intOf]
            exact HT.out.2
      exact AllReadyH.nil
    · have hj' : j = n := by omega
      have e := HZ.out (fun t ht => hok t ht (by rw [HN.out] at ht; omega))
      clear HZ HE HN hok
      go_wp2_with fail
      go_ret
      exact ⟨by rw [e]; rfl, hB.trans (hW.mono hB.size)⟩
set_option maxHeartbeats 4000000 in
theorem rmetric_any (chain : Int) (name : ByteArray) (p : Pr) (hp : PfIn p.d) (i : Id8) (m : Nat) (hm : m < 65536) (ad : Option Addr) (n c : Nat) (l : List Ru) (w : World) (hl : RlW w ad n l) (hn : n ≤ 140737488355328) :
    Calls Try.prog 12 #[.int .i64 chain, .string name, (Value.agg (qcells p).toArray), idV i, .int .u16 (m : Int), .slice ad n c] w (Gives w (.int .u16 (metN m (fun r => matB r chain name p i) l : Nat))) := by
  have hQ := (LQ.new w p 28).alloc (.cells (icells i).toArray 30)
  have hI : LI ((w.alloc (.cells (qcells p).toArray 28)).alloc (.cells (icells i).toArray 30)) (w.heap.size + 1) 0 i := by
    have := LI.new (w.alloc (.cells (qcells p).toArray 28)) i 30
    simpa using this
  have hl1 := hl.below (bt (ba w (.cells (qcells p).toArray 28)) (ba _ (.cells (icells i).toArray 30)))
  have hW := rwhich_any chain name p hp i ad n c l _ hl1 hn
  have HB : Hid (Below w.heap.size w ((w.alloc (.cells (qcells p).toArray 28)).alloc (.cells (icells i).toArray 30))) := bt (ba _ _) (ba _ _)
  cases hf : l.findIdx? (fun r => matB r chain name p i) with
  | none =>
    rw [metN_none hf]
    rw [hf] at hW
    replace hW : Calls _ _ _ _ (Gives _ (.int .i64 (-1))) := hW
    clear hf hp
    go_enter Try.func12, Try.ntmps12
    go_wp2_with (first
      | (refine ldQ (.tmp 8) rfl rfl _ _ p rfl hQ ?_)
      | (refine ldI (.tmp 9) rfl rfl _ _ i rfl hI ?_)
      | (go_at_call 10; refine hW.mono ?_; rintro e w1 ⟨rfl, hB1⟩))
    go_ret
    exact ⟨rfl, bt HB.out hB1⟩
  | some k =>
    obtain ⟨hk, hmet⟩ := metN_some (m := m) hf
    rw [hmet]
    rw [hf] at hW
    replace hW : Calls _ _ _ _ (Gives _ (.int .i64 (k : Int))) := hW
    have hn0 : n ≠ 0 := by have := hl.len; omega
    obtain ⟨g, o, rfl, hg, hcell⟩ := hl.mem hn0
    have hkn : (k : Int) < (n : Int) := by have := hl.len; omega
    have hk0 : ¬ (k : Int) < 0 := by omega
    have hR := hcell k l[k] (List.getElem?_eq_getElem hk)
    clear hf hmet hcell hl1 hl hn0 hp
    generalize l[k] = r at *
    have HC : Hid (∀ W, Below w.heap.size w W → W.cell? ⟨g, o + k * 50 + 48, none⟩ = some (.bool r.deny) ∧ W.cell? ⟨g, o + k * 50 + 49, none⟩ = some (.int .i64 r.add)) := fun W h => ⟨(hR.below h hg).deny, (hR.below h hg).add⟩
    have hw16 : IntKind.u16.wrap r.add = (((r.add % 65536).toNat : Nat) : Int) := by rw [wrap16]; omega
    have hx : (r.add % 65536).toNat < 65536 := by omega
    have HM : Hid (oneN m r = if r.deny = true then 65535 else capS [m, (r.add % 65536).toNat]) := rfl
    generalize (r.add % 65536).toNat = x at *
    have HS := fun W => rsum_any (some ⟨W.heap.size, 0, none⟩) 2 2 [m, x] _ (by omega) (mts2 m x hm hx 31 W)
    clear hR
    cases hd : r.deny with
    | true =>
      rw [hd] at HC HM
      go_enter Try.func12, Try.ntmps12
      go_wp2_with (first
        | (refine ldQ (.tmp 8) rfl rfl _ _ p rfl hQ ?_)
        | (refine ldI (.tmp 9) rfl rfl _ _ i rfl hI ?_)
        | (go_at_call 10; refine hW.mono ?_; rintro e w1 ⟨rfl, hB1⟩; obtain ⟨c1, c2⟩ := HC.out _ (bt HB.out hB1)))
      go_ret
      exact ⟨by rw [HM.out]; rfl, bt HB.out hB1⟩
    | false =>
      rw [hd] at HC HM
      go_enter Try.func12, Try.ntmps12
      go_wp2_with (first
        | (refine ldQ (.tmp 8) rfl rfl _ _ p rfl hQ ?_)
        | (refine ldI (.tmp 9) rfl rfl _ _ i rfl hI ?_)
        | (go_at_call 20; refine (HS _).mono ?_; rintro e w2 ⟨rfl, rfl⟩)
        | (go_at_call 10; refine hW.mono ?_; rintro e w1 ⟨rfl, hB1⟩; obtain ⟨c1, c2⟩ := HC.out _ (bt HB.out hB1)))
      go_ret
      exact ⟨by rw [HM.out]; rfl, bt (bt HB.out hB1) (ba _ _)⟩
end Go.Proofs.Ytfohknbgfpbmiaa
