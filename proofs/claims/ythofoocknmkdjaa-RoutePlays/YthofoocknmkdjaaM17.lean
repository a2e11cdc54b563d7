/-
  The document's table: Drop, for every list.
-/
import Derived.Test.YthofoocknmkdjaaM16
namespace Go.Proofs.Ythofoocknmkdjaa
open Go.RowKit Go.Maps Go.Shelf
set_option linter.unusedSimpArgs false
set_option linter.unusedVariables false
set_option maxRecDepth 20000
def inB (ds : List Ad) (n : Ro) (k : Nat) : Bool := decide (ds.length = 0) || (ds.take k).any (sameA n.a)
theorem inB_0 (ds : List Ad) (n : Ro) : inB ds n 0 = decide (ds.length = 0) := by simp [inB]
theorem len_zero (m : Nat) : ((m : Int) == 0) = decide (m = 0) := by
  rw [Bool.eq_iff_iff]
  simp
theorem inB_step {ds : List Ad} {n : Ro} {k : Nat} (h : k < ds.length) : inB ds n (k + 1) = (inB ds n k || sameA n.a ds[k]) := by
  unfold inB
  rw [List.take_succ_eq_append_getElem h, List.any_append]
  simp [Bool.or_assoc]
theorem drop_is (i : Int) (ds : List Ad) (n : Ro) : dropB i ds n = (decide (n.i = i) && inB ds n ds.length) := by unfold dropB inB; rw [List.take_length]
set_option maxHeartbeats 16000000 in
theorem rdrop_any {w : World} {B r : Nat} {most : Int} {K : List Ro} (h : Rb w B r most K) (i : Int) (ad : Option Addr) (cd : Nat) (ds : List Ad) (hds : DsW w ad ds) (hdl : ds.length ≤ 1000000) (hBw : B ≤ w.heap.size) : Calls Try.prog 41 #[.pointer (some ⟨r, 0, none⟩), .int .i64 i, .slice ad ds.length cd] w fun e w' => ∃ a1 c1, e = .returned (.slice a1 (K.filter (dropB i ds)).length c1) ∧ kN.Own w' w.heap.size (.slice a1 (K.filter (dropB i ds)).length c1) (K.filter (dropB i ds)) ∧ Rb w' B r most (K.filter fun n => !dropB i ds n) ∧ RTurn w w' B r ∧ w.grownBy w' (some r) := by
  have hll := h.ll
  have hok := h.ok
  have hrl := h.lt
  obtain ⟨adL, c, L1, L0, L2⟩ := h.lies
  obtain ⟨ad', c', hrow, _⟩ := h.ex
  have HR : Hid (Row w r 30 [.int .i64 most, .slice ad' K.length c']) := hrow
  have HD : Hid (∀ W, Below w.heap.size w W → DsW W ad ds) := fun W hW => hds.below hW
  clear h L0 hrow hds
  go_enter Try.func41, Try.ntmps41
  go_wp2_with fail
  go_loopw [7, 8, 9] (fun v u z wr => ∃ (j : Nat) (a1 : Option Addr) (n1 c1 : Nat) (a2 : Option Addr) (n2 c2 : Nat), j ≤ K.length ∧ z = .int .i64 j ∧ v = .slice a1 n1 c1 ∧ u = .slice a2 n2 c2 ∧ Below w.heap.size w wr ∧ TwoT w.heap.size wr (.slice a1 n1 c1) (.slice a2 n2 c2) ((K.take j).filter fun n => !dropB i ds n) ((K.take j).filter (dropB i ds))) (fun _ _ v _ => K.length - (intOf v).toNat)
  case atStart => exact ⟨0, none, 0, 0, none, 0, 0, Nat.zero_le _, rfl, rfl, rfl, Below.refl _ _, ⟨World.ownsRow_nil _ _ _ _, World.ownsRow_nil _ _ _ _, .inl rfl⟩⟩
  case round =>
    obtain ⟨j, a1, n1, c1, a2, n2, c2, hj, rfl, rfl, rfl, hbe, hI⟩ := hrel
    have cL := L1 _ hbe
    by_cases hlt : j < K.length
    · obtain ⟨g, rfl, hc⟩ := L2 (by intro e; rw [e] at hlt; simp at hlt)
      have hji : (j : Int) < (K.length : Int) := Int.ofNat_lt.2 hlt
      have hw64 : wrap64 ((j : Int) + 1) = (j : Int) + 1 := by unfold wrap64; omega
      have HJ : Hid (j + 1 ≤ K.length) := hlt
      have HM : Hid (K.length - ((j : Int) + 1).toNat < K.length - ((j : Int)).toNat) := meas hlt
      have HS : Hid (∀ W, Below wr.heap.size wr W → W.cell? ⟨r, 1, none⟩ = some (.slice (some ⟨g, 0, none⟩) K.length c) ∧ LS W g (j * 81) (K[j]'hlt)) := fun W hW => ⟨L1 _ (bt hbe hW), hc _ (bt hbe hW) j _ (List.getElem?_eq_getElem hlt)⟩
      have F1 : Hid ((K.take (j + 1)).filter (dropB i ds) = (K.take j).filter (dropB i ds) ++ (if dropB i ds (K[j]'hlt) = true then [K[j]'hlt] else [])) := filt_step (q := dropB i ds) hlt
      have F2 : Hid ((K.take (j + 1)).filter (fun n => !dropB i ds n) = (K.take j).filter (fun n => !dropB i ds n) ++ (if (!dropB i ds (K[j]'hlt)) = true then [K[j]'hlt] else [])) := filt_step (q := fun n => !dropB i ds n) hlt
      have HL : Hid (((K.take j).filter (fun n => !dropB i ds n)).length ≤ 10000000 ∧ ((K.take j).filter (dropB i ds)).length ≤ 10000000) := ⟨Nat.le_trans (List.length_filter_le _ _) (by rw [List.length_take]; omega), Nat.le_trans (List.length_filter_le _ _) (by rw [List.length_take]; omega)⟩
      have HDr : Hid (dropB i ds (K[j]'hlt) = (decide ((K[j]'hlt).i = i) && inB ds (K[j]'hlt) ds.length)) := drop_is i ds _
      have HBe : Hid (Below w.heap.size w wr) := hbe
      have HI0 : Hid (TwoT w.heap.size wr (.slice a1 n1 c1) (.slice a2 n2 c2) ((K.take j).filter fun n => !dropB i ds n) ((K.take j).filter (dropB i ds))) := hI
      clear hc L1 L2 hok hj hbe hI
      generalize (K[j]'hlt) = n at *
      generalize wr = w0 at *
      go_wp2_with fail
      go_loopw [10, 11] (fun v u W => ∃ (k : Nat) (bb : Bool), k ≤ ds.length ∧ u = .int .i64 k ∧ v = .bool bb ∧ bb = inB ds n k ∧ Below w0.heap.size w0 W) (fun _ u _ => ds.length - (intOf u).toNat)
      case atStart => exact ⟨0, _, Nat.zero_le _, rfl, rfl, by rw [inB_0]; exact len_zero _, Below.refl _ _⟩
      case round =>
        obtain ⟨k, bb, hk, rfl, rfl, hbb, hW⟩ := hrel
        by_cases hkl : k < ds.length
        · have hki : (k : Int) < (ds.length : Int) := Int.ofNat_lt.2 hkl
          have hw65 : wrap64 ((k : Int) + 1) = (k : Int) + 1 := by unfold wrap64; omega
          have HK : Hid (k + 1 ≤ ds.length) := hkl
          have HMk : Hid (ds.length - ((k : Int) + 1).toNat < ds.length - ((k : Int)).toNat) := meas hkl
          have HN : Hid (inB ds n (k + 1) = (bb || sameA n.a (ds[k]'hkl))) := by show _ = _; rw [inB_step hkl, hbb]
          rcases (HD.out _ (bt HBe.out hW)).lies with h0 | ⟨gd, od, rfl, hgd, hcd⟩
          · rw [h0] at hkl; simp at hkl
          have hqd : LA wr gd (od + k * 16) (ds[k]'hkl) := hcd k _ (List.getElem?_eq_getElem hkl)
          have hS2 : Hid (∀ V, Below wr.heap.size wr V → V.cell? ⟨r, 1, none⟩ = some (.slice (some ⟨g, 0, none⟩) K.length c) ∧ LS V g (j * 81) n ∧ LA V gd (od + k * 16) (ds[k]'hkl)) := fun V hV => ⟨(HS.out _ (bt hW hV)).1, (HS.out _ (bt hW hV)).2, rangeAt_below hqd hV hgd⟩
          have hEI := fun V => run_eqlA (ds[k]'hkl) n.a V
          have gEI := fun op x y V => guardA op x y (ds[k]'hkl) n.a V
          have HSa : Hid (sameA n.a (ds[k]'hkl) = decide ((ds[k]'hkl).l = n.a.l)) := by show _ = _; first | rfl | (unfold sameA; rw [decide_eq_decide]; exact ⟨Eq.symm, Eq.symm⟩)
          clear hcd hqd hbb
          generalize (ds[k]'hkl) = d at *
          generalize decide (d.l = n.a.l) = b3 at *
          go_upto_region 9 with fail
          cases bb with
          | true =>
            refine wp_region_noPanic ?_
            refine wp_region_held_drew (S := fun V => Below wr.heap.size wr V) (by kernel_rfl) ((Below.refl _ _).drew) (fun hHeld => ?_)
            refine take_lit (i := 0) (v := ?_) rfl (by kernel_rfl) (by kernel_rfl) (by kernel_rfl) (fun _ _ _ h => h) (Or.inl ⟨by rfl, ?_⟩) (by assumption) ?_
            rotate_left
            · (intro w hSw; (try dsimp only at hSw); go_simp <;> with_reducible rfl)
            try simp only [Act.put, List.setIfInBounds_toArray, List.set_cons_zero, List.set_cons_succ]
            refine take_lit (i := 1) (v := ?_) rfl (by kernel_rfl) (by kernel_rfl) (by kernel_rfl) (fun _ _ _ h => h) (Or.inl ⟨by rfl, ?_⟩) (by assumption) ?_
            rotate_left
            · (intro w hSw; (try dsimp only at hSw); go_simp <;> with_reducible rfl)
            try simp only [Act.put, List.setIfInBounds_toArray, List.set_cons_zero, List.set_cons_succ]
            refine take_lit (i := 2) rfl (by kernel_rfl) (by kernel_rfl) (by kernel_rfl) (fun _ _ _ h => h) (Or.inr ⟨by rfl, rfl⟩) (by assumption) ?_
            try simp only [Act.put, List.setIfInBounds_toArray, List.set_cons_zero, List.set_cons_succ]
            refine take_lit (i := 3) rfl (by kernel_rfl) (by kernel_rfl) (by kernel_rfl) (fun _ _ _ h => h) (Or.inr ⟨by rfl, rfl⟩) (by assumption) ?_
            try simp only [Act.put, List.setIfInBounds_toArray, List.set_cons_zero, List.set_cons_succ]
            refine take_lit (i := 4) rfl (by kernel_rfl) (by kernel_rfl) (by kernel_rfl) (fun _ _ _ h => h) (Or.inr ⟨by rfl, rfl⟩) (by assumption) ?_
            try simp only [Act.put, List.setIfInBounds_toArray, List.set_cons_zero, List.set_cons_succ]
            refine take_lit (i := 5) rfl (by kernel_rfl) (by kernel_rfl) (by kernel_rfl) (fun _ _ _ h => h) (Or.inr ⟨by rfl, rfl⟩) (by assumption) ?_
            try simp only [Act.put, List.setIfInBounds_toArray, List.set_cons_zero, List.set_cons_succ]
            refine take_lit (i := 6) rfl (by kernel_rfl) (by kernel_rfl) (by kernel_rfl) (fun _ _ _ h => h) (Or.inr ⟨by rfl, rfl⟩) (by assumption) ?_
            try simp only [Act.put, List.setIfInBounds_toArray, List.set_cons_zero, List.set_cons_succ]
            refine take_lit (i := 7) rfl (by kernel_rfl) (by kernel_rfl) (by kernel_rfl) (fun _ _ _ h => h) (Or.inr ⟨by rfl, rfl⟩) (by assumption) ?_
            try simp only [Act.put, List.setIfInBounds_toArray, List.set_cons_zero, List.set_cons_succ]
            refine take_lit (i := 8) rfl (by kernel_rfl) (by kernel_rfl) (by kernel_rfl) (fun _ _ _ h => h) (Or.inr ⟨by rfl, rfl⟩) (by assumption) ?_
            try simp only [Act.put, List.setIfInBounds_toArray, List.set_cons_zero, List.set_cons_succ]
            refine take_lit (i := 9) rfl (by kernel_rfl) (by kernel_rfl) (by kernel_rfl) (fun _ _ _ h => h) (Or.inr ⟨by rfl, rfl⟩) (by assumption) ?_
            try simp only [Act.put, List.setIfInBounds_toArray, List.set_cons_zero, List.set_cons_succ]
            refine take_lit (i := 10) rfl (by kernel_rfl) (by kernel_rfl) (by kernel_rfl) (fun _ _ _ h => h) (Or.inr ⟨by rfl, rfl⟩) (by assumption) ?_
            try simp only [Act.put, List.setIfInBounds_toArray, List.set_cons_zero, List.set_cons_succ]
            refine take_lit (i := 11) rfl (by kernel_rfl) (by kernel_rfl) (by kernel_rfl) (fun _ _ _ h => h) (Or.inr ⟨by rfl, rfl⟩) (by assumption) ?_
            try simp only [Act.put, List.setIfInBounds_toArray, List.set_cons_zero, List.set_cons_succ]
            refine take_lit (i := 12) rfl (by kernel_rfl) (by kernel_rfl) (by kernel_rfl) (fun _ _ _ h => h) (Or.inr ⟨by rfl, rfl⟩) (by assumption) ?_
            try simp only [Act.put, List.setIfInBounds_toArray, List.set_cons_zero, List.set_cons_succ]
            refine take_lit (i := 13) rfl (by kernel_rfl) (by kernel_rfl) (by kernel_rfl) (fun _ _ _ h => h) (Or.inr ⟨by rfl, rfl⟩) (by assumption) ?_
            try simp only [Act.put, List.setIfInBounds_toArray, List.set_cons_zero, List.set_cons_succ]
            refine take_lit (i := 14) rfl (by kernel_rfl) (by kernel_rfl) (by kernel_rfl) (fun _ _ _ h => h) (Or.inr ⟨by rfl, rfl⟩) (by assumption) ?_
            try simp only [Act.put, List.setIfInBounds_toArray, List.set_cons_zero, List.set_cons_succ]
            refine take_lit (i := 15) (v := ?_) rfl (by kernel_rfl) (by kernel_rfl) (by kernel_rfl) (fun _ _ _ h => h) (Or.inl ⟨by rfl, ?_⟩) (by assumption) ?_
            rotate_left
            · (intro w hSw; (try dsimp only at hSw); go_simp <;> with_reducible rfl)
            try simp only [Act.put, List.setIfInBounds_toArray, List.set_cons_zero, List.set_cons_succ]
            refine take_lit (i := 16) (v := ?_) rfl (by kernel_rfl) (by kernel_rfl) (by kernel_rfl) (fun _ _ _ h => h) (Or.inl ⟨by rfl, ?_⟩) (by assumption) ?_
            rotate_left
            · (intro w hSw; (try dsimp only at hSw); go_simp <;> with_reducible rfl)
            try simp only [Act.put, List.setIfInBounds_toArray, List.set_cons_zero, List.set_cons_succ]
            refine wpAnyH_done (by kernel_rfl) ?_ _
            refine NoPanic.normal ?_
            have hV := bt hW hHeld
            clear hHeld hEI gEI hS2
            go_wp2_with fail
            go_roundw
            case rel => exact ⟨k + 1, _, HK.out, by first | (rw [hw65]; rfl) | rfl | go_num, rfl, by rw [HN.out]; rfl, hV⟩
            case measure => first | (rw [hw65]; simp only [intOf]; exact HMk.out) | (simp only [intOf]; exact HMk.out)
          | false =>
            refine wp_region_noPanic ?_
            refine wp_region_held_drew (S := fun V => Below wr.heap.size wr V) (by kernel_rfl) ((Below.refl _ _).drew) (fun hHeld => ?_)
            refine take_lit (i := 0) (v := ?_) rfl (by kernel_rfl) (by kernel_rfl) (by kernel_rfl) (fun _ _ _ h => h) (Or.inl ⟨by rfl, ?_⟩) (by assumption) ?_
            rotate_left
            · (intro w hSw; (try dsimp only at hSw); go_simp <;> with_reducible rfl)
            try simp only [Act.put, List.setIfInBounds_toArray, List.set_cons_zero, List.set_cons_succ]
            refine take_lit (i := 1) (v := ?_) rfl (by kernel_rfl) (by kernel_rfl) (by kernel_rfl) (fun _ _ _ h => h) (Or.inl ⟨by rfl, ?_⟩) (by assumption) ?_
            rotate_left
            · (intro w hSw; (try dsimp only at hSw); go_simp <;> with_reducible rfl)
            try simp only [Act.put, List.setIfInBounds_toArray, List.set_cons_zero, List.set_cons_succ]
            refine take_lit (i := 2) (v := ?_) rfl (by kernel_rfl) (by kernel_rfl) (by kernel_rfl) (fun _ _ _ h => h) (Or.inl ⟨by rfl, ?_⟩) (by assumption) ?_
            rotate_left
            · (intro w hSw; (try dsimp only at hSw); go_simp <;> with_reducible rfl)
            try simp only [Act.put, List.setIfInBounds_toArray, List.set_cons_zero, List.set_cons_succ]
            refine take_lit (i := 3) (v := ?_) rfl (by kernel_rfl) (by kernel_rfl) (by kernel_rfl) (fun _ _ _ h => h) (Or.inl ⟨by rfl, ?_⟩) (by assumption) ?_
            rotate_left
            · (intro w hSw; (try dsimp only at hSw); go_simp <;> with_reducible rfl)
            try simp only [Act.put, List.setIfInBounds_toArray, List.set_cons_zero, List.set_cons_succ]
            refine take_lit (i := 4) (v := ?_) rfl (by kernel_rfl) (by kernel_rfl) (by kernel_rfl) (fun _ _ _ h => h) (Or.inl ⟨by rfl, ?_⟩) (by assumption) ?_
            rotate_left
            · (intro w hSw; (try dsimp only at hSw); go_simp <;> with_reducible rfl)
            try simp only [Act.put, List.setIfInBounds_toArray, List.set_cons_zero, List.set_cons_succ]
            refine take_lit (i := 5) rfl (by kernel_rfl) (by kernel_rfl) (by kernel_rfl) (fun _ _ _ h => h) (yA d (fun w h => (hS2.out _ h).2.2) (by rfl) rfl rfl) (by assumption) ?_
            try simp only [Act.put, List.setIfInBounds_toArray, List.set_cons_zero, List.set_cons_succ]
            refine take_lit (i := 6) (v := ?_) rfl (by kernel_rfl) (by kernel_rfl) (by kernel_rfl) (fun _ _ _ h => h) (Or.inl ⟨by rfl, ?_⟩) (by assumption) ?_
            rotate_left
            · (intro w hSw; (try dsimp only at hSw); go_simp <;> with_reducible rfl)
            try simp only [Act.put, List.setIfInBounds_toArray, List.set_cons_zero, List.set_cons_succ]
            refine take_lit (i := 7) (v := ?_) rfl (by kernel_rfl) (by kernel_rfl) (by kernel_rfl) (fun _ _ _ h => h) (Or.inl ⟨by rfl, ?_⟩) (by assumption) ?_
            rotate_left
            · (intro w hSw; (try dsimp only at hSw); go_simp <;> with_reducible rfl)
            try simp only [Act.put, List.setIfInBounds_toArray, List.set_cons_zero, List.set_cons_succ]
            refine take_lit (i := 8) (v := ?_) rfl (by kernel_rfl) (by kernel_rfl) (by kernel_rfl) (fun _ _ _ h => h) (Or.inl ⟨by rfl, ?_⟩) (by assumption) ?_
            rotate_left
            · (intro w hSw; (try dsimp only at hSw); go_simp <;> with_reducible rfl)
            try simp only [Act.put, List.setIfInBounds_toArray, List.set_cons_zero, List.set_cons_succ]
            refine take_lit (i := 9) (v := ?_) rfl (by kernel_rfl) (by kernel_rfl) (by kernel_rfl) (fun _ _ _ h => h) (Or.inl ⟨by rfl, ?_⟩) (by assumption) ?_
            rotate_left
            · (intro w hSw; (try dsimp only at hSw); have z := (hS2.out _ hSw).1; go_simp <;> with_reducible rfl)
            try simp only [Act.put, List.setIfInBounds_toArray, List.set_cons_zero, List.set_cons_succ]
            refine take_lit (i := 10) (v := ?_) rfl (by kernel_rfl) (by kernel_rfl) (by kernel_rfl) (fun _ _ _ h => h) (Or.inl ⟨by rfl, ?_⟩) (by assumption) ?_
            rotate_left
            · (intro w hSw; (try dsimp only at hSw); go_simp <;> with_reducible rfl)
            try simp only [Act.put, List.setIfInBounds_toArray, List.set_cons_zero, List.set_cons_succ]
            refine take_lit (i := 11) (v := ?_) rfl (by kernel_rfl) (by kernel_rfl) (by kernel_rfl) (fun _ _ _ h => h) (Or.inl ⟨by rfl, ?_⟩) (by assumption) ?_
            rotate_left
            · (intro w hSw; (try dsimp only at hSw); go_simp <;> with_reducible rfl)
            try simp only [Act.put, List.setIfInBounds_toArray, List.set_cons_zero, List.set_cons_succ]
            refine take_lit (i := 12) (v := ?_) rfl (by kernel_rfl) (by kernel_rfl) (by kernel_rfl) (fun _ _ _ h => h) (Or.inl ⟨by rfl, ?_⟩) (by assumption) ?_
            rotate_left
            · (intro w hSw; (try dsimp only at hSw); go_simp <;> with_reducible rfl)
            try simp only [Act.put, List.setIfInBounds_toArray, List.set_cons_zero, List.set_cons_succ]
            refine take_lit (i := 13) rfl (by kernel_rfl) (by kernel_rfl) (by kernel_rfl) (fun _ _ _ h => h) (yA n.a (fun w h => (hS2.out _ h).2.1.a) (by rfl) rfl rfl) (by assumption) ?_
            try simp only [Act.put, List.setIfInBounds_toArray, List.set_cons_zero, List.set_cons_succ]
            refine take_lit (i := 14) (v := ?_) rfl (by kernel_rfl) (by kernel_rfl) (by kernel_rfl) (fun _ _ _ h => h) (Or.inl ⟨by rfl, ?_⟩) (by assumption) ?_
            rotate_left
            · (intro w hSw; (try dsimp only at hSw); have z := hEI w; have z2 := fun op x y => gEI op x y w; go_simp <;> with_reducible rfl)
            try simp only [Act.put, List.setIfInBounds_toArray, List.set_cons_zero, List.set_cons_succ]
            refine take_lit (i := 15) (v := ?_) rfl (by kernel_rfl) (by kernel_rfl) (by kernel_rfl) (fun _ _ _ h => h) (Or.inl ⟨by rfl, ?_⟩) (by assumption) ?_
            rotate_left
            · (intro w hSw; (try dsimp only at hSw); go_simp <;> with_reducible rfl)
            try simp only [Act.put, List.setIfInBounds_toArray, List.set_cons_zero, List.set_cons_succ]
            refine take_lit (i := 16) (v := ?_) rfl (by kernel_rfl) (by kernel_rfl) (by kernel_rfl) (fun _ _ _ h => h) (Or.inl ⟨by rfl, ?_⟩) (by assumption) ?_
            rotate_left
            · (intro w hSw; (try dsimp only at hSw); go_simp <;> with_reducible rfl)
            try simp only [Act.put, List.setIfInBounds_toArray, List.set_cons_zero, List.set_cons_succ]
            refine wpAnyH_done (by kernel_rfl) ?_ _
            refine NoPanic.normal ?_
            have hV := bt hW hHeld
            clear hHeld hEI gEI hS2
            go_wp2_with fail
            go_roundw
            case rel => exact ⟨k + 1, _, HK.out, by first | (rw [hw65]; rfl) | rfl | go_num, rfl, by rw [HN.out, HSa.out]; rfl, hV⟩
            case measure => first | (rw [hw65]; simp only [intOf]; exact HMk.out) | (simp only [intOf]; exact HMk.out)
        · have hke : k = ds.length := Nat.le_antisymm hk (Nat.not_lt.1 hkl)
          subst hke
          have hki : ¬ (ds.length : Int) < (ds.length : Int) := Int.lt_irrefl _
          have HD2 : Hid (dropB i ds n = (decide (n.i = i) && bb)) := by show _ = _; rw [HDr.out, hbb]
          obtain ⟨cV, lV⟩ := HS.out _ hW
          have cI := lV.i_
          have bW := bt HBe.out hW
          have hI1 := HI0.out.below hW
          have hXW := bW.size
          clear hk hkl hbb HDr HS HI0 HBe hW
          by_cases hdr : dropB i ds n = true
          · have hd2 := hdr
            rw [HD2.out, Bool.and_eq_true] at hd2
            have hi' : (n.i == i) = true := by simpa using of_decide_eq_true hd2.1
            have hbt : bb = true := hd2.2
            subst hbt
            have G1 : Hid ((K.take (j + 1)).filter (dropB i ds) = (K.take j).filter (dropB i ds) ++ [n]) := by show _ = _; rw [F1.out, if_pos hdr]
            have G2 : Hid ((K.take (j + 1)).filter (fun n => !dropB i ds n) = (K.take j).filter (fun n => !dropB i ds n)) := by show _ = _; rw [F2.out, hdr]; simp
            clear F1 F2 HD2 hdr hd2
            go_wp2_with (first
              | (have kk := r6; at_builtin; refine app_at (.tmp 59) (.tmp 67) rfl rfl w.heap.size (.slice a2 n2 c2) _ (by (repeat (first | with_reducible refine ev_ne ?_ rfl | with_reducible refine ev_no ?_ | (with_reducible refine ev_eq (n := 84) ?_ rfl; repeat (first | with_reducible refine sz_put ?_ | with_reducible refine sz_no ?_ | rfl)) | rfl))) hI6.g _ 1 n (by (repeat (first | with_reducible refine ev_ne ?_ rfl | with_reducible refine ev_no ?_ | (with_reducible refine ev_eq (n := 84) ?_ rfl; repeat (first | with_reducible refine sz_put ?_ | with_reducible refine sz_no ?_ | rfl)) | rfl))) r6 HL.out.2 b6x.size ?_; intro v7 W7 o7 g7 e7; obtain ⟨a7, c7, rfl, _⟩ := Kd.own_at o7; have hI7 := hI6.right o7 g7 e7; have b7 := grown_low b6x hI6.g g7)
              | ((with_reducible refine bsG (T := 28) (U := 41) (n := 1) [(0, .tmp 66)] (ocs n) ?_ ?_ ?_ ?_); (focus rfl); (focus rfl); (focus exact (fun w => bsN1 n w)); intro W6 r6 b6; have hI6 := hI1.below b6; have b6x := bt bW b6)
              | (refine ldS (.tmp 65) rfl rfl _ _ n rfl lV ?_))
            go_roundw
            case rel => exact ⟨j + 1, a1, n1, c1, a7, _, c7, HJ.out, by first | (rw [hw64]; rfl) | rfl | go_num, rfl, rfl, b7, by rw [G1.out, G2.out]; rw [List.length_append] at hI7; exact hI7⟩
            case measure => first | (rw [hw64]; simp only [intOf]; exact HM.out) | (simp only [intOf]; exact HM.out)
          · have hdf : dropB i ds n = false := by simpa using hdr
            have G1 : Hid ((K.take (j + 1)).filter (dropB i ds) = (K.take j).filter (dropB i ds)) := by show _ = _; rw [F1.out, hdf]; simp
            have G2 : Hid ((K.take (j + 1)).filter (fun n => !dropB i ds n) = (K.take j).filter (fun n => !dropB i ds n) ++ [n]) := by show _ = _; rw [F2.out, hdf]; simp
            have hcs : (n.i == i) = false ∨ ((n.i == i) = true ∧ bb = false) := by
              rw [HD2.out] at hdf
              by_cases hi : n.i = i
              · rw [decide_eq_true hi, Bool.true_and] at hdf
                exact .inr ⟨by simpa using hi, hdf⟩
              · exact .inl (by simpa using hi)
            clear F1 F2 HD2 hdr hdf
            rcases hcs with hi' | ⟨hi', rfl⟩
            · go_wp2_with (first
                | (have kk := r6; at_builtin; refine app_at (.tmp 69) (.tmp 77) rfl rfl w.heap.size (.slice a1 n1 c1) _ (by (repeat (first | with_reducible refine ev_ne ?_ rfl | with_reducible refine ev_no ?_ | (with_reducible refine ev_eq (n := 84) ?_ rfl; repeat (first | with_reducible refine sz_put ?_ | with_reducible refine sz_no ?_ | rfl)) | rfl))) hI6.l _ 1 n (by (repeat (first | with_reducible refine ev_ne ?_ rfl | with_reducible refine ev_no ?_ | (with_reducible refine ev_eq (n := 84) ?_ rfl; repeat (first | with_reducible refine sz_put ?_ | with_reducible refine sz_no ?_ | rfl)) | rfl))) r6 HL.out.1 b6x.size ?_; intro v7 W7 o7 g7 e7; obtain ⟨a7, c7, rfl, _⟩ := Kd.own_at o7; have hI7 := hI6.left o7 g7 e7; have b7 := grown_low b6x hI6.l g7)
                | ((with_reducible refine bsG (T := 28) (U := 41) (n := 1) [(0, .tmp 76)] (ocs n) ?_ ?_ ?_ ?_); (focus rfl); (focus rfl); (focus exact (fun w => bsN1 n w)); intro W6 r6 b6; have hI6 := hI1.below b6; have b6x := bt bW b6)
                | (refine ldS (.tmp 75) rfl rfl _ _ n rfl lV ?_))
              go_roundw
              case rel => exact ⟨j + 1, a7, _, c7, a2, n2, c2, HJ.out, by first | (rw [hw64]; rfl) | rfl | go_num, rfl, rfl, b7, by rw [G1.out, G2.out]; rw [List.length_append] at hI7; exact hI7⟩
              case measure => first | (rw [hw64]; simp only [intOf]; exact HM.out) | (simp only [intOf]; exact HM.out)
            · go_wp2_with (first
                | (have kk := r6; at_builtin; refine app_at (.tmp 69) (.tmp 77) rfl rfl w.heap.size (.slice a1 n1 c1) _ (by (repeat (first | with_reducible refine ev_ne ?_ rfl | with_reducible refine ev_no ?_ | (with_reducible refine ev_eq (n := 84) ?_ rfl; repeat (first | with_reducible refine sz_put ?_ | with_reducible refine sz_no ?_ | rfl)) | rfl))) hI6.l _ 1 n (by (repeat (first | with_reducible refine ev_ne ?_ rfl | with_reducible refine ev_no ?_ | (with_reducible refine ev_eq (n := 84) ?_ rfl; repeat (first | with_reducible refine sz_put ?_ | with_reducible refine sz_no ?_ | rfl)) | rfl))) r6 HL.out.1 b6x.size ?_; intro v7 W7 o7 g7 e7; obtain ⟨a7, c7, rfl, _⟩ := Kd.own_at o7; have hI7 := hI6.left o7 g7 e7; have b7 := grown_low b6x hI6.l g7)
                | ((with_reducible refine bsG (T := 28) (U := 41) (n := 1) [(0, .tmp 76)] (ocs n) ?_ ?_ ?_ ?_); (focus rfl); (focus rfl); (focus exact (fun w => bsN1 n w)); intro W6 r6 b6; have hI6 := hI1.below b6; have b6x := bt bW b6)
                | (refine ldS (.tmp 75) rfl rfl _ _ n rfl lV ?_))
              go_roundw
              case rel => exact ⟨j + 1, a7, _, c7, a2, n2, c2, HJ.out, by first | (rw [hw64]; rfl) | rfl | go_num, rfl, rfl, b7, by rw [G1.out, G2.out]; rw [List.length_append] at hI7; exact hI7⟩
              case measure => first | (rw [hw64]; simp only [intOf]; exact HM.out) | (simp only [intOf]; exact HM.out)
    · have hjl : j = K.length := Nat.le_antisymm hj (Nat.not_lt.1 hlt)
      subst hjl
      have hji : ¬ (K.length : Int) < (K.length : Int) := Int.lt_irrefl _
      rw [List.take_length] at hI
      have hrow := HR.out.below hbe hrl
      have c0 := hrow.cell 1
      have f0 := hrow.frozen 1
      have HFin : Hid (n2 = (K.filter (dropB i ds)).length ∧ kN.Own (wr.setCell ⟨r, 1, none⟩ (.slice a1 n1 c1)) w.heap.size (.slice a2 n2 c2) (K.filter (dropB i ds)) ∧ Rb (wr.setCell ⟨r, 1, none⟩ (.slice a1 n1 c1)) B r most (K.filter fun n => !dropB i ds n) ∧ RTurn w (wr.setCell ⟨r, 1, none⟩ (.slice a1 n1 c1)) B r ∧ w.grownBy (wr.setCell ⟨r, 1, none⟩ (.slice a1 n1 c1)) (some r)) := by
        have hg := grownBy_setCell wr r 1 (.slice a1 n1 c1)
        refine ⟨own_get hI.g, World.ownsRow.kept hI.g hg (.inr (own_ne_lt hI.g hrl)), ⟨?_, fun n hn => hok n (List.mem_filter.1 hn).1, Nat.le_trans (List.length_filter_le _ _) hll⟩, RTurn.pre hbe (RTurn.self hg), grown_pre hbe hg⟩
        obtain ⟨aa, cc, e, _⟩ := Kd.own_at hI.l
        obtain ⟨rfl, rfl, rfl⟩ : a1 = aa ∧ n1 = (K.filter fun n => !dropB i ds n).length ∧ c1 = cc := by cases e; exact ⟨rfl, rfl, rfl⟩
        exact ⟨a1, c1, hrow.set 1 _, Kd.own_up (World.ownsRow.kept hI.l hg (.inr (own_ne_lt hI.l hrl))) hBw⟩
      clear hI hrow HR L1 L2 hok
      go_wp2_with fail
      go_ret
      obtain ⟨rfl, h1, h2, h3, h4⟩ := HFin.out
      exact ⟨_, _, rfl, h1, h2, h3, h4⟩
end Go.Proofs.Ythofoocknmkdjaa
