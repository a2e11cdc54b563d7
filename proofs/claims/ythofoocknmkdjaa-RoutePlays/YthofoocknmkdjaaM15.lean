/-
  The document's table: Of, for every list.
-/
import Derived.Test.YthofoocknmkdjaaM14
import Derived.Test.YthofoocknmkdjaaM01
namespace Go.Proofs.Ythofoocknmkdjaa
open Go.RowKit Go.Maps Go.Shelf
set_option linter.unusedSimpArgs false
set_option linter.unusedVariables false
set_option maxRecDepth 20000
theorem filt_step {q : Ro → Bool} {j : Nat} {K : List Ro} (h : j < K.length) : (K.take (j + 1)).filter q = (K.take j).filter q ++ (if q K[j] = true then [K[j]] else []) := by
  rw [List.take_succ_eq_append_getElem h, List.filter_append]
  congr 1
  simp [List.filter_cons]
set_option maxHeartbeats 8000000 in
theorem rof_any {w : World} {B r : Nat} {most : Int} {K : List Ro} (h : Rb w B r most K) (p : Pr) : Calls Try.prog 22 #[.pointer (some ⟨r, 0, none⟩), (Value.agg (qcells p).toArray)] w (fun e w' => ∃ a n c, e = .returned (.slice a n c) ∧ kN.Own w' w.heap.size (.slice a n c) (K.filter fun m => qB m.p p) ∧ Below w.heap.size w w') := by
  have hll := h.ll
  have r0 := Row.new w 36 (qcells p)
  have bA := ba w (.cells (qcells p).toArray 36)
  obtain ⟨ad, c, L1, L0, L2⟩ := h.lies
  go_enter Try.func22, Try.ntmps22
  go_upto_region 1 with fail
  refine name_world (R := fun W => Code.wp _ _ _ _ W) (P := fun W => Below w.heap.size w W ∧ LQ W w.heap.size 0 p ∧ w.heap.size < W.heap.size) _ ⟨bA, r0.range, r0.lt⟩ ?_
  clear r0 bA h
  rintro X ⟨hB, hP, hs⟩
  go_wp2_with fail
  go_loopw [5, 6] (fun u v wr => ∃ (j : Nat) (a1 : Option Addr) (n1 c1 : Nat), j ≤ K.length ∧ u = .slice a1 n1 c1 ∧ v = .int .i64 j ∧ kN.Own wr X.heap.size (.slice a1 n1 c1) ((K.take j).filter fun m => qB m.p p) ∧ Below X.heap.size X wr) (fun _ v _ => K.length - (intOf v).toNat)
  case atStart => exact ⟨0, none, 0, 0, Nat.zero_le _, rfl, rfl, ⟨rfl, .inl ⟨rfl, rfl⟩⟩, Below.refl _ _⟩
  case round =>
    obtain ⟨j, a1, n1, c1, hj, rfl, rfl, hO, hb⟩ := hrel
    have cL := L1 _ (bt hB hb)
    by_cases hlt : j < K.length
    · obtain ⟨g, rfl, hc⟩ := L2 (by intro e; rw [e] at hlt; simp at hlt)
      have hji : (j : Int) < (K.length : Int) := Int.ofNat_lt.2 hlt
      have hw64 : wrap64 ((j : Int) + 1) = (j : Int) + 1 := by unfold wrap64; omega
      have HS : Hid (∀ W, Below wr.heap.size wr W → W.cell? ⟨r, 1, none⟩ = some (.slice (some ⟨g, 0, none⟩) K.length c) ∧ LS W g (j * 81) (K[j]'hlt) ∧ LQ W w.heap.size 0 p) := fun W hW => ⟨L1 _ (bt hB (bt hb hW)), hc _ (bt hB (bt hb hW)) j _ (List.getElem?_eq_getElem hlt), rangeAt_below hP (bt hb hW) hs⟩
      have HF : Hid (((K.take (j + 1)).filter fun m => qB m.p p) = ((K.take j).filter fun m => qB m.p p) ++ (if qB (K[j]'hlt).p p = true then [K[j]'hlt] else [])) := filt_step (q := fun m => qB m.p p) hlt
      have hfl : ((K.take j).filter fun m => qB m.p p).length ≤ 10000000 := Nat.le_trans (List.length_filter_le _ _) (by rw [List.length_take]; omega)
      have hEQ : ∀ W, (binOp .eql 36 (Value.agg (qcells ((K[j]'hlt).p)).toArray) (Value.agg (qcells p).toArray)).run Try.prog W = .ok (.bool (qB (K[j]'hlt).p p)) W := fun W => run_eqlQ (K[j]'hlt).p p W
      have gEQ := fun op x y W => guardQ op x y (K[j]'hlt).p p W
      have HJ : Hid (j + 1 ≤ K.length) := hlt
      have HM : Hid (K.length - ((j : Int) + 1).toNat < K.length - ((j : Int)).toNat) := meas hlt
      clear hc hP L1 L0 L2
      generalize (K[j]'hlt) = n at *
      generalize qB n.p p = b1 at *
      generalize ((K.take j).filter fun m => qB m.p p) = G at *
      go_upto_region 5 with fail
      cases b1 with
      | false =>
        refine wp_region_noPanic ?_
        refine wp_region_held_drew (S := fun W => Below wr.heap.size wr W) (by kernel_rfl) ((Below.refl _ _).drew) (fun hHeld => ?_)
        refine take_lit (i := 0) (v := ?_) rfl (by kernel_rfl) (by kernel_rfl) (by kernel_rfl) (fun _ _ _ h => h) (Or.inl ⟨by rfl, ?_⟩) (by assumption) ?_
        rotate_left
        · (intro w hSw; (try dsimp only at hSw); go_simp <;> with_reducible rfl)
        try simp only [Act.put, List.setIfInBounds_toArray, List.set_cons_zero, List.set_cons_succ]
        refine take_lit (i := 1) (v := ?_) rfl (by kernel_rfl) (by kernel_rfl) (by kernel_rfl) (fun _ _ _ h => h) (Or.inl ⟨by rfl, ?_⟩) (by assumption) ?_
        rotate_left
        · (intro w hSw; (try dsimp only at hSw); go_simp <;> with_reducible rfl)
        try simp only [Act.put, List.setIfInBounds_toArray, List.set_cons_zero, List.set_cons_succ]
        refine take_lit (i := 2) (v := ?_) rfl (by kernel_rfl) (by kernel_rfl) (by kernel_rfl) (fun _ _ _ h => h) (Or.inl ⟨by rfl, ?_⟩) (by assumption) ?_
        rotate_left
        · (intro w hSw; (try dsimp only at hSw); go_simp <;> with_reducible rfl)
        try simp only [Act.put, List.setIfInBounds_toArray, List.set_cons_zero, List.set_cons_succ]
        refine take_lit (i := 3) (v := ?_) rfl (by kernel_rfl) (by kernel_rfl) (by kernel_rfl) (fun _ _ _ h => h) (Or.inl ⟨by rfl, ?_⟩) (by assumption) ?_
        rotate_left
        · (intro w hSw; (try dsimp only at hSw); have z := (HS.out _ hSw).1; go_simp <;> with_reducible rfl)
        try simp only [Act.put, List.setIfInBounds_toArray, List.set_cons_zero, List.set_cons_succ]
        refine take_lit (i := 4) (v := ?_) rfl (by kernel_rfl) (by kernel_rfl) (by kernel_rfl) (fun _ _ _ h => h) (Or.inl ⟨by rfl, ?_⟩) (by assumption) ?_
        rotate_left
        · (intro w hSw; (try dsimp only at hSw); go_simp <;> with_reducible rfl)
        try simp only [Act.put, List.setIfInBounds_toArray, List.set_cons_zero, List.set_cons_succ]
        refine take_lit (i := 5) (v := ?_) rfl (by kernel_rfl) (by kernel_rfl) (by kernel_rfl) (fun _ _ _ h => h) (Or.inl ⟨by rfl, ?_⟩) (by assumption) ?_
        rotate_left
        · (intro w hSw; (try dsimp only at hSw); go_simp <;> with_reducible rfl)
        try simp only [Act.put, List.setIfInBounds_toArray, List.set_cons_zero, List.set_cons_succ]
        refine take_lit (i := 6) (v := ?_) rfl (by kernel_rfl) (by kernel_rfl) (by kernel_rfl) (fun _ _ _ h => h) (Or.inl ⟨by rfl, ?_⟩) (by assumption) ?_
        rotate_left
        · (intro w hSw; (try dsimp only at hSw); go_simp <;> with_reducible rfl)
        try simp only [Act.put, List.setIfInBounds_toArray, List.set_cons_zero, List.set_cons_succ]
        refine take_lit (i := 7) rfl (by kernel_rfl) (by kernel_rfl) (by kernel_rfl) (fun _ _ _ h => h) (yQ n.p (fun w h => (HS.out _ h).2.1.q) (by rfl) rfl rfl) (by assumption) ?_
        try simp only [Act.put, List.setIfInBounds_toArray, List.set_cons_zero, List.set_cons_succ]
        refine take_lit (i := 8) rfl (by kernel_rfl) (by kernel_rfl) (by kernel_rfl) (fun _ _ _ h => h) (yQ p (fun w h => (HS.out _ h).2.2) (by rfl) rfl rfl) (by assumption) ?_
        try simp only [Act.put, List.setIfInBounds_toArray, List.set_cons_zero, List.set_cons_succ]
        refine take_lit (i := 9) (v := ?_) rfl (by kernel_rfl) (by kernel_rfl) (by kernel_rfl) (fun _ _ _ h => h) (Or.inl ⟨by rfl, ?_⟩) (by assumption) ?_
        rotate_left
        · (intro w hSw; (try dsimp only at hSw); have z := hEQ w; have z2 := fun op x y => gEQ op x y w; go_simp <;> with_reducible rfl)
        try simp only [Act.put, List.setIfInBounds_toArray, List.set_cons_zero, List.set_cons_succ]
        refine wpAnyH_done (by kernel_rfl) ?_ _
        refine NoPanic.normal ?_
        have hb2 := bt hb hHeld
        have hO2 := own_below hO hHeld
        clear hHeld hEQ gEQ HS
        go_wp2_with fail
        go_roundw
        case rel => exact ⟨j + 1, a1, n1, c1, HJ.out, rfl, by first | rfl | go_num, by rw [HF.out, if_neg Bool.false_ne_true, List.append_nil]; exact hO2, hb2⟩
        case measure => first | (rw [hw64]; simp only [intOf]; exact HM.out) | (simp only [intOf]; exact HM.out)
      | true =>
        refine wp_region_noPanic ?_
        refine wp_region_held_drew (S := fun W => Below wr.heap.size wr W) (by kernel_rfl) ((Below.refl _ _).drew) (fun hHeld => ?_)
        refine take_lit (i := 0) (v := ?_) rfl (by kernel_rfl) (by kernel_rfl) (by kernel_rfl) (fun _ _ _ h => h) (Or.inl ⟨by rfl, ?_⟩) (by assumption) ?_
        rotate_left
        · (intro w hSw; (try dsimp only at hSw); go_simp <;> with_reducible rfl)
        try simp only [Act.put, List.setIfInBounds_toArray, List.set_cons_zero, List.set_cons_succ]
        refine take_lit (i := 1) (v := ?_) rfl (by kernel_rfl) (by kernel_rfl) (by kernel_rfl) (fun _ _ _ h => h) (Or.inl ⟨by rfl, ?_⟩) (by assumption) ?_
        rotate_left
        · (intro w hSw; (try dsimp only at hSw); go_simp <;> with_reducible rfl)
        try simp only [Act.put, List.setIfInBounds_toArray, List.set_cons_zero, List.set_cons_succ]
        refine take_lit (i := 2) (v := ?_) rfl (by kernel_rfl) (by kernel_rfl) (by kernel_rfl) (fun _ _ _ h => h) (Or.inl ⟨by rfl, ?_⟩) (by assumption) ?_
        rotate_left
        · (intro w hSw; (try dsimp only at hSw); go_simp <;> with_reducible rfl)
        try simp only [Act.put, List.setIfInBounds_toArray, List.set_cons_zero, List.set_cons_succ]
        refine take_lit (i := 3) (v := ?_) rfl (by kernel_rfl) (by kernel_rfl) (by kernel_rfl) (fun _ _ _ h => h) (Or.inl ⟨by rfl, ?_⟩) (by assumption) ?_
        rotate_left
        · (intro w hSw; (try dsimp only at hSw); have z := (HS.out _ hSw).1; go_simp <;> with_reducible rfl)
        try simp only [Act.put, List.setIfInBounds_toArray, List.set_cons_zero, List.set_cons_succ]
        refine take_lit (i := 4) (v := ?_) rfl (by kernel_rfl) (by kernel_rfl) (by kernel_rfl) (fun _ _ _ h => h) (Or.inl ⟨by rfl, ?_⟩) (by assumption) ?_
        rotate_left
        · (intro w hSw; (try dsimp only at hSw); go_simp <;> with_reducible rfl)
        try simp only [Act.put, List.setIfInBounds_toArray, List.set_cons_zero, List.set_cons_succ]
        refine take_lit (i := 5) (v := ?_) rfl (by kernel_rfl) (by kernel_rfl) (by kernel_rfl) (fun _ _ _ h => h) (Or.inl ⟨by rfl, ?_⟩) (by assumption) ?_
        rotate_left
        · (intro w hSw; (try dsimp only at hSw); go_simp <;> with_reducible rfl)
        try simp only [Act.put, List.setIfInBounds_toArray, List.set_cons_zero, List.set_cons_succ]
        refine take_lit (i := 6) (v := ?_) rfl (by kernel_rfl) (by kernel_rfl) (by kernel_rfl) (fun _ _ _ h => h) (Or.inl ⟨by rfl, ?_⟩) (by assumption) ?_
        rotate_left
        · (intro w hSw; (try dsimp only at hSw); go_simp <;> with_reducible rfl)
        try simp only [Act.put, List.setIfInBounds_toArray, List.set_cons_zero, List.set_cons_succ]
        refine take_lit (i := 7) rfl (by kernel_rfl) (by kernel_rfl) (by kernel_rfl) (fun _ _ _ h => h) (yQ n.p (fun w h => (HS.out _ h).2.1.q) (by rfl) rfl rfl) (by assumption) ?_
        try simp only [Act.put, List.setIfInBounds_toArray, List.set_cons_zero, List.set_cons_succ]
        refine take_lit (i := 8) rfl (by kernel_rfl) (by kernel_rfl) (by kernel_rfl) (fun _ _ _ h => h) (yQ p (fun w h => (HS.out _ h).2.2) (by rfl) rfl rfl) (by assumption) ?_
        try simp only [Act.put, List.setIfInBounds_toArray, List.set_cons_zero, List.set_cons_succ]
        refine take_lit (i := 9) (v := ?_) rfl (by kernel_rfl) (by kernel_rfl) (by kernel_rfl) (fun _ _ _ h => h) (Or.inl ⟨by rfl, ?_⟩) (by assumption) ?_
        rotate_left
        · (intro w hSw; (try dsimp only at hSw); have z := hEQ w; have z2 := fun op x y => gEQ op x y w; go_simp <;> with_reducible rfl)
        try simp only [Act.put, List.setIfInBounds_toArray, List.set_cons_zero, List.set_cons_succ]
        refine wpAnyH_done (by kernel_rfl) ?_ _
        refine NoPanic.normal ?_
        have hb2 := bt hb hHeld
        have hO2 := own_below hO hHeld
        obtain ⟨cL2, hn2, _⟩ := HS.out _ hHeld
        have hsz := hb2.size
        clear hHeld hEQ gEQ HS hO hb cL
        go_wp2_with (first
          | (have kk := r6; at_builtin; refine app_at (.tmp 26) (.tmp 34) rfl rfl X.heap.size (.slice a1 n1 c1) _ rfl hO6 _ 1 n rfl r6 hfl hb6.size ?_; intro v7 W7 o7 g7 e7; have hb7 := below_keepO hb6 g7 (fun g hg e => by have := own_lt hO6 e; omega) hb6.size; obtain ⟨a7, c7, rfl, _⟩ := Kd.own_at o7)
          | (have kk := hn2; (with_reducible refine bsG (T := 28) (U := 41) (n := 1) [(0, .tmp 33)] (ocs n) ?_ ?_ ?_ ?_); (focus rfl); (focus rfl); (focus exact (fun w => bsN1 n w)); intro W6 r6 b6; have hO6 := own_below hO2 b6; have hb6 := bt hb2 b6)
          | (refine ldS (.tmp 32) rfl rfl _ _ n rfl hn2 ?_))
        go_roundw
        case rel => exact ⟨j + 1, a7, _, c7, HJ.out, rfl, by first | rfl | go_num, by rw [HF.out, if_pos rfl]; have o8 := o7; rw [List.length_append] at o8; exact o8, hb7⟩
        case measure => first | (rw [hw64]; simp only [intOf]; exact HM.out) | (simp only [intOf]; exact HM.out)
    · have hjl : j = K.length := Nat.le_antisymm hj (Nat.not_lt.1 hlt)
      subst hjl
      have hji : ¬ (K.length : Int) < (K.length : Int) := Int.lt_irrefl _
      rw [List.take_length] at hO
      have hO2 : kN.Own wr w.heap.size (.slice a1 n1 c1) (K.filter fun m => qB m.p p) := ⟨hO.1, hO.2.imp id fun ⟨g, cap, cur, e, h1, h2⟩ => ⟨g, cap, cur, e, Nat.le_trans hB.size h1, h2⟩⟩
      clear L1 L0 L2
      go_wp2_with fail
      go_ret
      exact ⟨a1, n1, c1, rfl, hO2, bt hB hb⟩
end Go.Proofs.Ythofoocknmkdjaa

namespace Go.Proofs.Ythofoocknmkdjaa
open Go.RowKit
theorem ev_no {a : Act} {o : Operand} {v u : Value} (h : a.eval o = u) : (a.put none v).eval o = u := h
theorem ev_ne {a : Act} {d k : Nat} {v u : Value} (h : a.eval (.tmp k) = u) (hd : (d == k) = false) : (a.put (some d) v).eval (.tmp k) = u := by
  rw [← h]
  have hne : d ≠ k := fun e => by rw [e] at hd; simp at hd
  show (a.tmps.setIfInBounds d v).getD k undef = a.tmps.getD k undef
  rw [Array.getD_eq_getD_getElem?, Array.getD_eq_getD_getElem?, Array.getElem?_setIfInBounds, if_neg hne]
theorem sz_no {a : Act} {v : Value} {n : Nat} (h : a.tmps.size = n) : (a.put none v).tmps.size = n := h
theorem sz_put {a : Act} {d n : Nat} {v : Value} (h : a.tmps.size = n) : (a.put (some d) v).tmps.size = n := by
  rw [← h]
  show (a.tmps.setIfInBounds d v).size = _
  simp
theorem ev_eq {a : Act} {d n : Nat} {v : Value} (h : a.tmps.size = n) (hd : Nat.ble (d + 1) n = true) : (a.put (some d) v).eval (.tmp d) = v := by
  have hlt : d < a.tmps.size := by rw [h]; exact Nat.le_of_ble_eq_true hd
  show (a.tmps.setIfInBounds d v).getD d undef = v
  rw [Array.getD_eq_getD_getElem?, Array.getElem?_setIfInBounds_self_of_lt hlt]
  rfl
end Go.Proofs.Ythofoocknmkdjaa

namespace Go.Proofs.Ythofoocknmkdjaa
open Go.RowKit Go.Maps Go.Shelf
set_option linter.unusedSimpArgs false
set_option linter.unusedVariables false
set_option maxRecDepth 20000
theorem below_drewN {B : Nat} {w0 w : World} (h : Below B w0 w) : ∀ n, Below B w0 (w.drewN n)
  | 0 => h
  | n + 1 => (below_drewN h n).drew
theorem cb_at : ∀ (l m : List UInt8) (i : Nat) (x y : UInt8), (∀ j, j < i → l[j]? = m[j]?) → l[i]? = some x → m[i]? = some y → x ≠ y → l.length = m.length → Lib.compareBytes l m = if x < y then -1 else 1
  | [], _, _, _, _, _, h, _, _, _ => by simp at h
  | _ :: _, [], _, _, _, _, _, h, _, _ => by simp at h
  | a :: l, b :: m, 0, x, y, _, hx, hy, hne, _ => by
    simp at hx hy
    subst hx hy
    unfold Lib.compareBytes
    by_cases h : a < b
    · rw [if_pos h, if_pos h]
    · rw [if_neg h, if_neg h, if_pos]
      rw [UInt8.lt_iff_toNat_lt] at h ⊢
      have : a.toNat ≠ b.toNat := fun e => hne (UInt8.toNat.inj e)
      omega
  | a :: l, b :: m, i + 1, x, y, hj, hx, hy, hne, hl => by
    have h0 : a = b := by simpa using hj 0 (by omega)
    subst h0
    have hn : ¬ a < a := by rw [UInt8.lt_iff_toNat_lt]; omega
    have ih := cb_at l m i x y (fun j hji => by simpa using hj (j + 1) (by omega)) (by simpa using hx) (by simpa using hy) hne (by simpa using hl)
    unfold Lib.compareBytes
    rw [if_neg hn, if_neg hn, ih]
theorem cb_same : ∀ (l : List UInt8), Lib.compareBytes l l = 0
  | [] => rfl
  | a :: l => by
    have hn : ¬ a < a := by rw [UInt8.lt_iff_toNat_lt]; omega
    unfold Lib.compareBytes
    rw [if_neg hn, if_neg hn, cb_same l]
theorem rcompare_any (a b : Ad) (w : World) : Calls Try.prog 60 #[(Value.agg (acells a).toArray), (Value.agg (acells b).toArray)] w (Gives w (.int .i64 (cmpA a b))) := by
  have HL : Hid (∀ i x y, (∀ j, j < i → a.l[j]? = b.l[j]?) → a.l[i]? = some x → b.l[i]? = some y → x ≠ y → cmpA a b = if x < y then -1 else 1) := fun i x y h1 h2 h3 h4 => cb_at a.l b.l i x y h1 h2 h3 h4 (by rw [a.len, b.len])
  have HE : Hid ((∀ j, j < 16 → a.l[j]? = b.l[j]?) → cmpA a b = 0) := fun h => by
    have e : a.l = b.l := by
      apply List.ext_getElem?
      intro j
      by_cases hj : j < 16
      · exact h j hj
      · rw [List.getElem?_eq_none (by rw [a.len]; omega), List.getElem?_eq_none (by rw [b.len]; omega)]
    unfold cmpA
    rw [e, cb_same]
  generalize cmpA a b = f at *
  go_enter Try.func60, Try.ntmps60
  go_wp2
  refine name_world (R := fun W => Code.wp _ _ _ _ W) (P := fun W => Below w.heap.size w W ∧ LA W w.heap.size 0 a ∧ LA W (w.heap.size + 1) 0 b) _ ⟨bt (ba _ _) (ba _ _), (LA.new _ _ _).alloc _, by have := LA.new (w.alloc (.cells (acells a).toArray 32)) b 32; simpa using this⟩ ?_
  rintro X ⟨hb, hA, hB⟩
  go_loopw [5] (fun i wr => ∃ j : Nat, j ≤ 16 ∧ i = .int .i64 j ∧ (∀ i, i < j → a.l[i]? = b.l[i]?) ∧ ∃ nq, wr = X.drewN nq) (fun i _ => 16 - (intOf i).toNat)
  case atStart => exact ⟨0, by omega, rfl, (fun i hi => by omega), 0, rfl⟩
  case round =>
    obtain ⟨j, hj, rfl, hok, nq0, rfl⟩ := hrel
    by_cases hlt : j < 16
    · obtain ⟨x, hx⟩ : ∃ x, a.l[j]? = some x := ⟨_, List.getElem?_eq_getElem (by rw [a.len]; omega)⟩
      obtain ⟨y, hy⟩ : ∃ y, b.l[j]? = some y := ⟨_, List.getElem?_eq_getElem (by rw [b.len]; omega)⟩
      have hc : X.cell? ⟨w.heap.size, j, none⟩ = some (.int .u8 x.toNat) := by simpa using hA j _ (bcells_get hx)
      have hd : X.cell? ⟨w.heap.size + 1, j, none⟩ = some (.int .u8 y.toNat) := by simpa using hB j _ (bcells_get hy)
      have hzx := x.toNat_lt
      have hzy := y.toNat_lt
      have HF : Hid (x ≠ y → f = if x < y then -1 else 1) := HL.out j x y hok hx hy
      have HN : Hid (x = y → ∀ i, i < j + 1 → a.l[i]? = b.l[i]?) := fun h i hi => by
        by_cases hij : i < j
        · exact hok i hij
        · obtain rfl : i = j := by omega
          rw [hx, hy, h]
      clear hok hx hy HL HE hA hB
      by_cases hxy : x = y
      · subst hxy
        go_wp2
        go_quiet (fail)
        go_wp2
        go_roundw
        case rel => exact ⟨j + 1, by omega, by go_num, HN.out trivial, nq0 + nq, rfl⟩
        case measure => simp [intOf]; omega
      · have hne : x.toNat ≠ y.toNat := fun h => hxy (UInt8.toNat.inj h)
        have hne' : ¬ (x.toNat : Int) = (y.toNat : Int) := by omega
        have hF : f = if x.toNat < y.toNat then -1 else 1 := by have := HF.out hxy; simpa only [UInt8.lt_iff_toNat_lt] using this
        by_cases hlt2 : x.toNat < y.toNat
        · have hl2 : (x.toNat : Int) < (y.toNat : Int) := by omega
          rw [if_pos hlt2] at hF
          subst hF
          go_wp2
          go_quiet (fail)
          go_wp2
          go_quiet (fail)
          go_wp2
          go_ret
          exact ⟨rfl, below_drewN (below_drewN (below_drewN hb _) _) _⟩
        · have hl2 : ¬ (x.toNat : Int) < (y.toNat : Int) := by omega
          rw [if_neg hlt2] at hF
          subst hF
          go_wp2
          go_quiet (fail)
          go_wp2
          go_quiet (fail)
          go_wp2
          go_ret
          exact ⟨rfl, below_drewN (below_drewN (below_drewN hb _) _) _⟩
    · obtain rfl : j = 16 := by omega
      have e0 := HE.out hok
      subst e0
      go_wp2
      go_ret
      exact ⟨rfl, below_drewN hb _⟩
theorem rcompareP_any (p q : Pf) (w : World) : Calls Try.prog 67 #[(Value.agg (pcells p).toArray), (Value.agg (pcells q).toArray)] w (Gives w (.int .i64 (cmpP p q))) := by
  have hC := rcompare_any p.a q.a
  obtain ⟨c, hc⟩ : ∃ c, cmpA p.a q.a = c := ⟨_, rfl⟩
  obtain ⟨n, hn⟩ : ∃ n, p.n = n := ⟨_, rfl⟩
  obtain ⟨m, hm⟩ : ∃ n, q.n = n := ⟨_, rfl⟩
  rw [hc] at hC
  have HF : Hid (cmpP p q = if c ≠ 0 then c else if n < m then -1 else if m < n then 1 else 0) := by
    show _ = _
    unfold cmpP orI
    rw [hc, hn, hm]
    by_cases h : c = 0
    · rw [if_pos h, if_neg (by simpa using h)]
      unfold cmpI
      rfl
    · rw [if_neg h, if_pos h]
  have hP := (LP.new w p 34).alloc (.cells (pcells q).toArray 34)
  have hQ : LP ((w.alloc (.cells (pcells p).toArray 34)).alloc (.cells (pcells q).toArray 34)) (w.heap.size + 1) 0 q := by
    have := LP.new (w.alloc (.cells (pcells p).toArray 34)) q 34
    simpa using this
  generalize cmpP p q = f at *
  by_cases h0 : c = 0
  · subst h0
    rw [if_neg (by simp)] at HF
    by_cases h1 : n < m
    · rw [if_pos h1] at HF
      go_enter Try.func67, Try.ntmps67
      go_wp2_with (first
        | (refine ldA (.tmp 6) rfl rfl _ _ p.a rfl hP.a ?_)
        | (refine ldA (.tmp 8) rfl rfl _ _ q.a rfl hQ.a ?_)
        | (go_at_call 60; refine (hC _).mono ?_; rintro e w1 ⟨rfl, hB1⟩; have hP1 : LP w1 w.heap.size 0 p := hP.below hB1 (by simp; omega); have hQ1 : LP w1 (w.heap.size + 1) 0 q := hQ.below hB1 (by simp); have c1 := hP1.n; have c2 := hQ1.n; rw [hn] at c1; rw [hm] at c2; simp only [Nat.zero_add] at c1 c2))
      go_ret
      exact ⟨by rw [HF.out]; rfl, bt (bt (ba _ _) (ba _ _)) hB1⟩
    · rw [if_neg h1] at HF
      by_cases h2 : m < n
      · rw [if_pos h2] at HF
        go_enter Try.func67, Try.ntmps67
        go_wp2_with (first
          | (refine ldA (.tmp 6) rfl rfl _ _ p.a rfl hP.a ?_)
          | (refine ldA (.tmp 8) rfl rfl _ _ q.a rfl hQ.a ?_)
          | (go_at_call 60; refine (hC _).mono ?_; rintro e w1 ⟨rfl, hB1⟩; have hP1 : LP w1 w.heap.size 0 p := hP.below hB1 (by simp; omega); have hQ1 : LP w1 (w.heap.size + 1) 0 q := hQ.below hB1 (by simp); have c1 := hP1.n; have c2 := hQ1.n; rw [hn] at c1; rw [hm] at c2; simp only [Nat.zero_add] at c1 c2))
        go_ret
        exact ⟨by rw [HF.out]; rfl, bt (bt (ba _ _) (ba _ _)) hB1⟩
      · rw [if_neg h2] at HF
        go_enter Try.func67, Try.ntmps67
        go_wp2_with (first
          | (refine ldA (.tmp 6) rfl rfl _ _ p.a rfl hP.a ?_)
          | (refine ldA (.tmp 8) rfl rfl _ _ q.a rfl hQ.a ?_)
          | (go_at_call 60; refine (hC _).mono ?_; rintro e w1 ⟨rfl, hB1⟩; have hP1 : LP w1 w.heap.size 0 p := hP.below hB1 (by simp; omega); have hQ1 : LP w1 (w.heap.size + 1) 0 q := hQ.below hB1 (by simp); have c1 := hP1.n; have c2 := hQ1.n; rw [hn] at c1; rw [hm] at c2; simp only [Nat.zero_add] at c1 c2))
        go_ret
        exact ⟨by rw [HF.out]; rfl, bt (bt (ba _ _) (ba _ _)) hB1⟩
  · rw [if_pos h0] at HF
    have h0' : (c == 0) = false := by simpa using h0
    have h0'' : ¬ c = 0 := h0
    go_enter Try.func67, Try.ntmps67
    go_wp2_with (first
      | (refine ldA (.tmp 6) rfl rfl _ _ p.a rfl hP.a ?_)
      | (refine ldA (.tmp 8) rfl rfl _ _ q.a rfl hQ.a ?_)
      | (go_at_call 60; refine (hC _).mono ?_; rintro e w1 ⟨rfl, hB1⟩))
    go_ret
    exact ⟨by rw [HF.out]; rfl, bt (bt (ba _ _) (ba _ _)) hB1⟩
theorem rcompareQ_any (p q : Pr) (w : World) : Calls Try.prog 59 #[(Value.agg (qcells p).toArray), (Value.agg (qcells q).toArray)] w (Gives w (.int .i64 (cmpQ p q))) := by
  have C1 := rcompareP_any p.d q.d
  have C2 := rcompareP_any p.s q.s
  have HE : Hid (cmpQ p q = orI (cmpP p.d q.d) (cmpP p.s q.s)) := rfl
  obtain ⟨hB, r0, r1⟩ := low_rows w (qcells p) (qcells q) 36 36
  generalize cmpQ p q = R at *
  generalize cmpP p.d q.d = x at *
  generalize cmpP p.s q.s = y at *
  go_enter Try.func59, Try.ntmps59
  go_upto_region 1 with fail
  refine name_world (R := fun W => Code.wp _ _ _ _ W) (P := fun W => Below w.heap.size w W ∧ LQ W w.heap.size 0 p ∧ LQ W (w.heap.size + 1) 0 q ∧ w.heap.size + 1 < W.heap.size) _ ⟨hB, r0.range, r1.range, r1.lt⟩ ?_
  clear hB r0 r1
  rintro X ⟨hB, hP, hQ, hs⟩
  have hs0 : w.heap.size < X.heap.size := by omega
  by_cases h0 : x = 0
  · have h0' : (x != 0) = false := by simpa using h0
    have hR : R = y := by rw [HE.out]; unfold orI; rw [if_pos h0]
    subst hR
    clear h0 HE
    go_wp2_with (first
      | (have kk := hB1; go_at_call 67; refine (C2 _).mono ?_; rintro e w2 ⟨rfl, hB2⟩)
      | (have kk := hB1; refine ldP (.tmp 14) rfl rfl _ _ p.s rfl (hP.below hB1 hs0).s ?_)
      | (have kk := hB1; refine ldP (.tmp 16) rfl rfl _ _ q.s rfl (hQ.below hB1 hs).s ?_)
      | (go_at_call 67; refine (C1 _).mono ?_; rintro e w1 ⟨rfl, hB1⟩)
      | (refine ldP (.tmp 6) rfl rfl _ _ p.d rfl hP.d ?_)
      | (refine ldP (.tmp 8) rfl rfl _ _ q.d rfl hQ.d ?_))
    go_ret
    exact ⟨rfl, bt hB (bt hB1 hB2)⟩
  · have h0' : (x != 0) = true := by simpa using h0
    have hR : R = x := by rw [HE.out]; unfold orI; rw [if_neg h0]
    subst hR
    clear h0 HE
    go_wp2_with (first
      | (go_at_call 67; refine (C1 _).mono ?_; rintro e w1 ⟨rfl, hB1⟩)
      | (refine ldP (.tmp 6) rfl rfl _ _ p.d rfl hP.d ?_)
      | (refine ldP (.tmp 8) rfl rfl _ _ q.d rfl hQ.d ?_))
    go_ret
    exact ⟨rfl, bt hB hB1⟩
def headB (x y : Ro) : Bool := decide (cmpN x y < 0)
theorem head_pair {x y : Ro} (h : ¬ cmpQ x.p y.p = 0) : headB x y = decide (cmpQ x.p y.p < 0) := by (have e : cmpN x y = cmpQ x.p y.p := if_neg h); unfold headB; rw [e]
theorem head_if {x y : Ro} (h : cmpQ x.p y.p = 0) (h2 : ¬ x.i = y.i) : headB x y = decide (x.i < y.i) := by
  have e : cmpN x y = orI (cmpQ x.p y.p) (orI (cmpI x.i y.i) (cmpA x.a y.a)) := rfl
  unfold headB
  rw [e, h]
  unfold orI
  rw [if_pos rfl]
  by_cases h3 : x.i < y.i
  · have e2 : cmpI x.i y.i = -1 := by unfold cmpI; rw [if_pos h3]
    rw [e2, if_neg (by omega), decide_eq_decide]
    exact ⟨fun _ => h3, fun _ => by omega⟩
  · have e2 : cmpI x.i y.i = 1 := by unfold cmpI; rw [if_neg h3, if_pos (by omega)]
    rw [e2, if_neg (by omega), decide_eq_decide]
    exact ⟨fun h => by omega, fun h => absurd h h3⟩
theorem head_addr {x y : Ro} (h : cmpQ x.p y.p = 0) (h2 : x.i = y.i) : headB x y = decide (cmpA x.a y.a < 0) := by
  have e : cmpN x y = orI (cmpQ x.p y.p) (orI (cmpI x.i y.i) (cmpA x.a y.a)) := rfl
  unfold headB
  rw [e, h]
  have e2 : cmpI x.i y.i = 0 := by unfold cmpI; rw [if_neg (by omega), if_neg (by omega)]
  unfold orI
  rw [if_pos rfl, e2, if_pos rfl]
theorem rahead_any (x y : Ro) (w : World) : Calls Try.prog 55 #[rV x, rV y] w (Gives w (.bool (headB x y))) := by
  have C1 := fun W => rcompareQ_any x.p y.p W
  have C2 := fun W => rcompare_any x.a y.a W
  have H1 : Hid (¬ cmpQ x.p y.p = 0 → headB x y = decide (cmpQ x.p y.p < 0)) := head_pair
  have H2 : Hid (cmpQ x.p y.p = 0 → ¬ x.i = y.i → headB x y = decide (x.i < y.i)) := head_if
  have H3 : Hid (cmpQ x.p y.p = 0 → x.i = y.i → headB x y = decide (cmpA x.a y.a < 0)) := head_addr
  obtain ⟨hB, r0, r1⟩ := low_rows w (ocs x) (ocs y) 41 41
  generalize headB x y = R at *
  generalize cmpQ x.p y.p = cq at *
  generalize cmpA x.a y.a = ca at *
  go_enter Try.func55, Try.ntmps55
  go_upto_region 1 with fail
  refine name_world (R := fun W => Code.wp _ _ _ _ W) (P := fun W => Below w.heap.size w W ∧ Row W w.heap.size 41 (ocs x) ∧ Row W (w.heap.size + 1) 41 (ocs y)) _ ⟨hB, r0, r1⟩ ?_
  clear hB r0 r1
  rintro X ⟨hB, r0, r1⟩
  go_upto_region 2 with (first
    | (go_at_call 59; refine (C1 _).mono ?_; rintro e w1 ⟨rfl, b1⟩)
    | ((with_reducible refine ldQ (.tmp 8) ?_ ?_ (w.heap.size + 1) 0 y.p ?_ ?_ ?_); (focus rfl); (focus rfl); (focus (repeat (first | with_reducible refine ev_ne ?_ rfl | with_reducible refine ev_no ?_ | (with_reducible refine ev_eq (n := 31) ?_ rfl; repeat (first | with_reducible refine sz_put ?_ | with_reducible refine sz_no ?_ | rfl)) | rfl))); (focus exact LS.q r1.ro))
    | ((with_reducible refine ldQ (.tmp 6) ?_ ?_ w.heap.size 0 x.p ?_ ?_ ?_); (focus rfl); (focus rfl); (focus (repeat (first | with_reducible refine ev_ne ?_ rfl | with_reducible refine ev_no ?_ | (with_reducible refine ev_eq (n := 31) ?_ rfl; repeat (first | with_reducible refine sz_put ?_ | with_reducible refine sz_no ?_ | rfl)) | rfl))); (focus exact LS.q r0.ro)))
  have q0 := r0.below b1 r0.lt
  have q1 := r1.below b1 r1.lt
  have c0 : w1.cell? ⟨w.heap.size, 34, none⟩ = some (.int .i64 x.i) := (q0.cell 34).trans (oc34 x)
  have c1 : w1.cell? ⟨w.heap.size + 1, 34, none⟩ = some (.int .i64 y.i) := (q1.cell 34).trans (oc34 y)
  have bX := bt hB b1
  clear r0 r1 hB C1 b1
  by_cases hq : cq = 0
  · have hq' : (cq != 0) = false := by simpa using hq
    by_cases hi : x.i = y.i
    · have hi' : (x.i != y.i) = false := by simpa using hi
      have HR : Hid (R = decide (ca < 0)) := H3.out hq hi
      clear hq hi H1 H2 H3
      go_wp2_with (first
        | (go_at_call 60; refine (C2 _).mono ?_; rintro e w2 ⟨rfl, b2⟩)
        | ((with_reducible refine ldA (.tmp 27) ?_ ?_ (w.heap.size + 1) 35 y.a ?_ ?_ ?_); (focus rfl); (focus rfl); (focus (repeat (first | with_reducible refine ev_ne ?_ rfl | with_reducible refine ev_no ?_ | (with_reducible refine ev_eq (n := 31) ?_ rfl; repeat (first | with_reducible refine sz_put ?_ | with_reducible refine sz_no ?_ | rfl)) | rfl))); (focus exact LS.a q1.ro))
        | ((with_reducible refine ldA (.tmp 25) ?_ ?_ w.heap.size 35 x.a ?_ ?_ ?_); (focus rfl); (focus rfl); (focus (repeat (first | with_reducible refine ev_ne ?_ rfl | with_reducible refine ev_no ?_ | (with_reducible refine ev_eq (n := 31) ?_ rfl; repeat (first | with_reducible refine sz_put ?_ | with_reducible refine sz_no ?_ | rfl)) | rfl))); (focus exact LS.a q0.ro)))
      go_ret
      exact ⟨by rw [HR.out]; rfl, bt bX b2⟩
    · have hi' : (x.i != y.i) = true := by simpa using hi
      have HR : Hid (R = decide (x.i < y.i)) := H2.out hq hi
      clear hq hi H1 H2 H3
      go_wp2_with fail
      go_ret
      exact ⟨by rw [HR.out]; rfl, bX⟩
  · have hq' : (cq != 0) = true := by simpa using hq
    have HR : Hid (R = decide (cq < 0)) := H1.out hq
    clear hq H1 H2 H3
    go_wp2_with fail
    go_ret
    exact ⟨by rw [HR.out]; rfl, bX⟩
end Go.Proofs.Ythofoocknmkdjaa
