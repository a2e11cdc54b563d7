/-
  The law AddrBack returns true: the walk.
-/
import Derived.Test.YtimpopolkofdgaaDoorPureB
import Derived.Test.YtimpopolkofdgaaDoorLiveF
namespace Go.Proofs.YtimpopolkofdgaaDoor
open Go.RowKit Go.Shelf
set_option linter.unusedSimpArgs false
set_option maxRecDepth 20000
theorem rowA {w : World} {g : Nat} {t : TypeId} {a : Ad} (h : Row w g t (acells a)) : LA w g 0 a := h.range
theorem rowP {w : World} {g : Nat} {t : TypeId} {a : Pf} (h : Row w g t (pcells a)) : LP w g 0 a := h.range
theorem rowQ {w : World} {g : Nat} {t : TypeId} {a : Pr} (h : Row w g t (qcells a)) : LQ w g 0 a := h.range
theorem three_B (w : World) (a : Ad) (p : Pf) (q : Pr) : ∀ W, Below (((w.alloc (.cells (acells a).toArray 23)).alloc (.cells (pcells p).toArray 25)).alloc (.cells (qcells q).toArray 27)).heap.size (((w.alloc (.cells (acells a).toArray 23)).alloc (.cells (pcells p).toArray 25)).alloc (.cells (qcells q).toArray 27)) W → LA W w.heap.size 0 a ∧ LP W (w.heap.size + 1) 0 p ∧ LQ W (w.heap.size + 1 + 1) 0 q := fun W hb => by
  have h1 := ((LA.new w a 23).alloc (.cells (pcells p).toArray 25)).alloc (.cells (qcells q).toArray 27)
  have h2 := (LP.new (w.alloc (.cells (acells a).toArray 23)) p 25).alloc (.cells (qcells q).toArray 27)
  have h3 := LQ.new ((w.alloc (.cells (acells a).toArray 23)).alloc (.cells (pcells p).toArray 25)) q 27
  simp only [World.size_alloc] at h2 h3
  exact ⟨h1.below hb (by simp; omega), h2.below hb (by simp), h3.below hb (by simp)⟩
set_option maxHeartbeats 8000000 in
theorem back_main (a : Ad) (p y : Pf) (q z : Pr) (w : World) (x f x' g : Int) (sa sp sq : List UInt8) (HG : Hid (∀ W, Below w.heap.size w W → Glob W ∧ Tz W ∧ 8 ≤ W.heap.size))
    (hL : ∀ W, Below w.heap.size w W → Calls Tryd.prog 15 #[] W (Gives W (.bool true)))
    (h1 : ∀ W, Glob W → Tz W → 8 ≤ W.heap.size → Calls Tryd.prog 7 #[(Value.agg (acells a).toArray)] W (Gives W (.string (str sa)))) (h2 : ∀ W, Glob W → 8 ≤ W.heap.size → Calls Tryd.prog 6 #[.string (str sa)] W (Gives W (.tuple #[(Value.agg (acells a).toArray), .int .i64 0])))
    (h3 : ∀ W, Glob W → Tz W → 8 ≤ W.heap.size → Calls Tryd.prog 10 #[(Value.agg (pcells p).toArray)] W (Gives W (.string (str sp)))) (h4 : ∀ W, Glob W → 8 ≤ W.heap.size → Calls Tryd.prog 9 #[.string (str sp)] W (Gives W (.tuple #[(Value.agg (pcells y).toArray), .int .i64 f])))
    (h5 : ∀ W, Glob W → Tz W → 8 ≤ W.heap.size → Calls Tryd.prog 13 #[(Value.agg (qcells q).toArray)] W (Gives W (.string (str sq)))) (h6 : ∀ W, Glob W → 8 ≤ W.heap.size → Calls Tryd.prog 12 #[.string (str sq)] W (Gives W (.tuple #[(Value.agg (qcells z).toArray), .int .i64 g])))
    (h7 : ∀ W, Calls Tryd.prog 11 #[(Value.agg (pcells p).toArray)] W (Gives W (.int .i64 x))) (h8 : ∀ W, Calls Tryd.prog 14 #[(Value.agg (qcells q).toArray)] W (Gives W (.int .i64 x')))
    (hx : x = 0 ∧ y = p ∧ f = 0 ∨ x = 21) (hx' : x' = 0 ∧ z = q ∧ g = 0 ∨ x' = 21) : Calls Tryd.prog 3 #[(Value.agg (acells a).toArray), (Value.agg (pcells p).toArray), (Value.agg (qcells q).toArray)] w (Gives w (.bool true)) := by
  have HK : Hid (∀ W, _ → LA W w.heap.size 0 a ∧ LP W (w.heap.size + 1) 0 p ∧ LQ W (w.heap.size + 1 + 1) 0 q) := three_B w a p q
  have hw0 : Below w.heap.size w (((w.alloc (.cells (acells a).toArray 23)).alloc (.cells (pcells p).toArray 25)).alloc (.cells (qcells q).toArray 27)) := bt (bt (ba _ _) (ba _ _)) (ba _ _)
  have hb0 := Below.refl (((w.alloc (.cells (acells a).toArray 23)).alloc (.cells (pcells p).toArray 25)).alloc (.cells (qcells q).toArray 27)).heap.size (((w.alloc (.cells (acells a).toArray 23)).alloc (.cells (pcells p).toArray 25)).alloc (.cells (qcells q).toArray 27))
  have HB : Hid (∀ W, Below (((w.alloc (.cells (acells a).toArray 23)).alloc (.cells (pcells p).toArray 25)).alloc (.cells (qcells q).toArray 27)).heap.size (((w.alloc (.cells (acells a).toArray 23)).alloc (.cells (pcells p).toArray 25)).alloc (.cells (qcells q).toArray 27)) W → Below w.heap.size w W) := fun W h => bt hw0 h
  clear hw0
  have ea : ∀ w, (Op.equalIn (9998 + 2) 23 (Value.agg (acells a).toArray) (Value.agg (acells a).toArray)).run Tryd.prog w = .ok true w := fun w => by rw [eqA]; simp
  have ep : ∀ w, (Op.equalIn (9997 + 3) 25 (Value.agg (pcells p).toArray) (Value.agg (pcells p).toArray)).run Tryd.prog w = .ok true w := fun w => by rw [eqP]; simp
  have eq : ∀ w, (Op.equalIn (9996 + 4) 27 (Value.agg (qcells q).toArray) (Value.agg (qcells q).toArray)).run Tryd.prog w = .ok true w := fun w => by rw [eqQ]; simp
  have hn0 := num_any 0 (by decide) (by decide)
  have hn21 := num_any 21 (by decide) (by decide)
  rcases hx with ⟨rfl, rfl, rfl⟩ | rfl <;> rcases hx' with ⟨rfl, rfl, rfl⟩ | rfl
  · go_enter Tryd.func3, Tryd.ntmps3
    go_wp2_with (first
      | ((with_reducible refine ldA (.tmp 3) ?_ rfl _ _ a ?_ (HK.out _ hb0).1 ?_); (focus rfl); (focus rfl))
      | ((with_reducible refine ldP (.tmp 4) ?_ rfl _ _ _ ?_ (HK.out _ hb0).2.1 ?_); (focus rfl); (focus rfl))
      | ((with_reducible refine ldA (.tmp 7) ?_ rfl _ _ a ?_ (rowA r7) ?_); (focus rfl); (focus rfl))
      | ((with_reducible refine ldP (.tmp 9) ?_ rfl _ _ _ ?_ (rowP r9) ?_); (focus rfl); (focus rfl))
      | (have k1 := hW2; refine stAq (.tmp 7) (.tmp 17) (by rfl) rfl _ _ a rfl rfl (Row.there (Row.new _ _ _) (by simp)) ?_; intro w3 hw3; have hst := hw3.out ▸ storedRow w2 _ _ a (by simp); clear hw3; obtain ⟨hB, r7, -⟩ := hst; replace hb0 := bt hb0 hB; clear hB k1)
      | (have k1 := hW4; refine stPq (.tmp 9) (.tmp 31) (by rfl) rfl _ _ y rfl rfl (Row.there (Row.new _ _ _) (by simp)) ?_; intro w6 hw6; have hst := hw6.out ▸ storedRowP w5 _ _ y (by simp); clear hw6; obtain ⟨hB, r9, -⟩ := hst; replace hb0 := bt hb0 hB; clear hB k1)
      | (go_at_call 7; have hh := HG.out _ (HB.out _ hb0); refine (h1 _ hh.1 hh.2.1 hh.2.2).mono ?_; rintro e w1 ⟨rfl, hB⟩; replace hb0 := bt hb0 hB; clear hB hh)
      | (go_at_call 6; have hh := HG.out _ (HB.out _ hb0); refine (h2 _ hh.1 hh.2.2).mono ?_; rintro e w2 ⟨rfl, hW2⟩; replace hb0 := bt hb0 hW2; clear hh)
      | (go_at_call 10; have hh := HG.out _ (HB.out _ hb0); refine (h3 _ hh.1 hh.2.1 hh.2.2).mono ?_; rintro e w4 ⟨rfl, hB⟩; replace hb0 := bt hb0 hB; clear hB hh r7)
      | (go_at_call 9; have hh := HG.out _ (HB.out _ hb0); refine (h4 _ hh.1 hh.2.2).mono ?_; rintro e w5 ⟨rfl, hW4⟩; replace hb0 := bt hb0 hW4; clear hh hW2)
      | (go_at_call 11; refine (h7 _).mono ?_; rintro e w7 ⟨rfl, hB⟩; replace hb0 := bt hb0 hB; replace r9 := r9.below hB r9.lt; clear hB)
      | ((with_reducible refine ldQ (.tmp 5) ?_ rfl _ _ _ ?_ (HK.out _ hb0).2.2 ?_); (focus rfl); (focus rfl))
      | ((with_reducible refine ldQ (.tmp 11) ?_ rfl _ _ _ ?_ (rowQ r11) ?_); (focus rfl); (focus rfl))
      | (have k1 := hW6; refine stQq (.tmp 11) (.tmp 51) (by rfl) rfl _ _ z rfl rfl (Row.there (Row.new _ _ _) (by simp)) ?_; intro w10 hw10; have hst := hw10.out ▸ storedRowQ w9 _ _ z (by simp); clear hw10; obtain ⟨hB, r11, -⟩ := hst; replace hb0 := bt hb0 hB; clear hB k1)
      | (go_at_call 13; have hh := HG.out _ (HB.out _ hb0); refine (h5 _ hh.1 hh.2.1 hh.2.2).mono ?_; rintro e w8 ⟨rfl, hB⟩; replace hb0 := bt hb0 hB; clear hB hh r9)
      | (go_at_call 12; have hh := HG.out _ (HB.out _ hb0); refine (h6 _ hh.1 hh.2.2).mono ?_; rintro e w9 ⟨rfl, hW6⟩; replace hb0 := bt hb0 hW6; clear hh hW4)
      | (go_at_call 14; refine (h8 _).mono ?_; rintro e w11 ⟨rfl, hB⟩; replace hb0 := bt hb0 hB; replace r11 := r11.below hB r11.lt; clear hB)
      | (go_at_call 15; refine (hL _ (HB.out _ hb0)).mono ?_; rintro e w12 ⟨rfl, hB⟩; replace hb0 := bt hb0 hB; clear hB)
      | (go_at_call 8; with_reducible refine (hn0 _).mono ?_; rintro e w13 ⟨rfl, rfl⟩))
    go_ret
    exact ⟨rfl, HB.out _ hb0⟩
  · go_enter Tryd.func3, Tryd.ntmps3
    go_wp2_with (first
      | ((with_reducible refine ldA (.tmp 3) ?_ rfl _ _ a ?_ (HK.out _ hb0).1 ?_); (focus rfl); (focus rfl))
      | ((with_reducible refine ldP (.tmp 4) ?_ rfl _ _ _ ?_ (HK.out _ hb0).2.1 ?_); (focus rfl); (focus rfl))
      | ((with_reducible refine ldA (.tmp 7) ?_ rfl _ _ a ?_ (rowA r7) ?_); (focus rfl); (focus rfl))
      | ((with_reducible refine ldP (.tmp 9) ?_ rfl _ _ _ ?_ (rowP r9) ?_); (focus rfl); (focus rfl))
      | (have k1 := hW2; refine stAq (.tmp 7) (.tmp 17) (by rfl) rfl _ _ a rfl rfl (Row.there (Row.new _ _ _) (by simp)) ?_; intro w3 hw3; have hst := hw3.out ▸ storedRow w2 _ _ a (by simp); clear hw3; obtain ⟨hB, r7, -⟩ := hst; replace hb0 := bt hb0 hB; clear hB k1)
      | (have k1 := hW4; refine stPq (.tmp 9) (.tmp 31) (by rfl) rfl _ _ y rfl rfl (Row.there (Row.new _ _ _) (by simp)) ?_; intro w6 hw6; have hst := hw6.out ▸ storedRowP w5 _ _ y (by simp); clear hw6; obtain ⟨hB, r9, -⟩ := hst; replace hb0 := bt hb0 hB; clear hB k1)
      | (go_at_call 7; have hh := HG.out _ (HB.out _ hb0); refine (h1 _ hh.1 hh.2.1 hh.2.2).mono ?_; rintro e w1 ⟨rfl, hB⟩; replace hb0 := bt hb0 hB; clear hB hh)
      | (go_at_call 6; have hh := HG.out _ (HB.out _ hb0); refine (h2 _ hh.1 hh.2.2).mono ?_; rintro e w2 ⟨rfl, hW2⟩; replace hb0 := bt hb0 hW2; clear hh)
      | (go_at_call 10; have hh := HG.out _ (HB.out _ hb0); refine (h3 _ hh.1 hh.2.1 hh.2.2).mono ?_; rintro e w4 ⟨rfl, hB⟩; replace hb0 := bt hb0 hB; clear hB hh r7)
      | (go_at_call 9; have hh := HG.out _ (HB.out _ hb0); refine (h4 _ hh.1 hh.2.2).mono ?_; rintro e w5 ⟨rfl, hW4⟩; replace hb0 := bt hb0 hW4; clear hh hW2)
      | (go_at_call 11; refine (h7 _).mono ?_; rintro e w7 ⟨rfl, hB⟩; replace hb0 := bt hb0 hB; replace r9 := r9.below hB r9.lt; clear hB)
      | ((with_reducible refine ldQ (.tmp 5) ?_ rfl _ _ _ ?_ (HK.out _ hb0).2.2 ?_); (focus rfl); (focus rfl))
      | ((with_reducible refine ldQ (.tmp 11) ?_ rfl _ _ _ ?_ (rowQ r11) ?_); (focus rfl); (focus rfl))
      | (have k1 := hW6; refine stQq (.tmp 11) (.tmp 51) (by rfl) rfl _ _ z rfl rfl (Row.there (Row.new _ _ _) (by simp)) ?_; intro w10 hw10; have hst := hw10.out ▸ storedRowQ w9 _ _ z (by simp); clear hw10; obtain ⟨hB, r11, -⟩ := hst; replace hb0 := bt hb0 hB; clear hB k1)
      | (go_at_call 13; have hh := HG.out _ (HB.out _ hb0); refine (h5 _ hh.1 hh.2.1 hh.2.2).mono ?_; rintro e w8 ⟨rfl, hB⟩; replace hb0 := bt hb0 hB; clear hB hh r9)
      | (go_at_call 12; have hh := HG.out _ (HB.out _ hb0); refine (h6 _ hh.1 hh.2.2).mono ?_; rintro e w9 ⟨rfl, hW6⟩; replace hb0 := bt hb0 hW6; clear hh hW4)
      | (go_at_call 14; refine (h8 _).mono ?_; rintro e w11 ⟨rfl, hB⟩; replace hb0 := bt hb0 hB; replace r11 := r11.below hB r11.lt; clear hB)
      | (go_at_call 15; refine (hL _ (HB.out _ hb0)).mono ?_; rintro e w12 ⟨rfl, hB⟩; replace hb0 := bt hb0 hB; clear hB)
      | (go_at_call 8; (first | (have kk := r11; clear kk; with_reducible refine (hn21 _).mono ?_; rintro e w13 ⟨rfl, rfl⟩; refine Hid.out ?_) | (with_reducible refine (hn0 _).mono ?_; rintro e w13 ⟨rfl, rfl⟩))))
    unfold Hid
    clear h5 h6 h8 r11 hW6
    go_wp2_with (go_at_call 15; refine (hL _ (HB.out _ hb0)).mono ?_; rintro e w12 ⟨rfl, hB⟩; replace hb0 := bt hb0 hB; clear hB)
    go_ret
    exact ⟨rfl, HB.out _ hb0⟩
  · go_enter Tryd.func3, Tryd.ntmps3
    go_wp2_with (first
      | ((with_reducible refine ldA (.tmp 3) ?_ rfl _ _ a ?_ (HK.out _ hb0).1 ?_); (focus rfl); (focus rfl))
      | ((with_reducible refine ldP (.tmp 4) ?_ rfl _ _ _ ?_ (HK.out _ hb0).2.1 ?_); (focus rfl); (focus rfl))
      | ((with_reducible refine ldA (.tmp 7) ?_ rfl _ _ a ?_ (rowA r7) ?_); (focus rfl); (focus rfl))
      | ((with_reducible refine ldP (.tmp 9) ?_ rfl _ _ _ ?_ (rowP r9) ?_); (focus rfl); (focus rfl))
      | (have k1 := hW2; refine stAq (.tmp 7) (.tmp 17) (by rfl) rfl _ _ a rfl rfl (Row.there (Row.new _ _ _) (by simp)) ?_; intro w3 hw3; have hst := hw3.out ▸ storedRow w2 _ _ a (by simp); clear hw3; obtain ⟨hB, r7, -⟩ := hst; replace hb0 := bt hb0 hB; clear hB k1)
      | (have k1 := hW4; refine stPq (.tmp 9) (.tmp 31) (by rfl) rfl _ _ y rfl rfl (Row.there (Row.new _ _ _) (by simp)) ?_; intro w6 hw6; have hst := hw6.out ▸ storedRowP w5 _ _ y (by simp); clear hw6; obtain ⟨hB, r9, -⟩ := hst; replace hb0 := bt hb0 hB; clear hB k1)
      | (go_at_call 7; have hh := HG.out _ (HB.out _ hb0); refine (h1 _ hh.1 hh.2.1 hh.2.2).mono ?_; rintro e w1 ⟨rfl, hB⟩; replace hb0 := bt hb0 hB; clear hB hh)
      | (go_at_call 6; have hh := HG.out _ (HB.out _ hb0); refine (h2 _ hh.1 hh.2.2).mono ?_; rintro e w2 ⟨rfl, hW2⟩; replace hb0 := bt hb0 hW2; clear hh)
      | (go_at_call 10; have hh := HG.out _ (HB.out _ hb0); refine (h3 _ hh.1 hh.2.1 hh.2.2).mono ?_; rintro e w4 ⟨rfl, hB⟩; replace hb0 := bt hb0 hB; clear hB hh r7)
      | (go_at_call 9; have hh := HG.out _ (HB.out _ hb0); refine (h4 _ hh.1 hh.2.2).mono ?_; rintro e w5 ⟨rfl, hW4⟩; replace hb0 := bt hb0 hW4; clear hh hW2)
      | (go_at_call 11; refine (h7 _).mono ?_; rintro e w7 ⟨rfl, hB⟩; replace hb0 := bt hb0 hB; replace r9 := r9.below hB r9.lt; clear hB)
      | (go_at_call 8; (first | (have kk := r9; clear kk; with_reducible refine (hn21 _).mono ?_; rintro e w13 ⟨rfl, rfl⟩; refine Hid.out ?_) | (with_reducible refine (hn0 _).mono ?_; rintro e w13 ⟨rfl, rfl⟩))))
    unfold Hid
    clear h1 h2 h3 h4 h7 r9 hW4
    go_wp2_with (first
      | ((with_reducible refine ldQ (.tmp 5) ?_ rfl _ _ _ ?_ (HK.out _ hb0).2.2 ?_); (focus rfl); (focus rfl))
      | ((with_reducible refine ldQ (.tmp 11) ?_ rfl _ _ _ ?_ (rowQ r11) ?_); (focus rfl); (focus rfl))
      | (have k1 := hW6; refine stQq (.tmp 11) (.tmp 51) (by rfl) rfl _ _ z rfl rfl (Row.there (Row.new _ _ _) (by simp)) ?_; intro w10 hw10; have hst := hw10.out ▸ storedRowQ w9 _ _ z (by simp); clear hw10; obtain ⟨hB, r11, -⟩ := hst; replace hb0 := bt hb0 hB; clear hB k1)
      | (go_at_call 13; have hh := HG.out _ (HB.out _ hb0); refine (h5 _ hh.1 hh.2.1 hh.2.2).mono ?_; rintro e w8 ⟨rfl, hB⟩; replace hb0 := bt hb0 hB; clear hB hh)
      | (go_at_call 12; have hh := HG.out _ (HB.out _ hb0); refine (h6 _ hh.1 hh.2.2).mono ?_; rintro e w9 ⟨rfl, hW6⟩; replace hb0 := bt hb0 hW6; clear hh)
      | (go_at_call 14; refine (h8 _).mono ?_; rintro e w11 ⟨rfl, hB⟩; replace hb0 := bt hb0 hB; replace r11 := r11.below hB r11.lt; clear hB)
      | (go_at_call 15; refine (hL _ (HB.out _ hb0)).mono ?_; rintro e w12 ⟨rfl, hB⟩; replace hb0 := bt hb0 hB; clear hB)
      | (go_at_call 8; with_reducible refine (hn0 _).mono ?_; rintro e w13 ⟨rfl, rfl⟩))
    go_ret
    exact ⟨rfl, HB.out _ hb0⟩
  · go_enter Tryd.func3, Tryd.ntmps3
    go_wp2_with (first
      | ((with_reducible refine ldA (.tmp 3) ?_ rfl _ _ a ?_ (HK.out _ hb0).1 ?_); (focus rfl); (focus rfl))
      | ((with_reducible refine ldP (.tmp 4) ?_ rfl _ _ _ ?_ (HK.out _ hb0).2.1 ?_); (focus rfl); (focus rfl))
      | ((with_reducible refine ldA (.tmp 7) ?_ rfl _ _ a ?_ (rowA r7) ?_); (focus rfl); (focus rfl))
      | ((with_reducible refine ldP (.tmp 9) ?_ rfl _ _ _ ?_ (rowP r9) ?_); (focus rfl); (focus rfl))
      | (have k1 := hW2; refine stAq (.tmp 7) (.tmp 17) (by rfl) rfl _ _ a rfl rfl (Row.there (Row.new _ _ _) (by simp)) ?_; intro w3 hw3; have hst := hw3.out ▸ storedRow w2 _ _ a (by simp); clear hw3; obtain ⟨hB, r7, -⟩ := hst; replace hb0 := bt hb0 hB; clear hB k1)
      | (have k1 := hW4; refine stPq (.tmp 9) (.tmp 31) (by rfl) rfl _ _ y rfl rfl (Row.there (Row.new _ _ _) (by simp)) ?_; intro w6 hw6; have hst := hw6.out ▸ storedRowP w5 _ _ y (by simp); clear hw6; obtain ⟨hB, r9, -⟩ := hst; replace hb0 := bt hb0 hB; clear hB k1)
      | (go_at_call 7; have hh := HG.out _ (HB.out _ hb0); refine (h1 _ hh.1 hh.2.1 hh.2.2).mono ?_; rintro e w1 ⟨rfl, hB⟩; replace hb0 := bt hb0 hB; clear hB hh)
      | (go_at_call 6; have hh := HG.out _ (HB.out _ hb0); refine (h2 _ hh.1 hh.2.2).mono ?_; rintro e w2 ⟨rfl, hW2⟩; replace hb0 := bt hb0 hW2; clear hh)
      | (go_at_call 10; have hh := HG.out _ (HB.out _ hb0); refine (h3 _ hh.1 hh.2.1 hh.2.2).mono ?_; rintro e w4 ⟨rfl, hB⟩; replace hb0 := bt hb0 hB; clear hB hh r7)
      | (go_at_call 9; have hh := HG.out _ (HB.out _ hb0); refine (h4 _ hh.1 hh.2.2).mono ?_; rintro e w5 ⟨rfl, hW4⟩; replace hb0 := bt hb0 hW4; clear hh hW2)
      | (go_at_call 11; refine (h7 _).mono ?_; rintro e w7 ⟨rfl, hB⟩; replace hb0 := bt hb0 hB; replace r9 := r9.below hB r9.lt; clear hB)
      | (go_at_call 8; (first | (have kk := r9; clear kk; with_reducible refine (hn21 _).mono ?_; rintro e w13 ⟨rfl, rfl⟩; refine Hid.out ?_) | (with_reducible refine (hn0 _).mono ?_; rintro e w13 ⟨rfl, rfl⟩))))
    unfold Hid
    clear h1 h2 h3 h4 h7 r9 hW4
    go_wp2_with (first
      | ((with_reducible refine ldQ (.tmp 5) ?_ rfl _ _ _ ?_ (HK.out _ hb0).2.2 ?_); (focus rfl); (focus rfl))
      | ((with_reducible refine ldQ (.tmp 11) ?_ rfl _ _ _ ?_ (rowQ r11) ?_); (focus rfl); (focus rfl))
      | (have k1 := hW6; refine stQq (.tmp 11) (.tmp 51) (by rfl) rfl _ _ z rfl rfl (Row.there (Row.new _ _ _) (by simp)) ?_; intro w10 hw10; have hst := hw10.out ▸ storedRowQ w9 _ _ z (by simp); clear hw10; obtain ⟨hB, r11, -⟩ := hst; replace hb0 := bt hb0 hB; clear hB k1)
      | (go_at_call 13; have hh := HG.out _ (HB.out _ hb0); refine (h5 _ hh.1 hh.2.1 hh.2.2).mono ?_; rintro e w8 ⟨rfl, hB⟩; replace hb0 := bt hb0 hB; clear hB hh)
      | (go_at_call 12; have hh := HG.out _ (HB.out _ hb0); refine (h6 _ hh.1 hh.2.2).mono ?_; rintro e w9 ⟨rfl, hW6⟩; replace hb0 := bt hb0 hW6; clear hh)
      | (go_at_call 14; refine (h8 _).mono ?_; rintro e w11 ⟨rfl, hB⟩; replace hb0 := bt hb0 hB; replace r11 := r11.below hB r11.lt; clear hB)
      | (go_at_call 15; refine (hL _ (HB.out _ hb0)).mono ?_; rintro e w12 ⟨rfl, hB⟩; replace hb0 := bt hb0 hB; clear hB)
      | (go_at_call 8; (first | (have kk := r11; clear kk; with_reducible refine (hn21 _).mono ?_; rintro e w13 ⟨rfl, rfl⟩; refine Hid.out ?_) | (with_reducible refine (hn0 _).mono ?_; rintro e w13 ⟨rfl, rfl⟩))))
    unfold Hid
    clear h5 h6 h8 r11 hW6
    go_wp2_with (go_at_call 15; refine (hL _ (HB.out _ hb0)).mono ?_; rintro e w12 ⟨rfl, hB⟩; replace hb0 := bt hb0 hB; clear hB)
    go_ret
    exact ⟨rfl, HB.out _ hb0⟩
theorem back_walk (a : Ad) (p : Pf) (q : Pr) (w : World) (g1 : Glob w) (g2 : Tz w) (g3 : 8 ≤ w.heap.size) (hL : ∀ W, Below w.heap.size w W → Calls Tryd.prog 15 #[] W (Gives W (.bool true))) : Calls Tryd.prog 3 #[(Value.agg (acells a).toArray), (Value.agg (pcells p).toArray), (Value.agg (qcells q).toArray)] w (Gives w (.bool true)) := by
  have hl1 := prtA_len a
  have hl2 := prtP_len p
  have hl3 : (prtQ q).length ≤ 300 := by
    have k1 := prtP_len q.d
    have k2 := prtP_len q.s
    unfold prtQ
    split
    · simp
    · split
      · simp only [List.length_append, List.length_cons, List.length_nil]; omega
      · omega
  have h2 := fun W h1 h2 => parse_any (prtA a) W h1 h2 (by omega)
  rw [show prsV (prtA a) = .tuple #[(Value.agg (acells a).toArray), .int .i64 0] by rw [prsV, prs_back]] at h2
  refine back_main a p (prf (prtP p)).1 q (prq (prtQ q)).1 w (chk p) (prf (prtP p)).2 (chkQ q) (prq (prtQ q)).2 (prtA a) (prtP p) (prtQ q) (fun W hb => ⟨g1.keep hb g3, g2.keep hb g3, Nat.le_trans g3 hb.size⟩) hL (fun W k1 k2 k3 => print_any a W k1 k2 k3) h2 (fun W k1 k2 k3 => printP_any p W k1 k2 k3) (fun W k1 k2 => pfx_any (prtP p) W k1 k2 (by omega)) (fun W k1 k2 k3 => printQ_any q W k1 k2 k3) (fun W k1 k2 => ppair_any (prtQ q) W k1 k2 (by omega)) (check_any p) (checkQ_any q) ?_ ?_
  · rcases chk_or p with ⟨h, _⟩ | h
    · exact .inl ⟨h, by rw [prf_back h], by rw [prf_back h]⟩
    · exact .inr h
  · rcases chkQ_or q with h | h
    · exact .inl ⟨h, by rw [prq_back h], by rw [prq_back h]⟩
    · exact .inr h
end Go.Proofs.YtimpopolkofdgaaDoor
