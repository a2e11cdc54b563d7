/-
  AddrTree: the walk, for every two prefixes and every address.
-/
import Derived.Test.YtimpopolkofdgaaDoorPure
import Derived.Test.YtimpopolkofdgaaDoorLiveF
namespace Go.Proofs.YtimpopolkofdgaaDoor
open Go.RowKit Go.Shelf
set_option linter.unusedSimpArgs false
set_option maxRecDepth 20000
theorem two_P (w : World) (p q : Pf) (a : Ad) : ∀ W, Below (((w.alloc (.cells (pcells p).toArray 25)).alloc (.cells (pcells q).toArray 25)).alloc (.cells (acells a).toArray 23)).heap.size (((w.alloc (.cells (pcells p).toArray 25)).alloc (.cells (pcells q).toArray 25)).alloc (.cells (acells a).toArray 23)) W → LP W w.heap.size 0 p ∧ LP W (w.heap.size + 1) 0 q ∧ LA W (w.heap.size + 1 + 1) 0 a := fun W hb => by
  have h1 := ((LP.new w p 25).alloc (.cells (pcells q).toArray 25)).alloc (.cells (acells a).toArray 23)
  have h2 := (LP.new (w.alloc (.cells (pcells p).toArray 25)) q 25).alloc (.cells (acells a).toArray 23)
  have h3 := LA.new ((w.alloc (.cells (pcells p).toArray 25)).alloc (.cells (pcells q).toArray 25)) a 23
  simp only [World.size_alloc] at h2 h3
  exact ⟨h1.below hb (by simp; omega), h2.below hb (by simp), h3.below hb (by simp)⟩
set_option maxHeartbeats 32000000 in
theorem tree_main (p q : Pf) (a : Ad) (w : World) (b1 b2 c1 c2 : Bool) (h1 : (b1 && b2) = true → (c1 || c2) = true) (hL : ∀ W, Below w.heap.size w W → Calls Tryd.prog 15 #[] W (Gives W (.bool true)))
    (hCp : ∀ w, Calls Tryd.prog 11 #[(Value.agg (pcells p).toArray)] w (Gives w (.int .i64 0))) (hCq : ∀ w, Calls Tryd.prog 11 #[(Value.agg (pcells q).toArray)] w (Gives w (.int .i64 0)))
    (hK1 : ∀ w, Calls Tryd.prog 16 #[(Value.agg (pcells p).toArray), (Value.agg (acells a).toArray)] w (Gives w (.bool b1))) (hK2 : ∀ w, Calls Tryd.prog 16 #[(Value.agg (pcells q).toArray), (Value.agg (acells a).toArray)] w (Gives w (.bool b2)))
    (hV1 : ∀ w, Calls Tryd.prog 17 #[(Value.agg (pcells p).toArray), (Value.agg (pcells q).toArray)] w (Gives w (.bool c1))) (hV2 : ∀ w, Calls Tryd.prog 17 #[(Value.agg (pcells q).toArray), (Value.agg (pcells p).toArray)] w (Gives w (.bool c2))) (hV3 : ∀ w, Calls Tryd.prog 17 #[(Value.agg (pcells p).toArray), (Value.agg (pcells p).toArray)] w (Gives w (.bool true)))
    (he : ∀ w, (Op.equalIn (9997 + 3) 25 (Value.agg (pcells p).toArray) (Value.agg (pcells q).toArray)).run Tryd.prog w = .ok (c1 && c2) w) : Calls Tryd.prog 4 #[(Value.agg (pcells p).toArray), (Value.agg (pcells q).toArray), (Value.agg (acells a).toArray)] w (Gives w (.bool true)) := by
  have HK : Hid (∀ W, _ → LP W w.heap.size 0 p ∧ LP W (w.heap.size + 1) 0 q ∧ LA W (w.heap.size + 1 + 1) 0 a) := two_P w p q a
  have hb0 := Below.refl (((w.alloc (.cells (pcells p).toArray 25)).alloc (.cells (pcells q).toArray 25)).alloc (.cells (acells a).toArray 23)).heap.size (((w.alloc (.cells (pcells p).toArray 25)).alloc (.cells (pcells q).toArray 25)).alloc (.cells (acells a).toArray 23))
  have hw0 : Below w.heap.size w (((w.alloc (.cells (pcells p).toArray 25)).alloc (.cells (pcells q).toArray 25)).alloc (.cells (acells a).toArray 23)) := bt (bt (ba _ _) (ba _ _)) (ba _ _)
  have hn0 := num_any 0 (by decide) (by decide)
  cases b1 <;> cases b2 <;> cases c1 <;> cases c2 <;> first | (exact absurd (h1 rfl) (by decide)) | skip
  all_goals clear h1
  all_goals go_enter Tryd.func4, Tryd.ntmps4
  all_goals go_wp2_with (first
      | (refine ldP (.tmp 3) (by rfl) rfl _ _ p rfl (HK.out _ hb0).1 ?_)
      | (refine ldP (.tmp 4) (by rfl) rfl _ _ q rfl (HK.out _ hb0).2.1 ?_)
      | (refine ldA (.tmp 5) (by rfl) rfl _ _ a rfl (HK.out _ hb0).2.2 ?_)
      | (go_at_call 15; refine (hL _ hw0).mono ?_; rintro e w3 ⟨rfl, hB⟩; have hw0 := bt hw0 hB)
      | (go_at_call 8; refine (hn0 _).mono ?_; rintro e w15 ⟨rfl, rfl⟩)
      | (go_at_call 11; have hh := k1; refine (hCq _).mono ?_; rintro e w2 ⟨rfl, hB⟩; have hb0 := bt hb0 hB; have hw0 := bt hw0 hB; have k2 := hB)
      | (go_at_call 11; refine (hCp _).mono ?_; rintro e w1 ⟨rfl, hB⟩; have hb0 := bt hb0 hB; have hw0 := bt hw0 hB; have k1 := hB)
      | (go_at_call 16; (first | (with_reducible refine (hK1 _).mono ?_) | (with_reducible refine (hK2 _).mono ?_)); rintro e w2 ⟨rfl, hB⟩; have hb0 := bt hb0 hB; have hw0 := bt hw0 hB)
      | (go_at_call 17; (first | (with_reducible refine (hV3 _).mono ?_) | (with_reducible refine (hV1 _).mono ?_) | (with_reducible refine (hV2 _).mono ?_)); rintro e w2 ⟨rfl, hB⟩; have hb0 := bt hb0 hB; have hw0 := bt hw0 hB))
  all_goals (go_ret; exact ⟨rfl, hw0⟩)
set_option maxHeartbeats 8000000 in
theorem tree_walk (p q : Pf) (a : Ad) (w : World) (hL : ∀ W, Below w.heap.size w W → Calls Tryd.prog 15 #[] W (Gives W (.bool true))) : Calls Tryd.prog 4 #[(Value.agg (pcells p).toArray), (Value.agg (pcells q).toArray), (Value.agg (acells a).toArray)] w (Gives w (.bool true)) := by
  have HK : Hid (∀ W, _ → LP W w.heap.size 0 p ∧ LP W (w.heap.size + 1) 0 q ∧ LA W (w.heap.size + 1 + 1) 0 a) := two_P w p q a
  have hb0 := Below.refl (((w.alloc (.cells (pcells p).toArray 25)).alloc (.cells (pcells q).toArray 25)).alloc (.cells (acells a).toArray 23)).heap.size (((w.alloc (.cells (pcells p).toArray 25)).alloc (.cells (pcells q).toArray 25)).alloc (.cells (acells a).toArray 23))
  have hw0 : Below w.heap.size w (((w.alloc (.cells (pcells p).toArray 25)).alloc (.cells (pcells q).toArray 25)).alloc (.cells (acells a).toArray 23)) := bt (bt (ba _ _) (ba _ _)) (ba _ _)
  have hCp := check_any p
  have hCq := check_any q
  have hn0 := num_any 0 (by decide) (by decide)
  have hn21 := num_any 21 (by decide) (by decide)
  rcases chk_or p with ⟨hp, _⟩ | hp
  · rw [hp] at hCp
    rcases chk_or q with ⟨hq, _⟩ | hq
    · rw [hq] at hCq
      have h1 := tree_pure (p := p) (q := q) a
      have h2 := same_pure hp hq
      have hS := cov_self hp
      have hK1 := contains_any p a
      have hK2 := contains_any q a
      have hV1 := covers_any p q
      have hV2 := covers_any q p
      have hV3 := covers_any p p
      rw [hS] at hV3
      have he := eqP 9997 p q
      generalize con p a = b1 at *
      generalize con q a = b2 at *
      generalize cov p q = c1 at *
      generalize cov q p = c2 at *
      generalize (decide (p.a.l = q.a.l) && decide (p.n = q.n)) = d at *
      subst h2
      clear hp hq hS
      exact tree_main p q a w b1 b2 c1 c2 h1 hL hCp hCq hK1 hK2 hV1 hV2 hV3 he
    · rw [hq] at hCq
      clear hp hq
      go_enter Tryd.func4, Tryd.ntmps4
      go_wp2_with (first
        | (refine ldP (.tmp 4) (by rfl) rfl _ _ q rfl (HK.out _ hb0).2.1 ?_)
        | (refine ldP (.tmp 3) (by rfl) rfl _ _ p rfl (HK.out _ hb0).1 ?_)
        | (go_at_call 15; refine (hL _ hw0).mono ?_; rintro e w3 ⟨rfl, hB⟩; have hw0 := bt hw0 hB)
        | (go_at_call 8; have h2 := k2; refine (hn21 _).mono ?_; rintro e w16 ⟨rfl, rfl⟩)
        | (go_at_call 8; refine (hn0 _).mono ?_; rintro e w15 ⟨rfl, rfl⟩)
        | (go_at_call 11; have h1 := k1; refine (hCq _).mono ?_; rintro e w2 ⟨rfl, hB⟩; have hb0 := bt hb0 hB; have hw0 := bt hw0 hB; have k2 := hB)
        | (go_at_call 11; refine (hCp _).mono ?_; rintro e w1 ⟨rfl, hB⟩; have hb0 := bt hb0 hB; have hw0 := bt hw0 hB; have k1 := hB))
      go_ret
      exact ⟨rfl, hw0⟩
  · rw [hp] at hCp
    clear hp
    go_enter Tryd.func4, Tryd.ntmps4
    go_wp2_with (first
      | (refine ldP (.tmp 3) (by rfl) rfl _ _ p rfl (HK.out _ hb0).1 ?_)
      | (go_at_call 15; refine (hL _ hw0).mono ?_; rintro e w3 ⟨rfl, hB⟩; have hw0 := bt hw0 hB)
      | (go_at_call 8; refine (hn21 _).mono ?_; rintro e w16 ⟨rfl, rfl⟩)
      | (go_at_call 11; refine (hCp _).mono ?_; rintro e w1 ⟨rfl, hB⟩; have hb0 := bt hb0 hB; have hw0 := bt hw0 hB; have k1 := hB))
    go_ret
    exact ⟨rfl, hw0⟩
end Go.Proofs.YtimpopolkofdgaaDoor
