/-
  The law AddrPrefixes returns true: the walk.
-/
import Derived.Test.YtimpopolkofdgaaGreatDoorRefQ
import Derived.Test.YtimpopolkofdgaaGreatDoorRefT2
import Derived.Test.YtimpopolkofdgaaGreatDoorRefU
import Derived.Test.YtimpopolkofdgaaGreatDoorRefV
import Derived.Test.YtimpopolkofdgaaGreatDoorLiveF
namespace Go.Proofs.YtimpopolkofdgaaGreatDoor
open Go.RowKit Go.Shelf
set_option linter.unusedSimpArgs false
set_option maxRecDepth 20000
/-- What the law has laid: its arguments. -/
structure K3 (w : World) (p q : Pf) (a : Ad) (W : World) : Prop where
  b : Below w.heap.size w W
  p : LP W w.heap.size 0 p
  q : LP W (w.heap.size + 1) 0 q
  a : LA W (w.heap.size + 2) 0 a
  lt : w.heap.size + 2 < W.heap.size
theorem K3.keep {w W W' : World} {p q : Pf} {a : Ad} (h : K3 w p q a W) (hb : Below W.heap.size W W') : K3 w p q a W' :=
  ⟨bt h.b hb, h.p.below hb (by have := h.lt; omega), h.q.below hb (by have := h.lt; omega), h.a.below hb h.lt, Nat.lt_of_lt_of_le h.lt hb.size⟩
theorem k3_new (w : World) (p q : Pf) (a : Ad) : K3 w p q a (((w.alloc (.cells (pcells p).toArray 35)).alloc (.cells (pcells q).toArray 35)).alloc (.cells (acells a).toArray 23)) := by
  have h1 := LP.new w p 35
  have h2 := LP.new (w.alloc (.cells (pcells p).toArray 35)) q 35
  have h3 := LA.new ((w.alloc (.cells (pcells p).toArray 35)).alloc (.cells (pcells q).toArray 35)) a 23
  simp only [World.size_alloc] at h2 h3
  exact ⟨bt (bt (ba _ _) (ba _ _)) (ba _ _), (h1.alloc _).alloc _, h2.alloc _, h3, by simp⟩
/-- .. and the four prefixes that were told. -/
structure K7 (w : World) (p q : Pf) (a : Ad) (x u : Pf) (B1 B2 B3 B4 : Nat) (W : World) : Prop where
  k : K3 w p q a W
  x1 : LP W B1 0 x
  x2 : LP W B2 0 x
  u1 : LP W B3 0 u
  u2 : LP W B4 0 u
  lt : B1 < W.heap.size ∧ B2 < W.heap.size ∧ B3 < W.heap.size ∧ B4 < W.heap.size
theorem K7.keep {w W W' : World} {p q : Pf} {a : Ad} {x u : Pf} {B1 B2 B3 B4 : Nat} (h : K7 w p q a x u B1 B2 B3 B4 W) (hb : Below W.heap.size W W') : K7 w p q a x u B1 B2 B3 B4 W' :=
  ⟨h.k.keep hb, h.x1.below hb h.lt.1, h.x2.below hb h.lt.2.1, h.u1.below hb h.lt.2.2.1, h.u2.below hb h.lt.2.2.2, Nat.lt_of_lt_of_le h.lt.1 hb.size, Nat.lt_of_lt_of_le h.lt.2.1 hb.size, Nat.lt_of_lt_of_le h.lt.2.2.1 hb.size, Nat.lt_of_lt_of_le h.lt.2.2.2 hb.size⟩
theorem K7.drew {w W : World} {p q : Pf} {a : Ad} {x u : Pf} {B1 B2 B3 B4 : Nat} (h : K7 w p q a x u B1 B2 B3 B4 W) : K7 w p q a x u B1 B2 B3 B4 W.drew :=
  ⟨⟨h.k.b.drew, h.k.p, h.k.q, h.k.a, h.k.lt⟩, h.x1, h.x2, h.u1, h.u2, h.lt⟩
theorem prf_err (s : List UInt8) : 0 ≤ (prf s).2 ∧ (prf s).2 ≤ 21 := by
  unfold prf
  repeat' split
  all_goals (dsimp only; omega)
theorem of_err (a : Ad) (n : Int) : 0 ≤ (ofF a n).2 ∧ (ofF a n).2 ≤ 21 := by
  unfold ofF
  repeat' split
  all_goals (dsimp only; omega)
theorem chk_err (p : Pf) : 0 ≤ chk p ∧ chk p ≤ 21 := by
  rcases chk_or p with ⟨h, _⟩ | h <;> rw [h] <;> omega
theorem prefixes_long (t : ByteArray) (p q : Pf) (a : Ad) (n : Int) (w : World) (hl : 5000 < t.size) (hL : ∀ W, Below w.heap.size w W → Calls Tryz.prog 6 #[] W (Gives W (.bool true))) : Calls Tryz.prog 4 #[.string t, (Value.agg (pcells p).toArray), (Value.agg (pcells q).toArray), (Value.agg (acells a).toArray), .int .i64 n] w (Gives w (.bool true)) := by
  have h5 : (5000 : Int) < (t.size : Int) := by omega
  have hb := (k3_new w p q a).b
  go_enter Tryz.func4, Tryz.ntmps4
  go_wp2_with (go_at_call 6; refine (hL _ hb).mono ?_; rintro e w1 ⟨rfl, hB⟩; replace hb := bt hb hB; clear hB)
  go_ret
  exact ⟨rfl, hb⟩
set_option maxHeartbeats 8000000 in
theorem prefixes_walk (t : ByteArray) (p q : Pf) (a : Ad) (n : Int) (w : World) (g1 : Glob w) (g2 : Tz w) (g3 : 8 ≤ w.heap.size) (hL : ∀ W, Below w.heap.size w W → Calls Tryz.prog 6 #[] W (Gives W (.bool true))) : Calls Tryz.prog 4 #[.string t, (Value.agg (pcells p).toArray), (Value.agg (pcells q).toArray), (Value.agg (acells a).toArray), .int .i64 n] w (Gives w (.bool true)) := by
  by_cases h5 : 5000 < t.size
  · exact prefixes_long t p q a n w h5 hL
  have h5' : ¬ (5000 : Int) < (t.size : Int) := by omega
  have hP1 : ∀ W, Glob W → 8 ≤ W.heap.size → Calls Tryz.prog 14 #[.string t] W (Gives W (.tuple #[(Value.agg (pcells ((prf t.data.toList).1)).toArray), .int .i64 (prf t.data.toList).2])) := fun W k1 k2 => pfx_any t.data.toList W k1 k2 (by have : t.data.toList.length = t.size := Lib.size_eq t; omega)
  have hP2 := fun W => rparseP_any t W (by omega)
  have hO1 := of_any a n
  have hO2 := rof_any a n
  have hC1 := check_any p
  have hC2 := rcheck_any p
  have hF1 := pfam_any p
  have hF2 := rpfam_any p
  have hA1 := any_any n
  have hA2 := rany_any n
  have hT1 := fun W k1 k2 k3 => printP_any p W k1 k2 k3
  have hT2 := rprintP_any p
  have hN1 := contains_any p a
  have hN2 := rcontains_any p a
  have hV1 := covers_any p q
  have hV2 := rcovers_any p q
  have hQ1 := compareP_any p q
  have hQ2 := rcompareP_any p q
  have hR1 := compare_any p.a a
  have hR2 := rcompare_any p.a a
  have e1 := prf_err t.data.toList
  have e2 := of_err a n
  have e3 := chk_err p
  have HG : Hid (∀ W, Below w.heap.size w W → Glob W ∧ Tz W ∧ 8 ≤ W.heap.size) := fun W hb => ⟨g1.keep hb g3, g2.keep hb g3, Nat.le_trans g3 hb.size⟩
  generalize (prf t.data.toList).1 = x at *
  generalize (prf t.data.toList).2 = ex at *
  generalize (ofF a n).1 = u at *
  generalize (ofF a n).2 = eu at *
  generalize chk p = cp at *
  generalize famP p = fp at *
  generalize anyP n = yp at *
  generalize prtP p = pt at *
  generalize con p a = bc at *
  generalize cov p q = bv at *
  generalize cmpP p q = zq at *
  generalize cmpA p.a a = zr at *
  have hM1 := num_any ex (by omega) (by omega)
  have hM2 := num_any eu (by omega) (by omega)
  have hM3 := num_any cp (by omega) (by omega)
  have ezx : ∀ w, (Op.equalIn (9997 + 3) 35 (Value.agg (pcells x).toArray) (Value.agg (pcells x).toArray)).run Tryz.prog w = .ok true w := fun w => by rw [eqP]; simp
  have ezu : ∀ w, (Op.equalIn (9997 + 3) 35 (Value.agg (pcells u).toArray) (Value.agg (pcells u).toArray)).run Tryz.prog w = .ok true w := fun w => by rw [eqP]; simp
  have ezy : ∀ w, (Op.equalIn (9997 + 3) 35 (Value.agg (pcells yp).toArray) (Value.agg (pcells yp).toArray)).run Tryz.prog w = .ok true w := fun w => by rw [eqP]; simp
  have hk := k3_new w p q a
  clear e1 e2 e3 g1 g2 g3 h5
  go_enter Tryz.func4, Tryz.ntmps4
  go_wp2_with (first
    | (have kk := hW4; clear kk; refine stPq (.tmp 17) (.tmp 43) (by rfl) rfl _ _ u rfl rfl (Row.there (Row.new _ _ _) (by simp)) ?_; intro w8 hw8; have hst := hw8.out ▸ storedRowP w7 _ _ u (by simp); clear hw8; obtain ⟨hB, r17, -⟩ := hst; replace r11 := r11.below hB r11.lt; replace r13 := r13.below hB r13.lt; replace r15 := r15.below hB r15.lt; replace hk := hk.keep hB; clear hB hW4)
    | (have kk := hW3; clear kk; refine stPq (.tmp 15) (.tmp 37) (by rfl) rfl _ _ u rfl rfl (Row.there (Row.new _ _ _) (by simp)) ?_; intro w6 hw6; have hst := hw6.out ▸ storedRowP w5 _ _ u (by simp); clear hw6; obtain ⟨hB, r15, -⟩ := hst; replace r11 := r11.below hB r11.lt; replace r13 := r13.below hB r13.lt; replace hk := hk.keep hB; clear hB hW3)
    | (have kk := hW2; clear kk; refine stPq (.tmp 13) (.tmp 31) (by rfl) rfl _ _ x rfl rfl (Row.there (Row.new _ _ _) (by simp)) ?_; intro w4 hw4; have hst := hw4.out ▸ storedRowP w3 _ _ x (by simp); clear hw4; obtain ⟨hB, r13, -⟩ := hst; replace r11 := r11.below hB r11.lt; replace hk := hk.keep hB; clear hB hW2)
    | (have kk := hW1; clear kk; refine stPq (.tmp 11) (.tmp 26) (by rfl) rfl _ _ x rfl rfl (Row.there (Row.new _ _ _) (by simp)) ?_; intro w2 hw2; have hst := hw2.out ▸ storedRowP w1 _ _ x (by simp); clear hw2; obtain ⟨hB, r11, -⟩ := hst; replace hk := hk.keep hB; clear hB hW1)
    | (refine ldA (.tmp 8) (by rfl) rfl _ _ a rfl hk.a ?_)
    | (go_at_call 17; refine (hO2 _).mono ?_; rintro e w7 ⟨rfl, hW4⟩; replace r11 := r11.below hW4 r11.lt; replace r13 := r13.below hW4 r13.lt; replace r15 := r15.below hW4 r15.lt; replace hk := hk.keep hW4)
    | (go_at_call 16; refine (hO1 _).mono ?_; rintro e w5 ⟨rfl, hW3⟩; replace r11 := r11.below hW3 r11.lt; replace r13 := r13.below hW3 r13.lt; replace hk := hk.keep hW3)
    | (go_at_call 15; refine (hP2 _).mono ?_; rintro e w3 ⟨rfl, hW2⟩; replace r11 := r11.below hW2 r11.lt; replace hk := hk.keep hW2)
    | (go_at_call 14; have hh := HG.out _ hk.b; refine (hP1 _ hh.1 hh.2.2).mono ?_; rintro e w1 ⟨rfl, hW1⟩; replace hk := hk.keep hW1; clear hh))
  have l11 := r11.lt
  have l13 := r13.lt
  have l15 := r15.lt
  have l17 := r17.lt
  generalize w1.heap.size = B1 at *
  generalize w3.heap.size = B2 at *
  generalize w5.heap.size = B3 at *
  generalize w7.heap.size = B4 at *
  replace hk : K7 w p q a x u B1 B2 B3 B4 w8 := ⟨hk, r11.range, r13.range, r15.range, r17.range, l11, l13, l15, l17⟩
  clear r11 r13 r15 r17 l11 l13 l15 l17 hP1 hP2 hO1 hO2
  refine wp_region_noPanic ?_
  refine wp_region_held_drew (S := fun W => K7 w p q a x u B1 B2 B3 B4 W) (by kernel_rfl) (hk.drew) (fun hHeld => ?_)
  refine take_lit (i := 0) rfl (by kernel_rfl) (by kernel_rfl) (by kernel_rfl) (fun _ _ _ h => h) (yP x (fun w h => h.x1) (by rfl) rfl rfl) (by assumption) ?_
  try simp only [Act.put, List.setIfInBounds_toArray, List.set_cons_zero, List.set_cons_succ]
  refine take_lit (i := 1) rfl (by kernel_rfl) (by kernel_rfl) (by kernel_rfl) (fun _ _ _ h => h) (yP x (fun w h => h.x2) (by rfl) rfl rfl) (by assumption) ?_
  try simp only [Act.put, List.setIfInBounds_toArray, List.set_cons_zero, List.set_cons_succ]
  refine take_lit (i := 2) (v := ?_) rfl (by kernel_rfl) (by kernel_rfl) (by kernel_rfl) (fun _ _ _ h => h) (Or.inl ⟨by rfl, ?_⟩) (by assumption) ?_
  rotate_left
  · (intro w hSw; (try dsimp only at hSw); go_simp <;> with_reducible rfl)
  try simp only [Act.put, List.setIfInBounds_toArray, List.set_cons_zero, List.set_cons_succ]
  refine take_lit (i := 3) (v := ?_) rfl (by kernel_rfl) (by kernel_rfl) (by kernel_rfl) (fun _ _ _ h => h) (Or.inl ⟨by rfl, ?_⟩) (by assumption) ?_
  rotate_left
  · (intro w hSw; (try dsimp only at hSw); go_simp <;> with_reducible rfl)
  try simp only [Act.put, List.setIfInBounds_toArray, List.set_cons_zero, List.set_cons_succ]
  refine take_lit (i := 4) (v := ?_) rfl (by kernel_rfl) (by kernel_rfl) (by kernel_rfl) (fun _ _ _ h => h) (Or.inl ⟨by rfl, ?_⟩) (by assumption) ?_
  rotate_left
  · (intro w hSw; (try dsimp only at hSw); go_simp <;> with_reducible rfl)
  try simp only [Act.put, List.setIfInBounds_toArray, List.set_cons_zero, List.set_cons_succ]
  refine take_lit (i := 6) (v := ?_) rfl (by kernel_rfl) (by kernel_rfl) (by kernel_rfl) (fun _ _ _ h => h) (Or.inl ⟨by rfl, ?_⟩) (by assumption) ?_
  rotate_left
  · (intro w hSw; (try dsimp only at hSw); go_simp <;> with_reducible rfl)
  try simp only [Act.put, List.setIfInBounds_toArray, List.set_cons_zero, List.set_cons_succ]
  refine wpAnyH_ready (rs := [5]) (by kernel_rfl) (by simp) ?_
  refine cons_lit rfl (fun K hK => ?_) ?_
  · go_simp
    refine (hM1 _).mono ?_
    rintro e v7_5 ⟨rfl, rfl⟩
    refine hK.out _ _ ?_ (fun hHeld => ?_)
    · exact hHeld
    clear hK K
    try simp only [Act.put, List.setIfInBounds_toArray, List.set_cons_zero, List.set_cons_succ]
    refine take_lit (i := 7) (v := ?_) rfl (by kernel_rfl) (by kernel_rfl) (by kernel_rfl) (fun _ _ _ h => h) (Or.inl ⟨by rfl, ?_⟩) (by assumption) ?_
    rotate_left
    · (intro w hSw; (try dsimp only at hSw); go_simp <;> with_reducible rfl)
    try simp only [Act.put, List.setIfInBounds_toArray, List.set_cons_zero, List.set_cons_succ]
    refine take_lit (i := 8) (v := ?_) rfl (by kernel_rfl) (by kernel_rfl) (by kernel_rfl) (fun _ _ _ h => h) (Or.inl ⟨by rfl, ?_⟩) (by assumption) ?_
    rotate_left
    · (intro w hSw; (try dsimp only at hSw); go_simp <;> with_reducible rfl)
    try simp only [Act.put, List.setIfInBounds_toArray, List.set_cons_zero, List.set_cons_succ]
    refine take_lit (i := 9) (v := ?_) rfl (by kernel_rfl) (by kernel_rfl) (by kernel_rfl) (fun _ _ _ h => h) (Or.inl ⟨by rfl, ?_⟩) (by assumption) ?_
    rotate_left
    · (intro w hSw; (try dsimp only at hSw); go_simp <;> with_reducible rfl)
    try simp only [Act.put, List.setIfInBounds_toArray, List.set_cons_zero, List.set_cons_succ]
    refine take_lit (i := 10) rfl (by kernel_rfl) (by kernel_rfl) (by kernel_rfl) (fun _ _ _ h => h) (yP u (fun w h => h.u1) (by rfl) rfl rfl) (by assumption) ?_
    try simp only [Act.put, List.setIfInBounds_toArray, List.set_cons_zero, List.set_cons_succ]
    refine take_lit (i := 11) rfl (by kernel_rfl) (by kernel_rfl) (by kernel_rfl) (fun _ _ _ h => h) (yP u (fun w h => h.u2) (by rfl) rfl rfl) (by assumption) ?_
    try simp only [Act.put, List.setIfInBounds_toArray, List.set_cons_zero, List.set_cons_succ]
    refine take_lit (i := 12) (v := ?_) rfl (by kernel_rfl) (by kernel_rfl) (by kernel_rfl) (fun _ _ _ h => h) (Or.inl ⟨by rfl, ?_⟩) (by assumption) ?_
    rotate_left
    · (intro w hSw; (try dsimp only at hSw); go_simp <;> with_reducible rfl)
    try simp only [Act.put, List.setIfInBounds_toArray, List.set_cons_zero, List.set_cons_succ]
    refine take_lit (i := 13) (v := ?_) rfl (by kernel_rfl) (by kernel_rfl) (by kernel_rfl) (fun _ _ _ h => h) (Or.inl ⟨by rfl, ?_⟩) (by assumption) ?_
    rotate_left
    · (intro w hSw; (try dsimp only at hSw); go_simp <;> with_reducible rfl)
    try simp only [Act.put, List.setIfInBounds_toArray, List.set_cons_zero, List.set_cons_succ]
    refine take_lit (i := 14) (v := ?_) rfl (by kernel_rfl) (by kernel_rfl) (by kernel_rfl) (fun _ _ _ h => h) (Or.inl ⟨by rfl, ?_⟩) (by assumption) ?_
    rotate_left
    · (intro w hSw; (try dsimp only at hSw); go_simp <;> with_reducible rfl)
    try simp only [Act.put, List.setIfInBounds_toArray, List.set_cons_zero, List.set_cons_succ]
    refine take_lit (i := 15) (v := ?_) rfl (by kernel_rfl) (by kernel_rfl) (by kernel_rfl) (fun _ _ _ h => h) (Or.inl ⟨by rfl, ?_⟩) (by assumption) ?_
    rotate_left
    · (intro w hSw; (try dsimp only at hSw); go_simp <;> with_reducible rfl)
    try simp only [Act.put, List.setIfInBounds_toArray, List.set_cons_zero, List.set_cons_succ]
    refine take_lit (i := 17) (v := ?_) rfl (by kernel_rfl) (by kernel_rfl) (by kernel_rfl) (fun _ _ _ h => h) (Or.inl ⟨by rfl, ?_⟩) (by assumption) ?_
    rotate_left
    · (intro w hSw; (try dsimp only at hSw); go_simp <;> with_reducible rfl)
    try simp only [Act.put, List.setIfInBounds_toArray, List.set_cons_zero, List.set_cons_succ]
    refine wpAnyH_ready (rs := [16]) (by kernel_rfl) (by simp) ?_
    refine cons_lit rfl (fun K hK => ?_) ?_
    · go_simp
      refine (hM2 _).mono ?_
      rintro e v7_16 ⟨rfl, rfl⟩
      refine hK.out _ _ ?_ (fun hHeld => ?_)
      · exact hHeld
      clear hK K
      try simp only [Act.put, List.setIfInBounds_toArray, List.set_cons_zero, List.set_cons_succ]
      refine take_lit (i := 18) (v := ?_) rfl (by kernel_rfl) (by kernel_rfl) (by kernel_rfl) (fun _ _ _ h => h) (Or.inl ⟨by rfl, ?_⟩) (by assumption) ?_
      rotate_left
      · (intro w hSw; (try dsimp only at hSw); go_simp <;> with_reducible rfl)
      try simp only [Act.put, List.setIfInBounds_toArray, List.set_cons_zero, List.set_cons_succ]
      refine take_lit (i := 19) (v := ?_) rfl (by kernel_rfl) (by kernel_rfl) (by kernel_rfl) (fun _ _ _ h => h) (Or.inl ⟨by rfl, ?_⟩) (by assumption) ?_
      rotate_left
      · (intro w hSw; (try dsimp only at hSw); go_simp <;> with_reducible rfl)
      try simp only [Act.put, List.setIfInBounds_toArray, List.set_cons_zero, List.set_cons_succ]
      refine take_lit (i := 20) (v := ?_) rfl (by kernel_rfl) (by kernel_rfl) (by kernel_rfl) (fun _ _ _ h => h) (Or.inl ⟨by rfl, ?_⟩) (by assumption) ?_
      rotate_left
      · (intro w hSw; (try dsimp only at hSw); go_simp <;> with_reducible rfl)
      try simp only [Act.put, List.setIfInBounds_toArray, List.set_cons_zero, List.set_cons_succ]
      refine take_lit (i := 21) rfl (by kernel_rfl) (by kernel_rfl) (by kernel_rfl) (fun _ _ _ h => h) (yP p (fun w h => h.k.p) (by rfl) rfl rfl) (by assumption) ?_
      try simp only [Act.put, List.setIfInBounds_toArray, List.set_cons_zero, List.set_cons_succ]
      refine take_lit (i := 24) rfl (by kernel_rfl) (by kernel_rfl) (by kernel_rfl) (fun _ _ _ h => h) (yP p (fun w h => h.k.p) (by rfl) rfl rfl) (by assumption) ?_
      try simp only [Act.put, List.setIfInBounds_toArray, List.set_cons_zero, List.set_cons_succ]
      refine wpAnyH_ready (rs := [22]) (by kernel_rfl) (by simp) ?_
      refine cons_lit rfl (fun K hK => ?_) ?_
      · go_simp
        refine (hC1 _).mono ?_
        rintro e v7_22 ⟨rfl, hB1⟩
        refine hK.out _ _ ?_ (fun hHeld => ?_)
        · exact hHeld.keep hB1
        clear hK K
        try simp only [Act.put, List.setIfInBounds_toArray, List.set_cons_zero, List.set_cons_succ]
        refine wpAnyH_ready (rs := [23]) (by kernel_rfl) (by simp) ?_
        refine cons_lit rfl (fun K hK => ?_) ?_
        · go_simp
          refine (hM3 _).mono ?_
          rintro e v7_23 ⟨rfl, rfl⟩
          refine hK.out _ _ ?_ (fun hHeld => ?_)
          · exact hHeld
          clear hK K
          try simp only [Act.put, List.setIfInBounds_toArray, List.set_cons_zero, List.set_cons_succ]
          refine wpAnyH_ready (rs := [25]) (by kernel_rfl) (by simp) ?_
          refine cons_lit rfl (fun K hK => ?_) ?_
          · go_simp
            refine (hC2 _).mono ?_
            rintro e v7_25 ⟨rfl, hB1⟩
            refine hK.out _ _ ?_ (fun hHeld => ?_)
            · exact hHeld.keep hB1
            clear hK K
            try simp only [Act.put, List.setIfInBounds_toArray, List.set_cons_zero, List.set_cons_succ]
            refine take_lit (i := 26) (v := ?_) rfl (by kernel_rfl) (by kernel_rfl) (by kernel_rfl) (fun _ _ _ h => h) (Or.inl ⟨by rfl, ?_⟩) (by assumption) ?_
            rotate_left
            · (intro w hSw; (try dsimp only at hSw); go_simp <;> with_reducible rfl)
            try simp only [Act.put, List.setIfInBounds_toArray, List.set_cons_zero, List.set_cons_succ]
            refine take_lit (i := 27) (v := ?_) rfl (by kernel_rfl) (by kernel_rfl) (by kernel_rfl) (fun _ _ _ h => h) (Or.inl ⟨by rfl, ?_⟩) (by assumption) ?_
            rotate_left
            · (intro w hSw; (try dsimp only at hSw); go_simp <;> with_reducible rfl)
            try simp only [Act.put, List.setIfInBounds_toArray, List.set_cons_zero, List.set_cons_succ]
            refine take_lit (i := 28) (v := ?_) rfl (by kernel_rfl) (by kernel_rfl) (by kernel_rfl) (fun _ _ _ h => h) (Or.inl ⟨by rfl, ?_⟩) (by assumption) ?_
            rotate_left
            · (intro w hSw; (try dsimp only at hSw); go_simp <;> with_reducible rfl)
            try simp only [Act.put, List.setIfInBounds_toArray, List.set_cons_zero, List.set_cons_succ]
            refine take_lit (i := 29) rfl (by kernel_rfl) (by kernel_rfl) (by kernel_rfl) (fun _ _ _ h => h) (yP p (fun w h => h.k.p) (by rfl) rfl rfl) (by assumption) ?_
            try simp only [Act.put, List.setIfInBounds_toArray, List.set_cons_zero, List.set_cons_succ]
            refine take_lit (i := 31) rfl (by kernel_rfl) (by kernel_rfl) (by kernel_rfl) (fun _ _ _ h => h) (yP p (fun w h => h.k.p) (by rfl) rfl rfl) (by assumption) ?_
            try simp only [Act.put, List.setIfInBounds_toArray, List.set_cons_zero, List.set_cons_succ]
            refine wpAnyH_ready (rs := [30]) (by kernel_rfl) (by simp) ?_
            refine cons_lit rfl (fun K hK => ?_) ?_
            · go_simp
              refine (hF1 _).mono ?_
              rintro e v7_30 ⟨rfl, hB1⟩
              refine hK.out _ _ ?_ (fun hHeld => ?_)
              · exact hHeld.keep hB1
              clear hK K
              try simp only [Act.put, List.setIfInBounds_toArray, List.set_cons_zero, List.set_cons_succ]
              refine wpAnyH_ready (rs := [32]) (by kernel_rfl) (by simp) ?_
              refine cons_lit rfl (fun K hK => ?_) ?_
              · go_simp
                refine (hF2 _).mono ?_
                rintro e v7_32 ⟨rfl, hB1⟩
                refine hK.out _ _ ?_ (fun hHeld => ?_)
                · exact hHeld.keep hB1
                clear hK K
                try simp only [Act.put, List.setIfInBounds_toArray, List.set_cons_zero, List.set_cons_succ]
                refine take_lit (i := 33) (v := ?_) rfl (by kernel_rfl) (by kernel_rfl) (by kernel_rfl) (fun _ _ _ h => h) (Or.inl ⟨by rfl, ?_⟩) (by assumption) ?_
                rotate_left
                · (intro w hSw; (try dsimp only at hSw); go_simp <;> with_reducible rfl)
                try simp only [Act.put, List.setIfInBounds_toArray, List.set_cons_zero, List.set_cons_succ]
                refine take_lit (i := 34) (v := ?_) rfl (by kernel_rfl) (by kernel_rfl) (by kernel_rfl) (fun _ _ _ h => h) (Or.inl ⟨by rfl, ?_⟩) (by assumption) ?_
                rotate_left
                · (intro w hSw; (try dsimp only at hSw); go_simp <;> with_reducible rfl)
                try simp only [Act.put, List.setIfInBounds_toArray, List.set_cons_zero, List.set_cons_succ]
                refine take_lit (i := 35) (v := ?_) rfl (by kernel_rfl) (by kernel_rfl) (by kernel_rfl) (fun _ _ _ h => h) (Or.inl ⟨by rfl, ?_⟩) (by assumption) ?_
                rotate_left
                · (intro w hSw; (try dsimp only at hSw); go_simp <;> with_reducible rfl)
                try simp only [Act.put, List.setIfInBounds_toArray, List.set_cons_zero, List.set_cons_succ]
                refine take_lit (i := 36) (v := ?_) rfl (by kernel_rfl) (by kernel_rfl) (by kernel_rfl) (fun _ _ _ h => h) (Or.inl ⟨by rfl, ?_⟩) (by assumption) ?_
                rotate_left
                · (intro w hSw; (try dsimp only at hSw); go_simp <;> with_reducible rfl)
                try simp only [Act.put, List.setIfInBounds_toArray, List.set_cons_zero, List.set_cons_succ]
                refine take_lit (i := 38) (v := ?_) rfl (by kernel_rfl) (by kernel_rfl) (by kernel_rfl) (fun _ _ _ h => h) (Or.inl ⟨by rfl, ?_⟩) (by assumption) ?_
                rotate_left
                · (intro w hSw; (try dsimp only at hSw); go_simp <;> with_reducible rfl)
                try simp only [Act.put, List.setIfInBounds_toArray, List.set_cons_zero, List.set_cons_succ]
                refine wpAnyH_ready (rs := [37]) (by kernel_rfl) (by simp) ?_
                refine cons_lit rfl (fun K hK => ?_) ?_
                · go_simp
                  refine (hA1 _).mono ?_
                  rintro e v7_37 ⟨rfl, hB1⟩
                  refine hK.out _ _ ?_ (fun hHeld => ?_)
                  · exact hHeld.keep hB1
                  clear hK K
                  try simp only [Act.put, List.setIfInBounds_toArray, List.set_cons_zero, List.set_cons_succ]
                  refine wpAnyH_ready (rs := [39]) (by kernel_rfl) (by simp) ?_
                  refine cons_lit rfl (fun K hK => ?_) ?_
                  · go_simp
                    refine (hA2 _).mono ?_
                    rintro e v7_39 ⟨rfl, hB1⟩
                    refine hK.out _ _ ?_ (fun hHeld => ?_)
                    · exact hHeld.keep hB1
                    clear hK K
                    try simp only [Act.put, List.setIfInBounds_toArray, List.set_cons_zero, List.set_cons_succ]
                    refine take_lit (i := 40) (v := ?_) rfl (by kernel_rfl) (by kernel_rfl) (by kernel_rfl) (fun _ _ _ h => h) (Or.inl ⟨by rfl, ?_⟩) (by assumption) ?_
                    rotate_left
                    · (intro w hSw; (try dsimp only at hSw); go_simp <;> with_reducible rfl)
                    try simp only [Act.put, List.setIfInBounds_toArray, List.set_cons_zero, List.set_cons_succ]
                    refine take_lit (i := 41) (v := ?_) rfl (by kernel_rfl) (by kernel_rfl) (by kernel_rfl) (fun _ _ _ h => h) (Or.inl ⟨by rfl, ?_⟩) (by assumption) ?_
                    rotate_left
                    · (intro w hSw; (try dsimp only at hSw); go_simp <;> with_reducible rfl)
                    try simp only [Act.put, List.setIfInBounds_toArray, List.set_cons_zero, List.set_cons_succ]
                    refine wpAnyH_done (by kernel_rfl) ?_ _
                    refine NoPanic.normal ?_
                    replace hk := hHeld
                    clear hHeld
                    go_wp2
                    refine wp_region_noPanic ?_
                    refine wp_region_held_drew (S := fun W => K7 w p q a x u B1 B2 B3 B4 W) (by kernel_rfl) (hk.drew) (fun hHeld => ?_)
                    refine take_lit (i := 0) rfl (by kernel_rfl) (by kernel_rfl) (by kernel_rfl) (fun _ _ _ h => h) (yP p (fun w h => h.k.p) (by rfl) rfl rfl) (by assumption) ?_
                    try simp only [Act.put, List.setIfInBounds_toArray, List.set_cons_zero, List.set_cons_succ]
                    refine take_lit (i := 2) rfl (by kernel_rfl) (by kernel_rfl) (by kernel_rfl) (fun _ _ _ h => h) (yP p (fun w h => h.k.p) (by rfl) rfl rfl) (by assumption) ?_
                    try simp only [Act.put, List.setIfInBounds_toArray, List.set_cons_zero, List.set_cons_succ]
                    refine wpAnyH_ready (rs := [1]) (by kernel_rfl) (by simp) ?_
                    refine cons_lit rfl (fun K hK => ?_) ?_
                    · go_simp
                      have hh := HG.out _ hHeld.k.b
                      refine (hT1 _ hh.1 hh.2.1 hh.2.2).mono ?_
                      rintro e v9_1 ⟨rfl, hB1⟩
                      refine hK.out _ _ ?_ (fun hHeld => ?_)
                      · exact hHeld.keep hB1
                      clear hK K
                      try simp only [Act.put, List.setIfInBounds_toArray, List.set_cons_zero, List.set_cons_succ]
                      refine wpAnyH_ready (rs := [3]) (by kernel_rfl) (by simp) ?_
                      refine cons_lit rfl (fun K hK => ?_) ?_
                      · go_simp
                        refine (hT2 _).mono ?_
                        rintro e v9_3 ⟨rfl, hB1⟩
                        refine hK.out _ _ ?_ (fun hHeld => ?_)
                        · exact hHeld.keep hB1
                        clear hK K
                        try simp only [Act.put, List.setIfInBounds_toArray, List.set_cons_zero, List.set_cons_succ]
                        refine take_lit (i := 4) (v := ?_) rfl (by kernel_rfl) (by kernel_rfl) (by kernel_rfl) (fun _ _ _ h => h) (Or.inl ⟨by rfl, ?_⟩) (by assumption) ?_
                        rotate_left
                        · (intro w hSw; (try dsimp only at hSw); go_simp <;> with_reducible rfl)
                        try simp only [Act.put, List.setIfInBounds_toArray, List.set_cons_zero, List.set_cons_succ]
                        refine wpAnyH_done (by kernel_rfl) ?_ _
                        refine NoPanic.normal ?_
                        replace hk := hHeld
                        clear hHeld
                        go_wp2
                        refine wp_region_noPanic ?_
                        refine wp_region_held_drew (S := fun W => K7 w p q a x u B1 B2 B3 B4 W) (by kernel_rfl) (hk.drew) (fun hHeld => ?_)
                        refine take_lit (i := 0) rfl (by kernel_rfl) (by kernel_rfl) (by kernel_rfl) (fun _ _ _ h => h) (yP p (fun w h => h.k.p) (by rfl) rfl rfl) (by assumption) ?_
                        try simp only [Act.put, List.setIfInBounds_toArray, List.set_cons_zero, List.set_cons_succ]
                        refine take_lit (i := 1) rfl (by kernel_rfl) (by kernel_rfl) (by kernel_rfl) (fun _ _ _ h => h) (yA a (fun w h => h.k.a) (by rfl) rfl rfl) (by assumption) ?_
                        try simp only [Act.put, List.setIfInBounds_toArray, List.set_cons_zero, List.set_cons_succ]
                        refine take_lit (i := 3) rfl (by kernel_rfl) (by kernel_rfl) (by kernel_rfl) (fun _ _ _ h => h) (yP p (fun w h => h.k.p) (by rfl) rfl rfl) (by assumption) ?_
                        try simp only [Act.put, List.setIfInBounds_toArray, List.set_cons_zero, List.set_cons_succ]
                        refine take_lit (i := 4) rfl (by kernel_rfl) (by kernel_rfl) (by kernel_rfl) (fun _ _ _ h => h) (yA a (fun w h => h.k.a) (by rfl) rfl rfl) (by assumption) ?_
                        try simp only [Act.put, List.setIfInBounds_toArray, List.set_cons_zero, List.set_cons_succ]
                        refine wpAnyH_ready (rs := [2]) (by kernel_rfl) (by simp) ?_
                        refine cons_lit rfl (fun K hK => ?_) ?_
                        · go_simp
                          refine (hN1 _).mono ?_
                          rintro e v11_2 ⟨rfl, hB1⟩
                          refine hK.out _ _ ?_ (fun hHeld => ?_)
                          · exact hHeld.keep hB1
                          clear hK K
                          try simp only [Act.put, List.setIfInBounds_toArray, List.set_cons_zero, List.set_cons_succ]
                          refine wpAnyH_ready (rs := [5]) (by kernel_rfl) (by simp) ?_
                          refine cons_lit rfl (fun K hK => ?_) ?_
                          · go_simp
                            refine (hN2 _).mono ?_
                            rintro e v11_5 ⟨rfl, hB1⟩
                            refine hK.out _ _ ?_ (fun hHeld => ?_)
                            · exact hHeld.keep hB1
                            clear hK K
                            try simp only [Act.put, List.setIfInBounds_toArray, List.set_cons_zero, List.set_cons_succ]
                            refine take_lit (i := 6) (v := ?_) rfl (by kernel_rfl) (by kernel_rfl) (by kernel_rfl) (fun _ _ _ h => h) (Or.inl ⟨by rfl, ?_⟩) (by assumption) ?_
                            rotate_left
                            · (intro w hSw; (try dsimp only at hSw); go_simp <;> with_reducible rfl)
                            try simp only [Act.put, List.setIfInBounds_toArray, List.set_cons_zero, List.set_cons_succ]
                            refine take_lit (i := 7) (v := ?_) rfl (by kernel_rfl) (by kernel_rfl) (by kernel_rfl) (fun _ _ _ h => h) (Or.inl ⟨by rfl, ?_⟩) (by assumption) ?_
                            rotate_left
                            · (intro w hSw; (try dsimp only at hSw); go_simp <;> with_reducible rfl)
                            try simp only [Act.put, List.setIfInBounds_toArray, List.set_cons_zero, List.set_cons_succ]
                            refine take_lit (i := 8) rfl (by kernel_rfl) (by kernel_rfl) (by kernel_rfl) (fun _ _ _ h => h) (yP p (fun w h => h.k.p) (by rfl) rfl rfl) (by assumption) ?_
                            try simp only [Act.put, List.setIfInBounds_toArray, List.set_cons_zero, List.set_cons_succ]
                            refine take_lit (i := 9) rfl (by kernel_rfl) (by kernel_rfl) (by kernel_rfl) (fun _ _ _ h => h) (yP q (fun w h => h.k.q) (by rfl) rfl rfl) (by assumption) ?_
                            try simp only [Act.put, List.setIfInBounds_toArray, List.set_cons_zero, List.set_cons_succ]
                            refine take_lit (i := 11) rfl (by kernel_rfl) (by kernel_rfl) (by kernel_rfl) (fun _ _ _ h => h) (yP p (fun w h => h.k.p) (by rfl) rfl rfl) (by assumption) ?_
                            try simp only [Act.put, List.setIfInBounds_toArray, List.set_cons_zero, List.set_cons_succ]
                            refine take_lit (i := 12) rfl (by kernel_rfl) (by kernel_rfl) (by kernel_rfl) (fun _ _ _ h => h) (yP q (fun w h => h.k.q) (by rfl) rfl rfl) (by assumption) ?_
                            try simp only [Act.put, List.setIfInBounds_toArray, List.set_cons_zero, List.set_cons_succ]
                            refine wpAnyH_ready (rs := [10]) (by kernel_rfl) (by simp) ?_
                            refine cons_lit rfl (fun K hK => ?_) ?_
                            · go_simp
                              refine (hV1 _).mono ?_
                              rintro e v11_10 ⟨rfl, hB1⟩
                              refine hK.out _ _ ?_ (fun hHeld => ?_)
                              · exact hHeld.keep hB1
                              clear hK K
                              try simp only [Act.put, List.setIfInBounds_toArray, List.set_cons_zero, List.set_cons_succ]
                              refine wpAnyH_ready (rs := [13]) (by kernel_rfl) (by simp) ?_
                              refine cons_lit rfl (fun K hK => ?_) ?_
                              · go_simp
                                refine (hV2 _).mono ?_
                                rintro e v11_13 ⟨rfl, hB1⟩
                                refine hK.out _ _ ?_ (fun hHeld => ?_)
                                · exact hHeld.keep hB1
                                clear hK K
                                try simp only [Act.put, List.setIfInBounds_toArray, List.set_cons_zero, List.set_cons_succ]
                                refine take_lit (i := 14) (v := ?_) rfl (by kernel_rfl) (by kernel_rfl) (by kernel_rfl) (fun _ _ _ h => h) (Or.inl ⟨by rfl, ?_⟩) (by assumption) ?_
                                rotate_left
                                · (intro w hSw; (try dsimp only at hSw); go_simp <;> with_reducible rfl)
                                try simp only [Act.put, List.setIfInBounds_toArray, List.set_cons_zero, List.set_cons_succ]
                                refine take_lit (i := 15) (v := ?_) rfl (by kernel_rfl) (by kernel_rfl) (by kernel_rfl) (fun _ _ _ h => h) (Or.inl ⟨by rfl, ?_⟩) (by assumption) ?_
                                rotate_left
                                · (intro w hSw; (try dsimp only at hSw); go_simp <;> with_reducible rfl)
                                try simp only [Act.put, List.setIfInBounds_toArray, List.set_cons_zero, List.set_cons_succ]
                                refine take_lit (i := 16) (v := ?_) rfl (by kernel_rfl) (by kernel_rfl) (by kernel_rfl) (fun _ _ _ h => h) (Or.inl ⟨by rfl, ?_⟩) (by assumption) ?_
                                rotate_left
                                · (intro w hSw; (try dsimp only at hSw); go_simp <;> with_reducible rfl)
                                try simp only [Act.put, List.setIfInBounds_toArray, List.set_cons_zero, List.set_cons_succ]
                                refine take_lit (i := 17) rfl (by kernel_rfl) (by kernel_rfl) (by kernel_rfl) (fun _ _ _ h => h) (yP p (fun w h => h.k.p) (by rfl) rfl rfl) (by assumption) ?_
                                try simp only [Act.put, List.setIfInBounds_toArray, List.set_cons_zero, List.set_cons_succ]
                                refine take_lit (i := 18) rfl (by kernel_rfl) (by kernel_rfl) (by kernel_rfl) (fun _ _ _ h => h) (yP q (fun w h => h.k.q) (by rfl) rfl rfl) (by assumption) ?_
                                try simp only [Act.put, List.setIfInBounds_toArray, List.set_cons_zero, List.set_cons_succ]
                                refine take_lit (i := 20) rfl (by kernel_rfl) (by kernel_rfl) (by kernel_rfl) (fun _ _ _ h => h) (yP p (fun w h => h.k.p) (by rfl) rfl rfl) (by assumption) ?_
                                try simp only [Act.put, List.setIfInBounds_toArray, List.set_cons_zero, List.set_cons_succ]
                                refine take_lit (i := 21) rfl (by kernel_rfl) (by kernel_rfl) (by kernel_rfl) (fun _ _ _ h => h) (yP q (fun w h => h.k.q) (by rfl) rfl rfl) (by assumption) ?_
                                try simp only [Act.put, List.setIfInBounds_toArray, List.set_cons_zero, List.set_cons_succ]
                                refine wpAnyH_ready (rs := [19]) (by kernel_rfl) (by simp) ?_
                                refine cons_lit rfl (fun K hK => ?_) ?_
                                · go_simp
                                  refine (hQ1 _).mono ?_
                                  rintro e v11_19 ⟨rfl, hB1⟩
                                  refine hK.out _ _ ?_ (fun hHeld => ?_)
                                  · exact hHeld.keep hB1
                                  clear hK K
                                  try simp only [Act.put, List.setIfInBounds_toArray, List.set_cons_zero, List.set_cons_succ]
                                  refine wpAnyH_ready (rs := [22]) (by kernel_rfl) (by simp) ?_
                                  refine cons_lit rfl (fun K hK => ?_) ?_
                                  · go_simp
                                    refine (hQ2 _).mono ?_
                                    rintro e v11_22 ⟨rfl, hB1⟩
                                    refine hK.out _ _ ?_ (fun hHeld => ?_)
                                    · exact hHeld.keep hB1
                                    clear hK K
                                    try simp only [Act.put, List.setIfInBounds_toArray, List.set_cons_zero, List.set_cons_succ]
                                    refine take_lit (i := 23) (v := ?_) rfl (by kernel_rfl) (by kernel_rfl) (by kernel_rfl) (fun _ _ _ h => h) (Or.inl ⟨by rfl, ?_⟩) (by assumption) ?_
                                    rotate_left
                                    · (intro w hSw; (try dsimp only at hSw); go_simp <;> with_reducible rfl)
                                    try simp only [Act.put, List.setIfInBounds_toArray, List.set_cons_zero, List.set_cons_succ]
                                    refine take_lit (i := 24) (v := ?_) rfl (by kernel_rfl) (by kernel_rfl) (by kernel_rfl) (fun _ _ _ h => h) (Or.inl ⟨by rfl, ?_⟩) (by assumption) ?_
                                    rotate_left
                                    · (intro w hSw; (try dsimp only at hSw); go_simp <;> with_reducible rfl)
                                    try simp only [Act.put, List.setIfInBounds_toArray, List.set_cons_zero, List.set_cons_succ]
                                    refine take_lit (i := 25) (v := ?_) rfl (by kernel_rfl) (by kernel_rfl) (by kernel_rfl) (fun _ _ _ h => h) (Or.inl ⟨by rfl, ?_⟩) (by assumption) ?_
                                    rotate_left
                                    · (intro w hSw; (try dsimp only at hSw); go_simp <;> with_reducible rfl)
                                    try simp only [Act.put, List.setIfInBounds_toArray, List.set_cons_zero, List.set_cons_succ]
                                    refine take_lit (i := 26) (v := ?_) rfl (by kernel_rfl) (by kernel_rfl) (by kernel_rfl) (fun _ _ _ h => h) (Or.inl ⟨by rfl, ?_⟩) (by assumption) ?_
                                    rotate_left
                                    · (intro w hSw; (try dsimp only at hSw); go_simp <;> with_reducible rfl)
                                    try simp only [Act.put, List.setIfInBounds_toArray, List.set_cons_zero, List.set_cons_succ]
                                    refine take_lit (i := 27) rfl (by kernel_rfl) (by kernel_rfl) (by kernel_rfl) (fun _ _ _ h => h) (yA p.a (fun w h => h.k.p.a) (by rfl) rfl rfl) (by assumption) ?_
                                    try simp only [Act.put, List.setIfInBounds_toArray, List.set_cons_zero, List.set_cons_succ]
                                    refine take_lit (i := 28) rfl (by kernel_rfl) (by kernel_rfl) (by kernel_rfl) (fun _ _ _ h => h) (yA a (fun w h => h.k.a) (by rfl) rfl rfl) (by assumption) ?_
                                    try simp only [Act.put, List.setIfInBounds_toArray, List.set_cons_zero, List.set_cons_succ]
                                    refine take_lit (i := 30) (v := ?_) rfl (by kernel_rfl) (by kernel_rfl) (by kernel_rfl) (fun _ _ _ h => h) (Or.inl ⟨by rfl, ?_⟩) (by assumption) ?_
                                    rotate_left
                                    · (intro w hSw; (try dsimp only at hSw); go_simp <;> with_reducible rfl)
                                    try simp only [Act.put, List.setIfInBounds_toArray, List.set_cons_zero, List.set_cons_succ]
                                    refine take_lit (i := 31) rfl (by kernel_rfl) (by kernel_rfl) (by kernel_rfl) (fun _ _ _ h => h) (yA p.a (fun w h => h.k.p.a) (by rfl) rfl rfl) (by assumption) ?_
                                    try simp only [Act.put, List.setIfInBounds_toArray, List.set_cons_zero, List.set_cons_succ]
                                    refine take_lit (i := 32) rfl (by kernel_rfl) (by kernel_rfl) (by kernel_rfl) (fun _ _ _ h => h) (yA a (fun w h => h.k.a) (by rfl) rfl rfl) (by assumption) ?_
                                    try simp only [Act.put, List.setIfInBounds_toArray, List.set_cons_zero, List.set_cons_succ]
                                    refine wpAnyH_ready (rs := [29]) (by kernel_rfl) (by simp) ?_
                                    refine cons_lit rfl (fun K hK => ?_) ?_
                                    · go_simp
                                      refine (hR1 _).mono ?_
                                      rintro e v11_29 ⟨rfl, hB1⟩
                                      refine hK.out _ _ ?_ (fun hHeld => ?_)
                                      · exact hHeld.keep hB1
                                      clear hK K
                                      try simp only [Act.put, List.setIfInBounds_toArray, List.set_cons_zero, List.set_cons_succ]
                                      refine wpAnyH_ready (rs := [33]) (by kernel_rfl) (by simp) ?_
                                      refine cons_lit rfl (fun K hK => ?_) ?_
                                      · go_simp
                                        refine (hR2 _).mono ?_
                                        rintro e v11_33 ⟨rfl, hB1⟩
                                        refine hK.out _ _ ?_ (fun hHeld => ?_)
                                        · exact hHeld.keep hB1
                                        clear hK K
                                        try simp only [Act.put, List.setIfInBounds_toArray, List.set_cons_zero, List.set_cons_succ]
                                        refine take_lit (i := 34) (v := ?_) rfl (by kernel_rfl) (by kernel_rfl) (by kernel_rfl) (fun _ _ _ h => h) (Or.inl ⟨by rfl, ?_⟩) (by assumption) ?_
                                        rotate_left
                                        · (intro w hSw; (try dsimp only at hSw); go_simp <;> with_reducible rfl)
                                        try simp only [Act.put, List.setIfInBounds_toArray, List.set_cons_zero, List.set_cons_succ]
                                        refine take_lit (i := 35) (v := ?_) rfl (by kernel_rfl) (by kernel_rfl) (by kernel_rfl) (fun _ _ _ h => h) (Or.inl ⟨by rfl, ?_⟩) (by assumption) ?_
                                        rotate_left
                                        · (intro w hSw; (try dsimp only at hSw); go_simp <;> with_reducible rfl)
                                        try simp only [Act.put, List.setIfInBounds_toArray, List.set_cons_zero, List.set_cons_succ]
                                        refine take_lit (i := 36) (v := ?_) rfl (by kernel_rfl) (by kernel_rfl) (by kernel_rfl) (fun _ _ _ h => h) (Or.inl ⟨by rfl, ?_⟩) (by assumption) ?_
                                        rotate_left
                                        · (intro w hSw; (try dsimp only at hSw); go_simp <;> with_reducible rfl)
                                        try simp only [Act.put, List.setIfInBounds_toArray, List.set_cons_zero, List.set_cons_succ]
                                        refine wpAnyH_ready (rs := [37]) (by kernel_rfl) (by simp) ?_
                                        refine cons_lit rfl (fun K hK => ?_) ?_
                                        · go_simp
                                          refine (hL _ hHeld.k.b).mono ?_
                                          rintro e v11_37 ⟨rfl, hB1⟩
                                          refine hK.out _ _ ?_ (fun hHeld => ?_)
                                          · exact hHeld.keep hB1
                                          clear hK K
                                          try simp only [Act.put, List.setIfInBounds_toArray, List.set_cons_zero, List.set_cons_succ]
                                          refine take_lit (i := 38) (v := ?_) rfl (by kernel_rfl) (by kernel_rfl) (by kernel_rfl) (fun _ _ _ h => h) (Or.inl ⟨by rfl, ?_⟩) (by assumption) ?_
                                          rotate_left
                                          · (intro w hSw; (try dsimp only at hSw); go_simp <;> with_reducible rfl)
                                          try simp only [Act.put, List.setIfInBounds_toArray, List.set_cons_zero, List.set_cons_succ]
                                          refine take_lit (i := 39) (v := ?_) rfl (by kernel_rfl) (by kernel_rfl) (by kernel_rfl) (fun _ _ _ h => h) (Or.inl ⟨by rfl, ?_⟩) (by assumption) ?_
                                          rotate_left
                                          · (intro w hSw; (try dsimp only at hSw); go_simp <;> with_reducible rfl)
                                          try simp only [Act.put, List.setIfInBounds_toArray, List.set_cons_zero, List.set_cons_succ]
                                          refine wpAnyH_done (by kernel_rfl) ?_ _
                                          refine NoPanic.normal ?_
                                          replace hk := hHeld
                                          clear hHeld
                                          go_wp2
                                          go_ret
                                          exact ⟨rfl, hk.k.b⟩
                                        exact AllReadyH.nil
                                      exact AllReadyH.nil
                                    exact AllReadyH.nil
                                  exact AllReadyH.nil
                                exact AllReadyH.nil
                              exact AllReadyH.nil
                            exact AllReadyH.nil
                          exact AllReadyH.nil
                        exact AllReadyH.nil
                      exact AllReadyH.nil
                    exact AllReadyH.nil
                  exact AllReadyH.nil
                exact AllReadyH.nil
              exact AllReadyH.nil
            exact AllReadyH.nil
          exact AllReadyH.nil
        exact AllReadyH.nil
      exact AllReadyH.nil
    exact AllReadyH.nil
  exact AllReadyH.nil
end Go.Proofs.YtimpopolkofdgaaGreatDoor
