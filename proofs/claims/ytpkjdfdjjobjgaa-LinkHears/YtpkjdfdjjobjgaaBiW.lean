/-
  The law LinkBits returns true for every input.
-/
import Derived.Test.YtpkjdfdjjobjgaaG7
namespace Go.Proofs.Ytpkjdfdjjobjgaa
open Go.RowKit
set_option linter.unusedSimpArgs false
theorem LH.lt {w : World} {g : Nat} {c : Hi} (h : LH w g c) : g < w.heap.size := block_lt_of_cell h.one
theorem miss_k (h : Hi) (n : Int) (hk : h.k = true) : (missH h n).k = true := by unfold missH; split <;> simp_all
theorem miss_n (h : Hi) (n : Int) (hk : h.k = true) (n0 : 0 ≤ n) (o : h.ok) : (missH h n).n = (h.n + n) % 65536 := by
  have := o.n0
  have := o.n1
  unfold missH
  split
  · rfl
  · rename_i hh
    have : n = 0 := by simp [hk] at hh; omega
    subst this
    omega
theorem miss_b (h : Hi) (n : Int) (o : h.ok) : (missH h n).b ≤ h.b := by
  unfold missH
  split
  · exact Int.ediv_le_self _ o.b0
  · exact Int.le_refl _
theorem miss_ok {h : Hi} (n : Int) (o : h.ok) : (missH h n).ok := by
  have b0 := o.b0
  have b1 := o.b1
  unfold missH
  split
  · refine ⟨Int.ediv_nonneg b0 (Int.le_of_lt (Int.pow_pos (by decide))), Int.lt_of_le_of_lt (Int.ediv_le_self _ b0) b1, ?_, ?_⟩ <;> (dsimp only; omega)
  · exact o
theorem back_same (G : Hi) (o : G.ok) (hk : G.k = true) : hearH (missH G 1) G.n = hearH G G.n := by
  obtain ⟨b, n, k⟩ := G
  have b0 := o.b0
  have b1 := o.b1
  have n0 := o.n0
  have n1 := o.n1
  dsimp only at *
  subst hk
  have e1 : missH ⟨b, n, true⟩ 1 = ⟨b / 2, (n + 1) % 65536, true⟩ := by simp [missH]
  rw [e1]
  unfold hearH befZ
  dsimp only
  have h1 : ¬ (n - (n + 1) % 65536) % 65536 ≤ 16 := by omega
  have h2 : ((n + 1) % 65536 - n) % 65536 = 1 := by omega
  have h3 : (n - n) % 65536 = 0 := by omega
  rw [if_neg (by simp), if_neg h1, h2, if_pos (by decide), if_neg (by simp), h3, if_pos (by decide)]
  simp only [Int.toNat_zero, Int.pow_zero, Int.ediv_one, Int.toNat_one, Int.pow_one]
  have : b / 2 * 2 % 65536 / 2 = b / 2 := by omega
  rw [this]
theorem bits_short (h : Hi) (s n : Int) (w : World) (hn : n < 0 ∨ 300 < n) :
    Calls Try.prog 6 #[.agg #[.int .u16 h.b, .int .u16 h.n, .bool h.k], .int .u16 s, .int .i64 n] w (Gives w (.bool true)) := by
  obtain ⟨b, m, k⟩ := h
  dsimp only
  rcases hn with hn | hn
  · go_enter Try.func6, Try.ntmps6
    go_wp2_with (go_at_call 8; refine (live_any _).mono ?_; rintro e w' ⟨rfl, hw⟩)
    go_ret
    exact ⟨rfl, ((Below.refl _ _).alloc (Nat.le_refl _) _).trans (hw.mono (by simp))⟩
  · have hn' : ¬ n < 0 := by omega
    go_enter Try.func6, Try.ntmps6
    go_wp2_with (go_at_call 8; refine (live_any _).mono ?_; rintro e w' ⟨rfl, hw⟩)
    go_ret
    exact ⟨rfl, ((Below.refl _ _).alloc (Nat.le_refl _) _).trans (hw.mono (by simp))⟩
theorem bits_walk (h : Hi) (s n : Int) (w : World) (ok : h.ok) (n0 : 0 ≤ n) (n1 : n ≤ 300) :
    Calls Try.prog 6 #[.agg #[.int .u16 h.b, .int .u16 h.n, .bool h.k], .int .u16 s, .int .i64 n] w (Gives w (.bool true)) := by
  have okG := hear_ok s ok
  have okP := miss_ok 1 okG
  have C1 := fun w => hear_any h s w ok
  have C2 := fun w => miss_any (hearH h s) n w
  have C3 := fun w => miss_any (hearH h s) 1 w
  have C4 := fun w => hear_any (missH (hearH h s) 1) (hearH h s).n w okP
  rw [back_same _ okG rfl] at C4
  have C5 := fun w => hear_any (hearH h s) (hearH h s).n w okG
  have C6 : ∀ w, Calls Try.prog 9 #[.agg #[.int .u16 0, .int .u16 0, .bool false], .int .i64 n] w (Gives w (.agg #[.int .u16 0, .int .u16 0, .bool false])) := fun w => miss_any ⟨0, 0, false⟩ n w
  have C7 : ∀ w, Calls Try.prog 9 #[.agg #[.int .u16 h.b, .int .u16 h.n, .bool h.k], .int .i64 0] w (Gives w (.agg #[.int .u16 h.b, .int .u16 h.n, .bool h.k])) := fun w => by
    have := miss_any h 0 w
    rwa [show missH h 0 = h by simp [missH]] at this
  have f1 : ¬ (hearH h s).b < 32768 := by have := bef_ok s ok; simp only [hearH]; omega
  have f2 : IntKind.u16.wrap (s + 1) = (hearH h s).n := wrap16 _
  have f3 : IntKind.u16.wrap ((hearH h s).n + n) = (missH (hearH h s) n).n := by
    rw [miss_n _ _ rfl n0 okG, wrap16]
  have f4 : ¬ (hearH h s).b < (missH (hearH h s) n).b := by have := miss_b _ n okG; omega
  have f5 : (hearH h s).k = true := rfl
  have f6 : (missH (hearH h s) n).k = true := miss_k _ _ rfl
  generalize hearH (hearH h s) (hearH h s).n = B at *
  generalize missH (hearH h s) n = M at *
  generalize missH (hearH h s) 1 = P at *
  generalize hearH h s = G at *
  obtain ⟨b, m, k⟩ := h
  obtain ⟨gb, gn, gk⟩ := G
  obtain ⟨mb, mn, mk⟩ := M
  obtain ⟨pb, pn, pk⟩ := P
  obtain ⟨bb, bn, bk⟩ := B
  dsimp only at *
  subst f5 f6
  clear ok okG okP
  have rh := Row.new w 24 (hcs ⟨b, m, k⟩)
  have hb : Below w.heap.size w (w.alloc (.cells #[.int .u16 b, .int .u16 m, .bool k] 24)) := (Below.refl _ _).alloc (Nat.le_refl _) _
  have st0 : True := trivial
  have hq := eqP
  go_enter Try.func6, Try.ntmps6
  go_wp2_with (first
    | (have kk := st0; go_at_call 11; refine (C1 _).mono ?_; rintro e w1 ⟨rfl, hw⟩; clear C1 kk st0; have st1 : True := trivial; replace rh := rh.below hw (by simp); replace hb := hb.trans (hw.mono (by simp)); have lh := rh.lt; clear hw)
    | (have kk := st1; go_at_call 9; refine (C2 _).mono ?_; rintro e w2 ⟨rfl, hw⟩; clear C2 kk st1; have st2 : True := trivial; have rg := (Row.new w1 24 (hcs ⟨gb, gn, true⟩)).below hw (by simp); replace rh := (rh.alloc (.cells #[.int .u16 gb, .int .u16 gn, .bool true] 24)).below hw (by simp; omega); replace hb := (hb.alloc hb.size (.cells #[.int .u16 gb, .int .u16 gn, .bool true] 24)).trans (hw.mono (by have := hb.size; simp; omega)); have lg := rg.lt; clear hw; have z1 : w2.cell? ⟨w1.heap.size, 0, none⟩ = some (.int .u16 gb) := rg.cell 0; have z2 : w2.cell? ⟨w1.heap.size, 1, none⟩ = some (.int .u16 gn) := rg.cell 1; have z3 : w2.cell? ⟨w1.heap.size, 2, none⟩ = some (.bool true) := rg.cell 2)
    | (have kk := st2; go_at_call 9; refine (C3 _).mono ?_; rintro e w3 ⟨rfl, hw⟩; clear C3 kk st2 z1 z2 z3; have st3 : True := trivial; replace rg := (rg.alloc (.cells #[.int .u16 mb, .int .u16 mn, .bool true] 24)).below hw (by simp; omega); replace rh := (rh.alloc (.cells #[.int .u16 mb, .int .u16 mn, .bool true] 24)).below hw (by simp; omega); replace hb := (hb.alloc hb.size (.cells #[.int .u16 mb, .int .u16 mn, .bool true] 24)).trans (hw.mono (by have := hb.size; simp; omega)); replace lg := rg.lt; clear hw)
    | (have kk := st3; go_at_call 11; refine (C4 _).mono ?_; rintro e w4 ⟨rfl, hw⟩; clear C4 kk st3; replace rg := rg.below hw lg; replace rh := rh.below hw (by omega); replace hb := hb.trans (hw.mono hb.size); replace lg := rg.lt; clear hw))
  have HB : Hid (Below w.heap.size w (w4.alloc (.cells #[.int .u16 bb, .int .u16 bn, .bool bk] 24)) ∧ LH (w4.alloc (.cells #[.int .u16 bb, .int .u16 bn, .bool bk] 24)) w.heap.size ⟨b, m, k⟩ ∧ LH (w4.alloc (.cells #[.int .u16 bb, .int .u16 bn, .bool bk] 24)) w1.heap.size ⟨gb, gn, true⟩ ∧ LH (w4.alloc (.cells #[.int .u16 bb, .int .u16 bn, .bool bk] 24)) w4.heap.size ⟨bb, bn, bk⟩) :=
    ⟨hb.alloc hb.size _, LH.range (rh.alloc _), LH.range (rg.alloc _), LH.range (Row.new w4 24 (hcs ⟨bb, bn, bk⟩))⟩
  have HK : Hid (∀ W W', (Below w.heap.size w W ∧ LH W w.heap.size ⟨b, m, k⟩ ∧ LH W w1.heap.size ⟨gb, gn, true⟩ ∧ LH W w4.heap.size ⟨bb, bn, bk⟩) → Below W.heap.size W W' → (Below w.heap.size w W' ∧ LH W' w.heap.size ⟨b, m, k⟩ ∧ LH W' w1.heap.size ⟨gb, gn, true⟩ ∧ LH W' w4.heap.size ⟨bb, bn, bk⟩)) :=
    fun W W' h k => ⟨h.1.trans (k.mono h.1.size), h.2.1.below k h.2.1.lt, h.2.2.1.below k h.2.2.1.lt, h.2.2.2.below k h.2.2.2.lt⟩
  have he : ∀ a, hiEq a a = true := fun a => (hiEq_iff a a).2 rfl
  have hf := fieldP
  clear hb rh rg lg lh
  refine wp_region_noPanic ?_
  refine wp_region_held_drew (S := fun W => Below w.heap.size w W ∧ LH W w.heap.size ⟨b, m, k⟩ ∧ LH W w1.heap.size ⟨gb, gn, true⟩ ∧ LH W w4.heap.size ⟨bb, bn, bk⟩) (by kernel_rfl) (⟨HB.out.1.drew, HB.out.2.1, HB.out.2.2.1, HB.out.2.2.2⟩) (fun hHeld => ?_)
  refine take_lit (i := 0) rfl (by kernel_rfl) (by kernel_rfl) (by kernel_rfl) (fun _ _ _ h => h) (yH ⟨gb, gn, true⟩ (fun w h => h.2.2.1) (by rfl) rfl rfl) (by assumption) ?_
  try simp only [Act.put, List.setIfInBounds_toArray, List.set_cons_zero, List.set_cons_succ]
  refine take_lit (i := 1) (v := ?_) rfl (by kernel_rfl) (by kernel_rfl) (by kernel_rfl) (fun _ _ _ h => h) (Or.inl ⟨by rfl, ?_⟩) (by assumption) ?_
  rotate_left
  · (intro w hSw; (try dsimp only at hSw); go_simp <;> with_reducible rfl)
  try simp only [Act.put, List.setIfInBounds_toArray, List.set_cons_zero, List.set_cons_succ]
  refine take_lit (i := 2) (v := ?_) rfl (by kernel_rfl) (by kernel_rfl) (by kernel_rfl) (fun _ _ _ h => h) (Or.inl ⟨by rfl, ?_⟩) (by assumption) ?_
  rotate_left
  · (intro w hSw; (try dsimp only at hSw); go_simp <;> with_reducible rfl)
  try simp only [Act.put, List.setIfInBounds_toArray, List.set_cons_zero, List.set_cons_succ]
  refine take_lit (i := 5) (v := ?_) rfl (by kernel_rfl) (by kernel_rfl) (by kernel_rfl) (fun _ _ _ h => h) (Or.inl ⟨by rfl, ?_⟩) (by assumption) ?_
  rotate_left
  · (intro w hSw; (try dsimp only at hSw); go_simp <;> with_reducible rfl)
  try simp only [Act.put, List.setIfInBounds_toArray, List.set_cons_zero, List.set_cons_succ]
  refine take_lit (i := 6) (v := ?_) rfl (by kernel_rfl) (by kernel_rfl) (by kernel_rfl) (fun _ _ _ h => h) (Or.inl ⟨by rfl, ?_⟩) (by assumption) ?_
  rotate_left
  · (intro w hSw; (try dsimp only at hSw); have hz := hSw.2.2.2.one; go_simp <;> with_reducible rfl)
  try simp only [Act.put, List.setIfInBounds_toArray, List.set_cons_zero, List.set_cons_succ]
  refine wpAnyH_ready (rs := [3]) (by kernel_rfl) (by simp) ?_
  refine cons_lit rfl (fun K hK => ?_) ?_
  · go_simp
    refine (C5 _).mono ?_
    rintro e w5 ⟨rfl, hB1⟩
    refine hK.out _ _ ?_ (fun hHeld => ?_)
    · exact HK.out _ _ hHeld hB1
    clear hK K
    try simp only [Act.put, List.setIfInBounds_toArray, List.set_cons_zero, List.set_cons_succ]
    refine take_lit (i := 4) (v := ?_) rfl (by kernel_rfl) (by kernel_rfl) (by kernel_rfl) (fun _ _ _ h => h) (Or.inl ⟨by rfl, ?_⟩) (by assumption) ?_
    rotate_left
    · (intro w hSw; (try dsimp only at hSw); go_simp <;> with_reducible rfl)
    try simp only [Act.put, List.setIfInBounds_toArray, List.set_cons_zero, List.set_cons_succ]
    refine take_lit (i := 7) (v := ?_) rfl (by kernel_rfl) (by kernel_rfl) (by kernel_rfl) (fun _ _ _ h => h) (Or.inl ⟨by rfl, ?_⟩) (by assumption) ?_
    rotate_left
    · (intro w hSw; (try dsimp only at hSw); go_simp <;> with_reducible rfl)
    try simp only [Act.put, List.setIfInBounds_toArray, List.set_cons_zero, List.set_cons_succ]
    refine take_lit (i := 8) (v := ?_) rfl (by kernel_rfl) (by kernel_rfl) (by kernel_rfl) (fun _ _ _ h => h) (Or.inl ⟨by rfl, ?_⟩) (by assumption) ?_
    rotate_left
    · (intro w hSw; (try dsimp only at hSw); go_simp <;> with_reducible rfl)
    try simp only [Act.put, List.setIfInBounds_toArray, List.set_cons_zero, List.set_cons_succ]
    refine take_lit (i := 9) (v := ?_) rfl (by kernel_rfl) (by kernel_rfl) (by kernel_rfl) (fun _ _ _ h => h) (Or.inl ⟨by rfl, ?_⟩) (by assumption) ?_
    rotate_left
    · (intro w hSw; (try dsimp only at hSw); go_simp <;> with_reducible rfl)
    try simp only [Act.put, List.setIfInBounds_toArray, List.set_cons_zero, List.set_cons_succ]
    refine take_lit (i := 10) (v := ?_) rfl (by kernel_rfl) (by kernel_rfl) (by kernel_rfl) (fun _ _ _ h => h) (Or.inl ⟨by rfl, ?_⟩) (by assumption) ?_
    rotate_left
    · (intro w hSw; (try dsimp only at hSw); go_simp <;> with_reducible rfl)
    try simp only [Act.put, List.setIfInBounds_toArray, List.set_cons_zero, List.set_cons_succ]
    refine take_lit (i := 12) (v := ?_) rfl (by kernel_rfl) (by kernel_rfl) (by kernel_rfl) (fun _ _ _ h => h) (Or.inl ⟨by rfl, ?_⟩) (by assumption) ?_
    rotate_left
    · (intro w hSw; (try dsimp only at hSw); go_simp <;> with_reducible rfl)
    try simp only [Act.put, List.setIfInBounds_toArray, List.set_cons_zero, List.set_cons_succ]
    refine wpAnyH_ready (rs := [11]) (by kernel_rfl) (by simp) ?_
    refine cons_lit rfl (fun K hK => ?_) ?_
    · go_simp
      refine (C6 _).mono ?_
      rintro e w6 ⟨rfl, hB1⟩
      refine hK.out _ _ ?_ (fun hHeld => ?_)
      · exact HK.out _ _ hHeld hB1
      clear hK K
      try simp only [Act.put, List.setIfInBounds_toArray, List.set_cons_zero, List.set_cons_succ]
      refine take_lit (i := 13) (v := ?_) rfl (by kernel_rfl) (by kernel_rfl) (by kernel_rfl) (fun _ _ _ h => h) (Or.inl ⟨by rfl, ?_⟩) (by assumption) ?_
      rotate_left
      · (intro w hSw; (try dsimp only at hSw); go_simp <;> with_reducible rfl)
      try simp only [Act.put, List.setIfInBounds_toArray, List.set_cons_zero, List.set_cons_succ]
      refine take_lit (i := 14) (v := ?_) rfl (by kernel_rfl) (by kernel_rfl) (by kernel_rfl) (fun _ _ _ h => h) (Or.inl ⟨by rfl, ?_⟩) (by assumption) ?_
      rotate_left
      · (intro w hSw; (try dsimp only at hSw); go_simp <;> with_reducible rfl)
      try simp only [Act.put, List.setIfInBounds_toArray, List.set_cons_zero, List.set_cons_succ]
      refine take_lit (i := 15) (v := ?_) rfl (by kernel_rfl) (by kernel_rfl) (by kernel_rfl) (fun _ _ _ h => h) (Or.inl ⟨by rfl, ?_⟩) (by assumption) ?_
      rotate_left
      · (intro w hSw; (try dsimp only at hSw); go_simp <;> with_reducible rfl)
      try simp only [Act.put, List.setIfInBounds_toArray, List.set_cons_zero, List.set_cons_succ]
      refine take_lit (i := 16) rfl (by kernel_rfl) (by kernel_rfl) (by kernel_rfl) (fun _ _ _ h => h) (yH ⟨b, m, k⟩ (fun w h => h.2.1) (by rfl) rfl rfl) (by assumption) ?_
      try simp only [Act.put, List.setIfInBounds_toArray, List.set_cons_zero, List.set_cons_succ]
      refine take_lit (i := 18) rfl (by kernel_rfl) (by kernel_rfl) (by kernel_rfl) (fun _ _ _ h => h) (yH ⟨b, m, k⟩ (fun w h => h.2.1) (by rfl) rfl rfl) (by assumption) ?_
      try simp only [Act.put, List.setIfInBounds_toArray, List.set_cons_zero, List.set_cons_succ]
      refine wpAnyH_ready (rs := [17]) (by kernel_rfl) (by simp) ?_
      refine cons_lit rfl (fun K hK => ?_) ?_
      · go_simp
        refine (C7 _).mono ?_
        rintro e w7 ⟨rfl, hB1⟩
        refine hK.out _ _ ?_ (fun hHeld => ?_)
        · exact HK.out _ _ hHeld hB1
        clear hK K
        try simp only [Act.put, List.setIfInBounds_toArray, List.set_cons_zero, List.set_cons_succ]
        refine take_lit (i := 19) (v := ?_) rfl (by kernel_rfl) (by kernel_rfl) (by kernel_rfl) (fun _ _ _ h => h) (Or.inl ⟨by rfl, ?_⟩) (by assumption) ?_
        rotate_left
        · (intro w hSw; (try dsimp only at hSw); go_simp <;> with_reducible rfl)
        try simp only [Act.put, List.setIfInBounds_toArray, List.set_cons_zero, List.set_cons_succ]
        refine take_lit (i := 20) (v := ?_) rfl (by kernel_rfl) (by kernel_rfl) (by kernel_rfl) (fun _ _ _ h => h) (Or.inl ⟨by rfl, ?_⟩) (by assumption) ?_
        rotate_left
        · (intro w hSw; (try dsimp only at hSw); go_simp <;> with_reducible rfl)
        try simp only [Act.put, List.setIfInBounds_toArray, List.set_cons_zero, List.set_cons_succ]
        refine take_lit (i := 21) (v := ?_) rfl (by kernel_rfl) (by kernel_rfl) (by kernel_rfl) (fun _ _ _ h => h) (Or.inl ⟨by rfl, ?_⟩) (by assumption) ?_
        rotate_left
        · (intro w hSw; (try dsimp only at hSw); go_simp <;> with_reducible rfl)
        try simp only [Act.put, List.setIfInBounds_toArray, List.set_cons_zero, List.set_cons_succ]
        refine wpAnyH_ready (rs := [22]) (by kernel_rfl) (by simp) ?_
        refine cons_lit rfl (fun K hK => ?_) ?_
        · go_simp
          refine (live_any _).mono ?_
          rintro e w8 ⟨rfl, hB1⟩
          refine hK.out _ _ ?_ (fun hHeld => ?_)
          · exact HK.out _ _ hHeld hB1
          clear hK K
          try simp only [Act.put, List.setIfInBounds_toArray, List.set_cons_zero, List.set_cons_succ]
          refine take_lit (i := 23) (v := ?_) rfl (by kernel_rfl) (by kernel_rfl) (by kernel_rfl) (fun _ _ _ h => h) (Or.inl ⟨by rfl, ?_⟩) (by assumption) ?_
          rotate_left
          · (intro w hSw; (try dsimp only at hSw); go_simp <;> with_reducible rfl)
          try simp only [Act.put, List.setIfInBounds_toArray, List.set_cons_zero, List.set_cons_succ]
          refine take_lit (i := 24) (v := ?_) rfl (by kernel_rfl) (by kernel_rfl) (by kernel_rfl) (fun _ _ _ h => h) (Or.inl ⟨by rfl, ?_⟩) (by assumption) ?_
          rotate_left
          · (intro w hSw; (try dsimp only at hSw); go_simp <;> with_reducible rfl)
          try simp only [Act.put, List.setIfInBounds_toArray, List.set_cons_zero, List.set_cons_succ]
          refine wpAnyH_done (by kernel_rfl) ?_ _
          refine NoPanic.normal ?_
          go_wp2
          go_ret
          exact ⟨rfl, hHeld.1⟩
        exact AllReadyH.nil
      exact AllReadyH.nil
    exact AllReadyH.nil
  exact AllReadyH.nil
theorem bits_any (h : Hi) (s n : Int) (w : World) (ok : h.ok) :
    Calls Try.prog 6 #[.agg #[.int .u16 h.b, .int .u16 h.n, .bool h.k], .int .u16 s, .int .i64 n] w (Gives w (.bool true)) := by
  by_cases hn : n < 0 ∨ 300 < n
  · exact bits_short h s n w hn
  · exact bits_walk h s n w ok (by omega) (by omega)
end Go.Proofs.Ytpkjdfdjjobjgaa
