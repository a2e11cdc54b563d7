/-
  The document's Piece of package culvertref07, for every Tlv that may be.
-/
import Derived.Test.YtdibjgcokebfbaaGreatM07
import Derived.Test.YtdibjgcokebfbaaGreatM09
import Derived.Test.YtdibjgcokebfbaaGreatM14
import Derived.Test.YtdibjgcokebfbaaGreatM23
namespace Go.Proofs.YtdibjgcokebfbaaGreat
open Go.RowKit
set_option linter.unusedSimpArgs false
set_option maxRecDepth 20000
theorem bodL_100 {k : TK} (h : TOk k) : (bodL k).length ≤ 100 := by
  have a1 := timL_len k.st h.st
  have a2 := whmL_len k
  have a3 := whrL_len k
  have a4 := srcL_len k.pr
  have a5 := k.id.len
  rcases namB_cases h.nam with e | e | e | e | e | e | e
  · rw [bodL_2 k e]; simp [hw_len]
  · rw [bodL_3 k e]; simp [hw_len]
  · rw [bodL_4 k e]; simp [hw_len]; omega
  · rw [bodL_5 k e]; simp [hw_len]; omega
  · rw [bodL_8 k e]; simp [hw_len]; omega
  · rw [bodL_9 k e]; simp [hw_len]; omega
  · rw [bodL_10 k e]; simp [hw_len]; omega
theorem row_two (w : World) (o : Obj) (t : TypeId) (cs : List Value) : Row ((w.alloc o).alloc (.cells cs.toArray t)) (w.heap.size + 1) t cs := by
  have := Row.new (w.alloc o) t cs
  rwa [World.size_alloc] at this
theorem fmq2 (a b : Nat) : [UInt16.ofNat a, UInt16.ofNat b].flatMap be16 = hw a ++ hw b := by simp [hw]
theorem hcq2 (a b : Nat) (ha : a < 65536) (hb : b < 65536) : hcells [UInt16.ofNat a, UInt16.ofNat b] = [.int .u16 (a : Int), .int .u16 (b : Int)] := by simp [hcells]; omega
set_option maxHeartbeats 8000000 in
theorem rpiece_2 (t : Tl) (w : World) (hf : TFit t.key) (hy : t.ty = 2) (hl : (bodL t.key).length ≤ 100) : Calls Tryz.prog 12 #[.agg (tcells t).toArray] w (LaidN w (inL 2 (bodL t.key))) := by
  have RT := Row.new w 45 (tcells t)
  have T0 : (tcells t)[0]? = some (.int .u8 2) := by show some (Value.int .u8 (t.ty : Int)) = _; rw [hy]; rfl
  have T1 : (tcells t)[1]? = some (.int .u16 (t.nonce : Int)) := rfl
  have T2 : (tcells t)[2]? = some (.int .u16 (t.intv : Int)) := rfl
  have HE : Hid (bodL t.key = hw 0 ++ hw t.nonce ++ hw t.intv) := bodL_2 t.key hy
  have eh := hc3 0 t.nonce t.intv (by decide) hf.nonce hf.intv
  have em := fm3 0 t.nonce t.intv
  rw [HE.out] at hl ⊢
  clear HE hy hf
  have r3 := row_two w (.cells (tcells t).toArray 45) 36 [.int .u16 0, .int .u16 (t.nonce : Int), .int .u16 (t.intv : Int)]
  generalize t.nonce = u1 at *
  generalize t.intv = u2 at *
  rw [← em] at hl ⊢
  have HR : Hid (Row ((w.alloc (.cells (tcells t).toArray 45)).alloc (.cells #[.int .u16 0, .int .u16 (u1 : Int), .int .u16 (u2 : Int)] 36)) (w.heap.size + 1) 36 (hcells [UInt16.ofNat 0, UInt16.ofNat u1, UInt16.ofNat u2])) := by show Row _ _ _ _; rw [eh]; exact r3
  have RT2 := RT.alloc (.cells #[.int .u16 0, .int .u16 (u1 : Int), .int .u16 (u2 : Int)] 36)
  clear eh em r3
  generalize hK : ([UInt16.ofNat 0, UInt16.ofNat u1, UInt16.ofNat u2] : List UInt16).flatMap be16 = LL at *
  have HT := rtwo_any w.heap.size (.slice none 0 0) 0 [] (w.heap.size + 1) 3 [UInt16.ofNat 0, UInt16.ofNat u1, UInt16.ofNat u2] _ (World.ownsRow_nil _ _ _ _) (by simp; omega) HR.out rfl (by decide)
  rw [hK, List.nil_append] at HT
  have c0 := (RT.cell 0).trans T0
  have c1 := (RT.cell 1).trans T1
  have c2 := (RT.cell 2).trans T2
  clear HR hK
  go_enter Tryz.func12, Tryz.ntmps12
  go_wp2_with (first
    | (have kk := o5; go_at_call 36; refine (rjoin7_any 2 (by decide) a5 n5 c5 LL _ s5 hn5).mono ?_; rintro e w6 ⟨a6, n6, c6, rfl, o6, b6⟩)
    | (go_at_call 32; refine HT.mono ?_; rintro e w5 ⟨a5, n5, c5, rfl, o5, d5, z5, k5⟩; have hn5 : n5 ≤ 255 := (by have h := o5.1; rw [bcells_length] at h; omega); obtain ⟨_, _, e5, s5, _⟩ := Src.ofOwn o5; cases e5; have RT5 : Row w5 w.heap.size 45 (tcells t) := (k5 w.heap.size (by simp; omega) (by simp [Value.ownBlock])).2.trans RT2; have c05 := (RT5.cell 0).trans T0))
  go_ret
  exact ⟨a6, n6, c6, rfl, own_le o6 z5, ((bt (ba _ _) (ba _ _)).trans d5).trans (b6.mono z5)⟩
set_option maxHeartbeats 8000000 in
theorem rpiece_3 (t : Tl) (w : World) (hf : TFit t.key) (hy : t.ty = 3) (hl : (bodL t.key).length ≤ 100) : Calls Tryz.prog 12 #[.agg (tcells t).toArray] w (LaidN w (inL 3 (bodL t.key))) := by
  have RT := Row.new w 45 (tcells t)
  have T0 : (tcells t)[0]? = some (.int .u8 3) := by show some (Value.int .u8 (t.ty : Int)) = _; rw [hy]; rfl
  have T1 : (tcells t)[1]? = some (.int .u16 (t.nonce : Int)) := rfl
  have HE : Hid (bodL t.key = hw t.nonce) := bodL_3 t.key hy
  have eh := hcq1 t.nonce hf.nonce
  have em := fmq1 t.nonce
  rw [HE.out] at hl ⊢
  clear HE hy hf
  have r3 := row_two w (.cells (tcells t).toArray 45) 36 [.int .u16 (t.nonce : Int)]
  generalize t.nonce = u1 at *
  rw [← em] at hl ⊢
  have HR : Hid (Row ((w.alloc (.cells (tcells t).toArray 45)).alloc (.cells #[.int .u16 (u1 : Int)] 36)) (w.heap.size + 1) 36 (hcells [UInt16.ofNat u1])) := by show Row _ _ _ _; rw [eh]; exact r3
  have RT2 := RT.alloc (.cells #[.int .u16 (u1 : Int)] 36)
  clear eh em r3
  generalize hK : ([UInt16.ofNat u1] : List UInt16).flatMap be16 = LL at *
  have HT := rtwo_any w.heap.size (.slice none 0 0) 0 [] (w.heap.size + 1) 1 [UInt16.ofNat u1] _ (World.ownsRow_nil _ _ _ _) (by simp; omega) HR.out rfl (by decide)
  rw [hK, List.nil_append] at HT
  have c0 := (RT.cell 0).trans T0
  have c1 := (RT.cell 1).trans T1
  clear HR hK
  go_enter Tryz.func12, Tryz.ntmps12
  go_wp2_with (first
    | (have kk := o5; go_at_call 36; refine (rjoin7_any 3 (by decide) a5 n5 c5 LL _ s5 hn5).mono ?_; rintro e w6 ⟨a6, n6, c6, rfl, o6, b6⟩)
    | (go_at_call 32; refine HT.mono ?_; rintro e w5 ⟨a5, n5, c5, rfl, o5, d5, z5, k5⟩; have hn5 : n5 ≤ 255 := (by have h := o5.1; rw [bcells_length] at h; omega); obtain ⟨_, _, e5, s5, _⟩ := Src.ofOwn o5; cases e5; have RT5 : Row w5 w.heap.size 45 (tcells t) := (k5 w.heap.size (by simp; omega) (by simp [Value.ownBlock])).2.trans RT2; have c05 := (RT5.cell 0).trans T0))
  go_ret
  exact ⟨a6, n6, c6, rfl, own_le o6 z5, ((bt (ba _ _) (ba _ _)).trans d5).trans (b6.mono z5)⟩
theorem tab {w : World} {t : Tl} {W : World} (r : Row W w.heap.size 45 (tcells t)) : W.cell? ⟨w.heap.size, 0, none⟩ = some (.int .u8 (t.ty : Int)) ∧ W.cell? ⟨w.heap.size, 2, none⟩ = some (.int .u16 (t.intv : Int)) ∧ W.cell? ⟨w.heap.size, 3, none⟩ = some (.int .u16 (t.seq : Int)) ∧ W.cell? ⟨w.heap.size, 4, none⟩ = some (.int .u16 (t.rx : Int)) ∧ W.cell? ⟨w.heap.size, 7, none⟩ = some (.bool t.uni) ∧ W.cell? ⟨w.heap.size, 8, none⟩ = some (.bool t.all) ∧ W.cell? ⟨w.heap.size, 67, none⟩ = some (.slice t.sa t.sn t.sc) :=
  ⟨r.cell 0, r.cell 2, r.cell 3, r.cell 4, r.cell 7, r.cell 8, (r.cell 67).trans (tcells_get t)⟩
set_option maxHeartbeats 8000000 in
theorem rpiece_4 (t : Tl) (w : World) (ht : TSrc w t) (hf : TFit t.key) (hy : t.ty = 4) (hn : t.sn ≤ 2) (hl : (bodL t.key).length ≤ 100) : Calls Tryz.prog 12 #[.agg (tcells t).toArray] w (LaidN w (inL 4 (bodL t.key))) := by
  have RT := Row.new w 45 (tcells t)
  have BW := ba w (.cells (tcells t).toArray 45)
  have hsz : w.heap.size < (w.alloc (.cells (tcells t).toArray 45)).heap.size := by simp
  have HE : Hid (bodL t.key = hw (if t.uni = true then 32768 else 0) ++ hw t.seq ++ hw t.intv ++ timL t.st) := bodL_4 t.key hy
  have e3 : t.seq < 65536 := hf.seq
  have e2 : t.intv < 65536 := hf.intv
  have HS : Hid (∀ W, Below w.heap.size w W → Calls Tryz.prog 33 #[.slice t.sa t.sn t.sc] W (LaidN W (timL t.st))) := fun W hW => rstamps7_any t.sa t.sn t.sc t.st W (Src.below ht hW ht.lt) hn
  have HC := @tab w t
  have T7 := RT.cell 7
  have T0 := RT.cell 0
  have T0' : (tcells t)[0]? = some (.int .u8 4) := by show some (Value.int .u8 (t.ty : Int)) = _; rw [hy]; rfl
  have T7' : (tcells t)[7]? = some (.bool t.uni) := rfl
  rw [T0'] at T0
  rw [T7'] at T7
  rw [hy] at HC
  have HM : Hid ((timL t.st).length ≤ 100) := by show _ ≤ _; rw [HE.out] at hl; simp at hl; omega
  rw [HE.out] at hl ⊢
  clear HE hy hf ht hn T7' T0'
  have HX : Hid (∀ X, X = w.alloc (.cells (tcells t).toArray 45) → Row X w.heap.size 45 (tcells t) ∧ Below w.heap.size w X ∧ w.heap.size < X.heap.size) := by
    rintro X rfl
    exact ⟨RT, BW, hsz⟩
  clear RT BW hsz
  generalize t.seq = u3 at *
  generalize t.intv = u2 at *
  generalize timL t.st = TT at *
  cases hu : t.uni with
  | true =>
    try rw [hu] at HC
    try rw [hu] at T7
    try rw [hu] at hl
    simp only [if_true, if_false, Bool.false_eq_true] at hl ⊢
    have eh := hc3 32768 u3 u2 (by decide) e3 e2
    have em := fm3 32768 u3 u2
    go_enter Tryz.func12, Tryz.ntmps12
    go_upto_region 12 with fail
    refine name_world (R := fun W => Code.wp _ _ _ _ W) (P := fun X => Row X w.heap.size 45 (tcells t) ∧ Below w.heap.size w X ∧ w.heap.size < X.heap.size) _ (HX.out _ rfl) ?_
    clear HX T0 T7
    rintro X ⟨RX, BX, hX⟩
    have HD : Hid (∀ W, Below X.heap.size X W → Row W w.heap.size 45 (tcells t)) := fun W h => RX.below h hX
    refine wp_region_noPanic ?_
    refine wp_region_held_drew (S := fun W => Below X.heap.size X W) (by kernel_rfl) ((Below.refl _ _).drew) (fun hHeld => ?_)
    refine tA 0 ?_
    refine tA 1 ?_
    refine tA 2 ?_ (hv := by intro w hSw; (try dsimp only at hSw); have hm := (HC (HD.out _ hSw)).2.2.1; go_simp <;> with_reducible rfl)
    refine tA 3 ?_
    refine tA 4 ?_ (hv := by intro w hSw; (try dsimp only at hSw); have hm := (HC (HD.out _ hSw)).2.1; go_simp <;> with_reducible rfl)
    refine tA 7 ?_
    refine tA 8 ?_ (hv := by intro w hSw; (try dsimp only at hSw); have hm := (HC (HD.out _ hSw)).2.2.2.2.2.2; go_simp <;> with_reducible rfl)
    refine r1 5 fun K hK => ?_
    refine sBq (T := 125) (U := 36) (n := 3) [(0, .tmp 29), (1, .tmp 31), (2, .tmp 33)] [.int .u16 32768, .int .u16 (u3 : Int), .int .u16 (u2 : Int)] (by rfl) rfl (rb16_3 _ _ _) ?_
    intro gB wB zB rB hB5
    refine oK hK (by exact hHeld.trans (hB5.mono hHeld.size)) fun hHeld => ?_
    clear hK K
    refine r1 6 fun K hK => ?_
    go_simp
    refine (rtwo_any X.heap.size (.slice none 0 0) 0 [] gB 3 [UInt16.ofNat 32768, UInt16.ofNat u3, UInt16.ofNat u2] _ (World.ownsRow_nil _ _ _ _) hHeld.size (by rw [eh]; exact rB) rfl (by decide)).mono ?_
    rintro e w5 ⟨a5, n5, c5, rfl, o5, d5, z5, k5⟩
    rw [em, List.nil_append] at o5
    refine oK hK (by exact hHeld.trans d5) fun hHeld => ?_
    clear hK K
    refine r1 9 fun K hK => ?_
    go_simp
    refine (HS.out _ (BX.trans (hHeld.mono BX.size))).mono ?_
    rintro e w6 ⟨a6, n6, c6, rfl, o6, b6⟩
    replace o5 := own_bq o5 b6
    obtain ⟨_, _, e6, s6, _⟩ := Src.ofOwn o6
    cases e6
    refine oK hK (by exact hHeld.trans (b6.mono hHeld.size)) fun hHeld => ?_
    clear hK K
    refine r1 10 fun K hK => ?_
    refine sApb (.tmp 35) (.tmp 38) (by rfl) rfl X.heap.size _ n5 _ rfl o5 a6 n6 c6 TT rfl s6 (by have h5 := o5.1; have h6 := o6.1; rw [bcells_length] at h5 h6; have := HM.out; simp [hw_len] at h5; omega) hHeld.size ?_
    intro v7 w7 o7 g7
    obtain ⟨a7, c7, rfl⟩ := own_shape o7
    refine oK hK (by exact hHeld.grown g7 hHeld.size (fun q hq => (o5.lt q hq).1)) fun hHeld => ?_
    clear hK K
    refine tA 11 ?_
    refine dN ?_
    refine NoPanic.normal ?_
    have hn7 : n5 + n6 ≤ 255 := by have h := o7.1; rw [bcells_length] at h; omega
    obtain ⟨_, _, e7, s7, _⟩ := Src.ofOwn o7
    cases e7
    have c07 := (HC (HD.out _ hHeld)).1
    have B7 := BX.trans (hHeld.mono BX.size)
    clear rB hB5 k5 o5 o6 s6 d5 b6 g7
    go_wp2_with (go_at_call 36; refine (rjoin7_any 4 (by decide) a7 _ c7 _ _ s7 hn7).mono ?_; rintro e w8 ⟨a8, n8, c8, rfl, o8, b8⟩)
    go_ret
    exact ⟨a8, n8, c8, rfl, own_le o8 B7.size, bt B7 b8⟩
  | false =>
    try rw [hu] at HC
    try rw [hu] at T7
    try rw [hu] at hl
    simp only [if_true, if_false, Bool.false_eq_true] at hl ⊢
    have eh := hc3 0 u3 u2 (by decide) e3 e2
    have em := fm3 0 u3 u2
    go_enter Tryz.func12, Tryz.ntmps12
    go_upto_region 12 with fail
    refine name_world (R := fun W => Code.wp _ _ _ _ W) (P := fun X => Row X w.heap.size 45 (tcells t) ∧ Below w.heap.size w X ∧ w.heap.size < X.heap.size) _ (HX.out _ rfl) ?_
    clear HX T0 T7
    rintro X ⟨RX, BX, hX⟩
    have HD : Hid (∀ W, Below X.heap.size X W → Row W w.heap.size 45 (tcells t)) := fun W h => RX.below h hX
    refine wp_region_noPanic ?_
    refine wp_region_held_drew (S := fun W => Below X.heap.size X W) (by kernel_rfl) ((Below.refl _ _).drew) (fun hHeld => ?_)
    refine tA 0 ?_
    refine tA 1 ?_
    refine tA 2 ?_ (hv := by intro w hSw; (try dsimp only at hSw); have hm := (HC (HD.out _ hSw)).2.2.1; go_simp <;> with_reducible rfl)
    refine tA 3 ?_
    refine tA 4 ?_ (hv := by intro w hSw; (try dsimp only at hSw); have hm := (HC (HD.out _ hSw)).2.1; go_simp <;> with_reducible rfl)
    refine tA 7 ?_
    refine tA 8 ?_ (hv := by intro w hSw; (try dsimp only at hSw); have hm := (HC (HD.out _ hSw)).2.2.2.2.2.2; go_simp <;> with_reducible rfl)
    refine r1 5 fun K hK => ?_
    refine sBq (T := 125) (U := 36) (n := 3) [(0, .tmp 29), (1, .tmp 31), (2, .tmp 33)] [.int .u16 0, .int .u16 (u3 : Int), .int .u16 (u2 : Int)] (by rfl) rfl (rb16_3 _ _ _) ?_
    intro gB wB zB rB hB5
    refine oK hK (by exact hHeld.trans (hB5.mono hHeld.size)) fun hHeld => ?_
    clear hK K
    refine r1 6 fun K hK => ?_
    go_simp
    refine (rtwo_any X.heap.size (.slice none 0 0) 0 [] gB 3 [UInt16.ofNat 0, UInt16.ofNat u3, UInt16.ofNat u2] _ (World.ownsRow_nil _ _ _ _) hHeld.size (by rw [eh]; exact rB) rfl (by decide)).mono ?_
    rintro e w5 ⟨a5, n5, c5, rfl, o5, d5, z5, k5⟩
    rw [em, List.nil_append] at o5
    refine oK hK (by exact hHeld.trans d5) fun hHeld => ?_
    clear hK K
    refine r1 9 fun K hK => ?_
    go_simp
    refine (HS.out _ (BX.trans (hHeld.mono BX.size))).mono ?_
    rintro e w6 ⟨a6, n6, c6, rfl, o6, b6⟩
    replace o5 := own_bq o5 b6
    obtain ⟨_, _, e6, s6, _⟩ := Src.ofOwn o6
    cases e6
    refine oK hK (by exact hHeld.trans (b6.mono hHeld.size)) fun hHeld => ?_
    clear hK K
    refine r1 10 fun K hK => ?_
    refine sApb (.tmp 35) (.tmp 38) (by rfl) rfl X.heap.size _ n5 _ rfl o5 a6 n6 c6 TT rfl s6 (by have h5 := o5.1; have h6 := o6.1; rw [bcells_length] at h5 h6; have := HM.out; simp [hw_len] at h5; omega) hHeld.size ?_
    intro v7 w7 o7 g7
    obtain ⟨a7, c7, rfl⟩ := own_shape o7
    refine oK hK (by exact hHeld.grown g7 hHeld.size (fun q hq => (o5.lt q hq).1)) fun hHeld => ?_
    clear hK K
    refine tA 11 ?_
    refine dN ?_
    refine NoPanic.normal ?_
    have hn7 : n5 + n6 ≤ 255 := by have h := o7.1; rw [bcells_length] at h; omega
    obtain ⟨_, _, e7, s7, _⟩ := Src.ofOwn o7
    cases e7
    have c07 := (HC (HD.out _ hHeld)).1
    have B7 := BX.trans (hHeld.mono BX.size)
    clear rB hB5 k5 o5 o6 s6 d5 b6 g7
    go_wp2_with (go_at_call 36; refine (rjoin7_any 4 (by decide) a7 _ c7 _ _ s7 hn7).mono ?_; rintro e w8 ⟨a8, n8, c8, rfl, o8, b8⟩)
    go_ret
    exact ⟨a8, n8, c8, rfl, own_le o8 B7.size, bt B7 b8⟩
set_option maxHeartbeats 8000000 in
theorem rpiece_5 (t : Tl) (w : World) (ht : TSrc w t) (hf : TFit t.key) (hy : t.ty = 5) (hn : t.sn ≤ 2) (hl : (bodL t.key).length ≤ 100) : Calls Tryz.prog 12 #[.agg (tcells t).toArray] w (LaidN w (inL 5 (bodL t.key))) := by
  have RT := Row.new w 45 (tcells t)
  have BW := ba w (.cells (tcells t).toArray 45)
  have hsz : w.heap.size < (w.alloc (.cells (tcells t).toArray 45)).heap.size := by simp
  have HE : Hid (bodL t.key = [whmE t.key, 0] ++ (hw t.rx ++ hw t.intv) ++ whmL t.key ++ timL t.st) := by show _ = _; rw [bodL_5 t.key hy]; simp; rfl
  have HW1 : Hid (whmE t.key = (if t.all = true then 0 else adrE t.ad) ∧ whmL t.key = (if t.all = true then [] else adrL t.ad)) := ⟨rfl, rfl⟩
  have e4 : t.rx < 65536 := hf.rx
  have e2 : t.intv < 65536 := hf.intv
  have HS : Hid (∀ W, Below w.heap.size w W → Calls Tryz.prog 33 #[.slice t.sa t.sn t.sc] W (LaidN W (timL t.st))) := fun W hW => rstamps7_any t.sa t.sn t.sc t.st W (Src.below ht hW ht.lt) hn
  have HA := raddr7_any t.ad
  have HC := @tab w t
  have hq := RT.rAd
  rw [hy] at HC
  have HY : Hid ((adrL t.ad).length ≤ 16) := adrL_len t.ad
  have HM : Hid ((timL t.st).length ≤ 100) := by show _ ≤ _; rw [HE.out] at hl; simp at hl; omega
  rw [HE.out] at hl ⊢
  rw [HW1.out.1, HW1.out.2] at hl ⊢
  have eh := hcq2 t.rx t.intv e4 e2
  have em := fmq2 t.rx t.intv
  have HD : Hid (∀ W, Below (w.alloc (.cells (tcells t).toArray 45)).heap.size (w.alloc (.cells (tcells t).toArray 45)) W → Row W w.heap.size 45 (tcells t) ∧ Below w.heap.size w W) := fun W h => ⟨RT.below h hsz, bt BW h⟩
  have c0 := (HC RT).1
  clear HE HW1 hy hf ht hn e4 e2 RT hsz
  generalize t.rx = u4 at *
  generalize t.intv = u2 at *
  generalize timL t.st = TT at *
  generalize adrE t.ad = x at *
  generalize adrL t.ad = y at *
  cases hu : t.all with
  | true =>
    try rw [hu] at HC
    try rw [hu] at hl
    simp only [if_true, if_false, Bool.false_eq_true] at hl ⊢
    have ez : bcells [(0 : UInt8), 0] = [.int .u8 0, .int .u8 0] := rfl
    go_enter Tryz.func12, Tryz.ntmps12
    go_upto_region 17 with (first
      | (go_at_call 34; refine (HA _).mono ?_; rintro e w1 ⟨ps, pn, pc, rfl, p1, b1⟩; have c8 := (HC (HD.out _ b1).1).2.2.2.2.2.1)
      | (refine ldA (.tmp 43) (by rfl) rfl w.heap.size 17 t.ad rfl hq ?_))
    obtain ⟨R1, B1⟩ := HD.out _ b1
    have c2 := (HC R1).2.1
    have c4 := (HC R1).2.2.2.1
    have hlt := R1.lt
    have r3 := (Row.new w1 5 [.int .u8 0, .int .u8 0]).alloc (.cells #[.int .u16 (u4 : Int), .int .u16 (u2 : Int)] 36)
    have o3 := own_row (n := 2) r3 rfl (by decide) (Nat.le_refl _)
    have r4 := row_two w1 (.cells #[.int .u8 0, .int .u8 0] 5) 36 [.int .u16 (u4 : Int), .int .u16 (u2 : Int)]
    have HT := rtwo_any w1.heap.size (.slice (some ⟨w1.heap.size, 0, none⟩) 2 2) 2 [(0 : UInt8), 0] (w1.heap.size + 1) 2 [UInt16.ofNat u4, UInt16.ofNat u2] ((w1.alloc (.cells #[.int .u8 0, .int .u8 0] 5)).alloc (.cells #[.int .u16 (u4 : Int), .int .u16 (u2 : Int)] 36)) (by rw [ez]; exact o3) (by simp; omega) (by rw [eh]; exact r4) rfl (by decide)
    rw [em] at HT
    have HP : Hid (∀ W, Below w1.heap.size w1 W → Src W none 0 0 (bcells [])) := fun W hW => Src.nil _
    have HZ : Hid (True) := True.intro
    clear r3 o3 r4 ez eh em HD
    go_wp2_with (first
      | (have kk := b10; go_at_call 36; refine (rjoin7_any 5 (by decide) a8 _ c8' _ _ s8 (by have := HZ.out; have := hn7; omega)).mono ?_; rintro e w9 ⟨a9, n9, c9, rfl, o9, b9⟩)
      | (have kk := st7; at_builtin; refine append_src rfl (.tmp 60) (.tmp 63) rfl w1.heap.size _ _ _ rfl o6 a7 n7 c7 (bcells TT) rfl s7 (bcells_one _) (by have := HZ.out; have := hn7; omega) b7'.size ?_; intro v8 w8 o8 g8 _; clear kk st7; rw [← bcells_append] at o8; obtain ⟨a8, c8', rfl⟩ := own_shape o8; obtain ⟨_, _, e8, s8, _⟩ := Src.ofOwn o8; cases e8; have b10 : Below w1.heap.size w1 w8 := b7'.grown g8 b7'.size (fun k hk => (o6.lt k hk).1); have c08 := (HC (R1.below b10 hlt)).1)
      | (have kk := o6; go_at_call 33; refine (HS.out _ (bt B1 b6)).mono ?_; rintro e w7 ⟨a7, n7, c7, rfl, o7, b7⟩; have st7 := True.intro; replace o6 := own_bq o6 b7; obtain ⟨_, _, e7, s7, _⟩ := Src.ofOwn o7; cases e7; have b7' : Below w1.heap.size w1 w7 := b6.trans (b7.mono b6.size); have hn7 : n7 ≤ 100 := (by have h := o7.1; rw [bcells_length] at h; have := HM.out; omega))
      | (have kk := o5; at_builtin; refine append_src rfl (.tmp 57) (.tmp 58) rfl w1.heap.size _ _ _ rfl o5 none 0 0 (bcells []) rfl (HP.out _ b5) (bcells_one _) (by have := HZ.out; omega) b5.size ?_; intro v6 w6 o6 g6 _; rw [← bcells_append] at o6; have b6 : Below w1.heap.size w1 w6 := b5.grown g6 b5.size (fun k hk => (o5.lt k hk).1); have c67 := (HC (R1.below b6 hlt)).2.2.2.2.2.2)
      | (go_at_call 32; refine HT.mono ?_; rintro e w5 ⟨a5, n5, c5, rfl, o5, d5, z5, k5⟩; have b5 : Below w1.heap.size w1 w5 := (bt (ba _ _) (ba _ _)).trans d5; obtain rfl : n5 = 6 := (by have h5 := o5.1; rw [bcells_length] at h5; simp [hw_len] at h5; omega)))
    go_ret
    have B8 := bt B1 b10
    exact ⟨a9, n9, c9, rfl, own_le o9 B8.size, bt B8 b9⟩
  | false =>
    try rw [hu] at HC
    try rw [hu] at hl
    simp only [if_true, if_false, Bool.false_eq_true] at hl ⊢
    have ez : bcells [x, 0] = [.int .u8 (x.toNat : Int), .int .u8 0] := rfl
    go_enter Tryz.func12, Tryz.ntmps12
    go_upto_region 17 with (first
      | (go_at_call 34; refine (HA _).mono ?_; rintro e w1 ⟨ps, pn, pc, rfl, p1, b1⟩; have c8 := (HC (HD.out _ b1).1).2.2.2.2.2.1)
      | (refine ldA (.tmp 43) (by rfl) rfl w.heap.size 17 t.ad rfl hq ?_))
    obtain ⟨R1, B1⟩ := HD.out _ b1
    have c2 := (HC R1).2.1
    have c4 := (HC R1).2.2.2.1
    have hlt := R1.lt
    have r3 := (Row.new w1 5 [.int .u8 (x.toNat : Int), .int .u8 0]).alloc (.cells #[.int .u16 (u4 : Int), .int .u16 (u2 : Int)] 36)
    have o3 := own_row (n := 2) r3 rfl (by decide) (Nat.le_refl _)
    have r4 := row_two w1 (.cells #[.int .u8 (x.toNat : Int), .int .u8 0] 5) 36 [.int .u16 (u4 : Int), .int .u16 (u2 : Int)]
    have HT := rtwo_any w1.heap.size (.slice (some ⟨w1.heap.size, 0, none⟩) 2 2) 2 [x, 0] (w1.heap.size + 1) 2 [UInt16.ofNat u4, UInt16.ofNat u2] ((w1.alloc (.cells #[.int .u8 (x.toNat : Int), .int .u8 0] 5)).alloc (.cells #[.int .u16 (u4 : Int), .int .u16 (u2 : Int)] 36)) (by rw [ez]; exact o3) (by simp; omega) (by rw [eh]; exact r4) rfl (by decide)
    rw [em] at HT
    have HP : Hid (∀ W, Below w1.heap.size w1 W → Src W ps pn pc (bcells y)) := fun W hW => p1.below hW p1.lt
    have HZ : Hid (pn ≤ 16) := by have := HY.out; have := p1.blen; show _ ≤ _; omega
    clear r3 o3 r4 ez eh em HD
    go_wp2_with (first
      | (have kk := b10; go_at_call 36; refine (rjoin7_any 5 (by decide) a8 _ c8' _ _ s8 (by have := HZ.out; have := hn7; omega)).mono ?_; rintro e w9 ⟨a9, n9, c9, rfl, o9, b9⟩)
      | (have kk := st7; at_builtin; refine append_src rfl (.tmp 60) (.tmp 63) rfl w1.heap.size _ _ _ rfl o6 a7 n7 c7 (bcells TT) rfl s7 (bcells_one _) (by have := HZ.out; have := hn7; omega) b7'.size ?_; intro v8 w8 o8 g8 _; clear kk st7; rw [← bcells_append] at o8; obtain ⟨a8, c8', rfl⟩ := own_shape o8; obtain ⟨_, _, e8, s8, _⟩ := Src.ofOwn o8; cases e8; have b10 : Below w1.heap.size w1 w8 := b7'.grown g8 b7'.size (fun k hk => (o6.lt k hk).1); have c08 := (HC (R1.below b10 hlt)).1)
      | (have kk := o6; go_at_call 33; refine (HS.out _ (bt B1 b6)).mono ?_; rintro e w7 ⟨a7, n7, c7, rfl, o7, b7⟩; have st7 := True.intro; replace o6 := own_bq o6 b7; obtain ⟨_, _, e7, s7, _⟩ := Src.ofOwn o7; cases e7; have b7' : Below w1.heap.size w1 w7 := b6.trans (b7.mono b6.size); have hn7 : n7 ≤ 100 := (by have h := o7.1; rw [bcells_length] at h; have := HM.out; omega))
      | (have kk := o5; at_builtin; refine append_src rfl (.tmp 57) (.tmp 58) rfl w1.heap.size _ _ _ rfl o5 ps pn pc (bcells y) rfl (HP.out _ b5) (bcells_one _) (by have := HZ.out; omega) b5.size ?_; intro v6 w6 o6 g6 _; rw [← bcells_append] at o6; have b6 : Below w1.heap.size w1 w6 := b5.grown g6 b5.size (fun k hk => (o5.lt k hk).1); have c67 := (HC (R1.below b6 hlt)).2.2.2.2.2.2)
      | (go_at_call 32; refine HT.mono ?_; rintro e w5 ⟨a5, n5, c5, rfl, o5, d5, z5, k5⟩; have b5 : Below w1.heap.size w1 w5 := (bt (ba _ _) (ba _ _)).trans d5; obtain rfl : n5 = 6 := (by have h5 := o5.1; rw [bcells_length] at h5; simp [hw_len] at h5; omega)))
    go_ret
    have B8 := bt B1 b10
    exact ⟨a9, n9, c9, rfl, own_le o9 B8.size, bt B8 b9⟩
set_option maxHeartbeats 8000000 in
theorem rpiece_8 (t : Tl) (w : World) (hy : t.ty = 8) (hl : (bodL t.key).length ≤ 100) (HR : ∀ W, Calls Tryz.prog 35 #[.agg (tcells t).toArray] W (LaidN W (bodL t.key))) : Calls Tryz.prog 12 #[.agg (tcells t).toArray] w (LaidN w (inL 8 (bodL t.key))) := by
  have RT := Row.new w 45 (tcells t)
  have T0 : (tcells t)[0]? = some (.int .u8 8) := by show some (Value.int .u8 (t.ty : Int)) = _; rw [hy]; rfl
  have c0 := (RT.cell 0).trans T0
  have BW := ba w (.cells (tcells t).toArray 45)
  clear hy
  generalize bodL t.key = LL at *
  go_enter Tryz.func12, Tryz.ntmps12
  go_wp2_with (first
    | (have kk := o5; go_at_call 36; refine (rjoin7_any 8 (by decide) a5 n5 c5 LL _ s5 (by have h := o5.1; rw [bcells_length] at h; omega)).mono ?_; rintro e w6 ⟨a6, n6, c6, rfl, o6, b6⟩)
    | (go_at_call 35; refine (HR _).mono ?_; rintro e w5 ⟨a5, n5, c5, rfl, o5, b5⟩; obtain ⟨_, _, e5, s5, _⟩ := Src.ofOwn o5; cases e5; have c05 := ((RT.below b5 RT.lt).cell 0).trans T0)
    | (refine ldT (.tmp 1) (by rfl) rfl w.heap.size t rfl RT ?_))
  go_ret
  exact ⟨a6, n6, c6, rfl, own_le o6 (bt BW b5).size, bt (bt BW b5) b6⟩
set_option maxHeartbeats 8000000 in
theorem rpiece_9 (t : Tl) (w : World) (hy : t.ty = 9) (hl : (bodL t.key).length ≤ 100) (HR : ∀ W, Calls Tryz.prog 35 #[.agg (tcells t).toArray] W (LaidN W (bodL t.key))) : Calls Tryz.prog 12 #[.agg (tcells t).toArray] w (LaidN w (inL 9 (bodL t.key))) := by
  have RT := Row.new w 45 (tcells t)
  have T0 : (tcells t)[0]? = some (.int .u8 9) := by show some (Value.int .u8 (t.ty : Int)) = _; rw [hy]; rfl
  have c0 := (RT.cell 0).trans T0
  have BW := ba w (.cells (tcells t).toArray 45)
  clear hy
  generalize bodL t.key = LL at *
  go_enter Tryz.func12, Tryz.ntmps12
  go_wp2_with (first
    | (have kk := o5; go_at_call 36; refine (rjoin7_any 9 (by decide) a5 n5 c5 LL _ s5 (by have h := o5.1; rw [bcells_length] at h; omega)).mono ?_; rintro e w6 ⟨a6, n6, c6, rfl, o6, b6⟩)
    | (go_at_call 35; refine (HR _).mono ?_; rintro e w5 ⟨a5, n5, c5, rfl, o5, b5⟩; obtain ⟨_, _, e5, s5, _⟩ := Src.ofOwn o5; cases e5; have c05 := ((RT.below b5 RT.lt).cell 0).trans T0)
    | (refine ldT (.tmp 1) (by rfl) rfl w.heap.size t rfl RT ?_))
  go_ret
  exact ⟨a6, n6, c6, rfl, own_le o6 (bt BW b5).size, bt (bt BW b5) b6⟩
set_option maxHeartbeats 8000000 in
theorem rpiece_10 (t : Tl) (w : World) (hy : t.ty = 10) (hl : (bodL t.key).length ≤ 100) (HR : ∀ W, Calls Tryz.prog 35 #[.agg (tcells t).toArray] W (LaidN W (bodL t.key))) : Calls Tryz.prog 12 #[.agg (tcells t).toArray] w (LaidN w (inL 10 (bodL t.key))) := by
  have RT := Row.new w 45 (tcells t)
  have T0 : (tcells t)[0]? = some (.int .u8 10) := by show some (Value.int .u8 (t.ty : Int)) = _; rw [hy]; rfl
  have c0 := (RT.cell 0).trans T0
  have BW := ba w (.cells (tcells t).toArray 45)
  clear hy
  generalize bodL t.key = LL at *
  go_enter Tryz.func12, Tryz.ntmps12
  go_wp2_with (first
    | (have kk := o5; go_at_call 36; refine (rjoin7_any 10 (by decide) a5 n5 c5 LL _ s5 (by have h := o5.1; rw [bcells_length] at h; omega)).mono ?_; rintro e w6 ⟨a6, n6, c6, rfl, o6, b6⟩)
    | (go_at_call 35; refine (HR _).mono ?_; rintro e w5 ⟨a5, n5, c5, rfl, o5, b5⟩; obtain ⟨_, _, e5, s5, _⟩ := Src.ofOwn o5; cases e5; have c05 := ((RT.below b5 RT.lt).cell 0).trans T0)
    | (refine ldT (.tmp 1) (by rfl) rfl w.heap.size t rfl RT ?_))
  go_ret
  exact ⟨a6, n6, c6, rfl, own_le o6 (bt BW b5).size, bt (bt BW b5) b6⟩
/-- What the parts that are not named are, of a Tlv that may be. -/
theorem chk_all10 {k : TK} (h : chkT k = 0) (hy : k.ty = 10) : k.all = false := by
  have e := congrArg TK.all (chkT_zero h).2.1
  unfold unK at e
  rw [hy] at e
  simp [zeroK] at e
  exact e
theorem chk_src {k : TK} (h : chkT k = 0) (hy : k.ty = 8 ∨ k.ty = 9) (ha : k.all = true) : srcL k.pr = [] := by
  have hf := (chkT_zero h).2.2.1
  have hp : k.pr = zeroQ := by
    rcases hy with hy | hy
    · unfold fitB at hf
      rw [hy] at hf
      simp only [show ¬ (8 : Nat) = 4 by decide, show ¬ (8 : Nat) = 5 by decide, if_false, if_true] at hf
      unfold fitU at hf
      by_cases hc : k.all = true ∧ (k.met ≠ 65535 ∨ prqB k.pr zeroQ = false)
      · rw [if_pos hc] at hf; exact absurd hf (by decide)
      · have : prqB k.pr zeroQ = true := by
          cases hb : prqB k.pr zeroQ with
          | true => rfl
          | false => exact absurd ⟨ha, .inr hb⟩ hc
        exact (prB_iff _ _).1 this
    · unfold fitB at hf
      rw [hy] at hf
      simp only [show ¬ (9 : Nat) = 4 by decide, show ¬ (9 : Nat) = 5 by decide, show ¬ (9 : Nat) = 8 by decide, if_false, if_true] at hf
      rw [ha] at hf
      exact (prB_iff _ _).1 (by simpa using hf)
  rw [hp]
  decide +kernel
theorem rpiece7_any (t : Tl) (w : World) (ht : TSrc w t) (h : TOk t.key) (hc : chkT t.key = 0) : Calls Tryz.prog 12 #[.agg (tcells t).toArray] w (LaidN w (encK (pieK t.key))) := by
  have hn : t.sn ≤ 2 := by rw [TSrc.len ht]; exact h.st
  have hl := bodL_100 h
  have e : ∀ y : Nat, t.ty = y → 0 < y → y < 256 → encK (pieK t.key) = inL (UInt8.ofNat y) (bodL t.key) := by
    intro y hy h0 h1
    have e1 : (pieK t.key).1 = UInt8.ofNat y := by show UInt8.ofNat t.ty = _; rw [hy]
    have e2 : UInt8.ofNat y ≠ 0 := by
      intro hh
      have := congrArg UInt8.toNat hh
      simp at this
      omega
    unfold encK
    rw [e1, if_neg e2]
    rfl
  rcases namB_cases' h.nam with hy | hy | hy | hy | hy | hy | hy
  · rw [e 2 hy (by decide) (by decide)]; exact rpiece_2 t w h.fit hy hl
  · rw [e 3 hy (by decide) (by decide)]; exact rpiece_3 t w h.fit hy hl
  · rw [e 4 hy (by decide) (by decide)]; exact rpiece_4 t w ht h.fit hy hn hl
  · rw [e 5 hy (by decide) (by decide)]; exact rpiece_5 t w ht h.fit hy hn hl
  · rw [e 8 hy (by decide) (by decide)]; exact rpiece_8 t w hy hl fun W => rrouted_8 t W h.fit hy h.d0 h.d1 h.s0 h.s1 (chk_src hc (.inl hy))
  · rw [e 9 hy (by decide) (by decide)]; exact rpiece_9 t w hy hl fun W => rrouted_9 t W hy h.d0 h.d1 h.s0 h.s1 (chk_src hc (.inr hy))
  · rw [e 10 hy (by decide) (by decide)]; exact rpiece_10 t w hy hl fun W => rrouted_10 t W h.fit hy h.d0 h.d1 h.s0 h.s1 (chk_all10 hc hy)
end Go.Proofs.YtdibjgcokebfbaaGreat
