/-
  The document's routed of package culvertref07: route requests and updates.
-/
import Derived.Test.YtdibjgcokebfbaaGreatM10
import Derived.Test.YtdibjgcokebfbaaGreatM06
namespace Go.Proofs.YtdibjgcokebfbaaGreat
open Go.RowKit
set_option linter.unusedSimpArgs false
set_option maxRecDepth 20000
theorem rb8_2c (E : UInt8) (N : Nat) (h : N < 256) : bcells [E, UInt8.ofNat N] = [.int .u8 (E.toNat : Int), .int .u8 (N : Int)] := by simp [bcells]; omega
theorem rb8_4c (E : UInt8) (N : Nat) (h : N < 256) : bcells [E, 0, UInt8.ofNat N, 0] = [.int .u8 (E.toNat : Int), .int .u8 0, .int .u8 (N : Int), .int .u8 0] := by simp [bcells]; omega
theorem hc3 (a b c : Nat) (ha : a < 65536) (hb : b < 65536) (hc : c < 65536) : hcells [UInt16.ofNat a, UInt16.ofNat b, UInt16.ofNat c] = [.int .u16 (a : Int), .int .u16 (b : Int), .int .u16 (c : Int)] := by simp [hcells]; omega
theorem fm3 (a b c : Nat) : [UInt16.ofNat a, UInt16.ofNat b, UInt16.ofNat c].flatMap be16 = hw a ++ hw b ++ hw c := by simp [hw]
set_option maxHeartbeats 8000000 in
theorem rrouted_9 (t : Tl) (w : World) (hy : t.ty = 9) (d0 : 0 ≤ t.pr.d.n) (d1 : t.pr.d.n ≤ 128) (s0 : 0 ≤ t.pr.s.n) (s1 : t.pr.s.n ≤ 128) (hz : t.all = true → srcL t.pr = []) : Calls Tryz.prog 35 #[.agg (tcells t).toArray] w (LaidN w (bodL t.key)) := by
  have RT := Row.new w 45 (tcells t)
  have T0 : (tcells t)[0]? = some (.int .u8 9) := by show some (Value.int .u8 (t.ty : Int)) = _; rw [hy]; rfl
  have T8 : (tcells t)[8]? = some (.bool t.all) := rfl
  have HE : Hid (bodL t.key = [whrE t.key, UInt8.ofNat (whrN t.key)] ++ whrL t.key ++ srcL t.pr) := by
    show _ = _
    rw [bodL_9 t.key hy]
    simp
    rfl
  have HW1 : Hid (whrE t.key = (if t.all = true then 0 else pfxE t.pr.d) ∧ whrN t.key = (if t.all = true then 0 else pfxN t.pr.d) ∧ whrL t.key = (if t.all = true then [] else pfxL t.pr.d)) := ⟨rfl, rfl, rfl⟩
  have HX := fun W => rprefix7_any t.pr.d W d0 d1
  have HS := fun W => rsource7_any t.pr W s0 s1
  have hN : pfxN t.pr.d < 256 := by unfold pfxN; split <;> omega
  have HM : Hid ((pfxL t.pr.d).length ≤ 1000) := Nat.le_trans (pfxL_len _) (by decide)
  have HC : Hid ((srcL t.pr).length ≤ 1000) := Nat.le_trans (srcL_len _) (by decide)
  rw [HE.out]
  rw [HW1.out.1, HW1.out.2.1, HW1.out.2.2]
  clear HE HW1 hy d0 d1 s0 s1
  have HL : Hid (∀ W, Below (w.alloc (.cells (tcells t).toArray 45)).heap.size (w.alloc (.cells (tcells t).toArray 45)) W → LQ W w.heap.size 33 t.pr ∧ W.cell? ⟨w.heap.size, 0, none⟩ = some (.int .u8 9) ∧ W.cell? ⟨w.heap.size, 8, none⟩ = some (.bool t.all)) := fun W h => by
    have r := RT.below h RT.lt
    exact ⟨r.rPr, (r.cell 0).trans T0, (r.cell 8).trans T8⟩
  have hq := RT.rPr
  generalize pfxE t.pr.d = x at *
  generalize pfxN t.pr.d = z at *
  generalize pfxL t.pr.d = y at *
  generalize srcL t.pr = S at *
  clear RT T0 T8
  cases hall : t.all with
  | true =>
    rw [hall] at HL
    have hz1 := hz hall
    subst hz1
    have ez := rb8_2c (0 : UInt8) 0 (by decide)
    have e00 : ((0 : UInt8).toNat : Int) = 0 := rfl
    have e01 : ((0 : Nat) : Int) = 0 := rfl
    rw [e00, e01] at ez
    clear hz hN
    go_enter Tryz.func35, Tryz.ntmps35
    go_upto_region 15 with (first
      | (refine ldP (.tmp 11) (by rfl) rfl w.heap.size 33 t.pr.d rfl hq.d ?_)
      | (go_at_call 59; refine (HX _).mono ?_; rintro e w1 ⟨ps, pn, pc, rfl, p1, b1⟩; have m1 := (HL.out _ b1).1)
      | (have kk := m1; refine ldQ (.tmp 17) (by rfl) rfl w.heap.size 33 t.pr rfl m1 ?_)
      | (go_at_call 60; refine (HS _).mono ?_; rintro e w2 ⟨qa, qn, qc, rfl, o2, b2⟩; have c0 := (HL.out _ (bt b1 b2)).2.1; have c8 := (HL.out _ (bt b1 b2)).2.2))
    have hy1 := p1.blen
    have hy2 : qn = 0 := by have := o2.1; rw [bcells_length] at this; simp at this; omega
    obtain ⟨_, _, e2, q2, hq2⟩ := Src.ofOwn o2
    cases e2
    have r3 := Row.new w2 5 [.int .u8 0, .int .u8 0]
    have o3 := own_row (n := 2) r3 rfl (by decide) (Nat.le_refl _)
    have B2 := bt (bt (ba w (.cells (tcells t).toArray 45)) b1) b2
    have oK := o3
    have bK := ba w2 (.cells #[.int .u8 0, .int .u8 0] 5)
    have HYn : Hid (True) := True.intro
    have HP : Hid (Src (w2.alloc (.cells #[.int .u8 0, .int .u8 0] 5)) none 0 0 (bcells [])) := Src.nil _
    have HQ : Hid (∀ W, Below w2.heap.size w2 W → Src W none 0 0 (bcells [])) := fun W hW => Src.nil _
    clear HM HC hy1 hy2
    go_wp2_with (first
      | (have kk := o5; at_builtin; refine append_src rfl (.tmp 66) (.tmp 67) rfl w2.heap.size _ _ _ rfl o5 none 0 0 (bcells []) rfl (HQ.out _ b5) (bcells_one _) (by have := HYn.out; omega) b5.size ?_; intro v6 w6 o6 g6 _)
      | (at_builtin; refine append_src rfl (.tmp 64) (.tmp 65) rfl w2.heap.size _ 2 [.int .u8 0, .int .u8 0] rfl oK none 0 0 (bcells []) rfl HP.out (bcells_one _) (by have := HYn.out; omega) (by simp) ?_; intro v5 w5 o5 g5 _; have b5 : Below w2.heap.size w2 w5 := bK.grown g5 (by simp) (fun k hk => (oK.lt k hk).1)))
    go_ret
    rw [← ez, ← bcells_append, ← bcells_append] at o6
    obtain ⟨a6, c6, rfl⟩ := own_shape o6
    have b6 := b5.grown g6 b5.size (fun k hk => (o5.lt k hk).1)
    exact ⟨a6, _, c6, rfl, by simpa using own_le o6 B2.size, bt B2 b6⟩
  | false =>
    rw [hall] at HL
    have ez := rb8_2c x z hN
    clear hz hN
    go_enter Tryz.func35, Tryz.ntmps35
    go_upto_region 15 with (first
      | (refine ldP (.tmp 11) (by rfl) rfl w.heap.size 33 t.pr.d rfl hq.d ?_)
      | (go_at_call 59; refine (HX _).mono ?_; rintro e w1 ⟨ps, pn, pc, rfl, p1, b1⟩; have m1 := (HL.out _ b1).1)
      | (have kk := m1; refine ldQ (.tmp 17) (by rfl) rfl w.heap.size 33 t.pr rfl m1 ?_)
      | (go_at_call 60; refine (HS _).mono ?_; rintro e w2 ⟨qa, qn, qc, rfl, o2, b2⟩; have c0 := (HL.out _ (bt b1 b2)).2.1; have c8 := (HL.out _ (bt b1 b2)).2.2))
    have hy1 := p1.blen
    have hy2 : qn = S.length := by have := o2.1; rw [bcells_length] at this; simp at this; omega
    obtain ⟨_, _, e2, q2, hq2⟩ := Src.ofOwn o2
    cases e2
    have r3 := Row.new w2 5 [.int .u8 (x.toNat : Int), .int .u8 (z : Int)]
    have o3 := own_row (n := 2) r3 rfl (by decide) (Nat.le_refl _)
    have B2 := bt (bt (ba w (.cells (tcells t).toArray 45)) b1) b2
    have oK := o3
    have bK := ba w2 (.cells #[.int .u8 (x.toNat : Int), .int .u8 (z : Int)] 5)
    have HYn : Hid (pn ≤ 1000 ∧ qn ≤ 1000) := by have := HM.out; have := HC.out; constructor <;> omega
    have HP : Hid (Src (w2.alloc (.cells #[.int .u8 (x.toNat : Int), .int .u8 (z : Int)] 5)) ps pn pc (bcells y)) := (p1.below b2 p1.lt).alloc _
    have HQ : Hid (∀ W, Below w2.heap.size w2 W → Src W qa qn qc (bcells S)) := fun W hW => q2.below hW q2.lt
    clear HM HC hy1 hy2
    go_wp2_with (first
      | (have kk := o5; at_builtin; refine append_src rfl (.tmp 66) (.tmp 67) rfl w2.heap.size _ _ _ rfl o5 qa qn qc (bcells S) rfl (HQ.out _ b5) (bcells_one _) (by have := HYn.out; omega) b5.size ?_; intro v6 w6 o6 g6 _)
      | (at_builtin; refine append_src rfl (.tmp 64) (.tmp 65) rfl w2.heap.size _ 2 [.int .u8 (x.toNat : Int), .int .u8 (z : Int)] rfl oK ps pn pc (bcells y) rfl HP.out (bcells_one _) (by have := HYn.out; omega) (by simp) ?_; intro v5 w5 o5 g5 _; have b5 : Below w2.heap.size w2 w5 := bK.grown g5 (by simp) (fun k hk => (oK.lt k hk).1)))
    go_ret
    rw [← ez, ← bcells_append, ← bcells_append] at o6
    obtain ⟨a6, c6, rfl⟩ := own_shape o6
    have b6 := b5.grown g6 b5.size (fun k hk => (o5.lt k hk).1)
    exact ⟨a6, _, c6, rfl, by simpa using own_le o6 B2.size, bt B2 b6⟩
set_option maxHeartbeats 8000000 in
theorem rrouted_8 (t : Tl) (w : World) (hf : TFit t.key) (hy : t.ty = 8) (d0 : 0 ≤ t.pr.d.n) (d1 : t.pr.d.n ≤ 128) (s0 : 0 ≤ t.pr.s.n) (s1 : t.pr.s.n ≤ 128) (hz : t.all = true → srcL t.pr = []) : Calls Tryz.prog 35 #[.agg (tcells t).toArray] w (LaidN w (bodL t.key)) := by
  have RT := Row.new w 45 (tcells t)
  have T0 : (tcells t)[0]? = some (.int .u8 8) := by show some (Value.int .u8 (t.ty : Int)) = _; rw [hy]; rfl
  have T8 : (tcells t)[8]? = some (.bool t.all) := rfl
  have HE : Hid (bodL t.key = [whrE t.key, 0, UInt8.ofNat (whrN t.key), 0] ++ (hw t.intv ++ hw t.seq ++ hw t.met) ++ whrL t.key ++ srcL t.pr) := by
    show _ = _
    rw [bodL_8 t.key hy]
    simp
    rfl
  have HW1 : Hid (whrE t.key = (if t.all = true then 0 else pfxE t.pr.d) ∧ whrN t.key = (if t.all = true then 0 else pfxN t.pr.d) ∧ whrL t.key = (if t.all = true then [] else pfxL t.pr.d)) := ⟨rfl, rfl, rfl⟩
  have HX := fun W => rprefix7_any t.pr.d W d0 d1
  have HS := fun W => rsource7_any t.pr W s0 s1
  have hN : pfxN t.pr.d < 256 := by unfold pfxN; split <;> omega
  have HM : Hid ((pfxL t.pr.d).length ≤ 1000) := Nat.le_trans (pfxL_len _) (by decide)
  have HC : Hid ((srcL t.pr).length ≤ 1000) := Nat.le_trans (srcL_len _) (by decide)
  rw [HE.out]
  rw [HW1.out.1, HW1.out.2.1, HW1.out.2.2]
  clear HE HW1 hy d0 d1 s0 s1
  have HL : Hid (∀ W, Below (w.alloc (.cells (tcells t).toArray 45)).heap.size (w.alloc (.cells (tcells t).toArray 45)) W → LQ W w.heap.size 33 t.pr ∧ W.cell? ⟨w.heap.size, 0, none⟩ = some (.int .u8 8) ∧ W.cell? ⟨w.heap.size, 8, none⟩ = some (.bool t.all) ∧ (W.cell? ⟨w.heap.size, 2, none⟩ = some (.int .u16 (t.intv : Int)) ∧ W.cell? ⟨w.heap.size, 3, none⟩ = some (.int .u16 (t.seq : Int)) ∧ W.cell? ⟨w.heap.size, 5, none⟩ = some (.int .u16 (t.met : Int)))) := fun W h => by
    have r := RT.below h RT.lt
    exact ⟨r.rPr, (r.cell 0).trans T0, (r.cell 8).trans T8, r.tc.c2, r.tc.c3, r.tc.c5⟩
  have hq := RT.rPr
  have h2 := hf.intv
  have h3 := hf.seq
  have h5 := hf.met
  replace h2 : t.intv < 65536 := h2
  replace h3 : t.seq < 65536 := h3
  replace h5 : t.met < 65536 := h5
  have eh := hc3 t.intv t.seq t.met h2 h3 h5
  have em := fm3 t.intv t.seq t.met
  clear hf h2 h3 h5
  generalize t.intv = u2 at *
  generalize t.seq = u3 at *
  generalize t.met = u5 at *
  generalize pfxE t.pr.d = x at *
  generalize pfxN t.pr.d = z at *
  generalize pfxL t.pr.d = y at *
  generalize srcL t.pr = S at *
  clear RT T0 T8
  cases hall : t.all with
  | true =>
    rw [hall] at HL
    have hz1 := hz hall
    subst hz1
    have ez := rb8_4c (0 : UInt8) 0 (by decide)
    have e00 : ((0 : UInt8).toNat : Int) = 0 := rfl
    have e01 : ((0 : Nat) : Int) = 0 := rfl
    rw [e00, e01] at ez
    clear hz hN
    go_enter Tryz.func35, Tryz.ntmps35
    go_upto_region 13 with (first
      | (refine ldP (.tmp 11) (by rfl) rfl w.heap.size 33 t.pr.d rfl hq.d ?_)
      | (go_at_call 59; refine (HX _).mono ?_; rintro e w1 ⟨ps, pn, pc, rfl, p1, b1⟩; have m1 := (HL.out _ b1).1)
      | (have kk := m1; refine ldQ (.tmp 17) (by rfl) rfl w.heap.size 33 t.pr rfl m1 ?_)
      | (go_at_call 60; refine (HS _).mono ?_; rintro e w2 ⟨qa, qn, qc, rfl, o2, b2⟩; obtain ⟨_, c0, c8, c2, c3, c5⟩ := HL.out _ (bt b1 b2)))
    have hy1 := p1.blen
    have hy2 : qn = 0 := by have := o2.1; rw [bcells_length] at this; simp at this; omega
    obtain ⟨_, _, e2, q2, hq2⟩ := Src.ofOwn o2
    cases e2
    have r3 := Row.new w2 5 [.int .u8 0, .int .u8 0, .int .u8 0, .int .u8 0]
    have o3 := own_row (n := 4) r3 rfl (by decide) (Nat.le_refl _)
    have B2 := bt (bt (ba w (.cells (tcells t).toArray 45)) b1) b2
    obtain ⟨_, _, _, f2, f3, f5⟩ := HL.out _ (bt (bt b1 b2) (ba w2 (.cells #[.int .u8 0, .int .u8 0, .int .u8 0, .int .u8 0] 5)))
    have r4 := Row.new (w2.alloc (.cells #[.int .u8 0, .int .u8 0, .int .u8 0, .int .u8 0] 5)) 36 [.int .u16 (u2 : Int), .int .u16 (u3 : Int), .int .u16 (u5 : Int)]
    rw [World.size_alloc] at r4
    have o4 := o3.alloc (.cells #[.int .u16 (u2 : Int), .int .u16 (u3 : Int), .int .u16 (u5 : Int)] 36)
    have HT : Hid (Calls Tryz.prog 32 #[.slice (some ⟨w2.heap.size, 0, none⟩) 4 4, .slice (some ⟨w2.heap.size + 1, 0, none⟩) 3 3] ((w2.alloc (.cells #[.int .u8 0, .int .u8 0, .int .u8 0, .int .u8 0] 5)).alloc (.cells #[.int .u16 (u2 : Int), .int .u16 (u3 : Int), .int .u16 (u5 : Int)] 36)) (OwnL w2.heap.size ((w2.alloc (.cells #[.int .u8 0, .int .u8 0, .int .u8 0, .int .u8 0] 5)).alloc (.cells #[.int .u16 (u2 : Int), .int .u16 (u3 : Int), .int .u16 (u5 : Int)] 36)) (.slice (some ⟨w2.heap.size, 0, none⟩) 4 4) ([(0 : UInt8), 0, UInt8.ofNat 0, 0] ++ [UInt16.ofNat u2, UInt16.ofNat u3, UInt16.ofNat u5].flatMap be16))) := by
      refine rtwo_any w2.heap.size _ 4 [(0 : UInt8), 0, UInt8.ofNat 0, 0] (w2.heap.size + 1) 3 [UInt16.ofNat u2, UInt16.ofNat u3, UInt16.ofNat u5] _ ?_ (by simp; omega) ?_ rfl (by omega)
      · rw [ez]; exact o4
      · rw [eh]; exact r4
    have HYn : Hid (True) := True.intro
    have HP : Hid (∀ W, Below w2.heap.size w2 W → Src W none 0 0 (bcells [])) := fun W hW => Src.nil _
    have HQ : Hid (∀ W, Below w2.heap.size w2 W → Src W none 0 0 (bcells [])) := fun W hW => Src.nil _
    clear HM HC hy1 hy2
    go_wp2_with (first
      | (have kk := o6; at_builtin; refine append_src rfl (.tmp 66) (.tmp 67) rfl w2.heap.size _ _ _ rfl o6 none 0 0 (bcells []) rfl (HQ.out _ b6) (bcells_one _) (by have := HYn.out; omega) b6.size ?_; intro v7 w7 o7 g7 _)
      | (have kk := o5; at_builtin; refine append_src rfl (.tmp 64) (.tmp 65) rfl w2.heap.size _ n5 _ rfl o5 none 0 0 (bcells []) rfl (HP.out _ b5) (bcells_one _) (by have := HYn.out; omega) b5.size ?_; intro v6 w6 o6 g6 _; have b6 : Below w2.heap.size w2 w6 := b5.grown g6 b5.size (fun k hk => (o5.lt k hk).1))
      | (go_at_call 32; refine HT.out.mono ?_; rintro e w5 ⟨a5, n5, c5, rfl, o5, d5, z5, k5⟩; have b5 : Below w2.heap.size w2 w5 := (((Below.refl _ w2).alloc (Nat.le_refl _) _).alloc (by simp) _).trans d5; have n5l : n5 ≤ 1000 := by (have h := o5.1; rw [bcells_length, em] at h; simp [hw, be16] at h; omega)))
    go_ret
    rw [em, ← bcells_append, ← bcells_append] at o7
    obtain ⟨a7, c7, rfl⟩ := own_shape o7
    have b7 := b6.grown g7 b6.size (fun k hk => (o6.lt k hk).1)
    exact ⟨a7, _, c7, rfl, by simpa using own_le o7 B2.size, bt B2 b7⟩
  | false =>
    rw [hall] at HL
    have ez := rb8_4c x z hN
    clear hz hN
    go_enter Tryz.func35, Tryz.ntmps35
    go_upto_region 13 with (first
      | (refine ldP (.tmp 11) (by rfl) rfl w.heap.size 33 t.pr.d rfl hq.d ?_)
      | (go_at_call 59; refine (HX _).mono ?_; rintro e w1 ⟨ps, pn, pc, rfl, p1, b1⟩; have m1 := (HL.out _ b1).1)
      | (have kk := m1; refine ldQ (.tmp 17) (by rfl) rfl w.heap.size 33 t.pr rfl m1 ?_)
      | (go_at_call 60; refine (HS _).mono ?_; rintro e w2 ⟨qa, qn, qc, rfl, o2, b2⟩; obtain ⟨_, c0, c8, c2, c3, c5⟩ := HL.out _ (bt b1 b2)))
    have hy1 := p1.blen
    have hy2 : qn = S.length := by have := o2.1; rw [bcells_length] at this; simp at this; omega
    obtain ⟨_, _, e2, q2, hq2⟩ := Src.ofOwn o2
    cases e2
    have r3 := Row.new w2 5 [.int .u8 (x.toNat : Int), .int .u8 0, .int .u8 (z : Int), .int .u8 0]
    have o3 := own_row (n := 4) r3 rfl (by decide) (Nat.le_refl _)
    have B2 := bt (bt (ba w (.cells (tcells t).toArray 45)) b1) b2
    obtain ⟨_, _, _, f2, f3, f5⟩ := HL.out _ (bt (bt b1 b2) (ba w2 (.cells #[.int .u8 (x.toNat : Int), .int .u8 0, .int .u8 (z : Int), .int .u8 0] 5)))
    have r4 := Row.new (w2.alloc (.cells #[.int .u8 (x.toNat : Int), .int .u8 0, .int .u8 (z : Int), .int .u8 0] 5)) 36 [.int .u16 (u2 : Int), .int .u16 (u3 : Int), .int .u16 (u5 : Int)]
    rw [World.size_alloc] at r4
    have o4 := o3.alloc (.cells #[.int .u16 (u2 : Int), .int .u16 (u3 : Int), .int .u16 (u5 : Int)] 36)
    have HT : Hid (Calls Tryz.prog 32 #[.slice (some ⟨w2.heap.size, 0, none⟩) 4 4, .slice (some ⟨w2.heap.size + 1, 0, none⟩) 3 3] ((w2.alloc (.cells #[.int .u8 (x.toNat : Int), .int .u8 0, .int .u8 (z : Int), .int .u8 0] 5)).alloc (.cells #[.int .u16 (u2 : Int), .int .u16 (u3 : Int), .int .u16 (u5 : Int)] 36)) (OwnL w2.heap.size ((w2.alloc (.cells #[.int .u8 (x.toNat : Int), .int .u8 0, .int .u8 (z : Int), .int .u8 0] 5)).alloc (.cells #[.int .u16 (u2 : Int), .int .u16 (u3 : Int), .int .u16 (u5 : Int)] 36)) (.slice (some ⟨w2.heap.size, 0, none⟩) 4 4) ([x, 0, UInt8.ofNat z, 0] ++ [UInt16.ofNat u2, UInt16.ofNat u3, UInt16.ofNat u5].flatMap be16))) := by
      refine rtwo_any w2.heap.size _ 4 [x, 0, UInt8.ofNat z, 0] (w2.heap.size + 1) 3 [UInt16.ofNat u2, UInt16.ofNat u3, UInt16.ofNat u5] _ ?_ (by simp; omega) ?_ rfl (by omega)
      · rw [ez]; exact o4
      · rw [eh]; exact r4
    have HYn : Hid (pn ≤ 1000 ∧ qn ≤ 1000) := by have := HM.out; have := HC.out; constructor <;> omega
    have HP : Hid (∀ W, Below w2.heap.size w2 W → Src W ps pn pc (bcells y)) := fun W hW => (p1.below b2 p1.lt).below hW (p1.below b2 p1.lt).lt
    have HQ : Hid (∀ W, Below w2.heap.size w2 W → Src W qa qn qc (bcells S)) := fun W hW => q2.below hW q2.lt
    clear HM HC hy1 hy2
    go_wp2_with (first
      | (have kk := o6; at_builtin; refine append_src rfl (.tmp 66) (.tmp 67) rfl w2.heap.size _ _ _ rfl o6 qa qn qc (bcells S) rfl (HQ.out _ b6) (bcells_one _) (by have := HYn.out; omega) b6.size ?_; intro v7 w7 o7 g7 _)
      | (have kk := o5; at_builtin; refine append_src rfl (.tmp 64) (.tmp 65) rfl w2.heap.size _ n5 _ rfl o5 ps pn pc (bcells y) rfl (HP.out _ b5) (bcells_one _) (by have := HYn.out; omega) b5.size ?_; intro v6 w6 o6 g6 _; have b6 : Below w2.heap.size w2 w6 := b5.grown g6 b5.size (fun k hk => (o5.lt k hk).1))
      | (go_at_call 32; refine HT.out.mono ?_; rintro e w5 ⟨a5, n5, c5, rfl, o5, d5, z5, k5⟩; have b5 : Below w2.heap.size w2 w5 := (((Below.refl _ w2).alloc (Nat.le_refl _) _).alloc (by simp) _).trans d5; have n5l : n5 ≤ 1000 := by (have h := o5.1; rw [bcells_length, em] at h; simp [hw, be16] at h; omega)))
    go_ret
    rw [em, ← bcells_append, ← bcells_append] at o7
    obtain ⟨a7, c7, rfl⟩ := own_shape o7
    have b7 := b6.grown g7 b6.size (fun k hk => (o6.lt k hk).1)
    exact ⟨a7, _, c7, rfl, by simpa using own_le o7 B2.size, bt B2 b7⟩
end Go.Proofs.YtdibjgcokebfbaaGreat

namespace Go.Proofs.YtdibjgcokebfbaaGreat
open Go.RowKit
set_option linter.unusedSimpArgs false
set_option maxRecDepth 20000
variable {bv : Option Addr}

/-- Where a reading is, and its error; what a number of k bytes is there, and where it is then. -/
structure RS where
  p : Nat
  y : Int
def RS.adv (r : RS) (l : List UInt8) (k : Int) : RS := ⟨r.p + (tkB l r.p r.y k).length, tkE l r.p r.y k⟩
def RS.val (r : RS) (l : List UInt8) (k : Int) : Nat := nv (tkB l r.p r.y k)
def RS.bad (r : RS) : RS := ⟨r.p, if r.y = 0 then 2 else r.y⟩
/-- A reader in that state. -/
def RdS (w : World) (g : Nat) (bv : Option Addr) (l : List UInt8) (r : RS) : Prop := Rd w g bv l r.p r.y
def NowS (w w' : World) (g : Nat) (bv : Option Addr) (l : List UInt8) (r : RS) : Prop := Now w w' g bv l r.p r.y
theorem NowS.rd {w w' : World} {g : Nat} {l : List UInt8} {r : RS} (h : NowS w w' g bv l r) : RdS w' g bv l r := Now.rd h
theorem NowS.grown {w w' : World} {g : Nat} {l : List UInt8} {r : RS} (h : NowS w w' g bv l r) : w.grownBy w' (some g) := Now.grown h
theorem NowS.trans {a b c : World} {g : Nat} {l : List UInt8} {r s : RS} (h : NowS a b g bv l r) (k : NowS b c g bv l s) : NowS a c g bv l s := Now.trans h k
theorem NowS.below {w w' w2 : World} {g : Nat} {l : List UInt8} {r : RS} (h : NowS w w' g bv l r) (hb : Below w'.heap.size w' w2) : NowS w w2 g bv l r := Now.below h hb
theorem RdS.below {w w' : World} {g : Nat} {l : List UInt8} {r : RS} (h : RdS w g bv l r) (hb : Below w.heap.size w w') : RdS w' g bv l r := Rd.below h hb
theorem RdS.now {w : World} {g : Nat} {l : List UInt8} {r : RS} (h : RdS w g bv l r) : NowS w w g bv l r := Rd.now h
theorem RdS.lt {w : World} {g : Nat} {l : List UInt8} {r : RS} (h : RdS w g bv l r) : g < w.heap.size := Rd.lt h
theorem NowS.size {w w' : World} {g : Nat} {l : List UInt8} {r : RS} (h : NowS w w' g bv l r) : w.heap.size ≤ w'.heap.size := h.grown.size
theorem Now.low {w w1 w2 : World} {g B : Nat} {l : List UInt8} {p p0 : Nat} {y y0 : Int} (h0 : Rd w g bv l p0 y0) (h : Now w w1 g bv l p y) (hb : Below B w1 w2) (hB : w.heap.size ≤ B) : Now w w2 g bv l p y := by
  refine ⟨?_, ⟨hb.os.trans h.grown.os, hb.tape.trans h.grown.tape, hb.output.trans h.grown.output, Nat.le_trans h.grown.size hb.size, fun i hi hne => (hb.block i (Nat.lt_of_lt_of_le hi hB)).trans (h.grown.block i hi hne)⟩⟩
  obtain ⟨c, hbk, hc, hs⟩ := h.rd.ex
  refine ⟨h.rd.le, h.rd.big, h.rd.ne, c, (hb.block g (by have := h0.lt; omega)).trans hbk, hc, hs.below hb (fun ad had hne => ?_)⟩
  have hl : l ≠ [] := by rintro rfl; exact hne rfl
  have := h0.blt hl ad had
  omega
theorem NowS.low {w w1 w2 : World} {g B : Nat} {l : List UInt8} {r r0 : RS} (h0 : RdS w g bv l r0) (h : NowS w w1 g bv l r) (hb : Below B w1 w2) (hB : w.heap.size ≤ B) : NowS w w2 g bv l r := Now.low h0 h hb hB
theorem NowS.fresh {w w1 w2 : World} {g B : Nat} {l : List UInt8} {r r0 : RS} (h0 : RdS w g bv l r0) (h : NowS w w1 g bv l r) (hg : w1.grownBy w2 (some B)) (hB : w.heap.size ≤ B) : NowS w w2 g bv l r := Now.fresh h0 h hg hB
theorem Row.nowS {w w' : World} {g B : Nat} {l : List UInt8} {r : RS} {t : TypeId} {cs : List Value} (hr : Row w B t cs) (h : NowS w w' g bv l r) (hne : B ≠ g) : Row w' B t cs := row_now hr h hne
/-- The parser P whose reader is g. -/
structure Pg (w : World) (P g : Nat) : Prop where
  c : w.cell? ⟨P, 11, none⟩ = some (.pointer (some ⟨g, 0, none⟩))
  ne : P ≠ g
theorem Pg.now {w w' : World} {P g : Nat} {l : List UInt8} {r : RS} (h : Pg w P g) (hn : NowS w w' g bv l r) : Pg w' P g := ⟨hn.grown.cell h.c (fun e => h.ne (Option.some.inj e)), h.ne⟩
theorem Pg.lt {w : World} {P g : Nat} (h : Pg w P g) : P < w.heap.size := block_lt_of_cell h.c
theorem Pg.below {w w' : World} {P g : Nat} (h : Pg w P g) (hb : Below w.heap.size w w') : Pg w' P g := ⟨(hb.cell (p := ⟨P, 11, none⟩) h.lt).trans h.c, h.ne⟩
theorem Pg.fresh {w w1 : World} {P g k B : Nat} (h : Pg w P g) (hg : w.grownBy w1 (some k)) (hk : B ≤ k) (hP : P < B) : Pg w1 P g := ⟨hg.cell h.c (fun e => by have : P = k := Option.some.inj e; omega), h.ne⟩

theorem u8_r {w : World} {g : Nat} {l : List UInt8} {r : RS} (h : RdS w g bv l r) : Calls Tryz.prog 68 #[.pointer (some ⟨g, 0, none⟩)] w fun e w' => e = .returned (.int .u8 (r.val l 1)) ∧ NowS w w' g bv l (r.adv l 1) := u8_any g l r.p r.y w h
theorem u16_r {w : World} {g : Nat} {l : List UInt8} {r : RS} (h : RdS w g bv l r) : Calls Tryz.prog 69 #[.pointer (some ⟨g, 0, none⟩)] w fun e w' => e = .returned (.int .u16 (r.val l 2)) ∧ NowS w w' g bv l (r.adv l 2) := u16_any g l r.p r.y w h
theorem val1_lt (r : RS) (l : List UInt8) : r.val l 1 < 256 := by
  show nv (tkB l r.p r.y 1) < 256
  simpa using nv_lt_of l r.p 1 r.y
theorem well_any {w : World} {P g : Nat} {l : List UInt8} {r : RS} (hp : Pg w P g) (h : RdS w g bv l r) :
    Calls Tryz.prog 112 #[.pointer (some ⟨P, 0, none⟩)] w fun e w' => e = .returned (.bool (r.y == 0)) ∧ NowS w w' g bv l r := by
  have c := hp.c
  have hW : Calls Tryz.prog 70 #[.pointer (some ⟨g, 0, none⟩)] w fun e w' => ∃ z, e = .returned (.tuple #[.int .i64 r.y, .int .i64 z]) ∧ Now w w' g bv l r.p r.y := by
    refine (why_any g l r.p r.y w h).mono ?_
    rintro e w' ⟨rfl, hn⟩
    exact ⟨_, rfl, hn⟩
  generalize hy : r.y = y at *
  have HY : Hid (r.y = y) := hy
  clear hy
  go_enter Tryz.func112, Tryz.ntmps112
  go_wp2_with (go_at_call 70; refine hW.mono ?_; rintro e w1 ⟨z, rfl, hn1⟩)
  go_ret
  refine ⟨rfl, ?_⟩
  unfold NowS
  rw [HY.out]
  exact hn1
/-! ### The pieces within -/
def selK (ts : List UInt8) (ks : List (UInt8 × List UInt8)) : List (UInt8 × List UInt8) := ks.filter fun k => decide (1 < k.1.toNat) && knB ts k.1.toNat
def mustK (ts : List UInt8) (k : UInt8 × List UInt8) : Bool := decide (k.1.toNat < 128) || knB ts k.1.toNat
theorem keys_sel (ts : List UInt8) (ps : List Pc) : keys (sel ts ps) = selK ts (keys ps) := by
  unfold keys sel selK
  rw [List.filter_map]
  rfl
theorem must_keys (ts : List UInt8) (ps : List Pc) : ps.all (mustB ts) = (keys ps).all (mustK ts) := by
  unfold keys
  rw [List.all_map]
  rfl
/-- What within tells, and the reading behind it. -/
def wiL (ts l : List UInt8) (r : RS) : List (UInt8 × List UInt8) := if r.y = 0 then selK ts (splL (l.drop r.p)).1 else []
def wiB (ts l : List UInt8) (r : RS) : Bool := if r.y = 0 then (splL (l.drop r.p)).1.all (mustK ts) && ((splL (l.drop r.p)).2 == 0) else false
def wiR (l : List UInt8) (r : RS) : RS := if r.y = 0 then ⟨l.length, 0⟩ else r
/-- What a call that tells pieces leaves: they lie in memory of its own. -/
structure Told (w w' : World) (a : Option Addr) (c : Nat) (ps : List Pc) : Prop where
  own : w'.ownsRow w.heap.size 94 2 (.slice a ps.length c) ps.length (rcs ps)
  bods : Bods w.heap.size w' ps
theorem within_any {w : World} {P g : Nat} {l : List UInt8} {r : RS} (hp : Pg w P g) (h : RdS w g bv l r) (hl : l.length ≤ 100000) (a : Option Addr) (n c : Nat) (ts : List UInt8) (hs : Src w a n c (bcells ts)) (hn : n ≤ 100) (hsg : ∀ ad, a = some ad → ad.block ≠ g) :
    Calls Tryz.prog 108 #[.pointer (some ⟨P, 0, none⟩), .slice a n c] w fun e w' => ∃ a' c' ps, e = .returned (.tuple #[.slice a' ps.length c', .bool (wiB ts l r)]) ∧ keys ps = wiL ts l r ∧ ps.length ≤ 100000 ∧ Told w w' a' c' ps ∧ NowS w w' g bv l (wiR l r) := by
  have hW := well_any hp h
  by_cases hy : r.y = 0
  · have e1 : wiL ts l r = selK ts (splL (l.drop r.p)).1 := by unfold wiL; rw [if_pos hy]
    have e2 : wiB ts l r = ((splL (l.drop r.p)).1.all (mustK ts) && ((splL (l.drop r.p)).2 == 0)) := by unfold wiB; rw [if_pos hy]
    have e3 : wiR l r = ⟨l.length, 0⟩ := by unfold wiR; rw [if_pos hy]
    have E : Hid (wiL ts l r = selK ts (splL (l.drop r.p)).1 ∧ wiR l r = ⟨l.length, 0⟩) := ⟨e1, e3⟩
    rw [hy] at hW
    have h0 : Rd w g bv l r.p 0 := by have := h; unfold RdS at this; rwa [hy] at this
    have HR : Hid (∀ W, NowS w W g bv l r → Calls Tryz.prog 73 #[.pointer (some ⟨g, 0, none⟩)] W fun e w' => ∃ m a c, Hid (m = (l.drop r.p).length) ∧ e = .returned (.slice a m c) ∧ Src w' a m c (bcells (l.drop r.p)) ∧ (∀ ad, a = some ad → W.heap.size ≤ ad.block) ∧ NowS W w' g bv l ⟨l.length, 0⟩) := by
      intro W hW
      have h1 : Rd W g bv l r.p 0 := by have := hW.rd; unfold RdS at this; rwa [hy] at this
      refine (hd_rest h1).mono ?_
      rintro e w' ⟨a, c, rfl, k1, k2, k3⟩
      exact ⟨_, a, c, (by show _ = _; simp), rfl, k1, k2, k3⟩
    obtain ⟨b1, B1⟩ : ∃ b, Hid ((splL (l.drop r.p)).1.all (mustK ts) = b) := ⟨_, rfl⟩
    obtain ⟨z1, Z1⟩ : ∃ z, Hid ((splL (l.drop r.p)).2 = z) := ⟨_, rfl⟩
    rw [e2, B1.out, Z1.out]
    have HS : Hid (∀ W a' c' m, Src W a n c (bcells ts) → m = (l.drop r.p).length → Src W a' m c' (bcells (l.drop r.p)) → Calls Tryz.prog 127 #[.slice a n c, .slice a' m c'] W fun e w' => ∃ a c k ps, Hid (k = ps.length) ∧ keys ps = selK ts (splL (l.drop r.p)).1 ∧ e = .returned (.tuple #[.slice a k c, .bool b1, .int .i64 z1]) ∧ Told W w' a c ps ∧ ps.length ≤ 100000 ∧ Below W.heap.size W w') := by
      intro W a' c' m k1 km k2
      have hld : (l.drop r.p).length ≤ l.length := by simp
      refine (sub_any a n c ts a' m c' (l.drop r.p) W k1 k2 (by omega) (by omega)).mono ?_
      rintro e w' ⟨a2, c2, ps, j1, rfl, j2, j3, j4, j5⟩
      refine ⟨a2, c2, _, sel ts ps, (rfl : _ = _), by rw [keys_sel, j1], ?_, ⟨j2, fun p hp => j3 p ((List.mem_filter.1 hp).1)⟩, by have := sel_le ts ps; omega, j5⟩
      rw [must_keys, j1, B1.out, Z1.out]
    have HG : Hid (∀ ad, a = some ad → ad.block ≠ g) := hsg
    clear e1 e2 e3 B1 Z1 h0 hsg
    have c0 := hp.c
    go_enter Tryz.func108, Tryz.ntmps108
    go_wp2_with (first
      | (go_at_call 127; have kk := hn2; refine (HS.out _ _ _ _ s3 hm.out s2).mono ?_; rintro e w3 ⟨a3, c3, k3, ps, hk3, kps, rfl, told, hps, b3⟩)
      | (go_at_call 73; have kk := hn1; refine (HR.out _ hn1).mono ?_; rintro e w2 ⟨m, a2, c2, hm, rfl, s2, g2, hn2⟩; have s3 : Src w2 a n c (bcells ts) := (hs.grown (grownBy_trans hn1.grown hn2.grown) (fun ad had _ e => HG.out ad had (Option.some.inj e))))
      | (go_at_call 112; refine hW.mono ?_; rintro e w1 ⟨rfl, hn1⟩; have c1 := (hp.now hn1).c))
    all_goals
      go_ret2
      have ek := hk3.out
      subst ek
      refine ⟨a3, c3, ps, by simp_all, by rw [E.out.1]; exact kps, hps, ⟨own_le told.own (Nat.le_trans hn1.size hn2.size), fun p hp => own_le (told.bods p hp) (Nat.le_trans hn1.size hn2.size)⟩, by rw [E.out.2]; exact (hn1.trans hn2).below b3⟩
  · have e1 : wiL ts l r = [] := by unfold wiL; rw [if_neg hy]
    have e2 : wiB ts l r = false := by unfold wiB; rw [if_neg hy]
    have e3 : wiR l r = r := by unfold wiR; rw [if_neg hy]
    rw [e1, e2, e3]
    have hy' : (r.y == 0) = false := by simpa using hy
    rw [hy'] at hW
    clear hy hy' e1 e2 e3
    go_enter Tryz.func108, Tryz.ntmps108
    go_wp2_with (go_at_call 112; refine hW.mono ?_; rintro e w1 ⟨rfl, hn1⟩)
    go_ret2
    exact ⟨none, 0, [], rfl, rfl, by decide, ⟨World.ownsRow_nil _ _ _ _, fun _ h => by cases h⟩, hn1⟩
end Go.Proofs.YtdibjgcokebfbaaGreat

namespace Go.Proofs.YtdibjgcokebfbaaGreat
open Go.RowKit
set_option linter.unusedSimpArgs false
set_option maxRecDepth 20000
variable {bv : Option Addr}

theorem bcells_splice (l b : List UInt8) (off : Nat) : bcells (splice l off b) = splice (bcells l) off (bcells b) := by
  simp [bcells, splice]
/-- Bytes that are laid over an address, an id, from a place on. -/
def spA (a : Ad) (off : Nat) (b : List UInt8) : Ad := if h : off + b.length ≤ 16 then ⟨splice a.l off b, by rw [length_splice _ _ _ (by rw [a.len]; exact h)]; exact a.len⟩ else a
def spI (a : Id8) (off : Nat) (b : List UInt8) : Id8 := if h : off + b.length ≤ 8 then ⟨splice a.l off b, by rw [length_splice _ _ _ (by rw [a.len]; exact h)]; exact a.len⟩ else a
theorem acells_spA (a : Ad) (off : Nat) (b : List UInt8) (h : off + b.length ≤ 16) : acells (spA a off b) = splice (acells a) off (bcells b) := by
  unfold spA
  rw [dif_pos h]
  exact bcells_splice _ _ _
theorem icells_spI (a : Id8) (off : Nat) (b : List UInt8) (h : off + b.length ≤ 8) : icells (spI a off b) = splice (icells a) off (bcells b) := by
  unfold spI
  rw [dif_pos h]
  exact bcells_splice _ _ _
theorem tkB_le (l : List UInt8) (p : Nat) (y : Int) (k : Nat) : (tkB l p y k).length ≤ k := by
  unfold tkB; split <;> simp; omega
/-- The id that is read. -/
def idF (l : List UInt8) (r : RS) : Id8 := spI zeroI 0 (tkB l r.p r.y 8)
theorem bytes_r {w : World} {g : Nat} {l : List UInt8} {r : RS} (k : Nat) (h : RdS w g bv l r) : Calls Tryz.prog 72 #[.pointer (some ⟨g, 0, none⟩), .int .i64 (k : Int)] w fun e w' => ∃ n a c, Hid (n = (tkB l r.p r.y k).length) ∧ n ≤ k ∧ e = .returned (.slice a n c) ∧ Src w' a n c (bcells (tkB l r.p r.y k)) ∧ NowS w w' g bv l (r.adv l k) := by
  refine (bytes_own g l r.p r.y k w h).mono ?_
  rintro e w' ⟨a, c, rfl, hown, hn⟩
  obtain ⟨_, _, hv, hs, _⟩ := Src.ofOwn hown
  cases hv
  exact ⟨_, a, c, (rfl : _ = _), tkB_le _ _ _ _, rfl, hs, hn⟩
/-- A source of bytes as step_copy_splice wants it. -/
theorem Src.pos {w : World} {a : Option Addr} {n c : Nat} {xs : List Value} (h : Src w a n c xs) (h0 : 0 < xs.length) : ∃ ad, a = some ad ∧ ∀ j v, xs[j]? = some v → w.cell? (ad.add j) = some v := by
  cases a with
  | none => have := (h.bare rfl).1; have := h.len; omega
  | some ad => exact ⟨ad, rfl, h.cell ad rfl⟩

theorem NowS.after {w w0 w1 : World} {g : Nat} {l : List UInt8} {r : RS} (hb : Below w.heap.size w w0) (hn : NowS w0 w1 g bv l r) : NowS w w1 g bv l r := ⟨Now.rd hn, grownBy_trans (grownBy_below _ hb) hn.grown⟩

theorem id_any {w : World} {P g : Nat} {l : List UInt8} {r : RS} (hp : Pg w P g) (h : RdS w g bv l r) :
    Calls Tryz.prog 111 #[.pointer (some ⟨P, 0, none⟩)] w fun e w' => e = .returned (.agg (icells (idF l r)).toArray) ∧ NowS w w' g bv l (r.adv l 8) := by
  have HP := hp
  go_enter Tryz.func111, Tryz.ntmps111
  go_wp2_with (first
    | (have k := rA; refine alG infoIz (by rfl) rfl ?_; intro gB wB b1 b2 b3 rB)
    | (refine alG infoIz (by rfl) rfl ?_; intro gA wA a1 a2 a3 rA))
  have hpB := (hp.below a3).below b3
  have hrB := (h.below a3).below b3
  have rA' := rA.below b3 a2
  have hsz : w.heap.size ≤ gB := Nat.le_trans a3.size b1
  have hne : gA ≠ gB := by omega
  have hBB := bt (bt a3 b3) (bd wB)
  have hgB : gB ≠ g := by have := h.lt; omega
  have hgA : gA ≠ g := by have := h.lt; omega
  have hPB : P < gB := by have := hp.lt; omega
  clear a3 b3 rA k
  refine wp_region_noPanic ?_
  refine wp_region_held_drew (S := fun W => W.cell? ⟨P, 11, none⟩ = some (.pointer (some ⟨g, 0, none⟩))) (by kernel_rfl) ((hpB.below (bd _)).c) (fun hHeld => ?_)
  refine tA 0 ?_
  refine tA 1 ?_
  refine tA 2 ?_
  refine tA 3 ?_
  refine tA 4 ?_
  refine r1 5 fun K hK => ?_
  go_simp
  refine (bytes_r 8 (hrB.below (bd _))).mono ?_
  rintro e w1 ⟨n, a1, c1, hn, hn8, rfl, s1, hn1⟩
  have rB1 := (rB.below (bd _) b2).nowS hn1 hgB
  have rA1 := (rA'.below (bd _) (by omega)).nowS hn1 hgA
  refine oK hK (by exact ((hpB.below (bd _)).now hn1).c) fun hHeld => ?_
  clear hK K
  refine r1 6 fun K hK => ?_
  refine step_copy_splice rfl (.tmp 4) (.tmp 9) 46 46 rfl 5 Tryz.underlying46 (by kernel_rfl) _ _ _ _ _ _ rfl rfl gB 0 (icells zeroI) 38 rB1 (bcells (tkB l r.p r.y 8)) (by rw [bcells_length]; exact hn.out.symm.trans (Nat.min_eq_left hn8).symm) (fun h0 => ⟨rfl, s1.pos h0⟩) (by rw [bcells_length, icells_len, Nat.zero_add]; exact tkB_le l r.p r.y 8) (bcells_one _) gB w1 (Below.refl _ _) (Nat.le_refl _) ?_
  intro w2 HG2 hB2
  refine oK hK (by exact (hB2.cell (p := ⟨P, 11, none⟩) hPB).trans ‹_›) fun hHeld => ?_
  clear hK K
  refine dN ?_
  refine NoPanic.normal ?_
  have rB2 : Row w2 gB 38 (icells (idF l r)) := by unfold idF; rw [icells_spI _ _ _ (by rw [Nat.zero_add]; exact tkB_le l r.p r.y 8)]; exact HG2.out
  have rA2 : Row w2 gA 38 (icells zeroI) := rA1.below hB2 (by omega)
  have N2 : NowS w w2 g bv l (r.adv l 8) := NowS.low h (hn1.after hBB) hB2 hsz
  clear HG2 hB2 rA1 rB1 hn1 s1 hHeld
  go_wp2_with (first
    | (refine stI0 (.tmp 2) (.tmp 11) (by rfl) rfl gA (idF l r) _ (icells_len _) rfl rfl rA2 ?_; intro w3 hg3 r3)
    | (refine ldI (.tmp 3) (by rfl) rfl gB 0 (idF l r) rfl rB2.range ?_))
  exact bodyPost_ret (retC rfl _ _ 0 rfl (lvI r3)) rfl ⟨rfl, N2.fresh h hg3 (by omega)⟩

/-- An address in which what is not told of an AE stands, the place from which on the rest is told, whether there is such an AE. -/
def frA (ae : Nat) : Ad := if ae = 1 then mapA else if ae = 3 then llA else zeroA
def frN (ae : Nat) : Nat := if ae = 0 then 16 else if ae = 1 then 12 else if ae = 3 then 8 else 0
def frB (ae : Nat) : Bool := decide (ae ≤ 3)
theorem retCTT {P : Program} {fn : Func} {p u v : Tmp} {ty : TypeId} {x : Value} {w : World} (h : fn.results = #[.cell p ty, .tmp u, .tmp v]) (tmps : Array Value) (b o : Nat) (hp : tmps.getD p undef = .pointer (some ⟨b, o, none⟩))
    (hl : (loadVar ty ⟨b, o, none⟩).run P w = .ok x w) : (results fn tmps).run P w = .ok (.tuple #[x, tmps.getD u undef, tmps.getD v undef]) w := by
  simp only [results, h]
  rw [Array.getD_eq_getD_getElem?] at hp
  simp [Sem.run_bind, hp, asAddr, hl, Result.andThen]
theorem frame_any (ae : Nat) (hae : ae < 256) (w : World) :
    Calls Tryz.prog 129 #[.int .u8 (ae : Int)] w fun e w' => e = .returned (.tuple #[(Value.agg (acells (frA ae)).toArray), .int .i64 ((frN ae : Nat) : Int), .bool (frB ae)]) ∧ Below w.heap.size w w' := by
  have hAny := any_any 4
  rw [show anyP 4 = ⟨mapA, 96⟩ from rfl] at hAny
  have hfA := run_fieldA ⟨mapA, 96⟩
  by_cases h0 : ae = 0
  · subst h0
    go_enter Tryz.func129, Tryz.ntmps129
    go_wp2_with (first
      | (refine stA0 (.tmp 2) (.tmp 8) (by rfl) rfl gA zeroA _ (acells_len _) rfl rfl rA ?_; intro w3 hg3 r3)
      | (refine bdG [] (by rfl) rfl (bdA0 _) ?_)
      | (refine alG infoAz (by rfl) rfl ?_; intro gA wA a1 a2 a3 rA))
    exact bodyPost_ret (retCTT rfl _ _ 0 rfl (lvA r3.range)) rfl ⟨rfl, a3.grown hg3 a3.size (fun k hk => by cases hk; exact a1)⟩
  by_cases h1 : ae = 1
  · subst h1
    clear h0
    go_enter Tryz.func129, Tryz.ntmps129
    go_wp2_with (first
      | (refine stA0 (.tmp 2) (.tmp 12) (by rfl) rfl gA mapA _ (acells_len _) rfl rfl rA1 ?_; intro w3 hg3 r3)
      | (go_at_call 85; refine (hAny _).mono ?_; rintro e w1 ⟨rfl, hB1⟩; have rA1 := rA.below hB1 a2; have a4 := bt a3 hB1)
      | (refine alG infoAz (by rfl) rfl ?_; intro gA wA a1 a2 a3 rA))
    exact bodyPost_ret (retCTT rfl _ _ 0 rfl (lvA r3.range)) rfl ⟨rfl, a4.grown hg3 a4.size (fun k hk => by cases hk; exact a1)⟩
  by_cases h2 : ae = 2
  · subst h2
    clear h0 h1
    go_enter Tryz.func129, Tryz.ntmps129
    go_wp2_with (first
      | (refine stA0 (.tmp 2) (.tmp 15) (by rfl) rfl gA zeroA _ (acells_len _) rfl rfl rA ?_; intro w3 hg3 r3)
      | (refine bdG [] (by rfl) rfl (bdA0 _) ?_)
      | (refine alG infoAz (by rfl) rfl ?_; intro gA wA a1 a2 a3 rA))
    exact bodyPost_ret (retCTT rfl _ _ 0 rfl (lvA r3.range)) rfl ⟨rfl, a3.grown hg3 a3.size (fun k hk => by cases hk; exact a1)⟩
  by_cases h3 : ae = 3
  · subst h3
    clear h0 h1 h2
    go_enter Tryz.func129, Tryz.ntmps129
    go_wp2_with (first
      | (refine stA0 (.tmp 2) (.tmp 18) (by rfl) rfl gA llA _ (acells_len _) rfl rfl rA ?_; intro w3 hg3 r3)
      | (refine bdG [(0, .const (.int .u8 254)), (1, .const (.int .u8 128))] (by rfl) rfl (bdLL _) ?_)
      | (refine alG infoAz (by rfl) rfl ?_; intro gA wA a1 a2 a3 rA))
    exact bodyPost_ret (retCTT rfl _ _ 0 rfl (lvA r3.range)) rfl ⟨rfl, a3.grown hg3 a3.size (fun k hk => by cases hk; exact a1)⟩
  · have d0 : ((ae : Int) == 0) = false := by simp; omega
    have d1 : ((ae : Int) == 1) = false := by simp; omega
    have d2 : ((ae : Int) == 2) = false := by simp; omega
    have d3 : ((ae : Int) == 3) = false := by simp; omega
    have E : Hid (frA ae = zeroA ∧ frN ae = 0 ∧ frB ae = false) := by unfold frA frN frB; refine ⟨?_, ?_, ?_⟩ <;> simp [h0, h1, h2, h3]; omega
    clear h0 h1 h2 h3
    go_enter Tryz.func129, Tryz.ntmps129
    go_wp2_with (first
      | (refine stA0 (.tmp 2) (.tmp 19) (by rfl) rfl gA zeroA _ (acells_len _) rfl rfl rA ?_; intro w3 hg3 r3)
      | (refine bdG [] (by rfl) rfl (bdA0 _) ?_)
      | (refine alG infoAz (by rfl) rfl ?_; intro gA wA a1 a2 a3 rA))
    refine bodyPost_ret (retCTT rfl _ _ 0 rfl (lvA r3.range)) rfl ⟨?_, a3.grown hg3 a3.size (fun k hk => by cases hk; exact a1)⟩
    rw [E.out.1, E.out.2.1, E.out.2.2]
    rfl
end Go.Proofs.YtdibjgcokebfbaaGreat

namespace Go.Proofs.YtdibjgcokebfbaaGreat
open Go.RowKit
set_option linter.unusedSimpArgs false
set_option maxRecDepth 20000
variable {bv : Option Addr}

/-- The address that is read, and the reading behind it. -/
def adR (ae : Nat) (r : RS) : RS := if frB ae then r else r.bad
def adA (ae : Nat) (l : List UInt8) (r : RS) : Ad := spA (frA ae) (frN ae) (tkB l (adR ae r).p (adR ae r).y ((16 - frN ae : Nat) : Int))
def adN (ae : Nat) (l : List UInt8) (r : RS) : RS := (adR ae r).adv l ((16 - frN ae : Nat) : Int)
end Go.Proofs.YtdibjgcokebfbaaGreat
