/-
  The document's routed of package culvertref07: requests for seqnos.
-/
import Derived.Test.YtdibjgcokebfbaaGreatM11
import Derived.Test.YtdibjgcokebfbaaGreatM13
import Derived.Deep.CutBlock
import Derived.Test.YtdibjgcokebfbaaGreatM10
import Derived.Test.YtdibjgcokebfbaaGreatM03
import Derived.Test.YtdibjgcokebfbaaGreatM04
namespace Go.Proofs.YtdibjgcokebfbaaGreat
open Go.RowKit
set_option linter.unusedSimpArgs false
set_option maxRecDepth 20000
section
variable {ops : Array Oper} {op : Oper} {a : Act} {w : World} {Q : Exit → Act → World → Prop} {K : Act → World → Prop} {E : Prop}
/-- At the end this frame for some of what hangs on the order, and a world of which PP is known; no panic. -/
def MeetsE7 {α β : Type} (F : Nat → Nat → Nat → α → β → α → β → Act) (PP : α → β → World → Prop) : Exit → Act → World → Prop
  | .normal, a, w => ∃ x y z u v s t, a = F x y z u v s t ∧ PP s t w
  | _, _, _ => False
theorem region_ex7 {α β : Type} {P : Program} {c : Code} {Q : Exit → Act → World → Prop} {a : Act} {w : World} {PP : α → β → World → Prop} (F : Nat → Nat → Nat → α → β → α → β → Act) (h1 : Code.wp P c (MeetsE7 F PP) a w) (h2 : ∀ x y z u v s t W, PP s t W → Q .normal (F x y z u v s t) W) : Code.wp P c Q a w :=
  Code.wp_mono (fun e b v h => by
    cases e with
    | normal => obtain ⟨x, y, z, u, v', s, t, rfl, h⟩ := h; exact h2 x y z u v' s t v h
    | _ => exact (h : False).elim) h1
theorem sBq {T U : TypeId} {n : Nat} (parts : List (Nat × Operand)) (xs : List Value) (hw : Region.wanted op (yielded ops a.tmps) = true) (ho : op.op = .buildSlice T n parts.toArray)
    (hrun : ∀ w, (Instr.buildSlice T n (parts.map fun p => (p.1, a.eval p.2)).toArray).run Tryz.prog w = .ok (.slice (some ⟨w.heap.size, 0, none⟩) n n) (w.alloc (.cells xs.toArray U)))
    (h : ∀ g W, w.heap.size ≤ g → Row W g U xs → Below w.heap.size w W → K (a.put op.dst (.slice (some ⟨g, 0, none⟩) n n)) W) : if Region.wanted op (yielded ops a.tmps) = true then Oper.wp Tryz.prog op a w K Q else E := by
  rw [if_pos hw]
  unfold Oper.wp execOp
  simp only [ho, List.map_toArray, Sem.run_bind, hrun, Result.andThen_ok, Sem.run_pure]
  exact h _ _ (Nat.le_refl _) (Row.new w U xs) (ba _ _)
end
theorem own_bq {W W' : World} {B k : Nat} {xs : List Value} {v : Value} (ho : W.ownsRow B 5 1 v k xs) (hb : Below W.heap.size W W') : W'.ownsRow B 5 1 v k xs :=
  ho.kept (row := none) ⟨hb.os, hb.tape, hb.output, hb.size, fun i hi _ => hb.block i hi⟩ (by cases v.ownBlock <;> simp)
theorem src_rq {W : World} {g n : Nat} {cs : List Value} (h : Row W g 5 cs) (hn : cs.length = n) : Src W (some ⟨g, 0, none⟩) n n cs :=
  ⟨hn, (fun h => by cases h), fun ad had j u hu => by cases had; rw [Addr.add_mid, Nat.zero_add, h.cell]; exact hu⟩
theorem w64q (j : Nat) (h : j < 8) : wrap64 ((j : Int) + 1) = (j : Int) + 1 := by unfold wrap64; omega
theorem hcq1 (a : Nat) (ha : a < 65536) : hcells [UInt16.ofNat a] = [.int .u16 (a : Int)] := by simp [hcells]; omega
theorem fmq1 (a : Nat) : [UInt16.ofNat a].flatMap be16 = hw a := by simp [hw]
set_option maxHeartbeats 16000000 in
theorem rrouted_10 (t : Tl) (w : World) (hf : TFit t.key) (hy : t.ty = 10) (d0 : 0 ≤ t.pr.d.n) (d1 : t.pr.d.n ≤ 128) (s0 : 0 ≤ t.pr.s.n) (s1 : t.pr.s.n ≤ 128) (hall : t.all = false) : Calls Tryz.prog 35 #[.agg (tcells t).toArray] w (LaidN w (bodL t.key)) := by
  have RT := Row.new w 45 (tcells t)
  have T0 : (tcells t)[0]? = some (.int .u8 10) := by show some (Value.int .u8 (t.ty : Int)) = _; rw [hy]; rfl
  have T8 : (tcells t)[8]? = some (.bool t.all) := rfl
  have HE : Hid (bodL t.key = [whrE t.key, UInt8.ofNat (whrN t.key)] ++ hw t.seq ++ [UInt8.ofNat t.hops, 0] ++ t.id.l ++ whrL t.key ++ srcL t.pr) := by
    show _ = _
    rw [bodL_10 t.key hy]
    simp
    rfl
  have HW1 : Hid (whrE t.key = (if t.all = true then 0 else pfxE t.pr.d) ∧ whrN t.key = (if t.all = true then 0 else pfxN t.pr.d) ∧ whrL t.key = (if t.all = true then [] else pfxL t.pr.d)) := ⟨rfl, rfl, rfl⟩
  have HX := fun W => rprefix7_any t.pr.d W d0 d1
  have HS := fun W => rsource7_any t.pr W s0 s1
  have hN : pfxN t.pr.d < 256 := by unfold pfxN; split <;> omega
  have HM : Hid ((pfxL t.pr.d).length ≤ 1000) := Nat.le_trans (pfxL_len _) (by decide)
  have HC : Hid ((srcL t.pr).length ≤ 1000) := Nat.le_trans (srcL_len _) (by decide)
  rw [HE.out]
  rw [HW1.out.1, HW1.out.2.1, HW1.out.2.2, if_neg (by simp [hall]), if_neg (by simp [hall]), if_neg (by simp [hall])]
  clear HE HW1 hy d0 d1 s0 s1
  have HL : Hid (∀ W, Below (w.alloc (.cells (tcells t).toArray 45)).heap.size (w.alloc (.cells (tcells t).toArray 45)) W → LQ W w.heap.size 33 t.pr ∧ W.cell? ⟨w.heap.size, 0, none⟩ = some (.int .u8 10) ∧ W.cell? ⟨w.heap.size, 8, none⟩ = some (.bool t.all) ∧ (W.cell? ⟨w.heap.size, 3, none⟩ = some (.int .u16 (t.seq : Int)) ∧ W.cell? ⟨w.heap.size, 6, none⟩ = some (.int .u8 (t.hops : Int)) ∧ W.rangeAt w.heap.size 9 (icells t.id))) := fun W h => by
    have r := RT.below h RT.lt
    exact ⟨r.rPr, (r.cell 0).trans T0, (r.cell 8).trans T8, r.tc.c3, r.tc.c6, r.rId⟩
  have hq := RT.rPr
  have h3 : t.seq < 65536 := hf.seq
  have h6 : t.hops < 256 := hf.hops
  have eh := hcq1 t.seq h3
  have em := fmq1 t.seq
  have ep := rb8_2c (UInt8.ofNat t.hops) 0 (by decide)
  have eo : ((UInt8.ofNat t.hops).toNat : Int) = (t.hops : Int) := by simp; omega
  have e0' : ((0 : Nat) : Int) = 0 := rfl
  rw [eo, e0'] at ep
  have hid := t.id.len
  clear hf h3 h6 eo
  generalize t.seq = u3 at *
  generalize t.hops = u6 at *
  generalize t.id = ID at *
  generalize pfxE t.pr.d = x at *
  generalize pfxN t.pr.d = z at *
  generalize pfxL t.pr.d = y at *
  generalize srcL t.pr = S at *
  clear RT T0 T8
  focus
    rw [hall] at HL
    have ez := rb8_2c x z hN
    clear hN
    go_enter Tryz.func35, Tryz.ntmps35
    go_upto_region 7 with (first
      | (refine ldP (.tmp 11) (by rfl) rfl w.heap.size 33 t.pr.d rfl hq.d ?_)
      | (go_at_call 59; refine (HX _).mono ?_; rintro e w1 ⟨ps, pn, pc, rfl, p1, b1⟩; have m1 := (HL.out _ b1).1)
      | (have kk := m1; refine ldQ (.tmp 17) (by rfl) rfl w.heap.size 33 t.pr rfl m1 ?_)
      | (go_at_call 60; refine (HS _).mono ?_; rintro e w2 ⟨qa, qn, qc, rfl, o2, b2⟩; obtain ⟨_, c0, c8, c3, c6, c9⟩ := HL.out _ (bt b1 b2)))
    have hy1 := p1.blen
    have hy2 : qn = S.length := by have := o2.1; rw [bcells_length] at this; simp at this; omega
    obtain ⟨_, _, e2, q2, hq2⟩ := Src.ofOwn o2
    cases e2
    have B2 := bt (bt (ba w (.cells (tcells t).toArray 45)) b1) b2
    have HYn : Hid (pn ≤ 1000 ∧ qn ≤ 1000) := by have := HM.out; have := HC.out; constructor <;> omega
    have HP : Hid (∀ W, Below w2.heap.size w2 W → Src W ps pn pc (bcells y)) := fun W hW => (p1.below b2 p1.lt).below hW (p1.below b2 p1.lt).lt
    have HQ : Hid (∀ W, Below w2.heap.size w2 W → Src W qa qn qc (bcells S)) := fun W hW => q2.below hW q2.lt
    have hlw : w.heap.size < w2.heap.size := by have k1 := b1.size; have k2 := b2.size; rw [World.size_alloc] at k1; omega
    have HD : Hid (∀ W, Below w2.heap.size w2 W → W.cell? ⟨w.heap.size, 3, none⟩ = some (.int .u16 (u3 : Int)) ∧ W.cell? ⟨w.heap.size, 6, none⟩ = some (.int .u8 (u6 : Int)) ∧ W.rangeAt w.heap.size 9 (icells ID)) := fun W h => ⟨(h.cell (p := ⟨w.heap.size, 3, none⟩) hlw).trans c3, (h.cell (p := ⟨w.heap.size, 6, none⟩) hlw).trans c6, rangeAt_below c9 h hlw⟩
    clear HM HC hy1 hy2 c3 c6 c9 HL hq m1
    apply region_ex7 (PP := fun aa cc W => W.ownsRow w2.heap.size 5 1 (.slice aa 6 cc) 6 (bcells ([x, UInt8.ofNat z] ++ hw u3 ++ [UInt8.ofNat u6, 0])) ∧ Below w2.heap.size w2 W)
    case h1 =>
      refine wp_region_held_drew (S := fun W => Below w2.heap.size w2 W) (by kernel_rfl) ((Below.refl _ _).drew) (fun hHeld => ?_)
      refine tA 0 ?_
      refine tA 1 ?_
      refine tA 3 ?_
      refine tA 4 ?_ (hv := by intro w hSw; (try dsimp only at hSw); have hm := (HD.out _ hSw).1; go_simp <;> with_reducible rfl)
      refine tA 7 ?_
      refine tA 8 ?_ (hv := by intro w hSw; (try dsimp only at hSw); have hm := (HD.out _ hSw).2.1; go_simp <;> with_reducible rfl)
      refine rM [2,5,9] ?_
      refine cL (fun K hK => ?_) ?_
      · skip
        refine sBq (T := 46) (U := 5) (n := 2) [(0, .tmp 24), (1, .tmp 25)] [.int .u8 (x.toNat : Int), .int .u8 (z : Int)] (by rfl) rfl (rb8_2 _ _) ?_
        intro gA wA zA rA hA
        (try have nAC : gC ≠ gA := fun e => by (have := rC.lt; omega))
        replace zA := Nat.le_trans hHeld.size zA
        (try replace rB := rB.below hA rB.lt)
        (try replace rC := rC.below hA rC.lt)
        refine oK hK (by exact hHeld.trans (hA.mono hHeld.size)) fun hHeld => ?_
        clear hK K
        refine rM [5,9] ?_
        refine cL (fun K hK => ?_) ?_
        · skip
          refine sBq (T := 125) (U := 36) (n := 1) [(0, .tmp 28)] [.int .u16 (u3 : Int)] (by rfl) rfl (rb16_1 _) ?_
          intro gB wB zB rB hB5
          (try replace rA := rA.below hB5 rA.lt)
          (try replace rC := rC.below hB5 rC.lt)
          refine oK hK (by exact hHeld.trans (hB5.mono hHeld.size)) fun hHeld => ?_
          clear hK K
          refine rM [6,9] ?_
          refine cL (fun K hK => ?_) ?_
          · skip
            go_simp
            refine (rtwo_any w2.heap.size _ 2 [x, UInt8.ofNat z] gB 1 [UInt16.ofNat u3] _ (by rw [ez]; exact own_row (n := 2) rA rfl (by decide) zA) hHeld.size (by rw [eh]; exact rB) rfl (by omega)).mono ?_
            rintro e w5 ⟨a5, n5, c5, rfl, o5, d5, z5, k5⟩
            obtain rfl : n5 = 4 := by (have h := o5.1; rw [bcells_length, em] at h; simp [hw, be16] at h; omega)
            (try have nC5 : some gC ≠ (Value.slice a5 4 c5).ownBlock := (k5 gC rC.lt (fun e => nAC (Option.some.inj e))).1)
            (try replace rC := (k5 gC rC.lt (fun e => nAC (Option.some.inj e))).2.trans rC)
            refine oK hK (by exact hHeld.trans d5) fun hHeld => ?_
            clear hK K
            refine r1 9 fun K hK => ?_
            refine sBq (T := 46) (U := 5) (n := 2) [(0, .tmp 32), (1, .const (.int .u8 0))] [.int .u8 (u6 : Int), .int .u8 0] (by rfl) rfl (rb8_2 _ _) ?_
            intro gC wC zC rC hC9
            (try have nAC : gC ≠ gA := fun e => by (have := rA.lt; omega))
            (try replace rA := rA.below hC9 rA.lt)
            (try replace rB := rB.below hC9 rB.lt)
            (try have nC5 : some gC ≠ (Value.slice a5 4 c5).ownBlock := fun e => by (have := (o5.lt gC e.symm).2; omega))
            (try replace o5 := own_bq o5 hC9)
            refine oK hK (by exact hHeld.trans (hC9.mono hHeld.size)) fun hHeld => ?_
            clear hK K
            refine r1 10 fun K hK => ?_
            refine sApb (.tmp 30) (.tmp 33) (by rfl) rfl w2.heap.size _ 4 _ rfl o5 (some ⟨gC, 0, none⟩) 2 2 [UInt8.ofNat u6, 0] rfl (by rw [show ([UInt8.ofNat u6, 0] : List UInt8) = [UInt8.ofNat u6, UInt8.ofNat 0] from rfl, ep]; exact src_rq (show Row _ gC 5 _ from rC) rfl) (by omega) hHeld.size ?_
            intro v6 w6 o6 g6
            obtain ⟨a6, c6, rfl⟩ := own_shape o6
            refine oK hK (by exact hHeld.grown g6 hHeld.size (fun q hq => (o5.lt q hq).1)) fun hHeld => ?_
            clear hK K
            refine tA 11 ?_
            refine dN ?_
            rw [em] at o6
            exact ⟨gA, gB, gC, a5, c5, a6, c6, rfl, o6, hHeld⟩
          refine cE fun K hK => ?_
          refine sBq (T := 46) (U := 5) (n := 2) [(0, .tmp 32), (1, .const (.int .u8 0))] [.int .u8 (u6 : Int), .int .u8 0] (by rfl) rfl (rb8_2 _ _) ?_
          intro gC wC zC rC hC9
          (try have nAC : gC ≠ gA := fun e => by (have := rA.lt; omega))
          (try replace rA := rA.below hC9 rA.lt)
          (try replace rB := rB.below hC9 rB.lt)
          (try have nC5 : some gC ≠ (Value.slice a5 4 c5).ownBlock := fun e => by (have := (o5.lt gC e.symm).2; omega))
          (try replace o5 := own_bq o5 hC9)
          refine oK hK (by exact hHeld.trans (hC9.mono hHeld.size)) fun hHeld => ?_
          clear hK K
          refine r1 6 fun K hK => ?_
          go_simp
          refine (rtwo_any w2.heap.size _ 2 [x, UInt8.ofNat z] gB 1 [UInt16.ofNat u3] _ (by rw [ez]; exact own_row (n := 2) rA rfl (by decide) zA) hHeld.size (by rw [eh]; exact rB) rfl (by omega)).mono ?_
          rintro e w5 ⟨a5, n5, c5, rfl, o5, d5, z5, k5⟩
          obtain rfl : n5 = 4 := by (have h := o5.1; rw [bcells_length, em] at h; simp [hw, be16] at h; omega)
          (try have nC5 : some gC ≠ (Value.slice a5 4 c5).ownBlock := (k5 gC rC.lt (fun e => nAC (Option.some.inj e))).1)
          (try replace rC := (k5 gC rC.lt (fun e => nAC (Option.some.inj e))).2.trans rC)
          refine oK hK (by exact hHeld.trans d5) fun hHeld => ?_
          clear hK K
          refine r1 10 fun K hK => ?_
          refine sApb (.tmp 30) (.tmp 33) (by rfl) rfl w2.heap.size _ 4 _ rfl o5 (some ⟨gC, 0, none⟩) 2 2 [UInt8.ofNat u6, 0] rfl (by rw [show ([UInt8.ofNat u6, 0] : List UInt8) = [UInt8.ofNat u6, UInt8.ofNat 0] from rfl, ep]; exact src_rq (show Row _ gC 5 _ from rC) rfl) (by omega) hHeld.size ?_
          intro v6 w6 o6 g6
          obtain ⟨a6, c6, rfl⟩ := own_shape o6
          refine oK hK (by exact hHeld.grown g6 hHeld.size (fun q hq => (o5.lt q hq).1)) fun hHeld => ?_
          clear hK K
          refine tA 11 ?_
          refine dN ?_
          rw [em] at o6
          exact ⟨gA, gB, gC, a5, c5, a6, c6, rfl, o6, hHeld⟩
        refine cE fun K hK => ?_
        refine sBq (T := 46) (U := 5) (n := 2) [(0, .tmp 32), (1, .const (.int .u8 0))] [.int .u8 (u6 : Int), .int .u8 0] (by rfl) rfl (rb8_2 _ _) ?_
        intro gC wC zC rC hC9
        (try have nAC : gC ≠ gA := fun e => by (have := rA.lt; omega))
        (try replace rA := rA.below hC9 rA.lt)
        (try replace rB := rB.below hC9 rB.lt)
        (try have nC5 : some gC ≠ (Value.slice a5 4 c5).ownBlock := fun e => by (have := (o5.lt gC e.symm).2; omega))
        (try replace o5 := own_bq o5 hC9)
        refine oK hK (by exact hHeld.trans (hC9.mono hHeld.size)) fun hHeld => ?_
        clear hK K
        refine r1 5 fun K hK => ?_
        refine sBq (T := 125) (U := 36) (n := 1) [(0, .tmp 28)] [.int .u16 (u3 : Int)] (by rfl) rfl (rb16_1 _) ?_
        intro gB wB zB rB hB5
        (try replace rA := rA.below hB5 rA.lt)
        (try replace rC := rC.below hB5 rC.lt)
        refine oK hK (by exact hHeld.trans (hB5.mono hHeld.size)) fun hHeld => ?_
        clear hK K
        refine r1 6 fun K hK => ?_
        go_simp
        refine (rtwo_any w2.heap.size _ 2 [x, UInt8.ofNat z] gB 1 [UInt16.ofNat u3] _ (by rw [ez]; exact own_row (n := 2) rA rfl (by decide) zA) hHeld.size (by rw [eh]; exact rB) rfl (by omega)).mono ?_
        rintro e w5 ⟨a5, n5, c5, rfl, o5, d5, z5, k5⟩
        obtain rfl : n5 = 4 := by (have h := o5.1; rw [bcells_length, em] at h; simp [hw, be16] at h; omega)
        (try have nC5 : some gC ≠ (Value.slice a5 4 c5).ownBlock := (k5 gC rC.lt (fun e => nAC (Option.some.inj e))).1)
        (try replace rC := (k5 gC rC.lt (fun e => nAC (Option.some.inj e))).2.trans rC)
        refine oK hK (by exact hHeld.trans d5) fun hHeld => ?_
        clear hK K
        refine r1 10 fun K hK => ?_
        refine sApb (.tmp 30) (.tmp 33) (by rfl) rfl w2.heap.size _ 4 _ rfl o5 (some ⟨gC, 0, none⟩) 2 2 [UInt8.ofNat u6, 0] rfl (by rw [show ([UInt8.ofNat u6, 0] : List UInt8) = [UInt8.ofNat u6, UInt8.ofNat 0] from rfl, ep]; exact src_rq (show Row _ gC 5 _ from rC) rfl) (by omega) hHeld.size ?_
        intro v6 w6 o6 g6
        obtain ⟨a6, c6, rfl⟩ := own_shape o6
        refine oK hK (by exact hHeld.grown g6 hHeld.size (fun q hq => (o5.lt q hq).1)) fun hHeld => ?_
        clear hK K
        refine tA 11 ?_
        refine dN ?_
        rw [em] at o6
        exact ⟨gA, gB, gC, a5, c5, a6, c6, rfl, o6, hHeld⟩
      refine cL (fun K hK => ?_) ?_
      · skip
        refine sBq (T := 125) (U := 36) (n := 1) [(0, .tmp 28)] [.int .u16 (u3 : Int)] (by rfl) rfl (rb16_1 _) ?_
        intro gB wB zB rB hB5
        (try replace rA := rA.below hB5 rA.lt)
        (try replace rC := rC.below hB5 rC.lt)
        refine oK hK (by exact hHeld.trans (hB5.mono hHeld.size)) fun hHeld => ?_
        clear hK K
        refine rM [2,9] ?_
        refine cL (fun K hK => ?_) ?_
        · skip
          refine sBq (T := 46) (U := 5) (n := 2) [(0, .tmp 24), (1, .tmp 25)] [.int .u8 (x.toNat : Int), .int .u8 (z : Int)] (by rfl) rfl (rb8_2 _ _) ?_
          intro gA wA zA rA hA
          (try have nAC : gC ≠ gA := fun e => by (have := rC.lt; omega))
          replace zA := Nat.le_trans hHeld.size zA
          (try replace rB := rB.below hA rB.lt)
          (try replace rC := rC.below hA rC.lt)
          refine oK hK (by exact hHeld.trans (hA.mono hHeld.size)) fun hHeld => ?_
          clear hK K
          refine rM [6,9] ?_
          refine cL (fun K hK => ?_) ?_
          · skip
            go_simp
            refine (rtwo_any w2.heap.size _ 2 [x, UInt8.ofNat z] gB 1 [UInt16.ofNat u3] _ (by rw [ez]; exact own_row (n := 2) rA rfl (by decide) zA) hHeld.size (by rw [eh]; exact rB) rfl (by omega)).mono ?_
            rintro e w5 ⟨a5, n5, c5, rfl, o5, d5, z5, k5⟩
            obtain rfl : n5 = 4 := by (have h := o5.1; rw [bcells_length, em] at h; simp [hw, be16] at h; omega)
            (try have nC5 : some gC ≠ (Value.slice a5 4 c5).ownBlock := (k5 gC rC.lt (fun e => nAC (Option.some.inj e))).1)
            (try replace rC := (k5 gC rC.lt (fun e => nAC (Option.some.inj e))).2.trans rC)
            refine oK hK (by exact hHeld.trans d5) fun hHeld => ?_
            clear hK K
            refine r1 9 fun K hK => ?_
            refine sBq (T := 46) (U := 5) (n := 2) [(0, .tmp 32), (1, .const (.int .u8 0))] [.int .u8 (u6 : Int), .int .u8 0] (by rfl) rfl (rb8_2 _ _) ?_
            intro gC wC zC rC hC9
            (try have nAC : gC ≠ gA := fun e => by (have := rA.lt; omega))
            (try replace rA := rA.below hC9 rA.lt)
            (try replace rB := rB.below hC9 rB.lt)
            (try have nC5 : some gC ≠ (Value.slice a5 4 c5).ownBlock := fun e => by (have := (o5.lt gC e.symm).2; omega))
            (try replace o5 := own_bq o5 hC9)
            refine oK hK (by exact hHeld.trans (hC9.mono hHeld.size)) fun hHeld => ?_
            clear hK K
            refine r1 10 fun K hK => ?_
            refine sApb (.tmp 30) (.tmp 33) (by rfl) rfl w2.heap.size _ 4 _ rfl o5 (some ⟨gC, 0, none⟩) 2 2 [UInt8.ofNat u6, 0] rfl (by rw [show ([UInt8.ofNat u6, 0] : List UInt8) = [UInt8.ofNat u6, UInt8.ofNat 0] from rfl, ep]; exact src_rq (show Row _ gC 5 _ from rC) rfl) (by omega) hHeld.size ?_
            intro v6 w6 o6 g6
            obtain ⟨a6, c6, rfl⟩ := own_shape o6
            refine oK hK (by exact hHeld.grown g6 hHeld.size (fun q hq => (o5.lt q hq).1)) fun hHeld => ?_
            clear hK K
            refine tA 11 ?_
            refine dN ?_
            rw [em] at o6
            exact ⟨gA, gB, gC, a5, c5, a6, c6, rfl, o6, hHeld⟩
          refine cE fun K hK => ?_
          refine sBq (T := 46) (U := 5) (n := 2) [(0, .tmp 32), (1, .const (.int .u8 0))] [.int .u8 (u6 : Int), .int .u8 0] (by rfl) rfl (rb8_2 _ _) ?_
          intro gC wC zC rC hC9
          (try have nAC : gC ≠ gA := fun e => by (have := rA.lt; omega))
          (try replace rA := rA.below hC9 rA.lt)
          (try replace rB := rB.below hC9 rB.lt)
          (try have nC5 : some gC ≠ (Value.slice a5 4 c5).ownBlock := fun e => by (have := (o5.lt gC e.symm).2; omega))
          (try replace o5 := own_bq o5 hC9)
          refine oK hK (by exact hHeld.trans (hC9.mono hHeld.size)) fun hHeld => ?_
          clear hK K
          refine r1 6 fun K hK => ?_
          go_simp
          refine (rtwo_any w2.heap.size _ 2 [x, UInt8.ofNat z] gB 1 [UInt16.ofNat u3] _ (by rw [ez]; exact own_row (n := 2) rA rfl (by decide) zA) hHeld.size (by rw [eh]; exact rB) rfl (by omega)).mono ?_
          rintro e w5 ⟨a5, n5, c5, rfl, o5, d5, z5, k5⟩
          obtain rfl : n5 = 4 := by (have h := o5.1; rw [bcells_length, em] at h; simp [hw, be16] at h; omega)
          (try have nC5 : some gC ≠ (Value.slice a5 4 c5).ownBlock := (k5 gC rC.lt (fun e => nAC (Option.some.inj e))).1)
          (try replace rC := (k5 gC rC.lt (fun e => nAC (Option.some.inj e))).2.trans rC)
          refine oK hK (by exact hHeld.trans d5) fun hHeld => ?_
          clear hK K
          refine r1 10 fun K hK => ?_
          refine sApb (.tmp 30) (.tmp 33) (by rfl) rfl w2.heap.size _ 4 _ rfl o5 (some ⟨gC, 0, none⟩) 2 2 [UInt8.ofNat u6, 0] rfl (by rw [show ([UInt8.ofNat u6, 0] : List UInt8) = [UInt8.ofNat u6, UInt8.ofNat 0] from rfl, ep]; exact src_rq (show Row _ gC 5 _ from rC) rfl) (by omega) hHeld.size ?_
          intro v6 w6 o6 g6
          obtain ⟨a6, c6, rfl⟩ := own_shape o6
          refine oK hK (by exact hHeld.grown g6 hHeld.size (fun q hq => (o5.lt q hq).1)) fun hHeld => ?_
          clear hK K
          refine tA 11 ?_
          refine dN ?_
          rw [em] at o6
          exact ⟨gA, gB, gC, a5, c5, a6, c6, rfl, o6, hHeld⟩
        refine cE fun K hK => ?_
        refine sBq (T := 46) (U := 5) (n := 2) [(0, .tmp 32), (1, .const (.int .u8 0))] [.int .u8 (u6 : Int), .int .u8 0] (by rfl) rfl (rb8_2 _ _) ?_
        intro gC wC zC rC hC9
        (try have nAC : gC ≠ gA := fun e => by (have := rA.lt; omega))
        (try replace rA := rA.below hC9 rA.lt)
        (try replace rB := rB.below hC9 rB.lt)
        (try have nC5 : some gC ≠ (Value.slice a5 4 c5).ownBlock := fun e => by (have := (o5.lt gC e.symm).2; omega))
        (try replace o5 := own_bq o5 hC9)
        refine oK hK (by exact hHeld.trans (hC9.mono hHeld.size)) fun hHeld => ?_
        clear hK K
        refine r1 2 fun K hK => ?_
        refine sBq (T := 46) (U := 5) (n := 2) [(0, .tmp 24), (1, .tmp 25)] [.int .u8 (x.toNat : Int), .int .u8 (z : Int)] (by rfl) rfl (rb8_2 _ _) ?_
        intro gA wA zA rA hA
        (try have nAC : gC ≠ gA := fun e => by (have := rC.lt; omega))
        replace zA := Nat.le_trans hHeld.size zA
        (try replace rB := rB.below hA rB.lt)
        (try replace rC := rC.below hA rC.lt)
        refine oK hK (by exact hHeld.trans (hA.mono hHeld.size)) fun hHeld => ?_
        clear hK K
        refine r1 6 fun K hK => ?_
        go_simp
        refine (rtwo_any w2.heap.size _ 2 [x, UInt8.ofNat z] gB 1 [UInt16.ofNat u3] _ (by rw [ez]; exact own_row (n := 2) rA rfl (by decide) zA) hHeld.size (by rw [eh]; exact rB) rfl (by omega)).mono ?_
        rintro e w5 ⟨a5, n5, c5, rfl, o5, d5, z5, k5⟩
        obtain rfl : n5 = 4 := by (have h := o5.1; rw [bcells_length, em] at h; simp [hw, be16] at h; omega)
        (try have nC5 : some gC ≠ (Value.slice a5 4 c5).ownBlock := (k5 gC rC.lt (fun e => nAC (Option.some.inj e))).1)
        (try replace rC := (k5 gC rC.lt (fun e => nAC (Option.some.inj e))).2.trans rC)
        refine oK hK (by exact hHeld.trans d5) fun hHeld => ?_
        clear hK K
        refine r1 10 fun K hK => ?_
        refine sApb (.tmp 30) (.tmp 33) (by rfl) rfl w2.heap.size _ 4 _ rfl o5 (some ⟨gC, 0, none⟩) 2 2 [UInt8.ofNat u6, 0] rfl (by rw [show ([UInt8.ofNat u6, 0] : List UInt8) = [UInt8.ofNat u6, UInt8.ofNat 0] from rfl, ep]; exact src_rq (show Row _ gC 5 _ from rC) rfl) (by omega) hHeld.size ?_
        intro v6 w6 o6 g6
        obtain ⟨a6, c6, rfl⟩ := own_shape o6
        refine oK hK (by exact hHeld.grown g6 hHeld.size (fun q hq => (o5.lt q hq).1)) fun hHeld => ?_
        clear hK K
        refine tA 11 ?_
        refine dN ?_
        rw [em] at o6
        exact ⟨gA, gB, gC, a5, c5, a6, c6, rfl, o6, hHeld⟩
      refine cE fun K hK => ?_
      refine sBq (T := 46) (U := 5) (n := 2) [(0, .tmp 32), (1, .const (.int .u8 0))] [.int .u8 (u6 : Int), .int .u8 0] (by rfl) rfl (rb8_2 _ _) ?_
      intro gC wC zC rC hC9
      (try have nAC : gC ≠ gA := fun e => by (have := rA.lt; omega))
      (try replace rA := rA.below hC9 rA.lt)
      (try replace rB := rB.below hC9 rB.lt)
      (try have nC5 : some gC ≠ (Value.slice a5 4 c5).ownBlock := fun e => by (have := (o5.lt gC e.symm).2; omega))
      (try replace o5 := own_bq o5 hC9)
      refine oK hK (by exact hHeld.trans (hC9.mono hHeld.size)) fun hHeld => ?_
      clear hK K
      refine rM [2,5] ?_
      refine cL (fun K hK => ?_) ?_
      · skip
        refine sBq (T := 46) (U := 5) (n := 2) [(0, .tmp 24), (1, .tmp 25)] [.int .u8 (x.toNat : Int), .int .u8 (z : Int)] (by rfl) rfl (rb8_2 _ _) ?_
        intro gA wA zA rA hA
        (try have nAC : gC ≠ gA := fun e => by (have := rC.lt; omega))
        replace zA := Nat.le_trans hHeld.size zA
        (try replace rB := rB.below hA rB.lt)
        (try replace rC := rC.below hA rC.lt)
        refine oK hK (by exact hHeld.trans (hA.mono hHeld.size)) fun hHeld => ?_
        clear hK K
        refine r1 5 fun K hK => ?_
        refine sBq (T := 125) (U := 36) (n := 1) [(0, .tmp 28)] [.int .u16 (u3 : Int)] (by rfl) rfl (rb16_1 _) ?_
        intro gB wB zB rB hB5
        (try replace rA := rA.below hB5 rA.lt)
        (try replace rC := rC.below hB5 rC.lt)
        refine oK hK (by exact hHeld.trans (hB5.mono hHeld.size)) fun hHeld => ?_
        clear hK K
        refine r1 6 fun K hK => ?_
        go_simp
        refine (rtwo_any w2.heap.size _ 2 [x, UInt8.ofNat z] gB 1 [UInt16.ofNat u3] _ (by rw [ez]; exact own_row (n := 2) rA rfl (by decide) zA) hHeld.size (by rw [eh]; exact rB) rfl (by omega)).mono ?_
        rintro e w5 ⟨a5, n5, c5, rfl, o5, d5, z5, k5⟩
        obtain rfl : n5 = 4 := by (have h := o5.1; rw [bcells_length, em] at h; simp [hw, be16] at h; omega)
        (try have nC5 : some gC ≠ (Value.slice a5 4 c5).ownBlock := (k5 gC rC.lt (fun e => nAC (Option.some.inj e))).1)
        (try replace rC := (k5 gC rC.lt (fun e => nAC (Option.some.inj e))).2.trans rC)
        refine oK hK (by exact hHeld.trans d5) fun hHeld => ?_
        clear hK K
        refine r1 10 fun K hK => ?_
        refine sApb (.tmp 30) (.tmp 33) (by rfl) rfl w2.heap.size _ 4 _ rfl o5 (some ⟨gC, 0, none⟩) 2 2 [UInt8.ofNat u6, 0] rfl (by rw [show ([UInt8.ofNat u6, 0] : List UInt8) = [UInt8.ofNat u6, UInt8.ofNat 0] from rfl, ep]; exact src_rq (show Row _ gC 5 _ from rC) rfl) (by omega) hHeld.size ?_
        intro v6 w6 o6 g6
        obtain ⟨a6, c6, rfl⟩ := own_shape o6
        refine oK hK (by exact hHeld.grown g6 hHeld.size (fun q hq => (o5.lt q hq).1)) fun hHeld => ?_
        clear hK K
        refine tA 11 ?_
        refine dN ?_
        rw [em] at o6
        exact ⟨gA, gB, gC, a5, c5, a6, c6, rfl, o6, hHeld⟩
      refine cE fun K hK => ?_
      refine sBq (T := 125) (U := 36) (n := 1) [(0, .tmp 28)] [.int .u16 (u3 : Int)] (by rfl) rfl (rb16_1 _) ?_
      intro gB wB zB rB hB5
      (try replace rA := rA.below hB5 rA.lt)
      (try replace rC := rC.below hB5 rC.lt)
      refine oK hK (by exact hHeld.trans (hB5.mono hHeld.size)) fun hHeld => ?_
      clear hK K
      refine r1 2 fun K hK => ?_
      refine sBq (T := 46) (U := 5) (n := 2) [(0, .tmp 24), (1, .tmp 25)] [.int .u8 (x.toNat : Int), .int .u8 (z : Int)] (by rfl) rfl (rb8_2 _ _) ?_
      intro gA wA zA rA hA
      (try have nAC : gC ≠ gA := fun e => by (have := rC.lt; omega))
      replace zA := Nat.le_trans hHeld.size zA
      (try replace rB := rB.below hA rB.lt)
      (try replace rC := rC.below hA rC.lt)
      refine oK hK (by exact hHeld.trans (hA.mono hHeld.size)) fun hHeld => ?_
      clear hK K
      refine r1 6 fun K hK => ?_
      go_simp
      refine (rtwo_any w2.heap.size _ 2 [x, UInt8.ofNat z] gB 1 [UInt16.ofNat u3] _ (by rw [ez]; exact own_row (n := 2) rA rfl (by decide) zA) hHeld.size (by rw [eh]; exact rB) rfl (by omega)).mono ?_
      rintro e w5 ⟨a5, n5, c5, rfl, o5, d5, z5, k5⟩
      obtain rfl : n5 = 4 := by (have h := o5.1; rw [bcells_length, em] at h; simp [hw, be16] at h; omega)
      (try have nC5 : some gC ≠ (Value.slice a5 4 c5).ownBlock := (k5 gC rC.lt (fun e => nAC (Option.some.inj e))).1)
      (try replace rC := (k5 gC rC.lt (fun e => nAC (Option.some.inj e))).2.trans rC)
      refine oK hK (by exact hHeld.trans d5) fun hHeld => ?_
      clear hK K
      refine r1 10 fun K hK => ?_
      refine sApb (.tmp 30) (.tmp 33) (by rfl) rfl w2.heap.size _ 4 _ rfl o5 (some ⟨gC, 0, none⟩) 2 2 [UInt8.ofNat u6, 0] rfl (by rw [show ([UInt8.ofNat u6, 0] : List UInt8) = [UInt8.ofNat u6, UInt8.ofNat 0] from rfl, ep]; exact src_rq (show Row _ gC 5 _ from rC) rfl) (by omega) hHeld.size ?_
      intro v6 w6 o6 g6
      obtain ⟨a6, c6, rfl⟩ := own_shape o6
      refine oK hK (by exact hHeld.grown g6 hHeld.size (fun q hq => (o5.lt q hq).1)) fun hHeld => ?_
      clear hK K
      refine tA 11 ?_
      refine dN ?_
      rw [em] at o6
      exact ⟨gA, gB, gC, a5, c5, a6, c6, rfl, o6, hHeld⟩
    case h2 =>
    intro gA gB gC a5 c5 a6 c6 W6 hW6
    obtain ⟨o6, b6⟩ := hW6
    go_wp2_with fail
    generalize hLL : [x, UInt8.ofNat z] ++ hw u3 ++ [UInt8.ofNat u6, 0] = LL at o6
    replace hLL : Hid (_ = _) := hLL
    go_loopw [7, 8] (fun u i wr => ∃ j : Nat, j ≤ 8 ∧ i = .int .i64 j ∧ wr.ownsRow w2.heap.size 5 1 u (6 + j) (bcells (LL ++ ID.l.take j)) ∧ Below w2.heap.size w2 wr) (fun _ i _ => 8 - (intOf i).toNat)
    case atStart => exact ⟨0, Nat.zero_le _, rfl, by simpa using o6, b6⟩
    case round =>
      clear o6
      obtain ⟨j, hj, rfl, h1, hb⟩ := hrel
      by_cases hlt : j < 8
      · obtain ⟨bb, hbb⟩ : ∃ bb, ID.l[j]? = some bb := ⟨_, List.getElem?_eq_getElem (by omega)⟩
        have hc := (HD.out _ hb).2.2 j _ (bcells_get hbb)
        have HT : Hid (bcells (LL ++ ID.l.take (j + 1)) = bcells (LL ++ ID.l.take j) ++ [.int .u8 (bb.toNat : Int)]) := by
          have h8 : j < ID.l.length := by omega
          have e : ID.l[j] = bb := by rw [List.getElem?_eq_getElem h8] at hbb; exact Option.some.inj hbb
          show _ = _
          rw [List.take_succ_eq_append_getElem h8, ← List.append_assoc, bcells_append, e]
          rfl
        have hj1 : (j : Int) < 8 := by omega
        have hwj : wrap64 ((j : Int) + 1) = (j : Int) + 1 := w64q j hlt
        have HJ : Hid (j + 1 ≤ 8 ∧ 6 + j + 1 ≤ 140737488355328 ∧ 8 - ((j : Int) + 1).toNat < 8 - ((j : Int)).toNat) := by refine ⟨?_, ?_, ?_⟩ <;> omega
        have hzw : w2.heap.size ≤ (wr.alloc (.cells #[.int .u8 (bb.toNat : Int)] 5)).heap.size := by have := hb.size; simp; omega
        have hbn := bb.toNat_lt
        clear hbb hlt hj
        go_wp2_with (at_builtin; refine append_src rfl (.tmp 39) (.tmp 44) rfl w2.heap.size _ (6 + j) _ rfl (h1.alloc _) (some ⟨wr.heap.size, 0, none⟩) 1 1 [.int .u8 (bb.toNat : Int)] rfl (by have := new_src wr #[.int .u8 (bb.toNat : Int)]; simpa using this) (by intro u hu; simp at hu; subst hu; rfl) HJ.out.2.1 hzw ?_; intro v7 w7 o7 g7 _)
        refine ⟨⟨v7, .int .i64 ((j : Int) + 1), _, _, _, _, _, _, _, _, _, _, _, ⟨j + 1, HJ.out.1, by simp, by rw [HT.out]; exact o7, (hb.alloc hb.size _).grown g7 hzw (ownBlock_ge h1)⟩, rfl⟩, ?_⟩
        exact HJ.out.2.2
      · have hj8 : j = 8 := by omega
        subst hj8
        rw [List.take_of_length_le (by omega)] at h1
        have hnj : ¬ ((8 : Nat) : Int) < 8 := by omega
        clear hlt hj
        go_wp2_with (first
          | (have kk := o8; at_builtin; refine append_src rfl (.tmp 66) (.tmp 67) rfl w2.heap.size _ _ _ rfl o8 qa qn qc (bcells S) rfl (HQ.out _ b8) (bcells_one _) (by have := HYn.out; omega) b8.size ?_; intro v9 w9 o9 g9 _)
          | (at_builtin; refine append_src rfl (.tmp 64) (.tmp 65) rfl w2.heap.size _ (6 + 8) _ rfl h1 ps pn pc (bcells y) rfl (HP.out _ hb) (bcells_one _) (by have := HYn.out; omega) hb.size ?_; intro v8 w8 o8 g8 _; have b8 : Below w2.heap.size w2 w8 := hb.grown g8 hb.size (fun k hk => (h1.lt k hk).1)))
        go_ret
        rw [← bcells_append, ← bcells_append, ← hLL.out] at o9
        obtain ⟨a9, c9, rfl⟩ := own_shape o9
        have b9 := b8.grown g9 b8.size (fun k hk => (o8.lt k hk).1)
        exact ⟨a9, _, c9, rfl, by simpa using own_le o9 B2.size, bt B2 b9⟩
end Go.Proofs.YtdibjgcokebfbaaGreat

namespace Go.Proofs.YtdibjgcokebfbaaGreat
open Go.RowKit
set_option linter.unusedSimpArgs false
set_option maxRecDepth 20000

def hopc (a : Ad) (b : Bool) : List Value := acells a ++ [.bool b]
def ocells (o : TS) : List Value := icells o.r ++ (hopc o.h4 o.k4 ++ hopc o.h6 o.k6)
theorem hopc_len (a : Ad) (b : Bool) : (hopc a b).length = 17 := by simp [hopc, acells_len]
theorem ocells_len (o : TS) : (ocells o).length = 42 := by simp [ocells, icells_len, hopc_len]
theorem hopc_one (a : Ad) (b : Bool) : ∀ u ∈ hopc a b, u.oneCell' = true := by
  intro u hu
  simp only [hopc, List.mem_append, List.mem_singleton] at hu
  rcases hu with h | rfl
  · exact acells_one _ u h
  · rfl
theorem ocells_one (o : TS) : ∀ u ∈ ocells o, u.oneCell' = true := by
  intro u hu
  simp only [ocells, List.mem_append] at hu
  rcases hu with h | h | h
  · exact icells_one _ u h
  · exact hopc_one _ _ u h
  · exact hopc_one _ _ u h
def zeroO : TS := ⟨zeroI, zeroA, false, zeroA, false⟩
def dcells (o : TS) (room : Int) (a : Option Addr) (n c : Nat) : List Value := ocells o ++ [.int .i64 room, .slice a n c]
theorem infoOz : (Tryz.prog.info? 70).map (·.zero) = some (some (.agg (ocells zeroO).toArray)) := by kernel_rfl
theorem infoO : (Tryz.prog.info? 70).map (·.size) = some 42 := by kernel_rfl
theorem infoHz : (Tryz.prog.info? 67).map (·.zero) = some (some (.agg (hopc zeroA false).toArray)) := by kernel_rfl
theorem infoH : (Tryz.prog.info? 67).map (·.size) = some 17 := by kernel_rfl
theorem bdD (x : Int) (w : World) : (Instr.build 73 #[(1, .int .i64 x)]).run Tryz.prog w = .ok (.agg (dcells zeroO x none 0 0).toArray) w := by kernel_rfl
theorem bdH (c : Ad) (w : World) : (Instr.build 67 #[(0, (Value.agg (acells c).toArray)), (1, .bool true)]).run Tryz.prog w = .ok (.agg (hopc c true).toArray) w := by
  obtain ⟨l, hl⟩ := c
  match l, hl with
  | [b0, b1, b2, b3, b4, b5, b6, b7, b8, b9, b10, b11, b12, b13, b14, b15], _ =>
    show _ = _
    kernel_rfl
section
variable {ops : Array Oper} {rest : List Oper} {op : Oper} {a : Act} {w : World} {Q : Exit → Act → World → Prop} {K : Act → World → Prop} {E : Prop} {S : World → Prop}
theorem ldO (x : Operand) (hw : Region.wanted op (yielded ops a.tmps) = true) (ho : op.op = .load 70 x) (b o : Nat) (c : TS) (hx : a.eval x = .pointer (some ⟨b, o, none⟩)) (hc : w.rangeAt b o (ocells c))
    (h : wpList Tryz.prog ops Q rest (a.put op.dst (.agg (ocells c).toArray)) w) : wpList Tryz.prog ops Q (op :: rest) a w :=
  wpList_step fun K hK => by
    rw [if_pos hw]
    exact wp_load_mid _ x ho b o hx (ocells c) _ hc Tryz.underlying70 rfl (by rw [infoO, ocells_len]) (hK _ _ h)
theorem yO {b o : Nat} {x : Operand} (c : TS) (hS : ∀ w, S w → w.rangeAt b o (ocells c)) (hw : Region.wanted op (yielded ops a.tmps) = true) (ho : op.op = .load 70 x) (hx : a.eval x = .pointer (some ⟨b, o, none⟩)) : YieldsIf Tryz.prog ops S op (.agg (ocells c).toArray) a :=
  yieldsIf_load_mid hw _ x ho b o hx (ocells c) _ hS Tryz.underlying70 rfl (by rw [infoO, ocells_len])
theorem wp_stO (x y : Operand) (ho : op.op = .store 70 x y) (b : Nat) (c : TS) {T : TypeId} (ds post : List Value) (hx : a.eval x = .pointer (some ⟨b, 0, none⟩)) (hy : a.eval y = .agg (ocells c).toArray) (hl : ds.length = 42) (hr : Row w b T (ds ++ post))
    (h : ∀ W, w.grownBy W (some b) → Row W b T (ocells c ++ post) → K (a.put op.dst undef) W) : Oper.wp Tryz.prog op a w K Q := by
  refine wp_store_mid _ x y ho b 0 _ hx hy (by simpa [ocells_len] using hr.there (n := 42) (by rw [List.length_append, hl]; omega)) (by rw [infoO]; simp [ocells_len]) (all_oneCell_toArray (ocells_one c)) (h _ (grownBy_setCells b _ _ _) ?_)
  have := Row.setMid (ocells c) [] ds post w hr (by rw [ocells_len, hl])
  simpa using this
theorem stO (x y : Operand) (hw : Region.wanted op (yielded ops a.tmps) = true) (ho : op.op = .store 70 x y) (b : Nat) (c : TS) {T : TypeId} (ds post : List Value) (hx : a.eval x = .pointer (some ⟨b, 0, none⟩)) (hy : a.eval y = .agg (ocells c).toArray) (hl : ds.length = 42) (hr : Row w b T (ds ++ post))
    (h : ∀ W, w.grownBy W (some b) → Row W b T (ocells c ++ post) → wpList Tryz.prog ops Q rest (a.put op.dst undef) W) : wpList Tryz.prog ops Q (op :: rest) a w :=
  wpList_step fun K hK => by
    rw [if_pos hw]
    exact wp_stO x y ho b c ds post hx hy hl hr fun W h1 h2 => hK _ _ (h W h1 h2)
theorem sStO (x y : Operand) (hw : Region.wanted op (yielded ops a.tmps) = true) (ho : op.op = .store 70 x y) (b : Nat) (c : TS) {T : TypeId} (ds post : List Value) (hx : a.eval x = .pointer (some ⟨b, 0, none⟩)) (hy : a.eval y = .agg (ocells c).toArray) (hl : ds.length = 42) (hr : Row w b T (ds ++ post))
    (h : ∀ W, w.grownBy W (some b) → Row W b T (ocells c ++ post) → K (a.put op.dst undef) W) : if Region.wanted op (yielded ops a.tmps) = true then Oper.wp Tryz.prog op a w K Q else E := by
  rw [if_pos hw]
  exact wp_stO x y ho b c ds post hx hy hl hr h
theorem ldH (x : Operand) (hw : Region.wanted op (yielded ops a.tmps) = true) (ho : op.op = .load 67 x) (b o : Nat) (c : Ad) (k : Bool) (hx : a.eval x = .pointer (some ⟨b, o, none⟩)) (hc : w.rangeAt b o (hopc c k))
    (h : wpList Tryz.prog ops Q rest (a.put op.dst (.agg (hopc c k).toArray)) w) : wpList Tryz.prog ops Q (op :: rest) a w :=
  wpList_step fun K hK => by
    rw [if_pos hw]
    exact wp_load_mid _ x ho b o hx (hopc c k) _ hc Tryz.underlying67 rfl (by rw [infoH, hopc_len]) (hK _ _ h)
theorem yH {b o : Nat} {x : Operand} (c : Ad) (k : Bool) (hS : ∀ w, S w → w.rangeAt b o (hopc c k)) (hw : Region.wanted op (yielded ops a.tmps) = true) (ho : op.op = .load 67 x) (hx : a.eval x = .pointer (some ⟨b, o, none⟩)) : YieldsIf Tryz.prog ops S op (.agg (hopc c k).toArray) a :=
  yieldsIf_load_mid hw _ x ho b o hx (hopc c k) _ hS Tryz.underlying67 rfl (by rw [infoH, hopc_len])
theorem wp_stH (x y : Operand) (ho : op.op = .store 67 x y) (b o : Nat) (c : Ad) (k : Bool) {T : TypeId} (pre ds post : List Value) (hp : pre.length = o) (hx : a.eval x = .pointer (some ⟨b, o, none⟩)) (hy : a.eval y = .agg (hopc c k).toArray) (hl : ds.length = 17) (hr : Row w b T (pre ++ (ds ++ post)))
    (h : ∀ W, w.grownBy W (some b) → Row W b T (pre ++ (hopc c k ++ post)) → K (a.put op.dst undef) W) : Oper.wp Tryz.prog op a w K Q := by
  refine wp_store_mid _ x y ho b o _ hx hy (by simpa [hopc_len] using hr.thereMid (o := o) (n := 17) (by rw [List.length_append, List.length_append, hl, hp]; omega)) (by rw [infoH]; simp [hopc_len]) (all_oneCell_toArray (hopc_one c k)) (h _ (grownBy_setCells b _ _ _) ?_)
  have := Row.setMid (hopc c k) pre ds post w hr (by rw [hopc_len, hl])
  rw [hp] at this
  simpa using this
theorem stH (x y : Operand) (hw : Region.wanted op (yielded ops a.tmps) = true) (ho : op.op = .store 67 x y) (b o : Nat) (c : Ad) (k : Bool) {T : TypeId} (pre ds post : List Value) (hp : pre.length = o) (hx : a.eval x = .pointer (some ⟨b, o, none⟩)) (hy : a.eval y = .agg (hopc c k).toArray) (hl : ds.length = 17) (hr : Row w b T (pre ++ (ds ++ post)))
    (h : ∀ W, w.grownBy W (some b) → Row W b T (pre ++ (hopc c k ++ post)) → wpList Tryz.prog ops Q rest (a.put op.dst undef) W) : wpList Tryz.prog ops Q (op :: rest) a w :=
  wpList_step fun K hK => by
    rw [if_pos hw]
    exact wp_stH x y ho b o c k pre ds post hp hx hy hl hr fun W h1 h2 => hK _ _ (h W h1 h2)
theorem sStH (x y : Operand) (hw : Region.wanted op (yielded ops a.tmps) = true) (ho : op.op = .store 67 x y) (b o : Nat) (c : Ad) (k : Bool) {T : TypeId} (pre ds post : List Value) (hp : pre.length = o) (hx : a.eval x = .pointer (some ⟨b, o, none⟩)) (hy : a.eval y = .agg (hopc c k).toArray) (hl : ds.length = 17) (hr : Row w b T (pre ++ (ds ++ post)))
    (h : ∀ W, w.grownBy W (some b) → Row W b T (pre ++ (hopc c k ++ post)) → K (a.put op.dst undef) W) : if Region.wanted op (yielded ops a.tmps) = true then Oper.wp Tryz.prog op a w K Q else E := by
  rw [if_pos hw]
  exact wp_stH x y ho b o c k pre ds post hp hx hy hl hr h
/-- A store of the router into what was told. -/
theorem stOr (x y : Operand) (hw : Region.wanted op (yielded ops a.tmps) = true) (ho : op.op = .store 38 x y) (b : Nat) (o : TS) (i : Id8) (hx : a.eval x = .pointer (some ⟨b, 0, none⟩)) (hy : a.eval y = .agg (icells i).toArray) (hr : Row w b 70 (ocells o))
    (h : ∀ W, w.grownBy W (some b) → Row W b 70 (ocells { o with r := i }) → wpList Tryz.prog ops Q rest (a.put op.dst undef) W) : wpList Tryz.prog ops Q (op :: rest) a w :=
  stI x y hw ho b 0 i hx hy (hr.there (by rw [ocells_len]; omega)) (h _ (grownBy_setCells b _ _ _) (by
    have := Row.setMid (icells i) [] (icells o.r) (hopc o.h4 o.k4 ++ hopc o.h6 o.k6) w hr (by rw [icells_len, icells_len])
    exact this))
/-- Pieces behind pieces, in a region that draws its order; one piece. -/
theorem sAppR (s x : Operand) (hw : Region.wanted op (yielded ops a.tmps) = true)
    (ho : op.op = .call { callee := .builtin .append, args := #[s, x], argTypes := #[71, 71] })
    (base : Nat) (v : Value) (n : Nat) (ps : List Pc) (hs : a.eval s = v) (hown : w.ownsRow base 94 2 v n (rcs ps))
    (ad : Addr) (m c : Nat) (qs : List Pc) (hx : a.eval x = .slice (some ad) m c) (hq : ∀ j u, (rcs qs)[j]? = some u → w.cell? (ad.add j) = some u) (hl : qs.length = m)
    (hbytes : n + m ≤ 4000000000000) (hbase : base ≤ w.heap.size)
    (h : ∀ v' w', w'.ownsRow base 94 2 v' (n + m) (rcs (ps ++ qs)) → w.grownBy w' v.ownBlock → K (a.put op.dst v') w') : if Region.wanted op (yielded ops a.tmps) = true then Oper.wp Tryz.prog op a w K Q else E := by
  rw [if_pos hw]
  obtain ⟨i0, hi, hz0, hz1, hz2⟩ := info_parts infoR3
  exact wp_append_own w s x 71 ho base 94 i0 (.agg #[.int .u8 0, .slice none 0 0]) 2 32 Tryz.underlying71 hi hz0 hz1 hz2 rfl (by decide) v n (rcs ps) hs hown ad m c (rcs qs) hx (by rw [rcs_len, hl]) hq (rcs_one qs) (by unfold maxLen; omega) (by omega) hbase (fun v' w' h1 h2 _ => h v' w' (by rw [rcs_append]; exact h1) h2)
end
theorem eqH (d : Nat) (x y : Ad) (b c : Bool) (w : World) : (Op.equalIn (d + 3) 67 (.agg (hopc x b).toArray) (.agg (hopc y c).toArray)).run Tryz.prog w = .ok (decide (x.l = y.l) && (b == c)) w := by
  have e1 : List.take 16 (hopc x b) = acells x := by simp [hopc, acells_len]
  have e2 : List.take 16 (hopc y c) = acells y := by simp [hopc, acells_len]
  have h1 : (hopc x b)[16]? = some (.bool b) := by simp [hopc, acells_len]
  have h2 : (hopc y c)[16]? = some (.bool c) := by simp [hopc, acells_len]
  have h3 := eqA d x y w
  have he : ∀ w a b, (Op.equalIn (d + 2) 4 (.bool a) (.bool b)).run Tryz.prog w = .ok (a == b) w := fun w a b => run_equalIn_bool w (d + 1) _ a b Tryz.underlying4
  have hf : (Tryz.prog.fieldsOf 67).toList.map (fun f => (f.name, f.type, f.offset)) = [("addr", 23, 0), ("known", 4, 16)] := by kernel_rfl
  rw [run_equalIn_struct w (d + 2) 67 _ _ (by kernel_rfl) (by kernel_rfl)]
  generalize (Tryz.prog.fieldsOf 67).toList = fs at hf
  obtain ⟨f1, f2, rfl⟩ : ∃ f1 f2, fs = [f1, f2] := two_of (by have := congrArg List.length hf; simpa using this)
  · simp only [List.map_cons, List.map_nil, List.cons.injEq, Prod.mk.injEq, and_true] at hf
    obtain ⟨⟨n1, t1, o1⟩, n2, t2, o2⟩ := hf
    have ha : ∀ w, (isAgg 23).run Tryz.prog w = .ok true w := fun w => by simp [isAgg, run_underlying Tryz.underlying23]
    have hb : ∀ w, (isAgg 4).run Tryz.prog w = .ok false w := fun w => by simp [isAgg, run_underlying Tryz.underlying4]
    have hs : ∀ w, (sizeOf 23).run Tryz.prog w = .ok 16 w := fun w => by kernel_rfl
    simp [Op.eqFields, n1, n2, t1, t2, o1, o2, Sem.run_bind, Sem.run_ite, part, ha, hb, hs, Result.andThen_ok, if_true, Nat.zero_add, e1, e2, h3, Sem.run_pure, Bool.false_eq_true, if_false, List.getElem?_toArray, h1, h2, he]
    by_cases hh : x.l = y.l <;> cases b <;> cases c <;> simp [hh]
theorem lvO {w : World} {b o : Nat} {c : TS} (h : w.rangeAt b o (ocells c)) : (loadVar 70 ⟨b, o, none⟩).run Tryz.prog w = .ok (.agg (ocells c).toArray) w :=
  run_loadVar_mid w b o _ (ocells c) _ h Tryz.underlying70 rfl (by rw [infoO, ocells_len])
theorem o4_at {w : World} {b : Nat} {o : TS} (h : Row w b 70 (ocells o)) : w.rangeAt b 8 (hopc o.h4 o.k4) := by
  have := rangeAt_right h.range (k := 8) (icells_len _)
  exact rangeAt_left this
theorem o6_at {w : World} {b : Nat} {o : TS} (h : Row w b 70 (ocells o)) : w.rangeAt b 25 (hopc o.h6 o.k6) := by
  have := rangeAt_right h.range (k := 8) (icells_len _)
  exact rangeAt_right this (k := 17) (hopc_len _ _)
end Go.Proofs.YtdibjgcokebfbaaGreat
