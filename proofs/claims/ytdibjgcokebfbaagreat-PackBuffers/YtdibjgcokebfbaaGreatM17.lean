/-
  packet.Same for every two Tlvs.
-/
import Derived.Test.YtdibjgcokebfbaaGreatM16
import Derived.Test.YtdibjgcokebfbaaGreatM13
namespace Go.Proofs.YtdibjgcokebfbaaGreat
open Go.RowKit
set_option linter.unusedSimpArgs false
set_option maxRecDepth 20000

theorem take_more {st sv : List UInt32} {j : Nat} (h : st.take j = sv.take j) (h1 : j < st.length) (h2 : j < sv.length) (e : st[j].toNat = sv[j].toNat) : st.take (j + 1) = sv.take (j + 1) := by
  rw [List.take_succ_eq_append_getElem h1, List.take_succ_eq_append_getElem h2, h, UInt32.toNat_inj.1 e]
/-- slices.Equal of any numbers. -/
theorem equal_any (a b : Option Addr) (n m c d : Nat) (st sv : List UInt32) (w : World) (h1 : Src w a n c (wcells st)) (h2 : Src w b m d (wcells sv)) (hn : n ≤ 100000) :
    Calls Tryz.prog 96 #[.slice a n c, .slice b m d] w fun e w' => e = .returned (.bool (decide (st = sv))) ∧ Below w.heap.size w w' := by
  have hs1 : Hid (n = st.length) := h1.wlen
  have hs2 : Hid (m = sv.length) := h2.wlen
  by_cases hnm : n = m
  · subst hnm
    go_enter Tryz.func96, Tryz.ntmps96
    go_wp2
    go_loopw [13] (fun i wr => ∃ j : Nat, j ≤ n ∧ i = .int .i64 j ∧ Hid (st.take j = sv.take j) ∧ Below w.heap.size w wr) (fun i _ => n - (intOf i).toNat)
    case atStart => exact ⟨0, Nat.zero_le _, rfl, (rfl : _ = _), Below.refl _ _⟩
    case round =>
      obtain ⟨j, hj, rfl, htk, hbl⟩ := hrel
      by_cases hlt : j < n
      · have hjk : j < st.length := by have := hs1.out; omega
        have hjl : j < sv.length := by have := hs2.out; omega
        cases a with
        | none => exact absurd (h1.bare rfl).1 (by omega)
        | some p =>
          cases b with
          | none => exact absurd (h2.bare rfl).1 (by omega)
          | some q =>
            have d1 := (h1.below hbl h1.lt).wordAt j hjk
            have d2 := (h2.below hbl h2.lt).wordAt j hjl
            have HM : Hid (st[j].toNat = sv[j].toNat → st.take (j + 1) = sv.take (j + 1)) := fun e => take_more htk.out hjk hjl e
            have HX : Hid (st[j].toNat ≠ sv[j].toNat → st ≠ sv) := fun e h => e (by subst h; rfl)
            generalize st[j].toNat = x at *
            generalize sv[j].toNat = y at *
            by_cases hxy : x = y
            · subst hxy
              go_wp2
              go_quiet (fail)
              go_wp2
              go_roundw
              case rel => exact ⟨j + 1, by omega, by go_num, HM.out (by first | rfl | trivial), below_drewN hbl _⟩
              case measure => simp [intOf]; omega
            · have hne : ((x : Int) == (y : Int)) = false := by simp; omega
              have hne' : ((x : Int) != (y : Int)) = true := by simp; omega
              go_wp2
              go_quiet (fail)
              go_wp2
              go_ret
              exact ⟨by rw [decide_eq_false (HX.out hxy)]; rfl, below_drewN hbl _⟩
      · go_wp2
        go_ret
        have e1 := hs1.out
        have e2 := hs2.out
        have e3 : st = sv := by
          have := htk.out
          rwa [List.take_of_length_le (by omega), List.take_of_length_le (by omega)] at this
        exact ⟨by rw [decide_eq_true e3]; rfl, hbl⟩
  · have hne : ((n : Int) == (m : Int)) = false := by simp; omega
    have HX : Hid (st ≠ sv) := fun h => hnm (by rw [hs1.out, hs2.out, h])
    clear hnm
    go_enter Tryz.func96, Tryz.ntmps96
    go_wp2
    go_ret
    exact ⟨by rw [decide_eq_false HX.out]; rfl, Below.refl _ _⟩
theorem snum_any (t u : Tl) (w : World) :
    Calls Tryz.prog 95 #[.agg (tcells t).toArray, .agg (tcells u).toArray] w fun e w' => e = .returned (.bool (sameN t.key u.key)) ∧ Below w.heap.size w w' := by
  have HE : sameN t.key u.key = (((t.ty : Int) == (u.ty : Int)) && (((t.nonce : Int) == (u.nonce : Int)) && (((t.intv : Int) == (u.intv : Int)) && (((t.seq : Int) == (u.seq : Int)) && (((t.rx : Int) == (u.rx : Int)) && (((t.met : Int) == (u.met : Int)) && (((t.hops : Int) == (u.hops : Int))))))))) := rfl
  have T0 : (tcells t)[0]? = some (.int .u8 (t.ty : Int)) := rfl
  have U0 : (tcells u)[0]? = some (.int .u8 (u.ty : Int)) := rfl
  have T1 : (tcells t)[1]? = some (.int .u16 (t.nonce : Int)) := rfl
  have U1 : (tcells u)[1]? = some (.int .u16 (u.nonce : Int)) := rfl
  have T2 : (tcells t)[2]? = some (.int .u16 (t.intv : Int)) := rfl
  have U2 : (tcells u)[2]? = some (.int .u16 (u.intv : Int)) := rfl
  have T3 : (tcells t)[3]? = some (.int .u16 (t.seq : Int)) := rfl
  have U3 : (tcells u)[3]? = some (.int .u16 (u.seq : Int)) := rfl
  have T4 : (tcells t)[4]? = some (.int .u16 (t.rx : Int)) := rfl
  have U4 : (tcells u)[4]? = some (.int .u16 (u.rx : Int)) := rfl
  have T5 : (tcells t)[5]? = some (.int .u16 (t.met : Int)) := rfl
  have U5 : (tcells u)[5]? = some (.int .u16 (u.met : Int)) := rfl
  have T6 : (tcells t)[6]? = some (.int .u8 (t.hops : Int)) := rfl
  have U6 : (tcells u)[6]? = some (.int .u8 (u.hops : Int)) := rfl
  rw [HE]
  clear HE
  generalize (t.ty : Int) = x0 at *
  generalize (u.ty : Int) = y0 at *
  obtain ⟨b0, h0⟩ : ∃ b, (x0 == y0) = b := ⟨_, rfl⟩
  rw [h0]
  generalize (t.nonce : Int) = x1 at *
  generalize (u.nonce : Int) = y1 at *
  obtain ⟨b1, h1⟩ : ∃ b, (x1 == y1) = b := ⟨_, rfl⟩
  rw [h1]
  generalize (t.intv : Int) = x2 at *
  generalize (u.intv : Int) = y2 at *
  obtain ⟨b2, h2⟩ : ∃ b, (x2 == y2) = b := ⟨_, rfl⟩
  rw [h2]
  generalize (t.seq : Int) = x3 at *
  generalize (u.seq : Int) = y3 at *
  obtain ⟨b3, h3⟩ : ∃ b, (x3 == y3) = b := ⟨_, rfl⟩
  rw [h3]
  generalize (t.rx : Int) = x4 at *
  generalize (u.rx : Int) = y4 at *
  obtain ⟨b4, h4⟩ : ∃ b, (x4 == y4) = b := ⟨_, rfl⟩
  rw [h4]
  generalize (t.met : Int) = x5 at *
  generalize (u.met : Int) = y5 at *
  obtain ⟨b5, h5⟩ : ∃ b, (x5 == y5) = b := ⟨_, rfl⟩
  rw [h5]
  generalize (t.hops : Int) = x6 at *
  generalize (u.hops : Int) = y6 at *
  obtain ⟨b6, h6⟩ : ∃ b, (x6 == y6) = b := ⟨_, rfl⟩
  rw [h6]
  cases b0
  · go_enter Tryz.func95, Tryz.ntmps95
    go_wp2
    go_ret
    exact ⟨rfl, bt (ba _ _) (ba _ _)⟩
  · skip
    cases b1
    · go_enter Tryz.func95, Tryz.ntmps95
      go_wp2
      go_ret
      exact ⟨rfl, bt (ba _ _) (ba _ _)⟩
    · skip
      cases b2
      · go_enter Tryz.func95, Tryz.ntmps95
        go_wp2
        go_ret
        exact ⟨rfl, bt (ba _ _) (ba _ _)⟩
      · skip
        cases b3
        · go_enter Tryz.func95, Tryz.ntmps95
          go_wp2
          go_ret
          exact ⟨rfl, bt (ba _ _) (ba _ _)⟩
        · skip
          cases b4
          · go_enter Tryz.func95, Tryz.ntmps95
            go_wp2
            go_ret
            exact ⟨rfl, bt (ba _ _) (ba _ _)⟩
          · skip
            cases b5
            · go_enter Tryz.func95, Tryz.ntmps95
              go_wp2
              go_ret
              exact ⟨rfl, bt (ba _ _) (ba _ _)⟩
            · skip
              go_enter Tryz.func95, Tryz.ntmps95
              go_wp2
              go_ret
              exact ⟨rfl, bt (ba _ _) (ba _ _)⟩
end Go.Proofs.YtdibjgcokebfbaaGreat

namespace Go.Proofs.YtdibjgcokebfbaaGreat
open Go.RowKit
set_option linter.unusedSimpArgs false
set_option maxRecDepth 20000

set_option maxHeartbeats 4000000 in
theorem psame_any (t u : Tl) (w : World) (ht : TSrc w t) (hu : TSrc w u) (hn : t.sn ≤ 100000) :
    Calls Tryz.prog 63 #[.agg (tcells t).toArray, .agg (tcells u).toArray] w fun e w' => e = .returned (.bool (sameB t.key u.key)) ∧ Below w.heap.size w w' := by
  have HE : sameB t.key u.key = (sameN t.key u.key && ((t.uni == u.uni) && ((t.all == u.all) && (decide (t.id.l = u.id.l) && (decide (t.ad.l = u.ad.l) && (prqB t.pr u.pr && decide (t.st = u.st))))))) := rfl
  rw [HE]
  clear HE
  have HSN0 := snum_any t u
  obtain ⟨bN, hbN⟩ : ∃ b, sameN t.key u.key = b := ⟨_, rfl⟩
  rw [hbN] at HSN0
  rw [hbN]
  have HSN : Hid (∀ W, Calls Tryz.prog 95 #[.agg (tcells t).toArray, .agg (tcells u).toArray] W fun e w' => e = .returned (.bool bN) ∧ Below W.heap.size W w') := HSN0
  clear HSN0 hbN
  obtain ⟨bS, hbS⟩ : ∃ b, decide (t.st = u.st) = b := ⟨_, rfl⟩
  have HEQ0 : ∀ W, Below w.heap.size w W → Calls Tryz.prog 96 #[.slice t.sa t.sn t.sc, .slice u.sa u.sn u.sc] W fun e w' => e = .returned (.bool bS) ∧ Below W.heap.size W w' := fun W hW => by
    rw [← hbS]
    exact equal_any t.sa u.sa t.sn u.sn t.sc u.sc t.st u.st W (Src.below ht hW (Src.lt ht)) (Src.below hu hW (Src.lt hu)) hn
  rw [hbS]
  have eI := fun w => eqI 9998 t.id u.id w
  have eA := fun w => eqA 9998 t.ad u.ad w
  have eQ : ∀ w, (Op.equalIn (9996 + 4) 42 (Value.agg (qcells t.pr).toArray) (Value.agg (qcells u.pr).toArray)).run Tryz.prog w = .ok (prqB t.pr u.pr) w := fun w => eqQ 9996 t.pr u.pr w
  generalize decide (t.id.l = u.id.l) = bI at *
  generalize decide (t.ad.l = u.ad.l) = bA at *
  generalize prqB t.pr u.pr = bQ at *
  have HU67 : Hid (∀ (W : World) (g : Nat), Row W g 45 (tcells t) → W.cell? ⟨g, 67, none⟩ = some (.slice t.sa t.sn t.sc)) := fun W g r => r.rSt
  have HV67 : Hid (∀ (W : World) (g : Nat), Row W g 45 (tcells u) → W.cell? ⟨g, 67, none⟩ = some (.slice u.sa u.sn u.sc)) := fun W g r => r.rSt
  have HU7 : Hid (∀ (W : World) (g : Nat), Row W g 45 (tcells t) → W.cell? ⟨g, 7, none⟩ = some (.bool t.uni)) := fun W g r => r.cell 7
  have HV7 : Hid (∀ (W : World) (g : Nat), Row W g 45 (tcells u) → W.cell? ⟨g, 7, none⟩ = some (.bool u.uni)) := fun W g r => r.cell 7
  have HU8 : Hid (∀ (W : World) (g : Nat), Row W g 45 (tcells t) → W.cell? ⟨g, 8, none⟩ = some (.bool t.all)) := fun W g r => r.cell 8
  have HV8 : Hid (∀ (W : World) (g : Nat), Row W g 45 (tcells u) → W.cell? ⟨g, 8, none⟩ = some (.bool u.all)) := fun W g r => r.cell 8
  clear ht hu hbS hn
  generalize t.sa = sa at *
  generalize t.sn = sn at *
  generalize t.sc = sc at *
  generalize u.sa = sb at *
  generalize u.sn = sm at *
  generalize u.sc = sd at *
  generalize t.uni = un at *
  generalize u.uni = vn at *
  generalize t.all = al at *
  generalize u.all = bl at *
  have HEQ : Hid (∀ W, Below w.heap.size w W → Calls Tryz.prog 96 #[.slice sa sn sc, .slice sb sm sd] W fun e w' => e = .returned (.bool bS) ∧ Below W.heap.size W w') := HEQ0
  clear HEQ0
  have RT := (Row.new w 45 (tcells t)).alloc (.cells (tcells u).toArray 45)
  have RU := two_newR w (.cells (tcells t).toArray 45) 45 (tcells u)
  have BX := bt (ba w (.cells (tcells t).toArray 45)) (ba _ (.cells (tcells u).toArray 45))
  obtain ⟨b0, h0⟩ : ∃ b, (un == vn) = b := ⟨_, rfl⟩
  obtain ⟨b1, h1⟩ : ∃ b, (al == bl) = b := ⟨_, rfl⟩
  rw [h0, h1]
  cases bN
  · go_enter Tryz.func63, Tryz.ntmps63
    go_wp2_with (first
        | (go_at_call 96; have kk := hb1; refine (HEQ.out _ bW).mono ?_; rintro e w2 ⟨rfl, hb2⟩)
        | (have kk := hb1; refine ldQ (.tmp 39) (by rfl) rfl _ _ u.pr rfl p2 ?_)
        | (have kk := hb1; refine ldQ (.tmp 37) (by rfl) rfl _ _ t.pr rfl p1 ?_)
        | (have kk := hb1; refine ldA (.tmp 32) (by rfl) rfl _ _ u.ad rfl a2 ?_)
        | (have kk := hb1; refine ldA (.tmp 30) (by rfl) rfl _ _ t.ad rfl a1 ?_)
        | (have kk := hb1; refine ldI (.tmp 25) (by rfl) rfl _ _ u.id rfl i2 ?_)
        | (have kk := hb1; refine ldI (.tmp 23) (by rfl) rfl _ _ t.id rfl i1 ?_)
        | (go_at_call 95; refine (HSN.out _).mono ?_; rintro e wr ⟨rfl, hb1⟩; have rT := RT.below hb1 RT.lt; have rU := RU.below hb1 RU.lt; have bW := bt BX hb1; have i1 := rT.rId2; have i2 := rU.rId2; have a1 := rT.rAd; have a2 := rU.rAd; have p1 := rT.rPr; have p2 := rU.rPr; have m7 : wr.cell? ⟨w.heap.size, 7, none⟩ = some (.bool un) := HU7.out _ _ rT; have n7 : wr.cell? ⟨w.heap.size + 1, 7, none⟩ = some (.bool vn) := HV7.out _ _ rU; have m8 : wr.cell? ⟨w.heap.size, 8, none⟩ = some (.bool al) := HU8.out _ _ rT; have n8 : wr.cell? ⟨w.heap.size + 1, 8, none⟩ = some (.bool bl) := HV8.out _ _ rU; have k67 : wr.cell? ⟨w.heap.size, 67, none⟩ = some (.slice sa sn sc) := HU67.out _ _ rT; have l67 : wr.cell? ⟨w.heap.size + 1, 67, none⟩ = some (.slice sb sm sd) := HV67.out _ _ rU; clear rT rU)
        | (refine ldT (.tmp 3) (by rfl) rfl (w.heap.size + 1) u rfl RU ?_)
        | (refine ldT (.tmp 2) (by rfl) rfl w.heap.size t rfl RT ?_))
    go_ret
    exact ⟨rfl, bW⟩
  · skip
    cases b0
    · go_enter Tryz.func63, Tryz.ntmps63
      go_wp2_with (first
          | (go_at_call 96; have kk := hb1; refine (HEQ.out _ bW).mono ?_; rintro e w2 ⟨rfl, hb2⟩)
          | (have kk := hb1; refine ldQ (.tmp 39) (by rfl) rfl _ _ u.pr rfl p2 ?_)
          | (have kk := hb1; refine ldQ (.tmp 37) (by rfl) rfl _ _ t.pr rfl p1 ?_)
          | (have kk := hb1; refine ldA (.tmp 32) (by rfl) rfl _ _ u.ad rfl a2 ?_)
          | (have kk := hb1; refine ldA (.tmp 30) (by rfl) rfl _ _ t.ad rfl a1 ?_)
          | (have kk := hb1; refine ldI (.tmp 25) (by rfl) rfl _ _ u.id rfl i2 ?_)
          | (have kk := hb1; refine ldI (.tmp 23) (by rfl) rfl _ _ t.id rfl i1 ?_)
          | (go_at_call 95; refine (HSN.out _).mono ?_; rintro e wr ⟨rfl, hb1⟩; have rT := RT.below hb1 RT.lt; have rU := RU.below hb1 RU.lt; have bW := bt BX hb1; have i1 := rT.rId2; have i2 := rU.rId2; have a1 := rT.rAd; have a2 := rU.rAd; have p1 := rT.rPr; have p2 := rU.rPr; have m7 : wr.cell? ⟨w.heap.size, 7, none⟩ = some (.bool un) := HU7.out _ _ rT; have n7 : wr.cell? ⟨w.heap.size + 1, 7, none⟩ = some (.bool vn) := HV7.out _ _ rU; have m8 : wr.cell? ⟨w.heap.size, 8, none⟩ = some (.bool al) := HU8.out _ _ rT; have n8 : wr.cell? ⟨w.heap.size + 1, 8, none⟩ = some (.bool bl) := HV8.out _ _ rU; have k67 : wr.cell? ⟨w.heap.size, 67, none⟩ = some (.slice sa sn sc) := HU67.out _ _ rT; have l67 : wr.cell? ⟨w.heap.size + 1, 67, none⟩ = some (.slice sb sm sd) := HV67.out _ _ rU; clear rT rU)
          | (refine ldT (.tmp 3) (by rfl) rfl (w.heap.size + 1) u rfl RU ?_)
          | (refine ldT (.tmp 2) (by rfl) rfl w.heap.size t rfl RT ?_))
      go_ret
      exact ⟨rfl, bW⟩
    · skip
      cases b1
      · go_enter Tryz.func63, Tryz.ntmps63
        go_wp2_with (first
            | (go_at_call 96; have kk := hb1; refine (HEQ.out _ bW).mono ?_; rintro e w2 ⟨rfl, hb2⟩)
            | (have kk := hb1; refine ldQ (.tmp 39) (by rfl) rfl _ _ u.pr rfl p2 ?_)
            | (have kk := hb1; refine ldQ (.tmp 37) (by rfl) rfl _ _ t.pr rfl p1 ?_)
            | (have kk := hb1; refine ldA (.tmp 32) (by rfl) rfl _ _ u.ad rfl a2 ?_)
            | (have kk := hb1; refine ldA (.tmp 30) (by rfl) rfl _ _ t.ad rfl a1 ?_)
            | (have kk := hb1; refine ldI (.tmp 25) (by rfl) rfl _ _ u.id rfl i2 ?_)
            | (have kk := hb1; refine ldI (.tmp 23) (by rfl) rfl _ _ t.id rfl i1 ?_)
            | (go_at_call 95; refine (HSN.out _).mono ?_; rintro e wr ⟨rfl, hb1⟩; have rT := RT.below hb1 RT.lt; have rU := RU.below hb1 RU.lt; have bW := bt BX hb1; have i1 := rT.rId2; have i2 := rU.rId2; have a1 := rT.rAd; have a2 := rU.rAd; have p1 := rT.rPr; have p2 := rU.rPr; have m7 : wr.cell? ⟨w.heap.size, 7, none⟩ = some (.bool un) := HU7.out _ _ rT; have n7 : wr.cell? ⟨w.heap.size + 1, 7, none⟩ = some (.bool vn) := HV7.out _ _ rU; have m8 : wr.cell? ⟨w.heap.size, 8, none⟩ = some (.bool al) := HU8.out _ _ rT; have n8 : wr.cell? ⟨w.heap.size + 1, 8, none⟩ = some (.bool bl) := HV8.out _ _ rU; have k67 : wr.cell? ⟨w.heap.size, 67, none⟩ = some (.slice sa sn sc) := HU67.out _ _ rT; have l67 : wr.cell? ⟨w.heap.size + 1, 67, none⟩ = some (.slice sb sm sd) := HV67.out _ _ rU; clear rT rU)
            | (refine ldT (.tmp 3) (by rfl) rfl (w.heap.size + 1) u rfl RU ?_)
            | (refine ldT (.tmp 2) (by rfl) rfl w.heap.size t rfl RT ?_))
        go_ret
        exact ⟨rfl, bW⟩
      · skip
        cases bI
        · go_enter Tryz.func63, Tryz.ntmps63
          go_wp2_with (first
              | (go_at_call 96; have kk := hb1; refine (HEQ.out _ bW).mono ?_; rintro e w2 ⟨rfl, hb2⟩)
              | (have kk := hb1; refine ldQ (.tmp 39) (by rfl) rfl _ _ u.pr rfl p2 ?_)
              | (have kk := hb1; refine ldQ (.tmp 37) (by rfl) rfl _ _ t.pr rfl p1 ?_)
              | (have kk := hb1; refine ldA (.tmp 32) (by rfl) rfl _ _ u.ad rfl a2 ?_)
              | (have kk := hb1; refine ldA (.tmp 30) (by rfl) rfl _ _ t.ad rfl a1 ?_)
              | (have kk := hb1; refine ldI (.tmp 25) (by rfl) rfl _ _ u.id rfl i2 ?_)
              | (have kk := hb1; refine ldI (.tmp 23) (by rfl) rfl _ _ t.id rfl i1 ?_)
              | (go_at_call 95; refine (HSN.out _).mono ?_; rintro e wr ⟨rfl, hb1⟩; have rT := RT.below hb1 RT.lt; have rU := RU.below hb1 RU.lt; have bW := bt BX hb1; have i1 := rT.rId2; have i2 := rU.rId2; have a1 := rT.rAd; have a2 := rU.rAd; have p1 := rT.rPr; have p2 := rU.rPr; have m7 : wr.cell? ⟨w.heap.size, 7, none⟩ = some (.bool un) := HU7.out _ _ rT; have n7 : wr.cell? ⟨w.heap.size + 1, 7, none⟩ = some (.bool vn) := HV7.out _ _ rU; have m8 : wr.cell? ⟨w.heap.size, 8, none⟩ = some (.bool al) := HU8.out _ _ rT; have n8 : wr.cell? ⟨w.heap.size + 1, 8, none⟩ = some (.bool bl) := HV8.out _ _ rU; have k67 : wr.cell? ⟨w.heap.size, 67, none⟩ = some (.slice sa sn sc) := HU67.out _ _ rT; have l67 : wr.cell? ⟨w.heap.size + 1, 67, none⟩ = some (.slice sb sm sd) := HV67.out _ _ rU; clear rT rU)
              | (refine ldT (.tmp 3) (by rfl) rfl (w.heap.size + 1) u rfl RU ?_)
              | (refine ldT (.tmp 2) (by rfl) rfl w.heap.size t rfl RT ?_))
          go_ret
          exact ⟨rfl, bW⟩
        · skip
          cases bA
          · go_enter Tryz.func63, Tryz.ntmps63
            go_wp2_with (first
                | (go_at_call 96; have kk := hb1; refine (HEQ.out _ bW).mono ?_; rintro e w2 ⟨rfl, hb2⟩)
                | (have kk := hb1; refine ldQ (.tmp 39) (by rfl) rfl _ _ u.pr rfl p2 ?_)
                | (have kk := hb1; refine ldQ (.tmp 37) (by rfl) rfl _ _ t.pr rfl p1 ?_)
                | (have kk := hb1; refine ldA (.tmp 32) (by rfl) rfl _ _ u.ad rfl a2 ?_)
                | (have kk := hb1; refine ldA (.tmp 30) (by rfl) rfl _ _ t.ad rfl a1 ?_)
                | (have kk := hb1; refine ldI (.tmp 25) (by rfl) rfl _ _ u.id rfl i2 ?_)
                | (have kk := hb1; refine ldI (.tmp 23) (by rfl) rfl _ _ t.id rfl i1 ?_)
                | (go_at_call 95; refine (HSN.out _).mono ?_; rintro e wr ⟨rfl, hb1⟩; have rT := RT.below hb1 RT.lt; have rU := RU.below hb1 RU.lt; have bW := bt BX hb1; have i1 := rT.rId2; have i2 := rU.rId2; have a1 := rT.rAd; have a2 := rU.rAd; have p1 := rT.rPr; have p2 := rU.rPr; have m7 : wr.cell? ⟨w.heap.size, 7, none⟩ = some (.bool un) := HU7.out _ _ rT; have n7 : wr.cell? ⟨w.heap.size + 1, 7, none⟩ = some (.bool vn) := HV7.out _ _ rU; have m8 : wr.cell? ⟨w.heap.size, 8, none⟩ = some (.bool al) := HU8.out _ _ rT; have n8 : wr.cell? ⟨w.heap.size + 1, 8, none⟩ = some (.bool bl) := HV8.out _ _ rU; have k67 : wr.cell? ⟨w.heap.size, 67, none⟩ = some (.slice sa sn sc) := HU67.out _ _ rT; have l67 : wr.cell? ⟨w.heap.size + 1, 67, none⟩ = some (.slice sb sm sd) := HV67.out _ _ rU; clear rT rU)
                | (refine ldT (.tmp 3) (by rfl) rfl (w.heap.size + 1) u rfl RU ?_)
                | (refine ldT (.tmp 2) (by rfl) rfl w.heap.size t rfl RT ?_))
            go_ret
            exact ⟨rfl, bW⟩
          · skip
            cases bQ
            · go_enter Tryz.func63, Tryz.ntmps63
              go_wp2_with (first
                  | (go_at_call 96; have kk := hb1; refine (HEQ.out _ bW).mono ?_; rintro e w2 ⟨rfl, hb2⟩)
                  | (have kk := hb1; refine ldQ (.tmp 39) (by rfl) rfl _ _ u.pr rfl p2 ?_)
                  | (have kk := hb1; refine ldQ (.tmp 37) (by rfl) rfl _ _ t.pr rfl p1 ?_)
                  | (have kk := hb1; refine ldA (.tmp 32) (by rfl) rfl _ _ u.ad rfl a2 ?_)
                  | (have kk := hb1; refine ldA (.tmp 30) (by rfl) rfl _ _ t.ad rfl a1 ?_)
                  | (have kk := hb1; refine ldI (.tmp 25) (by rfl) rfl _ _ u.id rfl i2 ?_)
                  | (have kk := hb1; refine ldI (.tmp 23) (by rfl) rfl _ _ t.id rfl i1 ?_)
                  | (go_at_call 95; refine (HSN.out _).mono ?_; rintro e wr ⟨rfl, hb1⟩; have rT := RT.below hb1 RT.lt; have rU := RU.below hb1 RU.lt; have bW := bt BX hb1; have i1 := rT.rId2; have i2 := rU.rId2; have a1 := rT.rAd; have a2 := rU.rAd; have p1 := rT.rPr; have p2 := rU.rPr; have m7 : wr.cell? ⟨w.heap.size, 7, none⟩ = some (.bool un) := HU7.out _ _ rT; have n7 : wr.cell? ⟨w.heap.size + 1, 7, none⟩ = some (.bool vn) := HV7.out _ _ rU; have m8 : wr.cell? ⟨w.heap.size, 8, none⟩ = some (.bool al) := HU8.out _ _ rT; have n8 : wr.cell? ⟨w.heap.size + 1, 8, none⟩ = some (.bool bl) := HV8.out _ _ rU; have k67 : wr.cell? ⟨w.heap.size, 67, none⟩ = some (.slice sa sn sc) := HU67.out _ _ rT; have l67 : wr.cell? ⟨w.heap.size + 1, 67, none⟩ = some (.slice sb sm sd) := HV67.out _ _ rU; clear rT rU)
                  | (refine ldT (.tmp 3) (by rfl) rfl (w.heap.size + 1) u rfl RU ?_)
                  | (refine ldT (.tmp 2) (by rfl) rfl w.heap.size t rfl RT ?_))
              go_ret
              exact ⟨rfl, bW⟩
            · skip
              go_enter Tryz.func63, Tryz.ntmps63
              go_wp2_with (first
                  | (go_at_call 96; have kk := hb1; refine (HEQ.out _ bW).mono ?_; rintro e w2 ⟨rfl, hb2⟩)
                  | (have kk := hb1; refine ldQ (.tmp 39) (by rfl) rfl _ _ u.pr rfl p2 ?_)
                  | (have kk := hb1; refine ldQ (.tmp 37) (by rfl) rfl _ _ t.pr rfl p1 ?_)
                  | (have kk := hb1; refine ldA (.tmp 32) (by rfl) rfl _ _ u.ad rfl a2 ?_)
                  | (have kk := hb1; refine ldA (.tmp 30) (by rfl) rfl _ _ t.ad rfl a1 ?_)
                  | (have kk := hb1; refine ldI (.tmp 25) (by rfl) rfl _ _ u.id rfl i2 ?_)
                  | (have kk := hb1; refine ldI (.tmp 23) (by rfl) rfl _ _ t.id rfl i1 ?_)
                  | (go_at_call 95; refine (HSN.out _).mono ?_; rintro e wr ⟨rfl, hb1⟩; have rT := RT.below hb1 RT.lt; have rU := RU.below hb1 RU.lt; have bW := bt BX hb1; have i1 := rT.rId2; have i2 := rU.rId2; have a1 := rT.rAd; have a2 := rU.rAd; have p1 := rT.rPr; have p2 := rU.rPr; have m7 : wr.cell? ⟨w.heap.size, 7, none⟩ = some (.bool un) := HU7.out _ _ rT; have n7 : wr.cell? ⟨w.heap.size + 1, 7, none⟩ = some (.bool vn) := HV7.out _ _ rU; have m8 : wr.cell? ⟨w.heap.size, 8, none⟩ = some (.bool al) := HU8.out _ _ rT; have n8 : wr.cell? ⟨w.heap.size + 1, 8, none⟩ = some (.bool bl) := HV8.out _ _ rU; have k67 : wr.cell? ⟨w.heap.size, 67, none⟩ = some (.slice sa sn sc) := HU67.out _ _ rT; have l67 : wr.cell? ⟨w.heap.size + 1, 67, none⟩ = some (.slice sb sm sd) := HV67.out _ _ rU; clear rT rU)
                  | (refine ldT (.tmp 3) (by rfl) rfl (w.heap.size + 1) u rfl RU ?_)
                  | (refine ldT (.tmp 2) (by rfl) rfl w.heap.size t rfl RT ?_))
              go_ret
              exact ⟨rfl, bt bW hb2⟩
end Go.Proofs.YtdibjgcokebfbaaGreat

namespace Go.Proofs.YtdibjgcokebfbaaGreat
open Go.RowKit
set_option linter.unusedSimpArgs false
set_option maxRecDepth 20000
variable {bv : Option Addr}

/-- The reading behind an update's numbers, of AeAny. -/
def uaR (l : List UInt8) (r : RS) : RS := if (decide ((((r.adv l 1).adv l 1).val l 1) ≠ 0) || (decide (((((r.adv l 1).adv l 1).adv l 1).val l 1) ≠ 0) || decide ((((((((r.adv l 1).adv l 1).adv l 1).adv l 1).adv l 2).adv l 2).val l 2) ≠ 65535))) then (((((((r.adv l 1).adv l 1).adv l 1).adv l 1).adv l 2).adv l 2).adv l 2).bad else (((((((r.adv l 1).adv l 1).adv l 1).adv l 1).adv l 2).adv l 2).adv l 2)
end Go.Proofs.YtdibjgcokebfbaaGreat

namespace Go.Proofs.YtdibjgcokebfbaaGreat
open Go.RowKit
set_option linter.unusedSimpArgs false
set_option maxRecDepth 20000
variable {bv : Option Addr}

/-- What an update's address makes of the parser. -/
def upS (s : St) (l : List UInt8) (r : RS) : St := if (r.val l 1) = 0 then s else if (pfR s (r.val l 1) (((r.adv l 1).adv l 1).val l 1) ((((r.adv l 1).adv l 1).adv l 1).val l 1) l (((((((r.adv l 1).adv l 1).adv l 1).adv l 1).adv l 2).adv l 2).adv l 2)).y = 0 then kpS s (r.val l 1) ((r.adv l 1).val l 1) (pfP s (r.val l 1) (((r.adv l 1).adv l 1).val l 1) ((((r.adv l 1).adv l 1).adv l 1).val l 1) l (((((((r.adv l 1).adv l 1).adv l 1).adv l 1).adv l 2).adv l 2).adv l 2)).a else s
def upHop (s : St) (f : Int) : Option Ad := if f = 4 then s.h4 else s.h6
/-- Whether there are a next hop and a router for an update below Infinity. -/
def upOk (s : St) (f : Int) : Bool := match upHop s f, s.r with
  | some _, some i => !nobB i
  | _, _ => false
def upB (s : St) (l : List UInt8) (r : RS) : Bool := if (r.val l 1) = 0 then nsB l (uaR l r) else prB (upS s l r) (r.val l 1) (pfP s (r.val l 1) (((r.adv l 1).adv l 1).val l 1) ((((r.adv l 1).adv l 1).adv l 1).val l 1) l (((((((r.adv l 1).adv l 1).adv l 1).adv l 1).adv l 2).adv l 2).adv l 2)) l (pfR s (r.val l 1) (((r.adv l 1).adv l 1).val l 1) ((((r.adv l 1).adv l 1).adv l 1).val l 1) l (((((((r.adv l 1).adv l 1).adv l 1).adv l 1).adv l 2).adv l 2).adv l 2)) && (decide ((((((((r.adv l 1).adv l 1).adv l 1).adv l 1).adv l 2).adv l 2).val l 2) = 65535) || upOk (upS s l r) (famP (pfP s (r.val l 1) (((r.adv l 1).adv l 1).val l 1) ((((r.adv l 1).adv l 1).adv l 1).val l 1) l (((((((r.adv l 1).adv l 1).adv l 1).adv l 1).adv l 2).adv l 2).adv l 2))))
def upK (s : St) (l : List UInt8) (r : RS) : TK := if (r.val l 1) = 0 then { zeroK with ty := 8, intv := (((((r.adv l 1).adv l 1).adv l 1).adv l 1).val l 2), seq := ((((((r.adv l 1).adv l 1).adv l 1).adv l 1).adv l 2).val l 2), met := (((((((r.adv l 1).adv l 1).adv l 1).adv l 1).adv l 2).adv l 2).val l 2), all := true } else
  if (((((((r.adv l 1).adv l 1).adv l 1).adv l 1).adv l 2).adv l 2).val l 2) = 65535 then { zeroK with ty := 8, intv := (((((r.adv l 1).adv l 1).adv l 1).adv l 1).val l 2), seq := ((((((r.adv l 1).adv l 1).adv l 1).adv l 1).adv l 2).val l 2), met := (((((((r.adv l 1).adv l 1).adv l 1).adv l 1).adv l 2).adv l 2).val l 2), pr := prQ (upS s l r) (r.val l 1) (pfP s (r.val l 1) (((r.adv l 1).adv l 1).val l 1) ((((r.adv l 1).adv l 1).adv l 1).val l 1) l (((((((r.adv l 1).adv l 1).adv l 1).adv l 1).adv l 2).adv l 2).adv l 2)) l (pfR s (r.val l 1) (((r.adv l 1).adv l 1).val l 1) ((((r.adv l 1).adv l 1).adv l 1).val l 1) l (((((((r.adv l 1).adv l 1).adv l 1).adv l 1).adv l 2).adv l 2).adv l 2)) }
  else { zeroK with ty := 8, intv := (((((r.adv l 1).adv l 1).adv l 1).adv l 1).val l 2), seq := ((((((r.adv l 1).adv l 1).adv l 1).adv l 1).adv l 2).val l 2), met := (((((((r.adv l 1).adv l 1).adv l 1).adv l 1).adv l 2).adv l 2).val l 2), pr := prQ (upS s l r) (r.val l 1) (pfP s (r.val l 1) (((r.adv l 1).adv l 1).val l 1) ((((r.adv l 1).adv l 1).adv l 1).val l 1) l (((((((r.adv l 1).adv l 1).adv l 1).adv l 1).adv l 2).adv l 2).adv l 2)) l (pfR s (r.val l 1) (((r.adv l 1).adv l 1).val l 1) ((((r.adv l 1).adv l 1).adv l 1).val l 1) l (((((((r.adv l 1).adv l 1).adv l 1).adv l 1).adv l 2).adv l 2).adv l 2)), id := ((upS s l r).r).getD zeroI, ad := (upHop (upS s l r) (famP (pfP s (r.val l 1) (((r.adv l 1).adv l 1).val l 1) ((((r.adv l 1).adv l 1).adv l 1).val l 1) l (((((((r.adv l 1).adv l 1).adv l 1).adv l 1).adv l 2).adv l 2).adv l 2)))).getD zeroA }
theorem Par.bytes {w : World} {P g : Nat} {R : Option Nat} {s : St} {l : List UInt8} {r : RS} (h : Par w P R s) (hr : RdS w g bv l r) : ∀ ad, bv = some ad → l ≠ [] → ad.block ≠ P := by
  intro ad had hl e
  obtain ⟨c, _, _, hs⟩ := Rd.ex hr
  obtain ⟨x, h4, h6, d1, d2, k0, _⟩ := h.ex
  match l, hl with
  | b :: m, _ =>
    have h1 := hs.cell ad had 0 (.int .u8 b.toNat) rfl
    rw [Addr.add_zero'] at h1
    obtain ⟨bk, o, sp⟩ := ad
    cases sp with
    | some y => have := World.cell?_spot h1; simp at this
    | none =>
      simp only at e
      subst e
      rw [k0.cell] at h1
      have : ∀ v ∈ pcs x h4 h6 d1 d2 R, ∃ q, v = .pointer q := by
        intro v hv
        simp [pcs, pv] at hv
        rcases hv with rfl | rfl | rfl | rfl | rfl | rfl | rfl | rfl | rfl | rfl | rfl | rfl <;> exact ⟨_, rfl⟩
      obtain ⟨q, hq⟩ := this _ (List.mem_of_getElem? h1)
      cases hq
section
variable {ops : Array Oper} {op : Oper} {a : Act} {w : World} {Q : Exit → Act → World → Prop} {K : Act → World → Prop} {E : Prop}
theorem sStIt (x y : Operand) (hw : Region.wanted op (yielded ops a.tmps) = true) (ho : op.op = .store 38 x y) (b : Nat) (t : Tl) (q : Id8) (hx : a.eval x = .pointer (some ⟨b, 9, none⟩)) (hy : a.eval y = .agg (icells q).toArray) (hr : Row w b 45 (tcells t))
    (h : ∀ W, w.grownBy W (some b) → Row W b 45 (tcells { t with id := q }) → K (a.put op.dst undef) W) : if Region.wanted op (yielded ops a.tmps) = true then Oper.wp Tryz.prog op a w K Q else E := by
  rw [if_pos hw]
  exact wp_store_mid _ x y ho b 9 _ hx hy (by simpa [icells_len] using hr.thereMid (o := 9) (n := 8) (by rw [tcells_len]; omega)) (by rw [infoI]; simp [icells_len]) (all_oneCell_toArray (icells_one q)) (h _ (grownBy_setCells b _ _ _) (by simpa using hr.tId q))
theorem sStAt (x y : Operand) (hw : Region.wanted op (yielded ops a.tmps) = true) (ho : op.op = .store 23 x y) (b : Nat) (t : Tl) (q : Ad) (hx : a.eval x = .pointer (some ⟨b, 17, none⟩)) (hy : a.eval y = (Value.agg (acells q).toArray)) (hr : Row w b 45 (tcells t))
    (h : ∀ W, w.grownBy W (some b) → Row W b 45 (tcells { t with ad := q }) → K (a.put op.dst undef) W) : if Region.wanted op (yielded ops a.tmps) = true then Oper.wp Tryz.prog op a w K Q else E := by
  rw [if_pos hw]
  exact wp_store_mid _ x y ho b 17 _ hx hy (by simpa [acells_len] using hr.thereMid (o := 17) (n := 16) (by rw [tcells_len]; omega)) (by rw [infoA]; simp [acells_len]) (all_oneCell_toArray (acells_one q)) (h _ (grownBy_setCells b _ _ _) (by simpa using hr.tAd q))
end
end Go.Proofs.YtdibjgcokebfbaaGreat
