/-
  packet.Same for every two Tlvs.
-/
import Derived.Test.YtognnfknbkedgaaM07
import Derived.Test.YtognnfknbkedgaaM05
import Derived.Deep.QuietTactic
import Derived.BigQuiet
namespace Go.Proofs.Ytognnfknbkedgaa
open Go.RowKit
set_option linter.unusedSimpArgs false
set_option maxRecDepth 20000

theorem take_more {st sv : List UInt32} {j : Nat} (h : st.take j = sv.take j) (h1 : j < st.length) (h2 : j < sv.length) (e : st[j].toNat = sv[j].toNat) : st.take (j + 1) = sv.take (j + 1) := by
  rw [List.take_succ_eq_append_getElem h1, List.take_succ_eq_append_getElem h2, h, UInt32.toNat_inj.1 e]
/-- slices.Equal of any numbers. -/
theorem equal_any (a b : Option Addr) (n m c d : Nat) (st sv : List UInt32) (w : World) (h1 : Src w a n c (wcells st)) (h2 : Src w b m d (wcells sv)) (hn : n ≤ 100000) :
    Calls Try.prog 29 #[.slice a n c, .slice b m d] w fun e w' => e = .returned (.bool (decide (st = sv))) ∧ Below w.heap.size w w' := by
  have hs1 : Hid (n = st.length) := h1.wlen
  have hs2 : Hid (m = sv.length) := h2.wlen
  by_cases hnm : n = m
  · subst hnm
    go_enter Try.func29, Try.ntmps29
    go_wp2
    go_loopw [13] (fun i wr => ∃ j : Nat, j ≤ n ∧ i = .int .i64 j ∧ Hid (st.take j = sv.take j) ∧ Below w.heap.size w wr) (fun i _ => n - (intOf i).toNat)
    case atStart => exact ⟨0, Nat.zero_le _, rfl, (rfl : _ = _), Below.refl _ _⟩
    case round =>
      obtain ⟨j, hj, rfl, htk, hbl⟩ := hrel
      by_cases hlt : j < n
      · have hjk : j < st.length := by have := hs1.out; omega
        have hjl : j < sv.length := by have := hs2.out; omega
        cases a with
        | none => exact absurd (h1.bare rfl).1 (by omega)
        | some p =>
          cases b with
          | none => exact absurd (h2.bare rfl).1 (by omega)
          | some q =>
            have d1 := (h1.below hbl h1.lt).wordAt j hjk
            have d2 := (h2.below hbl h2.lt).wordAt j hjl
            have HM : Hid (st[j].toNat = sv[j].toNat → st.take (j + 1) = sv.take (j + 1)) := fun e => take_more htk.out hjk hjl e
            have HX : Hid (st[j].toNat ≠ sv[j].toNat → st ≠ sv) := fun e h => e (by subst h; rfl)
            generalize st[j].toNat = x at *
            generalize sv[j].toNat = y at *
            by_cases hxy : x = y
            · subst hxy
              go_wp2
              go_quiet (fail)
              go_wp2
              go_roundw
              case rel => exact ⟨j + 1, by omega, by go_num, HM.out (by first | rfl | trivial), below_drewN hbl _⟩
              case measure => simp [intOf]; omega
            · have hne : ((x : Int) == (y : Int)) = false := by simp; omega
              have hne' : ((x : Int) != (y : Int)) = true := by simp; omega
              go_wp2
              go_quiet (fail)
              go_wp2
              go_ret
              exact ⟨by rw [decide_eq_false (HX.out hxy)]; rfl, below_drewN hbl _⟩
      · go_wp2
        go_ret
        have e1 := hs1.out
        have e2 := hs2.out
        have e3 : st = sv := by
          have := htk.out
          rwa [List.take_of_length_le (by omega), List.take_of_length_le (by omega)] at this
        exact ⟨by rw [decide_eq_true e3]; rfl, hbl⟩
  · have hne : ((n : Int) == (m : Int)) = false := by simp; omega
    have HX : Hid (st ≠ sv) := fun h => hnm (by rw [hs1.out, hs2.out, h])
    clear hnm
    go_enter Try.func29, Try.ntmps29
    go_wp2
    go_ret
    exact ⟨by rw [decide_eq_false HX.out]; rfl, Below.refl _ _⟩
theorem snum_any (t u : Tl) (w : World) :
    Calls Try.prog 28 #[.agg (tcells t).toArray, .agg (tcells u).toArray] w fun e w' => e = .returned (.bool (sameN t.key u.key)) ∧ Below w.heap.size w w' := by
  have HE : sameN t.key u.key = (((t.ty : Int) == (u.ty : Int)) && (((t.nonce : Int) == (u.nonce : Int)) && (((t.intv : Int) == (u.intv : Int)) && (((t.seq : Int) == (u.seq : Int)) && (((t.rx : Int) == (u.rx : Int)) && (((t.met : Int) == (u.met : Int)) && (((t.hops : Int) == (u.hops : Int))))))))) := rfl
  have T0 : (tcells t)[0]? = some (.int .u8 (t.ty : Int)) := rfl
  have U0 : (tcells u)[0]? = some (.int .u8 (u.ty : Int)) := rfl
  have T1 : (tcells t)[1]? = some (.int .u16 (t.nonce : Int)) := rfl
  have U1 : (tcells u)[1]? = some (.int .u16 (u.nonce : Int)) := rfl
  have T2 : (tcells t)[2]? = some (.int .u16 (t.intv : Int)) := rfl
  have U2 : (tcells u)[2]? = some (.int .u16 (u.intv : Int)) := rfl
  have T3 : (tcells t)[3]? = some (.int .u16 (t.seq : Int)) := rfl
  have U3 : (tcells u)[3]? = some (.int .u16 (u.seq : Int)) := rfl
  have T4 : (tcells t)[4]? = some (.int .u16 (t.rx : Int)) := rfl
  have U4 : (tcells u)[4]? = some (.int .u16 (u.rx : Int)) := rfl
  have T5 : (tcells t)[5]? = some (.int .u16 (t.met : Int)) := rfl
  have U5 : (tcells u)[5]? = some (.int .u16 (u.met : Int)) := rfl
  have T6 : (tcells t)[6]? = some (.int .u8 (t.hops : Int)) := rfl
  have U6 : (tcells u)[6]? = some (.int .u8 (u.hops : Int)) := rfl
  rw [HE]
  clear HE
  generalize (t.ty : Int) = x0 at *
  generalize (u.ty : Int) = y0 at *
  obtain ⟨b0, h0⟩ : ∃ b, (x0 == y0) = b := ⟨_, rfl⟩
  rw [h0]
  generalize (t.nonce : Int) = x1 at *
  generalize (u.nonce : Int) = y1 at *
  obtain ⟨b1, h1⟩ : ∃ b, (x1 == y1) = b := ⟨_, rfl⟩
  rw [h1]
  generalize (t.intv : Int) = x2 at *
  generalize (u.intv : Int) = y2 at *
  obtain ⟨b2, h2⟩ : ∃ b, (x2 == y2) = b := ⟨_, rfl⟩
  rw [h2]
  generalize (t.seq : Int) = x3 at *
  generalize (u.seq : Int) = y3 at *
  obtain ⟨b3, h3⟩ : ∃ b, (x3 == y3) = b := ⟨_, rfl⟩
  rw [h3]
  generalize (t.rx : Int) = x4 at *
  generalize (u.rx : Int) = y4 at *
  obtain ⟨b4, h4⟩ : ∃ b, (x4 == y4) = b := ⟨_, rfl⟩
  rw [h4]
  generalize (t.met : Int) = x5 at *
  generalize (u.met : Int) = y5 at *
  obtain ⟨b5, h5⟩ : ∃ b, (x5 == y5) = b := ⟨_, rfl⟩
  rw [h5]
  generalize (t.hops : Int) = x6 at *
  generalize (u.hops : Int) = y6 at *
  obtain ⟨b6, h6⟩ : ∃ b, (x6 == y6) = b := ⟨_, rfl⟩
  rw [h6]
  cases b0
  · go_enter Try.func28, Try.ntmps28
    go_wp2
    go_ret
    exact ⟨rfl, bt (ba _ _) (ba _ _)⟩
  · skip
    cases b1
    · go_enter Try.func28, Try.ntmps28
      go_wp2
      go_ret
      exact ⟨rfl, bt (ba _ _) (ba _ _)⟩
    · skip
      cases b2
      · go_enter Try.func28, Try.ntmps28
        go_wp2
        go_ret
        exact ⟨rfl, bt (ba _ _) (ba _ _)⟩
      · skip
        cases b3
        · go_enter Try.func28, Try.ntmps28
          go_wp2
          go_ret
          exact ⟨rfl, bt (ba _ _) (ba _ _)⟩
        · skip
          cases b4
          · go_enter Try.func28, Try.ntmps28
            go_wp2
            go_ret
            exact ⟨rfl, bt (ba _ _) (ba _ _)⟩
          · skip
            cases b5
            · go_enter Try.func28, Try.ntmps28
              go_wp2
              go_ret
              exact ⟨rfl, bt (ba _ _) (ba _ _)⟩
            · skip
              go_enter Try.func28, Try.ntmps28
              go_wp2
              go_ret
              exact ⟨rfl, bt (ba _ _) (ba _ _)⟩
end Go.Proofs.Ytognnfknbkedgaa

namespace Go.Proofs.Ytognnfknbkedgaa
open Go.RowKit
set_option linter.unusedSimpArgs false
set_option maxRecDepth 20000

set_option maxHeartbeats 4000000 in
theorem rsame_len (t u : Tl) (w : World) (hn : t.sn ≠ u.sn) :
    Calls Try.prog 13 #[.agg (tcells t).toArray, .agg (tcells u).toArray] w fun e w' => e = .returned (.bool false) ∧ Below w.heap.size w w' := by
  have T67 : (tcells t)[67]? = some (.slice t.sa t.sn t.sc) := tcells_get t
  have U67 : (tcells u)[67]? = some (.slice u.sa u.sn u.sc) := tcells_get u
  have hn' : ¬ (t.sn : Int) = (u.sn : Int) := by omega
  generalize t.sa = sa at *
  generalize t.sn = sn at *
  generalize t.sc = sc at *
  generalize u.sa = sb at *
  generalize u.sn = sm at *
  generalize u.sc = sd at *
  go_enter Try.func13, Try.ntmps13
  go_wp2
  go_ret
  exact ⟨rfl, bt (ba _ _) (ba _ _)⟩
set_option maxHeartbeats 100000000 in
theorem rsame_st (t u : Tl) (w : World) (ht : TSrc w t) (hu : TSrc w u) (hn : t.sn ≤ 100000) (he : t.sn = u.sn) :
    Calls Try.prog 13 #[.agg (tcells t).toArray, .agg (tcells u).toArray] w fun e w' => e = .returned (.bool (sameB t.key u.key)) ∧ Below w.heap.size w w' := by
  have HE : sameB t.key u.key = (decide (t.st = u.st) && (((t.ty : Int) == (u.ty : Int)) && (((t.nonce : Int) == (u.nonce : Int)) && (((t.intv : Int) == (u.intv : Int)) && (((t.seq : Int) == (u.seq : Int)) && (((t.rx : Int) == (u.rx : Int)) && (((t.met : Int) == (u.met : Int)) && (((t.hops : Int) == (u.hops : Int)) && ((t.uni == u.uni) && ((t.all == u.all) && (decide (t.id.l = u.id.l) && (decide (t.ad.l = u.ad.l) && prqB t.pr u.pr)))))))))))) := by
    show (sameN t.key u.key && ((t.uni == u.uni) && ((t.all == u.all) && (decide (t.id.l = u.id.l) && (decide (t.ad.l = u.ad.l) && (prqB t.pr u.pr && decide (t.st = u.st))))))) = _
    have e : sameN t.key u.key = (((t.ty : Int) == (u.ty : Int)) && (((t.nonce : Int) == (u.nonce : Int)) && (((t.intv : Int) == (u.intv : Int)) && (((t.seq : Int) == (u.seq : Int)) && (((t.rx : Int) == (u.rx : Int)) && (((t.met : Int) == (u.met : Int)) && (((t.hops : Int) == (u.hops : Int))))))))) := rfl
    rw [e]
    generalize decide (t.st = u.st) = bS
    generalize ((t.ty : Int) == (u.ty : Int)) = b0
    generalize ((t.nonce : Int) == (u.nonce : Int)) = b1
    generalize ((t.intv : Int) == (u.intv : Int)) = b2
    generalize ((t.seq : Int) == (u.seq : Int)) = b3
    generalize ((t.rx : Int) == (u.rx : Int)) = b4
    generalize ((t.met : Int) == (u.met : Int)) = b5
    generalize ((t.hops : Int) == (u.hops : Int)) = b6
    generalize (t.uni == u.uni) = b7
    generalize (t.all == u.all) = b8
    generalize decide (t.id.l = u.id.l) = bI
    generalize decide (t.ad.l = u.ad.l) = bA
    generalize prqB t.pr u.pr = bQ
    cases bS
    · simp
    · simp [Bool.and_assoc]
  rw [HE]
  clear HE
  have hs1 : Hid (t.sn = t.st.length ∧ u.sn = u.st.length) := ⟨TSrc.len ht, TSrc.len hu⟩
  have s1 : Src w t.sa t.sn t.sc (wcells t.st) := ht
  have s2 : Src w u.sa u.sn u.sc (wcells u.st) := hu
  have T0 : Hid (∀ (W : World) (g : Nat), Row W g 33 (tcells t) → W.cell? ⟨g, 0, none⟩ = some (.int .u8 (t.ty : Int))) := fun W g r => r.cell 0
  have U0 : Hid (∀ (W : World) (g : Nat), Row W g 33 (tcells u) → W.cell? ⟨g, 0, none⟩ = some (.int .u8 (u.ty : Int))) := fun W g r => r.cell 0
  have T1 : Hid (∀ (W : World) (g : Nat), Row W g 33 (tcells t) → W.cell? ⟨g, 1, none⟩ = some (.int .u16 (t.nonce : Int))) := fun W g r => r.cell 1
  have U1 : Hid (∀ (W : World) (g : Nat), Row W g 33 (tcells u) → W.cell? ⟨g, 1, none⟩ = some (.int .u16 (u.nonce : Int))) := fun W g r => r.cell 1
  have T2 : Hid (∀ (W : World) (g : Nat), Row W g 33 (tcells t) → W.cell? ⟨g, 2, none⟩ = some (.int .u16 (t.intv : Int))) := fun W g r => r.cell 2
  have U2 : Hid (∀ (W : World) (g : Nat), Row W g 33 (tcells u) → W.cell? ⟨g, 2, none⟩ = some (.int .u16 (u.intv : Int))) := fun W g r => r.cell 2
  have T3 : Hid (∀ (W : World) (g : Nat), Row W g 33 (tcells t) → W.cell? ⟨g, 3, none⟩ = some (.int .u16 (t.seq : Int))) := fun W g r => r.cell 3
  have U3 : Hid (∀ (W : World) (g : Nat), Row W g 33 (tcells u) → W.cell? ⟨g, 3, none⟩ = some (.int .u16 (u.seq : Int))) := fun W g r => r.cell 3
  have T4 : Hid (∀ (W : World) (g : Nat), Row W g 33 (tcells t) → W.cell? ⟨g, 4, none⟩ = some (.int .u16 (t.rx : Int))) := fun W g r => r.cell 4
  have U4 : Hid (∀ (W : World) (g : Nat), Row W g 33 (tcells u) → W.cell? ⟨g, 4, none⟩ = some (.int .u16 (u.rx : Int))) := fun W g r => r.cell 4
  have T5 : Hid (∀ (W : World) (g : Nat), Row W g 33 (tcells t) → W.cell? ⟨g, 5, none⟩ = some (.int .u16 (t.met : Int))) := fun W g r => r.cell 5
  have U5 : Hid (∀ (W : World) (g : Nat), Row W g 33 (tcells u) → W.cell? ⟨g, 5, none⟩ = some (.int .u16 (u.met : Int))) := fun W g r => r.cell 5
  have T6 : Hid (∀ (W : World) (g : Nat), Row W g 33 (tcells t) → W.cell? ⟨g, 6, none⟩ = some (.int .u8 (t.hops : Int))) := fun W g r => r.cell 6
  have U6 : Hid (∀ (W : World) (g : Nat), Row W g 33 (tcells u) → W.cell? ⟨g, 6, none⟩ = some (.int .u8 (u.hops : Int))) := fun W g r => r.cell 6
  have T7 : Hid (∀ (W : World) (g : Nat), Row W g 33 (tcells t) → W.cell? ⟨g, 7, none⟩ = some (.bool t.uni)) := fun W g r => r.cell 7
  have U7 : Hid (∀ (W : World) (g : Nat), Row W g 33 (tcells u) → W.cell? ⟨g, 7, none⟩ = some (.bool u.uni)) := fun W g r => r.cell 7
  have T8 : Hid (∀ (W : World) (g : Nat), Row W g 33 (tcells t) → W.cell? ⟨g, 8, none⟩ = some (.bool t.all)) := fun W g r => r.cell 8
  have U8 : Hid (∀ (W : World) (g : Nat), Row W g 33 (tcells u) → W.cell? ⟨g, 8, none⟩ = some (.bool u.all)) := fun W g r => r.cell 8
  have T67 : Hid (∀ (W : World) (g : Nat), Row W g 33 (tcells t) → W.cell? ⟨g, 67, none⟩ = some (.slice t.sa t.sn t.sc)) := fun W g r => r.rSt
  have U67 : Hid (∀ (W : World) (g : Nat), Row W g 33 (tcells u) → W.cell? ⟨g, 67, none⟩ = some (.slice u.sa u.sn u.sc)) := fun W g r => r.rSt
  have X67 : (tcells t)[67]? = some (.slice t.sa t.sn t.sc) := tcells_get t
  have Y67 : (tcells u)[67]? = some (.slice u.sa u.sn u.sc) := tcells_get u
  have eI := fun w => eqI 9998 t.id u.id w
  have eA := fun w => eqA 9998 t.ad u.ad w
  have eQ : ∀ w, (Op.equalIn (9996 + 4) 30 (Value.agg (qcells t.pr).toArray) (Value.agg (qcells u.pr).toArray)).run Try.prog w = .ok (prqB t.pr u.pr) w := fun w => eqQ 9996 t.pr u.pr w
  generalize decide (t.id.l = u.id.l) = bI at *
  generalize decide (t.ad.l = u.ad.l) = bA at *
  generalize prqB t.pr u.pr = bQ at *
  generalize (t.ty : Int) = x0 at *
  generalize (u.ty : Int) = y0 at *
  obtain ⟨b0, h0⟩ : ∃ b, (x0 == y0) = b := ⟨_, rfl⟩
  rw [h0]
  generalize (t.nonce : Int) = x1 at *
  generalize (u.nonce : Int) = y1 at *
  obtain ⟨b1, h1⟩ : ∃ b, (x1 == y1) = b := ⟨_, rfl⟩
  rw [h1]
  generalize (t.intv : Int) = x2 at *
  generalize (u.intv : Int) = y2 at *
  obtain ⟨b2, h2⟩ : ∃ b, (x2 == y2) = b := ⟨_, rfl⟩
  rw [h2]
  generalize (t.seq : Int) = x3 at *
  generalize (u.seq : Int) = y3 at *
  obtain ⟨b3, h3⟩ : ∃ b, (x3 == y3) = b := ⟨_, rfl⟩
  rw [h3]
  generalize (t.rx : Int) = x4 at *
  generalize (u.rx : Int) = y4 at *
  obtain ⟨b4, h4⟩ : ∃ b, (x4 == y4) = b := ⟨_, rfl⟩
  rw [h4]
  generalize (t.met : Int) = x5 at *
  generalize (u.met : Int) = y5 at *
  obtain ⟨b5, h5⟩ : ∃ b, (x5 == y5) = b := ⟨_, rfl⟩
  rw [h5]
  generalize (t.hops : Int) = x6 at *
  generalize (u.hops : Int) = y6 at *
  obtain ⟨b6, h6⟩ : ∃ b, (x6 == y6) = b := ⟨_, rfl⟩
  rw [h6]
  generalize t.uni = x7 at *
  generalize u.uni = y7 at *
  obtain ⟨b7, h7⟩ : ∃ b, (x7 == y7) = b := ⟨_, rfl⟩
  rw [h7]
  generalize t.all = x8 at *
  generalize u.all = y8 at *
  obtain ⟨b8, h8⟩ : ∃ b, (x8 == y8) = b := ⟨_, rfl⟩
  rw [h8]
  generalize t.sa = sa at *
  generalize t.sc = sc at *
  generalize u.sa = sb at *
  generalize u.sc = sd at *
  have hs0 : u.sn = t.sn := he.symm
  rw [hs0] at s2 hs1 U67 Y67
  generalize t.sn = sn at *
  generalize t.st = st at *
  generalize u.st = sv at *
  have RT := (Row.new w 33 (tcells t)).alloc (.cells (tcells u).toArray 33)
  have RU := two_newR w (.cells (tcells t).toArray 33) 33 (tcells u)
  have BX := bt (ba w (.cells (tcells t).toArray 33)) (ba _ (.cells (tcells u).toArray 33))
  have HX : Hid (Row ((w.alloc (.cells (tcells t).toArray 33)).alloc (.cells (tcells u).toArray 33)) w.heap.size 33 (tcells t) ∧ Row ((w.alloc (.cells (tcells t).toArray 33)).alloc (.cells (tcells u).toArray 33)) (w.heap.size + 1) 33 (tcells u) ∧ Below w.heap.size w ((w.alloc (.cells (tcells t).toArray 33)).alloc (.cells (tcells u).toArray 33))) := ⟨RT, RU, BX⟩
  clear ht hu RT RU BX he hs0
  go_enter Try.func13, Try.ntmps13
  go_wp2
  obtain ⟨X, hXX⟩ : ∃ X, X = (w.alloc (.cells (tcells t).toArray 33)).alloc (.cells (tcells u).toArray 33) := ⟨_, rfl⟩
  rw [← hXX] at HX ⊢
  clear hXX X67 Y67
  obtain ⟨RT, RU, BX⟩ := HX.out
  have z1 := RT.lt
  have z2 := RU.lt
  clear HX
  go_loopw [5] (fun i wr => ∃ j : Nat, j ≤ sn ∧ i = .int .i64 j ∧ Hid (st.take j = sv.take j) ∧ Below X.heap.size X wr) (fun i _ => sn - (intOf i).toNat)
  case atStart => exact ⟨0, Nat.zero_le _, rfl, rfl, Below.refl _ _⟩
  case round =>
    obtain ⟨j, hj, rfl, htk, hbl⟩ := hrel
    have rT := RT.below hbl z1
    have rU := RU.below hbl z2
    have bW := bt BX hbl
    have k67 : wr.cell? ⟨w.heap.size, 67, none⟩ = some (.slice sa sn sc) := T67.out _ _ rT
    have l67 : wr.cell? ⟨w.heap.size + 1, 67, none⟩ = some (.slice sb sn sd) := U67.out _ _ rU
    by_cases hlt : j < sn
    · have hjk : j < st.length := by have := hs1.out; omega
      have hjv : j < sv.length := by have := hs1.out; omega
      cases sa with
      | none => exact absurd (s1.bare rfl).1 (by omega)
      | some p =>
        cases sb with
        | none => exact absurd (s2.bare rfl).1 (by omega)
        | some q =>
          have d1 := (s1.below bW s1.lt).wordAt j hjk
          have d2 := (s2.below bW s2.lt).wordAt j hjv
          have HM : Hid (st[j].toNat = sv[j].toNat → st.take (j + 1) = sv.take (j + 1)) := fun h => take_more htk.out hjk hjv h
          have HD : Hid (¬ st[j].toNat = sv[j].toNat → ¬ st = sv) := fun h e => by subst e; exact h rfl
          generalize st[j].toNat = x at *
          generalize sv[j].toNat = y at *
          by_cases hxy : x = y
          · subst hxy
            go_wp2
            go_quiet (fail)
            go_wp2
            go_roundw
            case rel => exact ⟨j + 1, by omega, by go_num, (by first | exact HM.out rfl | exact HM.out trivial), below_drewN hbl _⟩
            case measure => simp [intOf]; omega
          · have hxy' : ¬ (x : Int) = (y : Int) := by omega
            have hxyb : ((x : Int) == (y : Int)) = false := by simp; omega
            go_wp2
            go_quiet (fail)
            go_wp2
            go_ret
            exact ⟨by rw [decide_eq_false (HD.out hxy)]; rfl, below_drewN bW _⟩
    · have HST : Hid (st = sv) := by
        show st = sv
        have h1 := htk.out
        have h2 := hs1.out
        rw [List.take_of_length_le (by omega), List.take_of_length_le (by omega)] at h1
        exact h1
      have i1 := rT.rId2
      have i2 := rU.rId2
      have a1 := rT.rAd
      have a2 := rU.rAd
      have p1 := rT.rPr
      have p2 := rU.rPr
      have m0 := T0.out _ _ rT
      have n0 := U0.out _ _ rU
      have m1 := T1.out _ _ rT
      have n1 := U1.out _ _ rU
      have m2 := T2.out _ _ rT
      have n2 := U2.out _ _ rU
      have m3 := T3.out _ _ rT
      have n3 := U3.out _ _ rU
      have m4 := T4.out _ _ rT
      have n4 := U4.out _ _ rU
      have m5 := T5.out _ _ rT
      have n5 := U5.out _ _ rU
      have m6 := T6.out _ _ rT
      have n6 := U6.out _ _ rU
      have m7 := T7.out _ _ rT
      have n7 := U7.out _ _ rU
      have m8 := T8.out _ _ rT
      have n8 := U8.out _ _ rU
      clear rT rU RT RU s1 s2 T0 U0 T1 U1 T2 U2 T3 U3 T4 U4 T5 U5 T6 U6 T7 U7 T8 U8 T67 U67
      cases b0
      · skip
        go_wp2
        go_ret
        exact ⟨by rw [decide_eq_true HST.out]; rfl, bW⟩
      · skip
        cases b1
        · skip
          go_wp2
          go_ret
          exact ⟨by rw [decide_eq_true HST.out]; rfl, bW⟩
        · skip
          cases b2
          · skip
            go_wp2
            go_ret
            exact ⟨by rw [decide_eq_true HST.out]; rfl, bW⟩
          · skip
            cases b3
            · skip
              go_wp2
              go_ret
              exact ⟨by rw [decide_eq_true HST.out]; rfl, bW⟩
            · skip
              cases b4
              · skip
                go_wp2
                go_ret
                exact ⟨by rw [decide_eq_true HST.out]; rfl, bW⟩
              · skip
                cases b5
                · skip
                  go_wp2
                  go_ret
                  exact ⟨by rw [decide_eq_true HST.out]; rfl, bW⟩
                · skip
                  cases b6
                  · skip
                    go_wp2
                    go_ret
                    exact ⟨by rw [decide_eq_true HST.out]; rfl, bW⟩
                  · skip
                    cases b7
                    · skip
                      go_wp2
                      go_ret
                      exact ⟨by rw [decide_eq_true HST.out]; rfl, bW⟩
                    · skip
                      cases b8
                      · skip
                        go_wp2
                        go_ret
                        exact ⟨by rw [decide_eq_true HST.out]; rfl, bW⟩
                      · skip
                        cases bI
                        · skip
                          go_wp2_with (first
                            | (refine ldI (.tmp 95) (by rfl) rfl _ _ u.id rfl i2 ?_)
                            | (refine ldI (.tmp 93) (by rfl) rfl _ _ t.id rfl i1 ?_))
                          go_ret
                          exact ⟨by rw [decide_eq_true HST.out]; rfl, bW⟩
                        · skip
                          cases bA
                          · skip
                            go_wp2_with (first
                              | (refine ldA (.tmp 102) (by rfl) rfl _ _ u.ad rfl a2 ?_)
                              | (refine ldA (.tmp 100) (by rfl) rfl _ _ t.ad rfl a1 ?_)
                              | (refine ldI (.tmp 95) (by rfl) rfl _ _ u.id rfl i2 ?_)
                              | (refine ldI (.tmp 93) (by rfl) rfl _ _ t.id rfl i1 ?_))
                            go_ret
                            exact ⟨by rw [decide_eq_true HST.out]; rfl, bW⟩
                          · skip
                            go_wp2_with (first
                              | (refine ldQ (.tmp 109) (by rfl) rfl _ _ u.pr rfl p2 ?_)
                              | (refine ldQ (.tmp 107) (by rfl) rfl _ _ t.pr rfl p1 ?_)
                              | (refine ldA (.tmp 102) (by rfl) rfl _ _ u.ad rfl a2 ?_)
                              | (refine ldA (.tmp 100) (by rfl) rfl _ _ t.ad rfl a1 ?_)
                              | (refine ldI (.tmp 95) (by rfl) rfl _ _ u.id rfl i2 ?_)
                              | (refine ldI (.tmp 93) (by rfl) rfl _ _ t.id rfl i1 ?_))
                            go_ret
                            exact ⟨by rw [decide_eq_true HST.out]; rfl, bW⟩
theorem rsame_any (t u : Tl) (w : World) (ht : TSrc w t) (hu : TSrc w u) (hn : t.sn ≤ 100000) :
    Calls Try.prog 13 #[.agg (tcells t).toArray, .agg (tcells u).toArray] w fun e w' => e = .returned (.bool (sameB t.key u.key)) ∧ Below w.heap.size w w' := by
  by_cases h : t.sn = u.sn
  · exact rsame_st t u w ht hu hn h
  · have e : sameB t.key u.key = false := by
      have : ¬ t.st = u.st := fun e => h (by rw [TSrc.len ht, TSrc.len hu, e])
      have e1 : (decide (t.key.st = u.key.st)) = false := decide_eq_false this
      unfold sameB
      rw [e1]
      simp
    rw [e]
    exact rsame_len t u w h
end Go.Proofs.Ytognnfknbkedgaa
