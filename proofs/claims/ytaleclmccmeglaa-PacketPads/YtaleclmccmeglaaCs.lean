/-
  packet.Same of two Tlvs that tell the same answers true.
-/
import Derived.Test.YtaleclmccmeglaaSm6
namespace Go.Proofs.Ytaleclmccmeglaa
open Go.RowKit
set_option linter.unusedSimpArgs false
set_option maxRecDepth 20000

/-- slices.Equal of the same numbers. -/
theorem equal_true (a b : Option Addr) (n c d : Nat) (st : List UInt32) (w : World) (h1 : Src w a n c (wcells st)) (h2 : Src w b n d (wcells st)) (hn : n ≤ 100000) :
    Calls Try.prog 33 #[.slice a n c, .slice b n d] w fun e w' => e = .returned (.bool true) ∧ Below w.heap.size w w' := by
  have hs1 : Hid (n = st.length) := h1.wlen
  go_enter Try.func33, Try.ntmps33
  go_wp2
  go_loopw [13] (fun i wr => ∃ j : Nat, j ≤ n ∧ i = .int .i64 j ∧ Below w.heap.size w wr) (fun i _ => n - (intOf i).toNat)
  case atStart => exact ⟨0, Nat.zero_le _, rfl, Below.refl _ _⟩
  case round =>
    obtain ⟨j, hj, rfl, hbl⟩ := hrel
    by_cases hlt : j < n
    · have hjk : j < st.length := by have := hs1.out; omega
      cases a with
      | none => exact absurd (h1.bare rfl).1 (by omega)
      | some p =>
        cases b with
        | none => exact absurd (h2.bare rfl).1 (by omega)
        | some q =>
          have d1 := (h1.below hbl h1.lt).wordAt j hjk
          have d2 := (h2.below hbl h2.lt).wordAt j hjk
          generalize st[j].toNat = x at *
          go_wp2
          go_quiet (fail)
          go_wp2
          go_roundw
          case rel => exact ⟨j + 1, by omega, by go_num, below_drewN hbl _⟩
          case measure => simp [intOf]; omega
    · go_wp2
      go_ret
      exact ⟨rfl, hbl⟩
theorem snum_true (t u : Tl) (w : World) (hk : t.key = u.key) :
    Calls Try.prog 32 #[.agg (tcells t).toArray, .agg (tcells u).toArray] w fun e w' => e = .returned (.bool true) ∧ Below w.heap.size w w' := by
  obtain ⟨ty, no, iv, sq, rx, me, ho, un, al, id, ad, pr, sa, sn, sc, st⟩ := t
  obtain ⟨ty', no', iv', sq', rx', me', ho', un', al', id', ad', pr', sb, sm, sd, st'⟩ := u
  unfold Tl.key at hk
  simp only [TK.mk.injEq] at hk
  obtain ⟨rfl, rfl, rfl, rfl, rfl, rfl, rfl, rfl, rfl, rfl, rfl, rfl, rfl⟩ := hk
  generalize hT : (⟨ty, no, iv, sq, rx, me, ho, un, al, id, ad, pr, sa, sn, sc, st⟩ : Tl) = t
  generalize hU : (⟨ty, no, iv, sq, rx, me, ho, un, al, id, ad, pr, sb, sm, sd, st⟩ : Tl) = u
  have T0 : (tcells t)[0]? = some (.int .u8 (ty : Int)) := by rw [← hT]; rfl
  have U0 : (tcells u)[0]? = some (.int .u8 (ty : Int)) := by rw [← hU]; rfl
  have T1 : (tcells t)[1]? = some (.int .u16 (no : Int)) := by rw [← hT]; rfl
  have U1 : (tcells u)[1]? = some (.int .u16 (no : Int)) := by rw [← hU]; rfl
  have T2 : (tcells t)[2]? = some (.int .u16 (iv : Int)) := by rw [← hT]; rfl
  have U2 : (tcells u)[2]? = some (.int .u16 (iv : Int)) := by rw [← hU]; rfl
  have T3 : (tcells t)[3]? = some (.int .u16 (sq : Int)) := by rw [← hT]; rfl
  have U3 : (tcells u)[3]? = some (.int .u16 (sq : Int)) := by rw [← hU]; rfl
  have T4 : (tcells t)[4]? = some (.int .u16 (rx : Int)) := by rw [← hT]; rfl
  have U4 : (tcells u)[4]? = some (.int .u16 (rx : Int)) := by rw [← hU]; rfl
  have T5 : (tcells t)[5]? = some (.int .u16 (me : Int)) := by rw [← hT]; rfl
  have U5 : (tcells u)[5]? = some (.int .u16 (me : Int)) := by rw [← hU]; rfl
  have T6 : (tcells t)[6]? = some (.int .u8 (ho : Int)) := by rw [← hT]; rfl
  have U6 : (tcells u)[6]? = some (.int .u8 (ho : Int)) := by rw [← hU]; rfl
  clear hT hU
  go_enter Try.func32, Try.ntmps32
  go_wp2
  go_ret
  exact ⟨rfl, bt (ba _ _) (ba _ _)⟩
set_option maxHeartbeats 2000000 in
theorem psame_true (t u : Tl) (w : World) (ht : TSrc w t) (hu : TSrc w u) (hk : t.key = u.key) (hn : t.sn ≤ 100000) :
    Calls Try.prog 15 #[.agg (tcells t).toArray, .agg (tcells u).toArray] w fun e w' => e = .returned (.bool true) ∧ Below w.heap.size w w' := by
  have HSN : Hid (∀ W, Calls Try.prog 32 #[.agg (tcells t).toArray, .agg (tcells u).toArray] W fun e w' => e = .returned (.bool true) ∧ Below W.heap.size W w') := fun W => snum_true t u W hk
  obtain ⟨ty, no, iv, sq, rx, me, ho, un, al, id, ad, pr, sa, sn, sc, st⟩ := t
  obtain ⟨ty', no', iv', sq', rx', me', ho', un', al', id', ad', pr', sb, sm, sd, st'⟩ := u
  unfold Tl.key at hk
  simp only [TK.mk.injEq] at hk
  obtain ⟨rfl, rfl, rfl, rfl, rfl, rfl, rfl, rfl, rfl, rfl, rfl, rfl, rfl⟩ := hk
  have hs1 : Hid (sn = st.length) := TSrc.len ht
  obtain rfl : sm = sn := (TSrc.len hu).trans hs1.out.symm
  have hm : sm ≤ 100000 := hn
  clear hn
  generalize hT : (⟨ty, no, iv, sq, rx, me, ho, un, al, id, ad, pr, sa, sm, sc, st⟩ : Tl) = t at *
  generalize hU : (⟨ty, no, iv, sq, rx, me, ho, un, al, id, ad, pr, sb, sm, sd, st⟩ : Tl) = u at *
  have HT : Hid ((⟨ty, no, iv, sq, rx, me, ho, un, al, id, ad, pr, sa, sm, sc, st⟩ : Tl) = t) := hT
  have HU : Hid ((⟨ty, no, iv, sq, rx, me, ho, un, al, id, ad, pr, sb, sm, sd, st⟩ : Tl) = u) := hU
  have s1 : Src w sa sm sc (wcells st) := by rw [← hT] at ht; exact ht
  have s2 : Src w sb sm sd (wcells st) := by rw [← hU] at hu; exact hu
  have eI : ∀ w, (Op.equalIn (9998 + 2) 37 (.agg (icells id).toArray) (.agg (icells id).toArray)).run Try.prog w = .ok true w := fun w => by rw [eqI 9998 id id w]; simp
  have eA : ∀ w, (Op.equalIn (9998 + 2) 23 (Value.agg (acells ad).toArray) (Value.agg (acells ad).toArray)).run Try.prog w = .ok true w := fun w => by rw [eqA 9998 ad ad w]; simp
  have eQ : ∀ w, (Op.equalIn (9996 + 4) 41 (Value.agg (qcells pr).toArray) (Value.agg (qcells pr).toArray)).run Try.prog w = .ok true w := fun w => by rw [eqQ 9996 pr pr w]; simp
  have RT := (Row.new w 44 (tcells t)).alloc (.cells (tcells u).toArray 44)
  have RU := two_newR w (.cells (tcells t).toArray 44) 44 (tcells u)
  have BX := bt (ba w (.cells (tcells t).toArray 44)) (ba _ (.cells (tcells u).toArray 44))
  clear hT hU ht hu
  go_enter Try.func15, Try.ntmps15
  go_wp2_with (first
    | (go_at_call 33; have kk := hb1; refine (equal_true sa sb sm sc sd st _ (s1.below bW s1.lt) (s2.below bW s2.lt) hm).mono ?_; rintro e w2 ⟨rfl, hb2⟩)
    | (have kk := hb1; refine ldQ (.tmp 39) (by rfl) rfl _ _ pr rfl p2 ?_)
    | (have kk := hb1; refine ldQ (.tmp 37) (by rfl) rfl _ _ pr rfl p1 ?_)
    | (have kk := hb1; refine ldA (.tmp 32) (by rfl) rfl _ _ ad rfl a2 ?_)
    | (have kk := hb1; refine ldA (.tmp 30) (by rfl) rfl _ _ ad rfl a1 ?_)
    | (have kk := hb1; refine ldI (.tmp 25) (by rfl) rfl _ _ id rfl i2 ?_)
    | (have kk := hb1; refine ldI (.tmp 23) (by rfl) rfl _ _ id rfl i1 ?_)
    | (go_at_call 32; refine (HSN.out _).mono ?_; rintro e wr ⟨rfl, hb1⟩; have rT := RT.below hb1 RT.lt; have rU := RU.below hb1 RU.lt; have bW := bt BX hb1; have i1 : wr.rangeAt w.heap.size 9 (icells id) := (by have := rT.rId2; rw [← HT.out] at this; exact this); have i2 : wr.rangeAt (w.heap.size + 1) 9 (icells id) := (by have := rU.rId2; rw [← HU.out] at this; exact this); have a1 : LA wr w.heap.size 17 ad := (by have := rT.rAd; rw [← HT.out] at this; exact this); have a2 : LA wr (w.heap.size + 1) 17 ad := (by have := rU.rAd; rw [← HU.out] at this; exact this); have p1 : LQ wr w.heap.size 33 pr := (by have := rT.rPr; rw [← HT.out] at this; exact this); have p2 : LQ wr (w.heap.size + 1) 33 pr := (by have := rU.rPr; rw [← HU.out] at this; exact this); have m7 : wr.cell? ⟨w.heap.size, 7, none⟩ = some (.bool un) := (by have := rT.cell 7; rw [← HT.out] at this; exact this); have n7 : wr.cell? ⟨w.heap.size + 1, 7, none⟩ = some (.bool un) := (by have := rU.cell 7; rw [← HU.out] at this; exact this); have m8 : wr.cell? ⟨w.heap.size, 8, none⟩ = some (.bool al) := (by have := rT.cell 8; rw [← HT.out] at this; exact this); have n8 : wr.cell? ⟨w.heap.size + 1, 8, none⟩ = some (.bool al) := (by have := rU.cell 8; rw [← HU.out] at this; exact this); have k67 : wr.cell? ⟨w.heap.size, 67, none⟩ = some (.slice sa sm sc) := (by have := rT.rSt; rw [← HT.out] at this; exact this); have l67 : wr.cell? ⟨w.heap.size + 1, 67, none⟩ = some (.slice sb sm sd) := (by have := rU.rSt; rw [← HU.out] at this; exact this))
    | (refine ldT (.tmp 3) (by rfl) rfl (w.heap.size + 1) u rfl RU ?_)
    | (refine ldT (.tmp 2) (by rfl) rfl w.heap.size t rfl RT ?_))
  go_ret
  exact ⟨rfl, bt bW hb2⟩
end Go.Proofs.Ytaleclmccmeglaa
