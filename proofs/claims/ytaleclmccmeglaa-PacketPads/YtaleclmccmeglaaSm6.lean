/-
  Two Tlvs that are the same but for where their Stamps lie: the document's Same and Sames answer true.
-/
import Derived.Test.YtaleclmccmeglaaTl
import Derived.Test.YtaleclmccmeglaaMsg
import Derived.Deep.QuietTactic
import Derived.BigQuiet
namespace Go.Proofs.Ytaleclmccmeglaa
open Go.RowKit
set_option linter.unusedSimpArgs false
set_option maxRecDepth 20000

theorem Row.rAd {w : World} {g : Nat} {t : Tl} (hr : Row w g 44 (tcells t)) : LA w g 17 t.ad := by
  have h := rangeAt_right hr.range (k := 9) rfl
  have h2 := rangeAt_right h (k := 8) (icells_len _)
  exact rangeAt_left h2
theorem Row.rPr {w : World} {g : Nat} {t : Tl} (hr : Row w g 44 (tcells t)) : LQ w g 33 t.pr := by
  have h := rangeAt_right hr.range (k := 9) rfl
  have h2 := rangeAt_right h (k := 8) (icells_len _)
  have h3 := rangeAt_right h2 (k := 16) (acells_len _)
  exact rangeAt_left h3
theorem Row.rId2 {w : World} {g : Nat} {t : Tl} (hr : Row w g 44 (tcells t)) : w.rangeAt g 9 (icells t.id) := by
  have h := rangeAt_right hr.range (k := 9) rfl
  exact rangeAt_left h
theorem Row.rSt {w : World} {g : Nat} {t : Tl} (hr : Row w g 44 (tcells t)) : w.cell? ⟨g, 67, none⟩ = some (.slice t.sa t.sn t.sc) := (hr.cell 67).trans (tcells_get t)
/-- A Tlv as a value: where its Stamps are. -/
def TSrc (w : World) (t : Tl) : Prop := Src w t.sa t.sn t.sc (wcells t.st)
theorem TSrc.len {w : World} {t : Tl} (h : TSrc w t) : t.sn = t.st.length := Src.wlen h

set_option maxHeartbeats 4000000 in
theorem rsame_true (t u : Tl) (w : World) (ht : TSrc w t) (hu : TSrc w u) (hk : t.key = u.key) (hn : t.sn ≤ 100000) :
    Calls Try.prog 16 #[.agg (tcells t).toArray, .agg (tcells u).toArray] w fun e w' => e = .returned (.bool true) ∧ Below w.heap.size w w' := by
  obtain ⟨ty, no, iv, sq, rx, me, ho, un, al, id, ad, pr, sa, sn, sc, st⟩ := t
  obtain ⟨ty', no', iv', sq', rx', me', ho', un', al', id', ad', pr', sb, sm, sd, st'⟩ := u
  unfold Tl.key at hk
  simp only [TK.mk.injEq] at hk
  obtain ⟨rfl, rfl, rfl, rfl, rfl, rfl, rfl, rfl, rfl, rfl, rfl, rfl, rfl⟩ := hk
  have hs1 : Hid (sn = st.length) := TSrc.len ht
  obtain rfl : sm = sn := (TSrc.len hu).trans hs1.out.symm
  generalize hT : (⟨ty, no, iv, sq, rx, me, ho, un, al, id, ad, pr, sa, sm, sc, st⟩ : Tl) = t
  generalize hU : (⟨ty, no, iv, sq, rx, me, ho, un, al, id, ad, pr, sb, sm, sd, st⟩ : Tl) = u
  rw [hT] at ht
  rw [hU] at hu
  have T67 : (tcells t)[67]? = some (.slice sa sm sc) := by rw [← hT]; exact tcells_get _
  have U67 : (tcells u)[67]? = some (.slice sb sm sd) := by rw [← hU]; exact tcells_get _
  have HT : Hid ((⟨ty, no, iv, sq, rx, me, ho, un, al, id, ad, pr, sa, sm, sc, st⟩ : Tl) = t) := hT
  have HU : Hid ((⟨ty, no, iv, sq, rx, me, ho, un, al, id, ad, pr, sb, sm, sd, st⟩ : Tl) = u) := hU
  have s1 : Src w sa sm sc (wcells st) := by rw [← hT] at ht; exact ht
  have s2 : Src w sb sm sd (wcells st) := by rw [← hU] at hu; exact hu
  have eI : ∀ w, (Op.equalIn (9998 + 2) 37 (.agg (icells id).toArray) (.agg (icells id).toArray)).run Try.prog w = .ok true w := fun w => by rw [eqI 9998 id id w]; simp
  have eA : ∀ w, (Op.equalIn (9998 + 2) 23 (Value.agg (acells ad).toArray) (Value.agg (acells ad).toArray)).run Try.prog w = .ok true w := fun w => by rw [eqA 9998 ad ad w]; simp
  have eQ : ∀ w, (Op.equalIn (9996 + 4) 41 (Value.agg (qcells pr).toArray) (Value.agg (qcells pr).toArray)).run Try.prog w = .ok true w := fun w => by rw [eqQ 9996 pr pr w]; simp
  have RT := (Row.new w 44 (tcells t)).alloc (.cells (tcells u).toArray 44)
  have RU := two_newR w (.cells (tcells t).toArray 44) 44 (tcells u)
  have BX := bt (ba w (.cells (tcells t).toArray 44)) (ba _ (.cells (tcells u).toArray 44))
  have HX : Hid (Row ((w.alloc (.cells (tcells t).toArray 44)).alloc (.cells (tcells u).toArray 44)) w.heap.size 44 (tcells t) ∧ Row ((w.alloc (.cells (tcells t).toArray 44)).alloc (.cells (tcells u).toArray 44)) (w.heap.size + 1) 44 (tcells u) ∧ Below w.heap.size w ((w.alloc (.cells (tcells t).toArray 44)).alloc (.cells (tcells u).toArray 44))) := ⟨RT, RU, BX⟩
  clear hT hU ht hu RT RU BX
  go_enter Try.func16, Try.ntmps16
  go_wp2
  obtain ⟨X, hXX⟩ : ∃ X, X = (w.alloc (.cells (tcells t).toArray 44)).alloc (.cells (tcells u).toArray 44) := ⟨_, rfl⟩
  rw [← hXX] at HX ⊢
  clear hXX T67 U67
  obtain ⟨RT, RU, BX⟩ := HX.out
  have z1 := RT.lt
  have z2 := RU.lt
  clear HX
  go_loopw [5] (fun i wr => ∃ j : Nat, j ≤ sm ∧ i = .int .i64 j ∧ Below X.heap.size X wr) (fun i _ => sm - (intOf i).toNat)
  case atStart => exact ⟨0, Nat.zero_le _, rfl, Below.refl _ _⟩
  case round =>
    obtain ⟨j, hj, rfl, hbl⟩ := hrel
    have rT := RT.below hbl z1
    have rU := RU.below hbl z2
    have bW := bt BX hbl
    have k67 : wr.cell? ⟨w.heap.size, 67, none⟩ = some (.slice sa sm sc) := by have := rT.rSt; rw [← HT.out] at this; exact this
    have l67 : wr.cell? ⟨w.heap.size + 1, 67, none⟩ = some (.slice sb sm sd) := by have := rU.rSt; rw [← HU.out] at this; exact this
    by_cases hlt : j < sm
    · have hjk : j < st.length := by have := hs1.out; omega
      cases sa with
      | none => exact absurd (s1.bare rfl).1 (by omega)
      | some p =>
        cases sb with
        | none => exact absurd (s2.bare rfl).1 (by omega)
        | some q =>
          have d1 := (s1.below bW s1.lt).wordAt j hjk
          have d2 := (s2.below bW s2.lt).wordAt j hjk
          generalize st[j].toNat = x at *
          go_wp2
          go_quiet (fail)
          go_wp2
          go_roundw
          case rel => exact ⟨j + 1, by omega, by go_num, below_drewN hbl _⟩
          case measure => simp [intOf]; omega
    · have i1 : wr.rangeAt w.heap.size 9 (icells id) := by have := rT.rId2; rw [← HT.out] at this; exact this
      have i2 : wr.rangeAt (w.heap.size + 1) 9 (icells id) := by have := rU.rId2; rw [← HU.out] at this; exact this
      have a1 : LA wr w.heap.size 17 ad := by have := rT.rAd; rw [← HT.out] at this; exact this
      have a2 : LA wr (w.heap.size + 1) 17 ad := by have := rU.rAd; rw [← HU.out] at this; exact this
      have p1 : LQ wr w.heap.size 33 pr := by have := rT.rPr; rw [← HT.out] at this; exact this
      have p2 : LQ wr (w.heap.size + 1) 33 pr := by have := rU.rPr; rw [← HU.out] at this; exact this
      have m0 : wr.cell? ⟨w.heap.size, 0, none⟩ = some (.int .u8 (ty : Int)) := by have := rT.cell 0; rw [← HT.out] at this; exact this
      have n0 : wr.cell? ⟨w.heap.size + 1, 0, none⟩ = some (.int .u8 (ty : Int)) := by have := rU.cell 0; rw [← HU.out] at this; exact this
      have m1 : wr.cell? ⟨w.heap.size, 1, none⟩ = some (.int .u16 (no : Int)) := by have := rT.cell 1; rw [← HT.out] at this; exact this
      have n1 : wr.cell? ⟨w.heap.size + 1, 1, none⟩ = some (.int .u16 (no : Int)) := by have := rU.cell 1; rw [← HU.out] at this; exact this
      have m2 : wr.cell? ⟨w.heap.size, 2, none⟩ = some (.int .u16 (iv : Int)) := by have := rT.cell 2; rw [← HT.out] at this; exact this
      have n2 : wr.cell? ⟨w.heap.size + 1, 2, none⟩ = some (.int .u16 (iv : Int)) := by have := rU.cell 2; rw [← HU.out] at this; exact this
      have m3 : wr.cell? ⟨w.heap.size, 3, none⟩ = some (.int .u16 (sq : Int)) := by have := rT.cell 3; rw [← HT.out] at this; exact this
      have n3 : wr.cell? ⟨w.heap.size + 1, 3, none⟩ = some (.int .u16 (sq : Int)) := by have := rU.cell 3; rw [← HU.out] at this; exact this
      have m4 : wr.cell? ⟨w.heap.size, 4, none⟩ = some (.int .u16 (rx : Int)) := by have := rT.cell 4; rw [← HT.out] at this; exact this
      have n4 : wr.cell? ⟨w.heap.size + 1, 4, none⟩ = some (.int .u16 (rx : Int)) := by have := rU.cell 4; rw [← HU.out] at this; exact this
      have m5 : wr.cell? ⟨w.heap.size, 5, none⟩ = some (.int .u16 (me : Int)) := by have := rT.cell 5; rw [← HT.out] at this; exact this
      have n5 : wr.cell? ⟨w.heap.size + 1, 5, none⟩ = some (.int .u16 (me : Int)) := by have := rU.cell 5; rw [← HU.out] at this; exact this
      have m6 : wr.cell? ⟨w.heap.size, 6, none⟩ = some (.int .u8 (ho : Int)) := by have := rT.cell 6; rw [← HT.out] at this; exact this
      have n6 : wr.cell? ⟨w.heap.size + 1, 6, none⟩ = some (.int .u8 (ho : Int)) := by have := rU.cell 6; rw [← HU.out] at this; exact this
      have m7 : wr.cell? ⟨w.heap.size, 7, none⟩ = some (.bool un) := by have := rT.cell 7; rw [← HT.out] at this; exact this
      have n7 : wr.cell? ⟨w.heap.size + 1, 7, none⟩ = some (.bool un) := by have := rU.cell 7; rw [← HU.out] at this; exact this
      have m8 : wr.cell? ⟨w.heap.size, 8, none⟩ = some (.bool al) := by have := rT.cell 8; rw [← HT.out] at this; exact this
      have n8 : wr.cell? ⟨w.heap.size + 1, 8, none⟩ = some (.bool al) := by have := rU.cell 8; rw [← HU.out] at this; exact this
      clear rT rU RT RU s1 s2
      go_wp2_with (first
        | (refine ldQ (.tmp 109) (by rfl) rfl _ _ pr rfl p2 ?_)
        | (refine ldQ (.tmp 107) (by rfl) rfl _ _ pr rfl p1 ?_)
        | (refine ldA (.tmp 102) (by rfl) rfl _ _ ad rfl a2 ?_)
        | (refine ldA (.tmp 100) (by rfl) rfl _ _ ad rfl a1 ?_)
        | (refine ldI (.tmp 95) (by rfl) rfl _ _ id rfl i2 ?_)
        | (refine ldI (.tmp 93) (by rfl) rfl _ _ id rfl i1 ?_))
      go_ret
      exact ⟨rfl, bW⟩
end Go.Proofs.Ytaleclmccmeglaa
