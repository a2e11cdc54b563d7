/-
  The function live of the statements of layer 6 returns true, whatever the memory, and turns nothing that was there.
-/
import Derived.Test.YtognnfknbkedgaaM23
import Derived.Test.YtognnfknbkedgaaM26
import Derived.Test.YtognnfknbkedgaaM22
namespace Go.Proofs.Ytognnfknbkedgaa
open Go.RowKit
set_option linter.unusedSimpArgs false
set_option maxRecDepth 20000

theorem lwBd (w : World) : (Instr.build 24 #[(0, .int .u8 97), (1, .int .u8 98), (2, .int .u8 99), (3, .int .u8 100), (4, .int .u8 101), (5, .int .u8 102), (6, .int .u8 103), (7, .int .u8 104)]).run Try.prog w = .ok (.agg (icells lwI).toArray) w := by kernel_rfl
theorem lw_at {W : World} {g : Nat} {u : Tl} (h : W.rangeAt g 68 (tcells u)) (hu : Lw u) : LP W g 101 lwP ∧ W.rangeAt g 77 (icells lwI) ∧ W.cell? ⟨g, 73, none⟩ = some (.int .u16 32) ∧ W.cell? ⟨g, 100, none⟩ = some (.int .u8 9) := by
  have h1 := rangeAt_right h (k := 9) rfl
  have h2 := rangeAt_right h1 (k := 8) (icells_len _)
  have h3 := rangeAt_right h2 (k := 16) (acells_len _)
  have hi := rangeAt_left h1
  have ha := rangeAt_left h2
  have hq := rangeAt_left (rangeAt_left h3)
  rw [hu.id] at hi
  rw [hu.ad] at ha
  rw [hu.pr] at hq
  exact ⟨hq, hi, (h 5 (.int .u16 (u.met : Int)) rfl).trans (by rw [hu.met]; rfl), ha 15 (.int .u8 9) rfl⟩
theorem live_any (w : World) : Calls Try.prog 8 #[] w fun e w' => e = .returned (.bool true) ∧ Below w.heap.size w w' := by
  go_enter Try.func8, Try.ntmps8
  go_wp2
  refine name_world (R := fun W => Code.wp _ _ _ _ W) (P := fun W => Below w.heap.size w W ∧ Row W w.heap.size 26 (acells lwS)) _ ⟨ba _ _, Row.new _ _ _⟩ ?_
  rintro X ⟨hB, hR⟩
  have rD := hR.below (bd X) hR.lt
  have bX := bt hB (bd X)
  refine wp_region_noPanic ?_
  refine wp_region_held_drew (S := fun W => Row W w.heap.size 26 (acells lwS)) (by kernel_rfl) (rD) (fun hHeld => ?_)
  refine tL 0 rfl (yA lwS (fun W hW => hW.range) (by rfl) rfl rfl) ?_
  refine r1 1 fun K hK => ?_
  go_simp
  refine (wrap_any lw1 (by decide) _).mono ?_
  rintro e w1 ⟨a1, c1, rfl, s1, b1⟩
  have rq1 := rD.below b1 rD.lt
  refine oK hK (by exact rq1) fun hHeld => ?_
  clear hK K
  refine r1 2 fun K hK => ?_
  go_simp
  refine (live_parse1 _ a1 c1 s1).mono ?_
  rintro e w2 ⟨g2, c2, t, rfl, ht1, ht2, l2, m2, b2⟩
  have r2 := rq1.below b2 rq1.lt
  have B2 := bt (bt bX b1) b2
  refine oK hK (by exact r2) fun hHeld => ?_
  clear hK K
  refine tA 3 ?_
  refine tA 4 ?_
  refine tA 5 ?_
  refine tA 6 ?_
  refine tA 7 ?_
  refine dN ?_
  refine NoPanic.normal ?_
  go_wp2
  have rE := r2.below (bd w2) r2.lt
  have mE := range_below m2 l2 (bd w2)
  have B3 := bt B2 (bd w2)
  have lE : g2 < w2.drew.heap.size := l2
  clear hHeld m2 l2
  refine wp_region_noPanic ?_
  refine wp_region_held_drew (S := fun W => Row W w.heap.size 26 (acells lwS)) (by kernel_rfl) (rE) (fun hHeld => ?_)
  refine tL 0 rfl (yA lwS (fun W hW => hW.range) (by rfl) rfl rfl) ?_
  refine r1 1 fun K hK => ?_
  go_simp
  refine (wrap_any lw2 (by decide) _).mono ?_
  rintro e w3 ⟨a3, c3, rfl, s3, b3⟩
  have r3 := rE.below b3 rE.lt
  have m3 := range_below mE lE b3
  have l3 := Nat.lt_of_lt_of_le lE b3.size
  refine oK hK (by exact r3) fun hHeld => ?_
  clear hK K
  refine r1 2 fun K hK => ?_
  go_simp
  refine (live_parse2 _ a3 c3 s3).mono ?_
  rintro e w4 ⟨g4, c4, u, rfl, hu, l4, m4, s4, b4⟩
  have r4 := r3.below b4 r3.lt
  have B4 := bt (bt B3 b3) b4
  have n4 := range_below m3 l3 b4
  have e3 : w4.cell? ⟨g2, 3, none⟩ = some (.int .u16 5) := (n4 3 (.int .u16 (t.seq : Int)) rfl).trans (by rw [ht1]; rfl)
  have e2 : w4.cell? ⟨g2, 2, none⟩ = some (.int .u16 100) := (n4 2 (.int .u16 (t.intv : Int)) rfl).trans (by rw [ht2]; rfl)
  refine oK hK (by exact r4) fun hHeld => ?_
  clear hK K
  refine tA 3 ?_
  refine tA 4 ?_
  refine tA 5 ?_
  refine tA 6 ?_
  refine tA 7 ?_
  refine dN ?_
  refine NoPanic.normal ?_
  clear r4 n4 r3 m3 l3 b3 b4 s3 rE mE lE B3 hHeld
  go_wp2_with (first
    | (go_at_call 9; refine (num6 _ _).mono ?_; rintro e wn ⟨rfl, rfl⟩))
  refine name_world (R := fun W => Code.wp _ _ _ _ W) (P := fun W => Below w4.heap.size w4 W ∧ Row W w4.heap.size 28 (pcells lwP)) _ ⟨ba _ _, Row.new _ _ _⟩ ?_
  rintro Y ⟨hY, hP⟩
  have eP : ∀ w, (Op.equalIn (9997 + 3) 28 (Value.agg (pcells lwP).toArray) (Value.agg (pcells lwP).toArray)).run Try.prog w = .ok true w := fun w => by rw [eqP 9997 lwP lwP w]; simp
  have eI : ∀ w, (Op.equalIn (9998 + 2) 24 (.agg (icells lwI).toArray) (.agg (icells lwI).toArray)).run Try.prog w = .ok true w := fun w => by rw [eqI 9998 lwI lwI w]; simp
  have rP := hP.below (bd Y) hP.lt
  have yY := bt hY (bd Y)
  have mY := range_below m4 l4 yY
  have sY := Src.below s4 yY (Src.lt s4)
  have BY := bt B4 yY
  have lY := Nat.lt_of_lt_of_le l4 yY.size
  clear hHeld e3 e2 m4 s4 hP
  refine wp_region_noPanic ?_
  refine wp_region_held_drew (S := fun W => LP W w4.heap.size 0 lwP ∧ W.rangeAt g4 68 (tcells u)) (by kernel_rfl) (⟨rP.range, mY⟩) (fun hHeld => ?_)
  refine tA 0 ?_
  refine tA 1 ?_
  refine tA 2 ?_
  refine tA 3 ?_
  refine tL 4 rfl (yP lwP (fun W hW => (lw_at hW.2 hu).1) (by rfl) rfl rfl) ?_
  refine tL 5 rfl (yP lwP (fun W hW => hW.1) (by rfl) rfl rfl) ?_
  refine tA 6 ?_
  refine tA 7 ?_
  refine tA 8 ?_
  refine tA 9 ?_
  refine tA 10 ?_
  refine tA 11 ?_ (hv := by intro w hSw; (try dsimp only at hSw); have hm := (lw_at hSw.2 hu).2.2.1; go_simp <;> with_reducible rfl)
  refine tA 12 ?_
  refine tA 13 ?_
  refine tA 14 ?_
  refine tA 15 ?_
  refine tA 16 ?_
  refine tA 17 ?_
  refine tL 18 rfl (yI lwI (fun W hW => (lw_at hW.2 hu).2.1) (by rfl) rfl rfl) ?_
  refine tL 19 rfl (yB [(0, .const (.int .u8 97)), (1, .const (.int .u8 98)), (2, .const (.int .u8 99)), (3, .const (.int .u8 100)), (4, .const (.int .u8 101)), (5, .const (.int .u8 102)), (6, .const (.int .u8 103)), (7, .const (.int .u8 104))] (by rfl) rfl lwBd) ?_
  refine tA 20 ?_
  refine tA 21 ?_
  refine tA 22 ?_
  refine tA 23 ?_
  refine tA 24 ?_
  refine tA 25 ?_
  refine tA 26 ?_
  refine tA 27 ?_ (hv := by intro w hSw; (try dsimp only at hSw); have hm := (lw_at hSw.2 hu).2.2.2; go_simp <;> with_reducible rfl)
  refine tA 28 ?_
  refine tA 29 ?_
  refine tA 30 ?_
  refine tA 31 ?_
  refine tA 32 ?_
  refine tL 33 rfl (yTm u (fun W hW => hW.2) (by rfl) rfl rfl) ?_
  refine r1 34 fun K hK => ?_
  go_simp
  refine (live_check u hu _ sY).mono ?_
  rintro e w5 ⟨rfl, b5⟩
  refine oK hK (by exact ⟨(rP.below b5 rP.lt).range, range_below mY lY b5⟩) fun hHeld => ?_
  clear hK K
  refine r1 35 fun K hK => ?_
  go_simp
  refine (num6 _ _).mono ?_
  rintro e wn ⟨rfl, rfl⟩
  refine oK hK (by exact ⟨(rP.below b5 rP.lt).range, range_below mY lY b5⟩) fun hHeld => ?_
  clear hK K
  refine tA 36 ?_
  refine tA 37 ?_
  refine tA 38 ?_
  refine dN ?_
  refine NoPanic.normal ?_
  go_wp2
  go_ret
  exact ⟨rfl, bt BY b5⟩
end Go.Proofs.Ytognnfknbkedgaa

namespace Go.Proofs.Ytognnfknbkedgaa
open Go.RowKit
set_option linter.unusedSimpArgs false
set_option maxRecDepth 20000

/-- What Parse answers of a body. -/
structure ToldP (w : World) (a : Option Addr) (n c : Nat) (ts : List Tl) (src : Ad) (b : List UInt8) : Prop where
  key : ts.map Tl.key = tellL (bgS src) (splL b).1
  tlw : TlW w a n ts
  shape : (a = none ∧ n = 0 ∧ c = 0) ∨ ∃ g, a = some ⟨g, 0, none⟩ ∧ n ≤ c ∧ c ≤ maxLen
  le : n ≤ 100000
  st : ∀ t ∈ ts, t.st.length ≤ 100000
theorem ToldP.below {w w' : World} {a : Option Addr} {n c : Nat} {ts : List Tl} {src : Ad} {b : List UInt8} (h : ToldP w a n c ts src b) (hb : Below w.heap.size w w') : ToldP w' a n c ts src b := ⟨h.key, h.tlw.below hb, h.shape, h.le, h.st⟩
end Go.Proofs.Ytognnfknbkedgaa

namespace Go.Proofs.Ytognnfknbkedgaa
open Go.RowKit
set_option linter.unusedSimpArgs false
set_option maxRecDepth 20000

theorem zeroQ_ok : chkQ zeroQ = 0 := by decide
end Go.Proofs.Ytognnfknbkedgaa

namespace Go.Proofs.Ytognnfknbkedgaa
open Go.RowKit
set_option linter.unusedSimpArgs false
set_option linter.unusedVariables false
set_option maxRecDepth 20000
theorem idl (i j : Id8) : (i.l = j.l) = (i = j) := propext ⟨Id8.ext, fun h => by rw [h]⟩
theorem adl (i j : Ad) : (i.l = j.l) = (i = j) := propext ⟨Ad.ext, fun h => by rw [h]⟩
theorem prq_true (p q : Pr) : (prqB p q = true) = (p = q) := propext (prB_iff p q)
theorem nil_len (st : List UInt32) : (st.length = 0) = (st = []) := by simp
theorem idr (i j : Id8) : (i = j) = (i.l = j.l) := (idl i j).symm
theorem adr (i j : Ad) : (i = j) = (i.l = j.l) := (adl i j).symm
theorem pqr (p q : Pr) : (p = q) = (prqB p q = true) := (prq_true p q).symm
theorem three (i : Id8) : (i.l = zeroI.l ∧ ¬ i.l = fullI.l) ∨ (¬ i.l = zeroI.l ∧ i.l = fullI.l) ∨ (¬ i.l = zeroI.l ∧ ¬ i.l = fullI.l) := by
  by_cases h1 : i.l = zeroI.l
  · exact .inl ⟨h1, by rw [h1]; decide⟩
  · by_cases h2 : i.l = fullI.l
    · exact .inr (.inl ⟨h1, h2⟩)
    · exact .inr (.inr ⟨h1, h2⟩)
theorem le1 (st : List UInt32) : (st.length ≤ 1) = (st = [] ∨ st.length = 1) := by
  rw [← nil_len]
  exact propext ⟨fun h => by omega, fun h => by omega⟩
/-- What the document's Check answers. -/
def rK (t : Tl) : Int := if (namB t.ty && stOk t.key) = true then rV t.key (sameB t.key (bareT t).key) (decide (t.id.l = zeroI.l)) (decide (t.id.l = fullI.l)) (chkQ t.pr) else 2
set_option maxHeartbeats 4000000 in
theorem rK_2 (no iv sq rx me ho : Nat) (un al : Bool) (id : Id8) (ad : Ad) (pr : Pr) (sa : Option Addr) (sn sc : Nat) (st : List UInt32) :
    rK (⟨2, no, iv, sq, rx, me, ho, un, al, id, ad, pr, sa, sn, sc, st⟩ : Tl) = chkT (⟨2, no, iv, sq, rx, me, ho, un, al, id, ad, pr, st⟩ : TK) := by
  have z : prqB pr zeroQ = true → chkQ pr = 0 := fun h => by rw [(prB_iff _ _).1 h]; exact zeroQ_ok
  have hA := sameB_iff (⟨2, no, iv, sq, rx, me, ho, un, al, id, ad, pr, sa, sn, sc, st⟩ : Tl).key (bareT (⟨2, no, iv, sq, rx, me, ho, un, al, id, ad, pr, sa, sn, sc, st⟩ : Tl)).key
  have hB := sameB_iff (unK (⟨2, no, iv, sq, rx, me, ho, un, al, id, ad, pr, st⟩ : TK)) { zeroK with ty := 2 }
  show (if (namB 2 && stOk (⟨2, no, iv, sq, rx, me, ho, un, al, id, ad, pr, st⟩ : TK)) = true then rV (⟨2, no, iv, sq, rx, me, ho, un, al, id, ad, pr, st⟩ : TK) (sameB (⟨2, no, iv, sq, rx, me, ho, un, al, id, ad, pr, sa, sn, sc, st⟩ : Tl).key (bareT (⟨2, no, iv, sq, rx, me, ho, un, al, id, ad, pr, sa, sn, sc, st⟩ : Tl)).key) (decide (id.l = zeroI.l)) (decide (id.l = fullI.l)) (chkQ pr) else 2) = (if (namB 2 && (sameB (unK (⟨2, no, iv, sq, rx, me, ho, un, al, id, ad, pr, st⟩ : TK)) { zeroK with ty := 2 } && fitB (⟨2, no, iv, sq, rx, me, ho, un, al, id, ad, pr, st⟩ : TK))) = true then chkQ pr else 2)
  generalize sameB (⟨2, no, iv, sq, rx, me, ho, un, al, id, ad, pr, sa, sn, sc, st⟩ : Tl).key (bareT (⟨2, no, iv, sq, rx, me, ho, un, al, id, ad, pr, sa, sn, sc, st⟩ : Tl)).key = b1 at hA ⊢
  generalize sameB (unK (⟨2, no, iv, sq, rx, me, ho, un, al, id, ad, pr, st⟩ : TK)) { zeroK with ty := 2 } = b2 at hB ⊢
  simp [bareT, Tl.key, begT, zeroT, idr, adr, pqr] at hA; simp [unK, zeroK, Tl.key, zeroT, idr, adr, pqr] at hB; (try simp [namB, stOk, rV, fitB, fitU, nobB, nil_len, le1]) <;> cases b1 <;> cases b2 <;> simp_all
set_option maxHeartbeats 4000000 in
theorem rK_3 (no iv sq rx me ho : Nat) (un al : Bool) (id : Id8) (ad : Ad) (pr : Pr) (sa : Option Addr) (sn sc : Nat) (st : List UInt32) :
    rK (⟨3, no, iv, sq, rx, me, ho, un, al, id, ad, pr, sa, sn, sc, st⟩ : Tl) = chkT (⟨3, no, iv, sq, rx, me, ho, un, al, id, ad, pr, st⟩ : TK) := by
  have z : prqB pr zeroQ = true → chkQ pr = 0 := fun h => by rw [(prB_iff _ _).1 h]; exact zeroQ_ok
  have hA := sameB_iff (⟨3, no, iv, sq, rx, me, ho, un, al, id, ad, pr, sa, sn, sc, st⟩ : Tl).key (bareT (⟨3, no, iv, sq, rx, me, ho, un, al, id, ad, pr, sa, sn, sc, st⟩ : Tl)).key
  have hB := sameB_iff (unK (⟨3, no, iv, sq, rx, me, ho, un, al, id, ad, pr, st⟩ : TK)) { zeroK with ty := 3 }
  show (if (namB 3 && stOk (⟨3, no, iv, sq, rx, me, ho, un, al, id, ad, pr, st⟩ : TK)) = true then rV (⟨3, no, iv, sq, rx, me, ho, un, al, id, ad, pr, st⟩ : TK) (sameB (⟨3, no, iv, sq, rx, me, ho, un, al, id, ad, pr, sa, sn, sc, st⟩ : Tl).key (bareT (⟨3, no, iv, sq, rx, me, ho, un, al, id, ad, pr, sa, sn, sc, st⟩ : Tl)).key) (decide (id.l = zeroI.l)) (decide (id.l = fullI.l)) (chkQ pr) else 2) = (if (namB 3 && (sameB (unK (⟨3, no, iv, sq, rx, me, ho, un, al, id, ad, pr, st⟩ : TK)) { zeroK with ty := 3 } && fitB (⟨3, no, iv, sq, rx, me, ho, un, al, id, ad, pr, st⟩ : TK))) = true then chkQ pr else 2)
  generalize sameB (⟨3, no, iv, sq, rx, me, ho, un, al, id, ad, pr, sa, sn, sc, st⟩ : Tl).key (bareT (⟨3, no, iv, sq, rx, me, ho, un, al, id, ad, pr, sa, sn, sc, st⟩ : Tl)).key = b1 at hA ⊢
  generalize sameB (unK (⟨3, no, iv, sq, rx, me, ho, un, al, id, ad, pr, st⟩ : TK)) { zeroK with ty := 3 } = b2 at hB ⊢
  simp [bareT, Tl.key, begT, zeroT, idr, adr, pqr] at hA; simp [unK, zeroK, Tl.key, zeroT, idr, adr, pqr] at hB; (try simp [namB, stOk, rV, fitB, fitU, nobB, nil_len, le1]) <;> cases b1 <;> cases b2 <;> simp_all
set_option maxHeartbeats 4000000 in
theorem rK_4 (no iv sq rx me ho : Nat) (un al : Bool) (id : Id8) (ad : Ad) (pr : Pr) (sa : Option Addr) (sn sc : Nat) (st : List UInt32) :
    rK (⟨4, no, iv, sq, rx, me, ho, un, al, id, ad, pr, sa, sn, sc, st⟩ : Tl) = chkT (⟨4, no, iv, sq, rx, me, ho, un, al, id, ad, pr, st⟩ : TK) := by
  have z : prqB pr zeroQ = true → chkQ pr = 0 := fun h => by rw [(prB_iff _ _).1 h]; exact zeroQ_ok
  have hA := sameB_iff (⟨4, no, iv, sq, rx, me, ho, un, al, id, ad, pr, sa, sn, sc, st⟩ : Tl).key (bareT (⟨4, no, iv, sq, rx, me, ho, un, al, id, ad, pr, sa, sn, sc, st⟩ : Tl)).key
  have hB := sameB_iff (unK (⟨4, no, iv, sq, rx, me, ho, un, al, id, ad, pr, st⟩ : TK)) { zeroK with ty := 4 }
  show (if (namB 4 && stOk (⟨4, no, iv, sq, rx, me, ho, un, al, id, ad, pr, st⟩ : TK)) = true then rV (⟨4, no, iv, sq, rx, me, ho, un, al, id, ad, pr, st⟩ : TK) (sameB (⟨4, no, iv, sq, rx, me, ho, un, al, id, ad, pr, sa, sn, sc, st⟩ : Tl).key (bareT (⟨4, no, iv, sq, rx, me, ho, un, al, id, ad, pr, sa, sn, sc, st⟩ : Tl)).key) (decide (id.l = zeroI.l)) (decide (id.l = fullI.l)) (chkQ pr) else 2) = (if (namB 4 && (sameB (unK (⟨4, no, iv, sq, rx, me, ho, un, al, id, ad, pr, st⟩ : TK)) { zeroK with ty := 4 } && fitB (⟨4, no, iv, sq, rx, me, ho, un, al, id, ad, pr, st⟩ : TK))) = true then chkQ pr else 2)
  generalize sameB (⟨4, no, iv, sq, rx, me, ho, un, al, id, ad, pr, sa, sn, sc, st⟩ : Tl).key (bareT (⟨4, no, iv, sq, rx, me, ho, un, al, id, ad, pr, sa, sn, sc, st⟩ : Tl)).key = b1 at hA ⊢
  generalize sameB (unK (⟨4, no, iv, sq, rx, me, ho, un, al, id, ad, pr, st⟩ : TK)) { zeroK with ty := 4 } = b2 at hB ⊢
  simp [bareT, Tl.key, begT, zeroT, idr, adr, pqr] at hA; simp [unK, zeroK, Tl.key, zeroT, idr, adr, pqr] at hB; (try simp [namB, stOk, rV, fitB, fitU, nobB, nil_len, le1]) <;> cases b1 <;> cases b2 <;> simp_all
set_option maxHeartbeats 4000000 in
theorem rK_5 (no iv sq rx me ho : Nat) (un al : Bool) (id : Id8) (ad : Ad) (pr : Pr) (sa : Option Addr) (sn sc : Nat) (st : List UInt32) :
    rK (⟨5, no, iv, sq, rx, me, ho, un, al, id, ad, pr, sa, sn, sc, st⟩ : Tl) = chkT (⟨5, no, iv, sq, rx, me, ho, un, al, id, ad, pr, st⟩ : TK) := by
  have z : prqB pr zeroQ = true → chkQ pr = 0 := fun h => by rw [(prB_iff _ _).1 h]; exact zeroQ_ok
  have hA := sameB_iff (⟨5, no, iv, sq, rx, me, ho, un, al, id, ad, pr, sa, sn, sc, st⟩ : Tl).key (bareT (⟨5, no, iv, sq, rx, me, ho, un, al, id, ad, pr, sa, sn, sc, st⟩ : Tl)).key
  have hB := sameB_iff (unK (⟨5, no, iv, sq, rx, me, ho, un, al, id, ad, pr, st⟩ : TK)) { zeroK with ty := 5 }
  show (if (namB 5 && stOk (⟨5, no, iv, sq, rx, me, ho, un, al, id, ad, pr, st⟩ : TK)) = true then rV (⟨5, no, iv, sq, rx, me, ho, un, al, id, ad, pr, st⟩ : TK) (sameB (⟨5, no, iv, sq, rx, me, ho, un, al, id, ad, pr, sa, sn, sc, st⟩ : Tl).key (bareT (⟨5, no, iv, sq, rx, me, ho, un, al, id, ad, pr, sa, sn, sc, st⟩ : Tl)).key) (decide (id.l = zeroI.l)) (decide (id.l = fullI.l)) (chkQ pr) else 2) = (if (namB 5 && (sameB (unK (⟨5, no, iv, sq, rx, me, ho, un, al, id, ad, pr, st⟩ : TK)) { zeroK with ty := 5 } && fitB (⟨5, no, iv, sq, rx, me, ho, un, al, id, ad, pr, st⟩ : TK))) = true then chkQ pr else 2)
  generalize sameB (⟨5, no, iv, sq, rx, me, ho, un, al, id, ad, pr, sa, sn, sc, st⟩ : Tl).key (bareT (⟨5, no, iv, sq, rx, me, ho, un, al, id, ad, pr, sa, sn, sc, st⟩ : Tl)).key = b1 at hA ⊢
  generalize sameB (unK (⟨5, no, iv, sq, rx, me, ho, un, al, id, ad, pr, st⟩ : TK)) { zeroK with ty := 5 } = b2 at hB ⊢
  cases al
  · simp [bareT, Tl.key, begT, zeroT, idr, adr, pqr] at hA; simp [unK, zeroK, Tl.key, zeroT, idr, adr, pqr] at hB; (try simp [namB, stOk, rV, fitB, fitU, nobB, nil_len, le1]) <;> cases b1 <;> cases b2 <;> simp_all
  · simp [bareT, Tl.key, begT, zeroT, idr, adr, pqr] at hA; simp [unK, zeroK, Tl.key, zeroT, idr, adr, pqr] at hB; (try simp [namB, stOk, rV, fitB, fitU, nobB, nil_len, le1]) <;> cases b1 <;> cases b2 <;> simp_all
set_option maxHeartbeats 4000000 in
theorem rK_8 (no iv sq rx me ho : Nat) (un al : Bool) (id : Id8) (ad : Ad) (pr : Pr) (sa : Option Addr) (sn sc : Nat) (st : List UInt32) :
    rK (⟨8, no, iv, sq, rx, me, ho, un, al, id, ad, pr, sa, sn, sc, st⟩ : Tl) = chkT (⟨8, no, iv, sq, rx, me, ho, un, al, id, ad, pr, st⟩ : TK) := by
  have z : prqB pr zeroQ = true → chkQ pr = 0 := fun h => by rw [(prB_iff _ _).1 h]; exact zeroQ_ok
  have hA := sameB_iff (⟨8, no, iv, sq, rx, me, ho, un, al, id, ad, pr, sa, sn, sc, st⟩ : Tl).key (bareT (⟨8, no, iv, sq, rx, me, ho, un, al, id, ad, pr, sa, sn, sc, st⟩ : Tl)).key
  have hB := sameB_iff (unK (⟨8, no, iv, sq, rx, me, ho, un, al, id, ad, pr, st⟩ : TK)) { zeroK with ty := 8 }
  show (if (namB 8 && stOk (⟨8, no, iv, sq, rx, me, ho, un, al, id, ad, pr, st⟩ : TK)) = true then rV (⟨8, no, iv, sq, rx, me, ho, un, al, id, ad, pr, st⟩ : TK) (sameB (⟨8, no, iv, sq, rx, me, ho, un, al, id, ad, pr, sa, sn, sc, st⟩ : Tl).key (bareT (⟨8, no, iv, sq, rx, me, ho, un, al, id, ad, pr, sa, sn, sc, st⟩ : Tl)).key) (decide (id.l = zeroI.l)) (decide (id.l = fullI.l)) (chkQ pr) else 2) = (if (namB 8 && (sameB (unK (⟨8, no, iv, sq, rx, me, ho, un, al, id, ad, pr, st⟩ : TK)) { zeroK with ty := 8 } && fitB (⟨8, no, iv, sq, rx, me, ho, un, al, id, ad, pr, st⟩ : TK))) = true then chkQ pr else 2)
  generalize sameB (⟨8, no, iv, sq, rx, me, ho, un, al, id, ad, pr, sa, sn, sc, st⟩ : Tl).key (bareT (⟨8, no, iv, sq, rx, me, ho, un, al, id, ad, pr, sa, sn, sc, st⟩ : Tl)).key = b1 at hA ⊢
  generalize sameB (unK (⟨8, no, iv, sq, rx, me, ho, un, al, id, ad, pr, st⟩ : TK)) { zeroK with ty := 8 } = b2 at hB ⊢
  by_cases hm : me = 65535
  · subst hm
    cases al
    · simp [bareT, Tl.key, begT, zeroT, idr, adr, pqr] at hA; simp [unK, zeroK, Tl.key, zeroT, idr, adr, pqr] at hB; (try simp [namB, stOk, rV, fitB, fitU, nobB, nil_len, le1]) <;> cases b1 <;> cases b2 <;> rcases three id with ⟨h1, h2⟩ | ⟨h1, h2⟩ | ⟨h1, h2⟩ <;> by_cases h3 : ad.l = zeroA.l <;> by_cases h4 : prqB pr zeroQ = true <;> by_cases h5 : ho = 0 <;> simp_all
    · simp [bareT, Tl.key, begT, zeroT, idr, adr, pqr] at hA; simp [unK, zeroK, Tl.key, zeroT, idr, adr, pqr] at hB; (try simp [namB, stOk, rV, fitB, fitU, nobB, nil_len, le1])
      by_cases hs : st = []
      · rw [if_pos hs]
        by_cases hb : b1 = true
        · have h := hA.1 hb
          rw [if_neg (by simp [hb]), if_pos ⟨hB.2 ⟨h.1, h.2.1, h.2.2.1, h.2.2.2.1, hs⟩, h.2.2.2.2.2.2, h.2.2.2.2.1, h.2.2.2.2.2.1⟩, z h.2.2.2.2.2.2]
        · rw [if_pos (by simpa using hb), if_neg (fun h => hb (hA.2 (by have k := hB.1 h.1; exact ⟨k.1, k.2.1, k.2.2.1, k.2.2.2.1, h.2.2.1, h.2.2.2, h.2.1⟩)))]
      · rw [if_neg hs, if_neg (fun h => hs (hB.1 h.1).2.2.2.2)]
  · cases al
    · simp [bareT, Tl.key, begT, zeroT, idr, adr, pqr, hm] at hA; simp [unK, zeroK, Tl.key, zeroT, idr, adr, pqr] at hB; (try simp [namB, stOk, rV, fitB, fitU, nobB, nil_len, le1, hm]) <;> cases b1 <;> cases b2 <;> rcases three id with ⟨h1, h2⟩ | ⟨h1, h2⟩ | ⟨h1, h2⟩ <;> by_cases h3 : ad.l = zeroA.l <;> by_cases h4 : prqB pr zeroQ = true <;> by_cases h5 : ho = 0 <;> simp_all
    · simp [bareT, Tl.key, begT, zeroT, idr, adr, pqr, hm] at hA; simp [unK, zeroK, Tl.key, zeroT, idr, adr, pqr] at hB; (try simp [namB, stOk, rV, fitB, fitU, nobB, nil_len, le1, hm]) <;> cases b1 <;> cases b2 <;> rcases three id with ⟨h1, h2⟩ | ⟨h1, h2⟩ | ⟨h1, h2⟩ <;> by_cases h3 : ad.l = zeroA.l <;> by_cases h4 : prqB pr zeroQ = true <;> by_cases h5 : ho = 0 <;> simp_all
set_option maxHeartbeats 4000000 in
theorem rK_9 (no iv sq rx me ho : Nat) (un al : Bool) (id : Id8) (ad : Ad) (pr : Pr) (sa : Option Addr) (sn sc : Nat) (st : List UInt32) :
    rK (⟨9, no, iv, sq, rx, me, ho, un, al, id, ad, pr, sa, sn, sc, st⟩ : Tl) = chkT (⟨9, no, iv, sq, rx, me, ho, un, al, id, ad, pr, st⟩ : TK) := by
  have z : prqB pr zeroQ = true → chkQ pr = 0 := fun h => by rw [(prB_iff _ _).1 h]; exact zeroQ_ok
  have hA := sameB_iff (⟨9, no, iv, sq, rx, me, ho, un, al, id, ad, pr, sa, sn, sc, st⟩ : Tl).key (bareT (⟨9, no, iv, sq, rx, me, ho, un, al, id, ad, pr, sa, sn, sc, st⟩ : Tl)).key
  have hB := sameB_iff (unK (⟨9, no, iv, sq, rx, me, ho, un, al, id, ad, pr, st⟩ : TK)) { zeroK with ty := 9 }
  show (if (namB 9 && stOk (⟨9, no, iv, sq, rx, me, ho, un, al, id, ad, pr, st⟩ : TK)) = true then rV (⟨9, no, iv, sq, rx, me, ho, un, al, id, ad, pr, st⟩ : TK) (sameB (⟨9, no, iv, sq, rx, me, ho, un, al, id, ad, pr, sa, sn, sc, st⟩ : Tl).key (bareT (⟨9, no, iv, sq, rx, me, ho, un, al, id, ad, pr, sa, sn, sc, st⟩ : Tl)).key) (decide (id.l = zeroI.l)) (decide (id.l = fullI.l)) (chkQ pr) else 2) = (if (namB 9 && (sameB (unK (⟨9, no, iv, sq, rx, me, ho, un, al, id, ad, pr, st⟩ : TK)) { zeroK with ty := 9 } && fitB (⟨9, no, iv, sq, rx, me, ho, un, al, id, ad, pr, st⟩ : TK))) = true then chkQ pr else 2)
  generalize sameB (⟨9, no, iv, sq, rx, me, ho, un, al, id, ad, pr, sa, sn, sc, st⟩ : Tl).key (bareT (⟨9, no, iv, sq, rx, me, ho, un, al, id, ad, pr, sa, sn, sc, st⟩ : Tl)).key = b1 at hA ⊢
  generalize sameB (unK (⟨9, no, iv, sq, rx, me, ho, un, al, id, ad, pr, st⟩ : TK)) { zeroK with ty := 9 } = b2 at hB ⊢
  cases al
  · simp [bareT, Tl.key, begT, zeroT, idr, adr, pqr] at hA; simp [unK, zeroK, Tl.key, zeroT, idr, adr, pqr] at hB; (try simp [namB, stOk, rV, fitB, fitU, nobB, nil_len, le1]) <;> cases b1 <;> cases b2 <;> simp_all
  · simp [bareT, Tl.key, begT, zeroT, idr, adr, pqr] at hA; simp [unK, zeroK, Tl.key, zeroT, idr, adr, pqr] at hB; (try simp [namB, stOk, rV, fitB, fitU, nobB, nil_len, le1]) <;> cases b1 <;> cases b2 <;> simp_all
set_option maxHeartbeats 4000000 in
theorem rK_10 (no iv sq rx me ho : Nat) (un al : Bool) (id : Id8) (ad : Ad) (pr : Pr) (sa : Option Addr) (sn sc : Nat) (st : List UInt32) :
    rK (⟨10, no, iv, sq, rx, me, ho, un, al, id, ad, pr, sa, sn, sc, st⟩ : Tl) = chkT (⟨10, no, iv, sq, rx, me, ho, un, al, id, ad, pr, st⟩ : TK) := by
  have z : prqB pr zeroQ = true → chkQ pr = 0 := fun h => by rw [(prB_iff _ _).1 h]; exact zeroQ_ok
  have hA := sameB_iff (⟨10, no, iv, sq, rx, me, ho, un, al, id, ad, pr, sa, sn, sc, st⟩ : Tl).key (bareT (⟨10, no, iv, sq, rx, me, ho, un, al, id, ad, pr, sa, sn, sc, st⟩ : Tl)).key
  have hB := sameB_iff (unK (⟨10, no, iv, sq, rx, me, ho, un, al, id, ad, pr, st⟩ : TK)) { zeroK with ty := 10 }
  show (if (namB 10 && stOk (⟨10, no, iv, sq, rx, me, ho, un, al, id, ad, pr, st⟩ : TK)) = true then rV (⟨10, no, iv, sq, rx, me, ho, un, al, id, ad, pr, st⟩ : TK) (sameB (⟨10, no, iv, sq, rx, me, ho, un, al, id, ad, pr, sa, sn, sc, st⟩ : Tl).key (bareT (⟨10, no, iv, sq, rx, me, ho, un, al, id, ad, pr, sa, sn, sc, st⟩ : Tl)).key) (decide (id.l = zeroI.l)) (decide (id.l = fullI.l)) (chkQ pr) else 2) = (if (namB 10 && (sameB (unK (⟨10, no, iv, sq, rx, me, ho, un, al, id, ad, pr, st⟩ : TK)) { zeroK with ty := 10 } && fitB (⟨10, no, iv, sq, rx, me, ho, un, al, id, ad, pr, st⟩ : TK))) = true then chkQ pr else 2)
  generalize sameB (⟨10, no, iv, sq, rx, me, ho, un, al, id, ad, pr, sa, sn, sc, st⟩ : Tl).key (bareT (⟨10, no, iv, sq, rx, me, ho, un, al, id, ad, pr, sa, sn, sc, st⟩ : Tl)).key = b1 at hA ⊢
  generalize sameB (unK (⟨10, no, iv, sq, rx, me, ho, un, al, id, ad, pr, st⟩ : TK)) { zeroK with ty := 10 } = b2 at hB ⊢
  simp [bareT, Tl.key, begT, zeroT, idr, adr, pqr] at hA; simp [unK, zeroK, Tl.key, zeroT, idr, adr, pqr] at hB; (try simp [namB, stOk, rV, fitB, fitU, nobB, nil_len, le1]) <;> cases b1 <;> cases b2 <;> rcases three id with ⟨h1, h2⟩ | ⟨h1, h2⟩ | ⟨h1, h2⟩ <;> by_cases h3 : ad.l = zeroA.l <;> by_cases h4 : prqB pr zeroQ = true <;> by_cases h5 : ho = 0 <;> simp_all
theorem rK_eq (t : Tl) : rK t = chkT t.key := by
  obtain ⟨ty, no, iv, sq, rx, me, ho, un, al, id, ad, pr, sa, sn, sc, st⟩ := t
  cases hy : namB ty
  · show (if (namB ty && _) = true then _ else (2 : Int)) = (if (namB ty && _) = true then _ else 2)
    rw [hy]
    simp
  · rcases namB_cases hy with h | h | h | h | h | h | h <;> subst h
    · exact rK_2 ..
    · exact rK_3 ..
    · exact rK_4 ..
    · exact rK_5 ..
    · exact rK_8 ..
    · exact rK_9 ..
    · exact rK_10 ..
theorem rcheckD_any (t : Tl) (w : World) (ht : TSrc w t) (hn : t.sn ≤ 100000) :
    Calls Try.prog 11 #[.agg (tcells t).toArray] w fun e w' => e = .returned (.int .i64 (chkT t.key)) ∧ Below w.heap.size w w' := by
  rw [← rK_eq]
  exact rcheck6_any t w ht hn
end Go.Proofs.Ytognnfknbkedgaa

namespace Go.Proofs.Ytognnfknbkedgaa
open Go.RowKit
set_option linter.unusedSimpArgs false
set_option maxRecDepth 20000

theorem checks_long (t u : Tl) (w : World) (k0 : t.sn ≤ 140737488355328) (k1 : u.sn ≤ 140737488355328) (h : 5000 < t.sn + u.sn) :
    Calls Try.prog 3 #[.agg (tcells t).toArray, .agg (tcells u).toArray] w fun e w' => e = .returned (.bool true) ∧ Below w.heap.size w w' := by
  have T67 : (tcells t)[67]? = some (.slice t.sa t.sn t.sc) := tcells_get t
  have U67 : (tcells u)[67]? = some (.slice u.sa u.sn u.sc) := tcells_get u
  have h0' : (5000 : Int) < (t.sn : Int) + (u.sn : Int) := by omega
  have y1 : IntKind.i64.wrap ((t.sn : Int) + (u.sn : Int)) = (t.sn : Int) + (u.sn : Int) := by rw [IntKind.wrap_i64]; omega
  clear h
  generalize t.sa = sa at *
  generalize t.sn = sn at *
  generalize t.sc = sc at *
  generalize u.sa = sb at *
  generalize u.sn = sm at *
  generalize u.sc = sd at *
  go_enter Try.func3, Try.ntmps3
  go_wp2_with (go_at_call 8; refine (live_any _).mono ?_; rintro e w' ⟨rfl, hw⟩)
  go_ret
  exact ⟨rfl, bt (bt (ba _ _) (ba _ _)) hw⟩
set_option maxHeartbeats 4000000 in
theorem checks_walk (t u : Tl) (w : World) (ht : TSrc w t) (hu : TSrc w u) (h : t.sn + u.sn ≤ 5000) :
    Calls Try.prog 3 #[.agg (tcells t).toArray, .agg (tcells u).toArray] w fun e w' => e = .returned (.bool true) ∧ Below w.heap.size w w' := by
  have T67 : (tcells t)[67]? = some (.slice t.sa t.sn t.sc) := tcells_get t
  have U67 : (tcells u)[67]? = some (.slice u.sa u.sn u.sc) := tcells_get u
  have h0' : ¬ (5000 : Int) < (t.sn : Int) + (u.sn : Int) := by omega
  have y1 : IntKind.i64.wrap ((t.sn : Int) + (u.sn : Int)) = (t.sn : Int) + (u.sn : Int) := by rw [IntKind.wrap_i64]; omega
  obtain ⟨z, hz⟩ : ∃ z, chkT t.key = z := ⟨_, rfl⟩
  obtain ⟨b, hb⟩ : ∃ b, sameB t.key u.key = b := ⟨_, rfl⟩
  have hself : sameB t.key t.key = true := (sameB_iff _ _).2 rfl
  have HC1 : Hid (∀ W, Below w.heap.size w W → Calls Try.prog 10 #[.agg (tcells t).toArray] W fun e w' => e = .returned (.int .i64 z) ∧ Below W.heap.size W w') := fun W hW => by
    rw [← hz]
    exact checkT_any t W (Src.below ht hW (Src.lt ht)) (by omega)
  have HC2 : Hid (∀ W, Below w.heap.size w W → Calls Try.prog 11 #[.agg (tcells t).toArray] W fun e w' => e = .returned (.int .i64 z) ∧ Below W.heap.size W w') := fun W hW => by
    rw [← hz]
    exact rcheckD_any t W (Src.below ht hW (Src.lt ht)) (by omega)
  have HS1 : Hid (∀ W, Below w.heap.size w W → Calls Try.prog 12 #[.agg (tcells t).toArray, .agg (tcells u).toArray] W fun e w' => e = .returned (.bool b) ∧ Below W.heap.size W w') := fun W hW => by
    rw [← hb]
    exact psame_any t u W (Src.below ht hW (Src.lt ht)) (Src.below hu hW (Src.lt hu)) (by omega)
  have HS2 : Hid (∀ W, Below w.heap.size w W → Calls Try.prog 13 #[.agg (tcells t).toArray, .agg (tcells u).toArray] W fun e w' => e = .returned (.bool b) ∧ Below W.heap.size W w') := fun W hW => by
    rw [← hb]
    exact rsame_any t u W (Src.below ht hW (Src.lt ht)) (Src.below hu hW (Src.lt hu)) (by omega)
  have HS3 : Hid (∀ W, Below w.heap.size w W → Calls Try.prog 12 #[.agg (tcells t).toArray, .agg (tcells t).toArray] W fun e w' => e = .returned (.bool true) ∧ Below W.heap.size W w') := fun W hW => by
    rw [← hself]
    exact psame_any t t W (Src.below ht hW (Src.lt ht)) (Src.below ht hW (Src.lt ht)) (by omega)
  clear h ht hu hz hb hself
  generalize t.sa = sa at T67
  generalize t.sn = sn at *
  generalize t.sc = sc at T67
  generalize u.sa = sb at U67
  generalize u.sn = sm at *
  generalize u.sc = sd at U67
  go_enter Try.func3, Try.ntmps3
  go_wp2
  refine name_world (R := fun W => Code.wp _ _ _ _ W) (P := fun W => Below w.heap.size w W ∧ Row W w.heap.size 33 (tcells t) ∧ Row W (w.heap.size + 1) 33 (tcells u)) _ ⟨bt (ba _ _) (ba _ _), (Row.new w 33 (tcells t)).alloc _, two_newR w _ 33 (tcells u)⟩ ?_
  rintro X ⟨hB, hT, hU⟩
  have bX := bt hB (bd X)
  have rT := hT.below (bd X) hT.lt
  have rU := hU.below (bd X) hU.lt
  clear hB hT hU T67 U67
  refine wp_region_noPanic ?_
  refine wp_region_held_drew (S := fun W => Row W w.heap.size 33 (tcells t) ∧ Row W (w.heap.size + 1) 33 (tcells u)) (by kernel_rfl) (⟨rT, rU⟩) (fun hHeld => ?_)
  refine take_lit (i := 0) rfl (by kernel_rfl) (by kernel_rfl) (by kernel_rfl) (fun _ _ _ h => h) (yTm t (fun W hW => hW.1.range) (by rfl) rfl rfl) (by assumption) ?_
  try simp only [Act.put, List.setIfInBounds_toArray, List.set_cons_zero, List.set_cons_succ]
  refine take_lit (i := 3) rfl (by kernel_rfl) (by kernel_rfl) (by kernel_rfl) (fun _ _ _ h => h) (yTm t (fun W hW => hW.1.range) (by rfl) rfl rfl) (by assumption) ?_
  try simp only [Act.put, List.setIfInBounds_toArray, List.set_cons_zero, List.set_cons_succ]
  refine wpAnyH_ready (rs := [1]) (by kernel_rfl) (by simp) ?_
  refine cons_lit rfl (fun K hK => ?_) ?_
  · go_simp
    refine (HC1.out _ bX).mono ?_
    rintro e w1 ⟨rfl, b1⟩
    replace bX := bt bX b1
    replace rT := rT.below b1 rT.lt
    replace rU := rU.below b1 rU.lt
    clear b1
    refine hK.out _ _ ?_ (fun hHeld => ?_)
    · exact ⟨rT, rU⟩
    clear hK K
    try simp only [Act.put, List.setIfInBounds_toArray, List.set_cons_zero, List.set_cons_succ]
    refine wpAnyH_ready (rs := [2]) (by kernel_rfl) (by simp) ?_
    refine cons_lit rfl (fun K hK => ?_) ?_
    · go_simp
      refine (num6 _ _).mono ?_
      rintro e wn ⟨rfl, rfl⟩
      refine hK.out _ _ ?_ (fun hHeld => ?_)
      · exact ⟨rT, rU⟩
      clear hK K
      try simp only [Act.put, List.setIfInBounds_toArray, List.set_cons_zero, List.set_cons_succ]
      refine wpAnyH_ready (rs := [4]) (by kernel_rfl) (by simp) ?_
      refine cons_lit rfl (fun K hK => ?_) ?_
      · go_simp
        refine (HC2.out _ bX).mono ?_
        rintro e w4 ⟨rfl, b4⟩
        replace bX := bt bX b4
        replace rT := rT.below b4 rT.lt
        replace rU := rU.below b4 rU.lt
        clear b4
        refine hK.out _ _ ?_ (fun hHeld => ?_)
        · exact ⟨rT, rU⟩
        clear hK K
        try simp only [Act.put, List.setIfInBounds_toArray, List.set_cons_zero, List.set_cons_succ]
        refine take_lit (i := 5) (v := ?_) rfl (by kernel_rfl) (by kernel_rfl) (by kernel_rfl) (fun _ _ _ h => h) (Or.inl ⟨by rfl, ?_⟩) (by assumption) ?_
        rotate_left
        · (intro w hSw; (try dsimp only at hSw); go_simp <;> with_reducible rfl)
        try simp only [Act.put, List.setIfInBounds_toArray, List.set_cons_zero, List.set_cons_succ]
        refine take_lit (i := 6) (v := ?_) rfl (by kernel_rfl) (by kernel_rfl) (by kernel_rfl) (fun _ _ _ h => h) (Or.inl ⟨by rfl, ?_⟩) (by assumption) ?_
        rotate_left
        · (intro w hSw; (try dsimp only at hSw); go_simp <;> with_reducible rfl)
        try simp only [Act.put, List.setIfInBounds_toArray, List.set_cons_zero, List.set_cons_succ]
        refine take_lit (i := 7) rfl (by kernel_rfl) (by kernel_rfl) (by kernel_rfl) (fun _ _ _ h => h) (yTm t (fun W hW => hW.1.range) (by rfl) rfl rfl) (by assumption) ?_
        try simp only [Act.put, List.setIfInBounds_toArray, List.set_cons_zero, List.set_cons_succ]
        refine take_lit (i := 8) rfl (by kernel_rfl) (by kernel_rfl) (by kernel_rfl) (fun _ _ _ h => h) (yTm u (fun W hW => hW.2.range) (by rfl) rfl rfl) (by assumption) ?_
        try simp only [Act.put, List.setIfInBounds_toArray, List.set_cons_zero, List.set_cons_succ]
        refine take_lit (i := 10) rfl (by kernel_rfl) (by kernel_rfl) (by kernel_rfl) (fun _ _ _ h => h) (yTm t (fun W hW => hW.1.range) (by rfl) rfl rfl) (by assumption) ?_
        try simp only [Act.put, List.setIfInBounds_toArray, List.set_cons_zero, List.set_cons_succ]
        refine take_lit (i := 11) rfl (by kernel_rfl) (by kernel_rfl) (by kernel_rfl) (fun _ _ _ h => h) (yTm u (fun W hW => hW.2.range) (by rfl) rfl rfl) (by assumption) ?_
        try simp only [Act.put, List.setIfInBounds_toArray, List.set_cons_zero, List.set_cons_succ]
        refine wpAnyH_ready (rs := [9]) (by kernel_rfl) (by simp) ?_
        refine cons_lit rfl (fun K hK => ?_) ?_
        · go_simp
          refine (HS1.out _ bX).mono ?_
          rintro e w9 ⟨rfl, b9⟩
          replace bX := bt bX b9
          replace rT := rT.below b9 rT.lt
          replace rU := rU.below b9 rU.lt
          clear b9
          refine hK.out _ _ ?_ (fun hHeld => ?_)
          · exact ⟨rT, rU⟩
          clear hK K
          try simp only [Act.put, List.setIfInBounds_toArray, List.set_cons_zero, List.set_cons_succ]
          refine wpAnyH_ready (rs := [12]) (by kernel_rfl) (by simp) ?_
          refine cons_lit rfl (fun K hK => ?_) ?_
          · go_simp
            refine (HS2.out _ bX).mono ?_
            rintro e w12 ⟨rfl, b12⟩
            replace bX := bt bX b12
            replace rT := rT.below b12 rT.lt
            replace rU := rU.below b12 rU.lt
            clear b12
            refine hK.out _ _ ?_ (fun hHeld => ?_)
            · exact ⟨rT, rU⟩
            clear hK K
            try simp only [Act.put, List.setIfInBounds_toArray, List.set_cons_zero, List.set_cons_succ]
            refine take_lit (i := 13) (v := ?_) rfl (by kernel_rfl) (by kernel_rfl) (by kernel_rfl) (fun _ _ _ h => h) (Or.inl ⟨by rfl, ?_⟩) (by assumption) ?_
            rotate_left
            · (intro w hSw; (try dsimp only at hSw); go_simp <;> with_reducible rfl)
            try simp only [Act.put, List.setIfInBounds_toArray, List.set_cons_zero, List.set_cons_succ]
            refine take_lit (i := 14) (v := ?_) rfl (by kernel_rfl) (by kernel_rfl) (by kernel_rfl) (fun _ _ _ h => h) (Or.inl ⟨by rfl, ?_⟩) (by assumption) ?_
            rotate_left
            · (intro w hSw; (try dsimp only at hSw); go_simp <;> with_reducible rfl)
            try simp only [Act.put, List.setIfInBounds_toArray, List.set_cons_zero, List.set_cons_succ]
            refine take_lit (i := 15) (v := ?_) rfl (by kernel_rfl) (by kernel_rfl) (by kernel_rfl) (fun _ _ _ h => h) (Or.inl ⟨by rfl, ?_⟩) (by assumption) ?_
            rotate_left
            · (intro w hSw; (try dsimp only at hSw); go_simp <;> with_reducible rfl)
            try simp only [Act.put, List.setIfInBounds_toArray, List.set_cons_zero, List.set_cons_succ]
            refine take_lit (i := 16) rfl (by kernel_rfl) (by kernel_rfl) (by kernel_rfl) (fun _ _ _ h => h) (yTm t (fun W hW => hW.1.range) (by rfl) rfl rfl) (by assumption) ?_
            try simp only [Act.put, List.setIfInBounds_toArray, List.set_cons_zero, List.set_cons_succ]
            refine take_lit (i := 17) rfl (by kernel_rfl) (by kernel_rfl) (by kernel_rfl) (fun _ _ _ h => h) (yTm t (fun W hW => hW.1.range) (by rfl) rfl rfl) (by assumption) ?_
            try simp only [Act.put, List.setIfInBounds_toArray, List.set_cons_zero, List.set_cons_succ]
            refine wpAnyH_ready (rs := [18]) (by kernel_rfl) (by simp) ?_
            refine cons_lit rfl (fun K hK => ?_) ?_
            · go_simp
              refine (HS3.out _ bX).mono ?_
              rintro e w18 ⟨rfl, b18⟩
              replace bX := bt bX b18
              replace rT := rT.below b18 rT.lt
              replace rU := rU.below b18 rU.lt
              clear b18
              refine hK.out _ _ ?_ (fun hHeld => ?_)
              · exact ⟨rT, rU⟩
              clear hK K
              try simp only [Act.put, List.setIfInBounds_toArray, List.set_cons_zero, List.set_cons_succ]
              refine take_lit (i := 19) (v := ?_) rfl (by kernel_rfl) (by kernel_rfl) (by kernel_rfl) (fun _ _ _ h => h) (Or.inl ⟨by rfl, ?_⟩) (by assumption) ?_
              rotate_left
              · (intro w hSw; (try dsimp only at hSw); go_simp <;> with_reducible rfl)
              try simp only [Act.put, List.setIfInBounds_toArray, List.set_cons_zero, List.set_cons_succ]
              refine take_lit (i := 20) (v := ?_) rfl (by kernel_rfl) (by kernel_rfl) (by kernel_rfl) (fun _ _ _ h => h) (Or.inl ⟨by rfl, ?_⟩) (by assumption) ?_
              rotate_left
              · (intro w hSw; (try dsimp only at hSw); go_simp <;> with_reducible rfl)
              try simp only [Act.put, List.setIfInBounds_toArray, List.set_cons_zero, List.set_cons_succ]
              refine wpAnyH_ready (rs := [21]) (by kernel_rfl) (by simp) ?_
              refine cons_lit rfl (fun K hK => ?_) ?_
              · go_simp
                refine (live_any _).mono ?_
                rintro e w21 ⟨rfl, b21⟩
                replace bX := bt bX b21
                replace rT := rT.below b21 rT.lt
                replace rU := rU.below b21 rU.lt
                clear b21
                refine hK.out _ _ ?_ (fun hHeld => ?_)
                · exact ⟨rT, rU⟩
                clear hK K
                try simp only [Act.put, List.setIfInBounds_toArray, List.set_cons_zero, List.set_cons_succ]
                refine take_lit (i := 22) (v := ?_) rfl (by kernel_rfl) (by kernel_rfl) (by kernel_rfl) (fun _ _ _ h => h) (Or.inl ⟨by rfl, ?_⟩) (by assumption) ?_
                rotate_left
                · (intro w hSw; (try dsimp only at hSw); go_simp <;> with_reducible rfl)
                try simp only [Act.put, List.setIfInBounds_toArray, List.set_cons_zero, List.set_cons_succ]
                refine take_lit (i := 23) (v := ?_) rfl (by kernel_rfl) (by kernel_rfl) (by kernel_rfl) (fun _ _ _ h => h) (Or.inl ⟨by rfl, ?_⟩) (by assumption) ?_
                rotate_left
                · (intro w hSw; (try dsimp only at hSw); go_simp <;> with_reducible rfl)
                try simp only [Act.put, List.setIfInBounds_toArray, List.set_cons_zero, List.set_cons_succ]
                refine wpAnyH_done (by kernel_rfl) ?_ _
                refine NoPanic.normal ?_
                go_wp2
                go_ret
                exact ⟨rfl, bX⟩
              exact AllReadyH.nil
            exact AllReadyH.nil
          exact AllReadyH.nil
        exact AllReadyH.nil
      exact AllReadyH.nil
    exact AllReadyH.nil
  exact AllReadyH.nil
theorem checks_any (t u : Tl) (w : World) (ht : TSrc w t) (hu : TSrc w u) (k0 : t.sn ≤ 140737488355328) (k1 : u.sn ≤ 140737488355328) :
    Calls Try.prog 3 #[.agg (tcells t).toArray, .agg (tcells u).toArray] w fun e w' => e = .returned (.bool true) ∧ Below w.heap.size w w' := by
  by_cases h : 5000 < t.sn + u.sn
  · exact checks_long t u w k0 k1 h
  · exact checks_walk t u w ht hu (by omega)
end Go.Proofs.Ytognnfknbkedgaa
