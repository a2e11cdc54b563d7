/-
  Pure facts of what packets tell: Stamps are few; bytes behind bytes; what Parse answers of a body in its packet.
-/
import Derived.Test.YtdibjgcokebfbaaGreatM20
import Derived.Test.YtdibjgcokebfbaaGreatM29
namespace Go.Proofs.YtdibjgcokebfbaaGreat
open Go.RowKit
set_option linter.unusedSimpArgs false
set_option maxRecDepth 20000

/-- What Parse answers of a body. -/
structure ToldP (w : World) (a : Option Addr) (n c : Nat) (ts : List Tl) (src : Ad) (b : List UInt8) : Prop where
  key : ts.map Tl.key = tellL (bgS src) (splL b).1
  tlw : TlW w a n ts
  shape : (a = none ∧ n = 0 ∧ c = 0) ∨ ∃ g, a = some ⟨g, 0, none⟩ ∧ n ≤ c ∧ c ≤ maxLen
  le : n ≤ 100000
  st : ∀ t ∈ ts, t.st.length ≤ 100000
theorem ToldP.below {w w' : World} {a : Option Addr} {n c : Nat} {ts : List Tl} {src : Ad} {b : List UInt8} (h : ToldP w a n c ts src b) (hb : Below w.heap.size w w') : ToldP w' a n c ts src b := ⟨h.key, h.tlw.below hb, h.shape, h.le, h.st⟩
end Go.Proofs.YtdibjgcokebfbaaGreat

namespace Go.Proofs.YtdibjgcokebfbaaGreat
open Go.RowKit
set_option linter.unusedSimpArgs false
set_option maxRecDepth 20000

theorem zeroQ_ok : chkQ zeroQ = 0 := by decide
end Go.Proofs.YtdibjgcokebfbaaGreat

namespace Go.Proofs.YtdibjgcokebfbaaGreat
open Go.RowKit
set_option linter.unusedSimpArgs false
set_option linter.unusedVariables false
set_option maxRecDepth 20000
theorem idl (i j : Id8) : (i.l = j.l) = (i = j) := propext ⟨Id8.ext, fun h => by rw [h]⟩
theorem adl (i j : Ad) : (i.l = j.l) = (i = j) := propext ⟨Ad.ext, fun h => by rw [h]⟩
theorem prq_true (p q : Pr) : (prqB p q = true) = (p = q) := propext (prB_iff p q)
theorem nil_len (st : List UInt32) : (st.length = 0) = (st = []) := by simp
theorem idr (i j : Id8) : (i = j) = (i.l = j.l) := (idl i j).symm
theorem adr (i j : Ad) : (i = j) = (i.l = j.l) := (adl i j).symm
theorem pqr (p q : Pr) : (p = q) = (prqB p q = true) := (prq_true p q).symm
theorem three (i : Id8) : (i.l = zeroI.l ∧ ¬ i.l = fullI.l) ∨ (¬ i.l = zeroI.l ∧ i.l = fullI.l) ∨ (¬ i.l = zeroI.l ∧ ¬ i.l = fullI.l) := by
  by_cases h1 : i.l = zeroI.l
  · exact .inl ⟨h1, by rw [h1]; decide⟩
  · by_cases h2 : i.l = fullI.l
    · exact .inr (.inl ⟨h1, h2⟩)
    · exact .inr (.inr ⟨h1, h2⟩)
theorem le1 (st : List UInt32) : (st.length ≤ 1) = (st = [] ∨ st.length = 1) := by
  rw [← nil_len]
  exact propext ⟨fun h => by omega, fun h => by omega⟩
/-- What the document's Check answers. -/
def rK (t : Tl) : Int := if (namB t.ty && stOk t.key) = true then rV t.key (sameB t.key (bareT t).key) (decide (t.id.l = zeroI.l)) (decide (t.id.l = fullI.l)) (chkQ t.pr) else 2
set_option maxHeartbeats 4000000 in
theorem rK_2 (no iv sq rx me ho : Nat) (un al : Bool) (id : Id8) (ad : Ad) (pr : Pr) (sa : Option Addr) (sn sc : Nat) (st : List UInt32) :
    rK (⟨2, no, iv, sq, rx, me, ho, un, al, id, ad, pr, sa, sn, sc, st⟩ : Tl) = chkT (⟨2, no, iv, sq, rx, me, ho, un, al, id, ad, pr, st⟩ : TK) := by
  have z : prqB pr zeroQ = true → chkQ pr = 0 := fun h => by rw [(prB_iff _ _).1 h]; exact zeroQ_ok
  have hA := sameB_iff (⟨2, no, iv, sq, rx, me, ho, un, al, id, ad, pr, sa, sn, sc, st⟩ : Tl).key (bareT (⟨2, no, iv, sq, rx, me, ho, un, al, id, ad, pr, sa, sn, sc, st⟩ : Tl)).key
  have hB := sameB_iff (unK (⟨2, no, iv, sq, rx, me, ho, un, al, id, ad, pr, st⟩ : TK)) { zeroK with ty := 2 }
  show (if (namB 2 && stOk (⟨2, no, iv, sq, rx, me, ho, un, al, id, ad, pr, st⟩ : TK)) = true then rV (⟨2, no, iv, sq, rx, me, ho, un, al, id, ad, pr, st⟩ : TK) (sameB (⟨2, no, iv, sq, rx, me, ho, un, al, id, ad, pr, sa, sn, sc, st⟩ : Tl).key (bareT (⟨2, no, iv, sq, rx, me, ho, un, al, id, ad, pr, sa, sn, sc, st⟩ : Tl)).key) (decide (id.l = zeroI.l)) (decide (id.l = fullI.l)) (chkQ pr) else 2) = (if (namB 2 && (sameB (unK (⟨2, no, iv, sq, rx, me, ho, un, al, id, ad, pr, st⟩ : TK)) { zeroK with ty := 2 } && fitB (⟨2, no, iv, sq, rx, me, ho, un, al, id, ad, pr, st⟩ : TK))) = true then chkQ pr else 2)
  generalize sameB (⟨2, no, iv, sq, rx, me, ho, un, al, id, ad, pr, sa, sn, sc, st⟩ : Tl).key (bareT (⟨2, no, iv, sq, rx, me, ho, un, al, id, ad, pr, sa, sn, sc, st⟩ : Tl)).key = b1 at hA ⊢
  generalize sameB (unK (⟨2, no, iv, sq, rx, me, ho, un, al, id, ad, pr, st⟩ : TK)) { zeroK with ty := 2 } = b2 at hB ⊢
  simp [bareT, Tl.key, begT, zeroT, idr, adr, pqr] at hA; simp [unK, zeroK, Tl.key, zeroT, idr, adr, pqr] at hB; (try simp [namB, stOk, rV, fitB, fitU, nobB, nil_len, le1]) <;> cases b1 <;> cases b2 <;> simp_all
set_option maxHeartbeats 4000000 in
theorem rK_3 (no iv sq rx me ho : Nat) (un al : Bool) (id : Id8) (ad : Ad) (pr : Pr) (sa : Option Addr) (sn sc : Nat) (st : List UInt32) :
    rK (⟨3, no, iv, sq, rx, me, ho, un, al, id, ad, pr, sa, sn, sc, st⟩ : Tl) = chkT (⟨3, no, iv, sq, rx, me, ho, un, al, id, ad, pr, st⟩ : TK) := by
  have z : prqB pr zeroQ = true → chkQ pr = 0 := fun h => by rw [(prB_iff _ _).1 h]; exact zeroQ_ok
  have hA := sameB_iff (⟨3, no, iv, sq, rx, me, ho, un, al, id, ad, pr, sa, sn, sc, st⟩ : Tl).key (bareT (⟨3, no, iv, sq, rx, me, ho, un, al, id, ad, pr, sa, sn, sc, st⟩ : Tl)).key
  have hB := sameB_iff (unK (⟨3, no, iv, sq, rx, me, ho, un, al, id, ad, pr, st⟩ : TK)) { zeroK with ty := 3 }
  show (if (namB 3 && stOk (⟨3, no, iv, sq, rx, me, ho, un, al, id, ad, pr, st⟩ : TK)) = true then rV (⟨3, no, iv, sq, rx, me, ho, un, al, id, ad, pr, st⟩ : TK) (sameB (⟨3, no, iv, sq, rx, me, ho, un, al, id, ad, pr, sa, sn, sc, st⟩ : Tl).key (bareT (⟨3, no, iv, sq, rx, me, ho, un, al, id, ad, pr, sa, sn, sc, st⟩ : Tl)).key) (decide (id.l = zeroI.l)) (decide (id.l = fullI.l)) (chkQ pr) else 2) = (if (namB 3 && (sameB (unK (⟨3, no, iv, sq, rx, me, ho, un, al, id, ad, pr, st⟩ : TK)) { zeroK with ty := 3 } && fitB (⟨3, no, iv, sq, rx, me, ho, un, al, id, ad, pr, st⟩ : TK))) = true then chkQ pr else 2)
  generalize sameB (⟨3, no, iv, sq, rx, me, ho, un, al, id, ad, pr, sa, sn, sc, st⟩ : Tl).key (bareT (⟨3, no, iv, sq, rx, me, ho, un, al, id, ad, pr, sa, sn, sc, st⟩ : Tl)).key = b1 at hA ⊢
  generalize sameB (unK (⟨3, no, iv, sq, rx, me, ho, un, al, id, ad, pr, st⟩ : TK)) { zeroK with ty := 3 } = b2 at hB ⊢
  simp [bareT, Tl.key, begT, zeroT, idr, adr, pqr] at hA; simp [unK, zeroK, Tl.key, zeroT, idr, adr, pqr] at hB; (try simp [namB, stOk, rV, fitB, fitU, nobB, nil_len, le1]) <;> cases b1 <;> cases b2 <;> simp_all
set_option maxHeartbeats 4000000 in
theorem rK_4 (no iv sq rx me ho : Nat) (un al : Bool) (id : Id8) (ad : Ad) (pr : Pr) (sa : Option Addr) (sn sc : Nat) (st : List UInt32) :
    rK (⟨4, no, iv, sq, rx, me, ho, un, al, id, ad, pr, sa, sn, sc, st⟩ : Tl) = chkT (⟨4, no, iv, sq, rx, me, ho, un, al, id, ad, pr, st⟩ : TK) := by
  have z : prqB pr zeroQ = true → chkQ pr = 0 := fun h => by rw [(prB_iff _ _).1 h]; exact zeroQ_ok
  have hA := sameB_iff (⟨4, no, iv, sq, rx, me, ho, un, al, id, ad, pr, sa, sn, sc, st⟩ : Tl).key (bareT (⟨4, no, iv, sq, rx, me, ho, un, al, id, ad, pr, sa, sn, sc, st⟩ : Tl)).key
  have hB := sameB_iff (unK (⟨4, no, iv, sq, rx, me, ho, un, al, id, ad, pr, st⟩ : TK)) { zeroK with ty := 4 }
  show (if (namB 4 && stOk (⟨4, no, iv, sq, rx, me, ho, un, al, id, ad, pr, st⟩ : TK)) = true then rV (⟨4, no, iv, sq, rx, me, ho, un, al, id, ad, pr, st⟩ : TK) (sameB (⟨4, no, iv, sq, rx, me, ho, un, al, id, ad, pr, sa, sn, sc, st⟩ : Tl).key (bareT (⟨4, no, iv, sq, rx, me, ho, un, al, id, ad, pr, sa, sn, sc, st⟩ : Tl)).key) (decide (id.l = zeroI.l)) (decide (id.l = fullI.l)) (chkQ pr) else 2) = (if (namB 4 && (sameB (unK (⟨4, no, iv, sq, rx, me, ho, un, al, id, ad, pr, st⟩ : TK)) { zeroK with ty := 4 } && fitB (⟨4, no, iv, sq, rx, me, ho, un, al, id, ad, pr, st⟩ : TK))) = true then chkQ pr else 2)
  generalize sameB (⟨4, no, iv, sq, rx, me, ho, un, al, id, ad, pr, sa, sn, sc, st⟩ : Tl).key (bareT (⟨4, no, iv, sq, rx, me, ho, un, al, id, ad, pr, sa, sn, sc, st⟩ : Tl)).key = b1 at hA ⊢
  generalize sameB (unK (⟨4, no, iv, sq, rx, me, ho, un, al, id, ad, pr, st⟩ : TK)) { zeroK with ty := 4 } = b2 at hB ⊢
  simp [bareT, Tl.key, begT, zeroT, idr, adr, pqr] at hA; simp [unK, zeroK, Tl.key, zeroT, idr, adr, pqr] at hB; (try simp [namB, stOk, rV, fitB, fitU, nobB, nil_len, le1]) <;> cases b1 <;> cases b2 <;> simp_all
set_option maxHeartbeats 4000000 in
theorem rK_5 (no iv sq rx me ho : Nat) (un al : Bool) (id : Id8) (ad : Ad) (pr : Pr) (sa : Option Addr) (sn sc : Nat) (st : List UInt32) :
    rK (⟨5, no, iv, sq, rx, me, ho, un, al, id, ad, pr, sa, sn, sc, st⟩ : Tl) = chkT (⟨5, no, iv, sq, rx, me, ho, un, al, id, ad, pr, st⟩ : TK) := by
  have z : prqB pr zeroQ = true → chkQ pr = 0 := fun h => by rw [(prB_iff _ _).1 h]; exact zeroQ_ok
  have hA := sameB_iff (⟨5, no, iv, sq, rx, me, ho, un, al, id, ad, pr, sa, sn, sc, st⟩ : Tl).key (bareT (⟨5, no, iv, sq, rx, me, ho, un, al, id, ad, pr, sa, sn, sc, st⟩ : Tl)).key
  have hB := sameB_iff (unK (⟨5, no, iv, sq, rx, me, ho, un, al, id, ad, pr, st⟩ : TK)) { zeroK with ty := 5 }
  show (if (namB 5 && stOk (⟨5, no, iv, sq, rx, me, ho, un, al, id, ad, pr, st⟩ : TK)) = true then rV (⟨5, no, iv, sq, rx, me, ho, un, al, id, ad, pr, st⟩ : TK) (sameB (⟨5, no, iv, sq, rx, me, ho, un, al, id, ad, pr, sa, sn, sc, st⟩ : Tl).key (bareT (⟨5, no, iv, sq, rx, me, ho, un, al, id, ad, pr, sa, sn, sc, st⟩ : Tl)).key) (decide (id.l = zeroI.l)) (decide (id.l = fullI.l)) (chkQ pr) else 2) = (if (namB 5 && (sameB (unK (⟨5, no, iv, sq, rx, me, ho, un, al, id, ad, pr, st⟩ : TK)) { zeroK with ty := 5 } && fitB (⟨5, no, iv, sq, rx, me, ho, un, al, id, ad, pr, st⟩ : TK))) = true then chkQ pr else 2)
  generalize sameB (⟨5, no, iv, sq, rx, me, ho, un, al, id, ad, pr, sa, sn, sc, st⟩ : Tl).key (bareT (⟨5, no, iv, sq, rx, me, ho, un, al, id, ad, pr, sa, sn, sc, st⟩ : Tl)).key = b1 at hA ⊢
  generalize sameB (unK (⟨5, no, iv, sq, rx, me, ho, un, al, id, ad, pr, st⟩ : TK)) { zeroK with ty := 5 } = b2 at hB ⊢
  cases al
  · simp [bareT, Tl.key, begT, zeroT, idr, adr, pqr] at hA; simp [unK, zeroK, Tl.key, zeroT, idr, adr, pqr] at hB; (try simp [namB, stOk, rV, fitB, fitU, nobB, nil_len, le1]) <;> cases b1 <;> cases b2 <;> simp_all
  · simp [bareT, Tl.key, begT, zeroT, idr, adr, pqr] at hA; simp [unK, zeroK, Tl.key, zeroT, idr, adr, pqr] at hB; (try simp [namB, stOk, rV, fitB, fitU, nobB, nil_len, le1]) <;> cases b1 <;> cases b2 <;> simp_all
set_option maxHeartbeats 4000000 in
theorem rK_8 (no iv sq rx me ho : Nat) (un al : Bool) (id : Id8) (ad : Ad) (pr : Pr) (sa : Option Addr) (sn sc : Nat) (st : List UInt32) :
    rK (⟨8, no, iv, sq, rx, me, ho, un, al, id, ad, pr, sa, sn, sc, st⟩ : Tl) = chkT (⟨8, no, iv, sq, rx, me, ho, un, al, id, ad, pr, st⟩ : TK) := by
  have z : prqB pr zeroQ = true → chkQ pr = 0 := fun h => by rw [(prB_iff _ _).1 h]; exact zeroQ_ok
  have hA := sameB_iff (⟨8, no, iv, sq, rx, me, ho, un, al, id, ad, pr, sa, sn, sc, st⟩ : Tl).key (bareT (⟨8, no, iv, sq, rx, me, ho, un, al, id, ad, pr, sa, sn, sc, st⟩ : Tl)).key
  have hB := sameB_iff (unK (⟨8, no, iv, sq, rx, me, ho, un, al, id, ad, pr, st⟩ : TK)) { zeroK with ty := 8 }
  show (if (namB 8 && stOk (⟨8, no, iv, sq, rx, me, ho, un, al, id, ad, pr, st⟩ : TK)) = true then rV (⟨8, no, iv, sq, rx, me, ho, un, al, id, ad, pr, st⟩ : TK) (sameB (⟨8, no, iv, sq, rx, me, ho, un, al, id, ad, pr, sa, sn, sc, st⟩ : Tl).key (bareT (⟨8, no, iv, sq, rx, me, ho, un, al, id, ad, pr, sa, sn, sc, st⟩ : Tl)).key) (decide (id.l = zeroI.l)) (decide (id.l = fullI.l)) (chkQ pr) else 2) = (if (namB 8 && (sameB (unK (⟨8, no, iv, sq, rx, me, ho, un, al, id, ad, pr, st⟩ : TK)) { zeroK with ty := 8 } && fitB (⟨8, no, iv, sq, rx, me, ho, un, al, id, ad, pr, st⟩ : TK))) = true then chkQ pr else 2)
  generalize sameB (⟨8, no, iv, sq, rx, me, ho, un, al, id, ad, pr, sa, sn, sc, st⟩ : Tl).key (bareT (⟨8, no, iv, sq, rx, me, ho, un, al, id, ad, pr, sa, sn, sc, st⟩ : Tl)).key = b1 at hA ⊢
  generalize sameB (unK (⟨8, no, iv, sq, rx, me, ho, un, al, id, ad, pr, st⟩ : TK)) { zeroK with ty := 8 } = b2 at hB ⊢
  by_cases hm : me = 65535
  · subst hm
    cases al
    · simp [bareT, Tl.key, begT, zeroT, idr, adr, pqr] at hA; simp [unK, zeroK, Tl.key, zeroT, idr, adr, pqr] at hB; (try simp [namB, stOk, rV, fitB, fitU, nobB, nil_len, le1]) <;> cases b1 <;> cases b2 <;> rcases three id with ⟨h1, h2⟩ | ⟨h1, h2⟩ | ⟨h1, h2⟩ <;> by_cases h3 : ad.l = zeroA.l <;> by_cases h4 : prqB pr zeroQ = true <;> by_cases h5 : ho = 0 <;> simp_all
    · simp [bareT, Tl.key, begT, zeroT, idr, adr, pqr] at hA; simp [unK, zeroK, Tl.key, zeroT, idr, adr, pqr] at hB; (try simp [namB, stOk, rV, fitB, fitU, nobB, nil_len, le1])
      by_cases hs : st = []
      · rw [if_pos hs]
        by_cases hb : b1 = true
        · have h := hA.1 hb
          rw [if_neg (by simp [hb]), if_pos ⟨hB.2 ⟨h.1, h.2.1, h.2.2.1, h.2.2.2.1, hs⟩, h.2.2.2.2.2.2, h.2.2.2.2.1, h.2.2.2.2.2.1⟩, z h.2.2.2.2.2.2]
        · rw [if_pos (by simpa using hb), if_neg (fun h => hb (hA.2 (by have k := hB.1 h.1; exact ⟨k.1, k.2.1, k.2.2.1, k.2.2.2.1, h.2.2.1, h.2.2.2, h.2.1⟩)))]
      · rw [if_neg hs, if_neg (fun h => hs (hB.1 h.1).2.2.2.2)]
  · cases al
    · simp [bareT, Tl.key, begT, zeroT, idr, adr, pqr, hm] at hA; simp [unK, zeroK, Tl.key, zeroT, idr, adr, pqr] at hB; (try simp [namB, stOk, rV, fitB, fitU, nobB, nil_len, le1, hm]) <;> cases b1 <;> cases b2 <;> rcases three id with ⟨h1, h2⟩ | ⟨h1, h2⟩ | ⟨h1, h2⟩ <;> by_cases h3 : ad.l = zeroA.l <;> by_cases h4 : prqB pr zeroQ = true <;> by_cases h5 : ho = 0 <;> simp_all
    · simp [bareT, Tl.key, begT, zeroT, idr, adr, pqr, hm] at hA; simp [unK, zeroK, Tl.key, zeroT, idr, adr, pqr] at hB; (try simp [namB, stOk, rV, fitB, fitU, nobB, nil_len, le1, hm]) <;> cases b1 <;> cases b2 <;> rcases three id with ⟨h1, h2⟩ | ⟨h1, h2⟩ | ⟨h1, h2⟩ <;> by_cases h3 : ad.l = zeroA.l <;> by_cases h4 : prqB pr zeroQ = true <;> by_cases h5 : ho = 0 <;> simp_all
set_option maxHeartbeats 4000000 in
theorem rK_9 (no iv sq rx me ho : Nat) (un al : Bool) (id : Id8) (ad : Ad) (pr : Pr) (sa : Option Addr) (sn sc : Nat) (st : List UInt32) :
    rK (⟨9, no, iv, sq, rx, me, ho, un, al, id, ad, pr, sa, sn, sc, st⟩ : Tl) = chkT (⟨9, no, iv, sq, rx, me, ho, un, al, id, ad, pr, st⟩ : TK) := by
  have z : prqB pr zeroQ = true → chkQ pr = 0 := fun h => by rw [(prB_iff _ _).1 h]; exact zeroQ_ok
  have hA := sameB_iff (⟨9, no, iv, sq, rx, me, ho, un, al, id, ad, pr, sa, sn, sc, st⟩ : Tl).key (bareT (⟨9, no, iv, sq, rx, me, ho, un, al, id, ad, pr, sa, sn, sc, st⟩ : Tl)).key
  have hB := sameB_iff (unK (⟨9, no, iv, sq, rx, me, ho, un, al, id, ad, pr, st⟩ : TK)) { zeroK with ty := 9 }
  show (if (namB 9 && stOk (⟨9, no, iv, sq, rx, me, ho, un, al, id, ad, pr, st⟩ : TK)) = true then rV (⟨9, no, iv, sq, rx, me, ho, un, al, id, ad, pr, st⟩ : TK) (sameB (⟨9, no, iv, sq, rx, me, ho, un, al, id, ad, pr, sa, sn, sc, st⟩ : Tl).key (bareT (⟨9, no, iv, sq, rx, me, ho, un, al, id, ad, pr, sa, sn, sc, st⟩ : Tl)).key) (decide (id.l = zeroI.l)) (decide (id.l = fullI.l)) (chkQ pr) else 2) = (if (namB 9 && (sameB (unK (⟨9, no, iv, sq, rx, me, ho, un, al, id, ad, pr, st⟩ : TK)) { zeroK with ty := 9 } && fitB (⟨9, no, iv, sq, rx, me, ho, un, al, id, ad, pr, st⟩ : TK))) = true then chkQ pr else 2)
  generalize sameB (⟨9, no, iv, sq, rx, me, ho, un, al, id, ad, pr, sa, sn, sc, st⟩ : Tl).key (bareT (⟨9, no, iv, sq, rx, me, ho, un, al, id, ad, pr, sa, sn, sc, st⟩ : Tl)).key = b1 at hA ⊢
  generalize sameB (unK (⟨9, no, iv, sq, rx, me, ho, un, al, id, ad, pr, st⟩ : TK)) { zeroK with ty := 9 } = b2 at hB ⊢
  cases al
  · simp [bareT, Tl.key, begT, zeroT, idr, adr, pqr] at hA; simp [unK, zeroK, Tl.key, zeroT, idr, adr, pqr] at hB; (try simp [namB, stOk, rV, fitB, fitU, nobB, nil_len, le1]) <;> cases b1 <;> cases b2 <;> simp_all
  · simp [bareT, Tl.key, begT, zeroT, idr, adr, pqr] at hA; simp [unK, zeroK, Tl.key, zeroT, idr, adr, pqr] at hB; (try simp [namB, stOk, rV, fitB, fitU, nobB, nil_len, le1]) <;> cases b1 <;> cases b2 <;> simp_all
set_option maxHeartbeats 4000000 in
theorem rK_10 (no iv sq rx me ho : Nat) (un al : Bool) (id : Id8) (ad : Ad) (pr : Pr) (sa : Option Addr) (sn sc : Nat) (st : List UInt32) :
    rK (⟨10, no, iv, sq, rx, me, ho, un, al, id, ad, pr, sa, sn, sc, st⟩ : Tl) = chkT (⟨10, no, iv, sq, rx, me, ho, un, al, id, ad, pr, st⟩ : TK) := by
  have z : prqB pr zeroQ = true → chkQ pr = 0 := fun h => by rw [(prB_iff _ _).1 h]; exact zeroQ_ok
  have hA := sameB_iff (⟨10, no, iv, sq, rx, me, ho, un, al, id, ad, pr, sa, sn, sc, st⟩ : Tl).key (bareT (⟨10, no, iv, sq, rx, me, ho, un, al, id, ad, pr, sa, sn, sc, st⟩ : Tl)).key
  have hB := sameB_iff (unK (⟨10, no, iv, sq, rx, me, ho, un, al, id, ad, pr, st⟩ : TK)) { zeroK with ty := 10 }
  show (if (namB 10 && stOk (⟨10, no, iv, sq, rx, me, ho, un, al, id, ad, pr, st⟩ : TK)) = true then rV (⟨10, no, iv, sq, rx, me, ho, un, al, id, ad, pr, st⟩ : TK) (sameB (⟨10, no, iv, sq, rx, me, ho, un, al, id, ad, pr, sa, sn, sc, st⟩ : Tl).key (bareT (⟨10, no, iv, sq, rx, me, ho, un, al, id, ad, pr, sa, sn, sc, st⟩ : Tl)).key) (decide (id.l = zeroI.l)) (decide (id.l = fullI.l)) (chkQ pr) else 2) = (if (namB 10 && (sameB (unK (⟨10, no, iv, sq, rx, me, ho, un, al, id, ad, pr, st⟩ : TK)) { zeroK with ty := 10 } && fitB (⟨10, no, iv, sq, rx, me, ho, un, al, id, ad, pr, st⟩ : TK))) = true then chkQ pr else 2)
  generalize sameB (⟨10, no, iv, sq, rx, me, ho, un, al, id, ad, pr, sa, sn, sc, st⟩ : Tl).key (bareT (⟨10, no, iv, sq, rx, me, ho, un, al, id, ad, pr, sa, sn, sc, st⟩ : Tl)).key = b1 at hA ⊢
  generalize sameB (unK (⟨10, no, iv, sq, rx, me, ho, un, al, id, ad, pr, st⟩ : TK)) { zeroK with ty := 10 } = b2 at hB ⊢
  simp [bareT, Tl.key, begT, zeroT, idr, adr, pqr] at hA; simp [unK, zeroK, Tl.key, zeroT, idr, adr, pqr] at hB; (try simp [namB, stOk, rV, fitB, fitU, nobB, nil_len, le1]) <;> cases b1 <;> cases b2 <;> rcases three id with ⟨h1, h2⟩ | ⟨h1, h2⟩ | ⟨h1, h2⟩ <;> by_cases h3 : ad.l = zeroA.l <;> by_cases h4 : prqB pr zeroQ = true <;> by_cases h5 : ho = 0 <;> simp_all
theorem rK_eq (t : Tl) : rK t = chkT t.key := by
  obtain ⟨ty, no, iv, sq, rx, me, ho, un, al, id, ad, pr, sa, sn, sc, st⟩ := t
  cases hy : namB ty
  · show (if (namB ty && _) = true then _ else (2 : Int)) = (if (namB ty && _) = true then _ else 2)
    rw [hy]
    simp
  · rcases namB_cases hy with h | h | h | h | h | h | h <;> subst h
    · exact rK_2 ..
    · exact rK_3 ..
    · exact rK_4 ..
    · exact rK_5 ..
    · exact rK_8 ..
    · exact rK_9 ..
    · exact rK_10 ..
theorem rcheckD_any (t : Tl) (w : World) (ht : TSrc w t) (hn : t.sn ≤ 100000) :
    Calls Tryz.prog 11 #[.agg (tcells t).toArray] w fun e w' => e = .returned (.int .i64 (chkT t.key)) ∧ Below w.heap.size w w' := by
  rw [← rK_eq]
  exact rcheck6_any t w ht hn
end Go.Proofs.YtdibjgcokebfbaaGreat
