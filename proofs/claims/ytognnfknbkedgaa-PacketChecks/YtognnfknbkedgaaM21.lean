/-
  The contract of say of package packet, for every piece.
-/
import Derived.Test.YtognnfknbkedgaaM18
namespace Go.Proofs.Ytognnfknbkedgaa
open Go.RowKit
set_option linter.unusedSimpArgs false
set_option maxRecDepth 20000
variable {bv : Option Addr}

def r0 : RS := ⟨0, 0⟩
/-- What a piece says: whether it says something, what, and what it makes of the parser. -/
def sayB (s : St) (t : Nat) (l : List UInt8) : Bool :=
  if t = 2 then aqB l r0 else if t = 3 then ackB l r0 else if t = 4 then heB l r0 else if t = 5 then ihB l r0 else if t = 8 then upB s l r0 else if t = 9 then rrB s l r0 else if t = 10 then sqB s l r0 else false
def sayK (s : St) (t : Nat) (l : List UInt8) : TK :=
  if t = 2 then aqK l r0 else if t = 3 then ackK l r0 else if t = 4 then heK l r0 else if t = 5 then ihK l r0 else if t = 8 then upK s l r0 else if t = 9 then rrK s l r0 else if t = 10 then sqK s l r0 else zeroK
def sayS (s : St) (t : Nat) (l : List UInt8) : St :=
  if t = 6 then riS s l r0 else if t = 7 then nhS s l r0 else if t = 8 then upS s l r0 else s
/-- What say answers. -/
def Said (w : World) (P : Nat) (s' : St) (k : TK) (ok : Bool) (e : Ending) (w' : World) : Prop := SayR w k ok e w' ∧ (∃ R, Par w' P R s') ∧ w.grownBy w' (some P)
theorem routeReq_any {w : World} {P g : Nat} {l : List UInt8} {r : RS} {s : St} (hpar : Par w P (some g) s) (h : RdS w g bv l r) (hl : l.length ≤ 100000) :
    Calls Try.prog 62 #[.pointer (some ⟨P, 0, none⟩)] w fun e w' => SayR w (rrK s l r) (rrB s l r) e w' ∧ (∃ R, Par w' P R s) ∧ Mv w w' P g := by
  unfold rrK rrB
  by_cases h0 : r.val l 1 = 0
  · rw [if_pos h0, if_pos h0]; exact routeReq_0 hpar h hl h0
  · rw [if_neg h0, if_neg h0]; exact routeReq_1 hpar h hl h0
/-- A method that only reads. -/
theorem said_now {w : World} {P g : Nat} {l : List UInt8} {r : RS} {s : St} {k : TK} {b : Bool} {f : Nat} {av : Array Value} (hpar : Par w P (some g) s) (h : RdS w g bv l r) (hc : Calls Try.prog f av w fun e w' => SayR w k b e w' ∧ ∃ r', NowS w w' g bv l r') :
    Calls Try.prog f av w fun e w' => SayR w k b e w' ∧ (∃ R, Par w' P R s) ∧ Mv w w' P g :=
  hc.mono fun _ _ ⟨h1, _, h2⟩ => ⟨h1, ⟨_, hpar.now h h2⟩, Mv.ofNow h2⟩
theorem Par.c11 {w : World} {P : Nat} {R : Option Nat} {s : St} (h : Par w P R s) : ∃ v, w.cell? ⟨P, 11, none⟩ = some v := by
  obtain ⟨r, h4, h6, d1, d2, k0, _⟩ := h.ex
  exact ⟨_, k0.cell 11⟩
theorem say_2 {w : World} {P : Nat} {R : Option Nat} {s : St} (a : Option Addr) (n c : Nat) (l : List UInt8) (hs : Src w a n c (bcells l)) (hl : l.length ≤ 100000) (hpar : Par w P R s) :
    Calls Try.prog 33 #[.pointer (some ⟨P, 0, none⟩), .agg #[.int .u8 2, .slice a n c]] w (Said w P s (aqK l r0) (aqB l r0)) := by
  have hPl := hpar.lt
  have hn : n ≤ 140737488355328 := by have := hs.blen; omega
  obtain ⟨KK, hK⟩ : ∃ x, Hid (aqK l r0 = x) := ⟨_, rfl⟩
  obtain ⟨BB, hB⟩ : ∃ x, Hid (aqB l r0 = x) := ⟨_, rfl⟩
  obtain ⟨SS, hS⟩ : ∃ x, Hid (s = x) := ⟨_, rfl⟩
  rw [hK.out, hB.out, hS.out]
  have HM : Hid (∀ (W : World) (g : Nat) (bv : Option Addr), Par W P (some g) s → RdS W g bv l r0 → Calls Try.prog 55 #[.pointer (some ⟨P, 0, none⟩)] W fun e w' => SayR W KK BB e w' ∧ (∃ R, Par w' P R SS) ∧ Mv W w' P g) := fun W g bv P3 R3 => by
    rw [← hK.out, ← hB.out, ← hS.out]
    exact said_now P3 R3 (ackReq_any (P3.pg R3) R3 hl)
  go_enter Try.func33, Try.ntmps33
  go_wp2_with (first
    | (have kk := m4; refine stT (.tmp 4) (.tmp 18) (by rfl) rfl gA tt _ rfl rfl rA4 ?_; intro w5 hg5 r5)
    | (go_at_call 55; have kk := P3; refine (HM.out _ _ _ P3 R3).mono ?_; rintro e w4 ⟨⟨tt, rfl, htt, st4⟩, ⟨R4, P4⟩, m4⟩; have rA4 := m4.row rA3 (by omega) (by omega))
    | (go_at_call 46; refine (new_any a n c l _ ((hs.alloc _).below a3 (hs.alloc _).lt) hn).mono ?_; rintro e w2 ⟨g, bv, rfl, hge, hbv, hr2, hb2⟩; have bb := bt (bt (ba w (.cells #[.int .u8 2, .slice a n c] 72)) a3) hb2; have sA := a3.size; have hA0 : w.heap.size ≤ gA := (by simp at a1; omega); have hg0 : w.heap.size ≤ g := (by simp at sA; omega); have P2 := hpar.below bb; have c2 : ∃ v, w2.cell? ⟨P, 11, none⟩ = some v := P2.c11; have f2 := P2.frozen 11; have P3 := P2.setR (g := g); have hgP : g ≠ P := (by omega); have R3 : RdS (w2.setCell ⟨P, 11, none⟩ (.pointer (some ⟨g, 0, none⟩))) g bv l r0 := rd_far (r := r0) hr2 (grownBy_setCell _ _ _ _) hgP (fun ad had _ => by have := hbv ad had; simp at sA; omega); have M3 : Mv w (w2.setCell ⟨P, 11, none⟩ (.pointer (some ⟨g, 0, none⟩))) P g := (Mv.ofB bb).setP 11 _; have rA2 := rA.below hb2 a2; have rA3 := rA2.setOther P 11 (.pointer (some ⟨g, 0, none⟩)) (by omega); have hAg : gA < g := Nat.lt_of_lt_of_le a2 hge; obtain ⟨v2, c2⟩ := c2; have c0 : w2.cell? ⟨w.heap.size, 0, none⟩ = some (.int .u8 2) := (hb2.cell (p := ⟨w.heap.size, 0, none⟩) (by simp at sA; show w.heap.size < _; omega)).trans ((a3.cell (p := ⟨w.heap.size, 0, none⟩) (by simp)).trans ((Row.new w 72 [.int .u8 2, .slice a n c]).cell 0)))
    | (refine alG infoTz (by rfl) rfl ?_; intro gA wA a1 a2 a3 rA; have cb : wA.cell? ⟨w.heap.size, 1, none⟩ = some (.slice a n c) := (a3.cell (p := ⟨w.heap.size, 1, none⟩) (by simp)).trans ((Row.new w 72 [.int .u8 2, .slice a n c]).cell 1)))
  have M5 := (M3.trans m4).fresh hg5 hA0
  have st5 : Stms w.heap.size w5 tt := own_keep (own_le st4 M3.size) hg5 (.inl (fun e => own_ne st4 rA4 (by decide) e.symm))
  have P5 := P4.fresh hg5 (rA4.kind (by decide) (by decide) (by decide))
  exact bodyPost_ret (retCT rfl _ _ 0 rfl (lvT r5)) rfl ⟨⟨tt, rfl, htt, st5⟩, ⟨_, P5⟩, Mv.low M5 (Below.refl _ _) hg0⟩
theorem say_3 {w : World} {P : Nat} {R : Option Nat} {s : St} (a : Option Addr) (n c : Nat) (l : List UInt8) (hs : Src w a n c (bcells l)) (hl : l.length ≤ 100000) (hpar : Par w P R s) :
    Calls Try.prog 33 #[.pointer (some ⟨P, 0, none⟩), .agg #[.int .u8 3, .slice a n c]] w (Said w P s (ackK l r0) (ackB l r0)) := by
  have hPl := hpar.lt
  have hn : n ≤ 140737488355328 := by have := hs.blen; omega
  obtain ⟨KK, hK⟩ : ∃ x, Hid (ackK l r0 = x) := ⟨_, rfl⟩
  obtain ⟨BB, hB⟩ : ∃ x, Hid (ackB l r0 = x) := ⟨_, rfl⟩
  obtain ⟨SS, hS⟩ : ∃ x, Hid (s = x) := ⟨_, rfl⟩
  rw [hK.out, hB.out, hS.out]
  have HM : Hid (∀ (W : World) (g : Nat) (bv : Option Addr), Par W P (some g) s → RdS W g bv l r0 → Calls Try.prog 56 #[.pointer (some ⟨P, 0, none⟩)] W fun e w' => SayR W KK BB e w' ∧ (∃ R, Par w' P R SS) ∧ Mv W w' P g) := fun W g bv P3 R3 => by
    rw [← hK.out, ← hB.out, ← hS.out]
    exact said_now P3 R3 (ack_any (P3.pg R3) R3 hl)
  go_enter Try.func33, Try.ntmps33
  go_wp2_with (first
    | (have kk := m4; refine stT (.tmp 4) (.tmp 24) (by rfl) rfl gA tt _ rfl rfl rA4 ?_; intro w5 hg5 r5)
    | (go_at_call 56; have kk := P3; refine (HM.out _ _ _ P3 R3).mono ?_; rintro e w4 ⟨⟨tt, rfl, htt, st4⟩, ⟨R4, P4⟩, m4⟩; have rA4 := m4.row rA3 (by omega) (by omega))
    | (go_at_call 46; refine (new_any a n c l _ ((hs.alloc _).below a3 (hs.alloc _).lt) hn).mono ?_; rintro e w2 ⟨g, bv, rfl, hge, hbv, hr2, hb2⟩; have bb := bt (bt (ba w (.cells #[.int .u8 3, .slice a n c] 72)) a3) hb2; have sA := a3.size; have hA0 : w.heap.size ≤ gA := (by simp at a1; omega); have hg0 : w.heap.size ≤ g := (by simp at sA; omega); have P2 := hpar.below bb; have c2 : ∃ v, w2.cell? ⟨P, 11, none⟩ = some v := P2.c11; have f2 := P2.frozen 11; have P3 := P2.setR (g := g); have hgP : g ≠ P := (by omega); have R3 : RdS (w2.setCell ⟨P, 11, none⟩ (.pointer (some ⟨g, 0, none⟩))) g bv l r0 := rd_far (r := r0) hr2 (grownBy_setCell _ _ _ _) hgP (fun ad had _ => by have := hbv ad had; simp at sA; omega); have M3 : Mv w (w2.setCell ⟨P, 11, none⟩ (.pointer (some ⟨g, 0, none⟩))) P g := (Mv.ofB bb).setP 11 _; have rA2 := rA.below hb2 a2; have rA3 := rA2.setOther P 11 (.pointer (some ⟨g, 0, none⟩)) (by omega); have hAg : gA < g := Nat.lt_of_lt_of_le a2 hge; obtain ⟨v2, c2⟩ := c2; have c0 : w2.cell? ⟨w.heap.size, 0, none⟩ = some (.int .u8 3) := (hb2.cell (p := ⟨w.heap.size, 0, none⟩) (by simp at sA; show w.heap.size < _; omega)).trans ((a3.cell (p := ⟨w.heap.size, 0, none⟩) (by simp)).trans ((Row.new w 72 [.int .u8 3, .slice a n c]).cell 0)))
    | (refine alG infoTz (by rfl) rfl ?_; intro gA wA a1 a2 a3 rA; have cb : wA.cell? ⟨w.heap.size, 1, none⟩ = some (.slice a n c) := (a3.cell (p := ⟨w.heap.size, 1, none⟩) (by simp)).trans ((Row.new w 72 [.int .u8 3, .slice a n c]).cell 1)))
  have M5 := (M3.trans m4).fresh hg5 hA0
  have st5 : Stms w.heap.size w5 tt := own_keep (own_le st4 M3.size) hg5 (.inl (fun e => own_ne st4 rA4 (by decide) e.symm))
  have P5 := P4.fresh hg5 (rA4.kind (by decide) (by decide) (by decide))
  exact bodyPost_ret (retCT rfl _ _ 0 rfl (lvT r5)) rfl ⟨⟨tt, rfl, htt, st5⟩, ⟨_, P5⟩, Mv.low M5 (Below.refl _ _) hg0⟩
theorem say_4 {w : World} {P : Nat} {R : Option Nat} {s : St} (a : Option Addr) (n c : Nat) (l : List UInt8) (hs : Src w a n c (bcells l)) (hl : l.length ≤ 100000) (hpar : Par w P R s) :
    Calls Try.prog 33 #[.pointer (some ⟨P, 0, none⟩), .agg #[.int .u8 4, .slice a n c]] w (Said w P s (heK l r0) (heB l r0)) := by
  have hPl := hpar.lt
  have hn : n ≤ 140737488355328 := by have := hs.blen; omega
  obtain ⟨KK, hK⟩ : ∃ x, Hid (heK l r0 = x) := ⟨_, rfl⟩
  obtain ⟨BB, hB⟩ : ∃ x, Hid (heB l r0 = x) := ⟨_, rfl⟩
  obtain ⟨SS, hS⟩ : ∃ x, Hid (s = x) := ⟨_, rfl⟩
  rw [hK.out, hB.out, hS.out]
  have HM : Hid (∀ (W : World) (g : Nat) (bv : Option Addr), Par W P (some g) s → RdS W g bv l r0 → Calls Try.prog 57 #[.pointer (some ⟨P, 0, none⟩)] W fun e w' => SayR W KK BB e w' ∧ (∃ R, Par w' P R SS) ∧ Mv W w' P g) := fun W g bv P3 R3 => by
    rw [← hK.out, ← hB.out, ← hS.out]
    exact said_now P3 R3 (hello_any (P3.pg R3) R3 hl)
  go_enter Try.func33, Try.ntmps33
  go_wp2_with (first
    | (have kk := m4; refine stT (.tmp 4) (.tmp 30) (by rfl) rfl gA tt _ rfl rfl rA4 ?_; intro w5 hg5 r5)
    | (go_at_call 57; have kk := P3; refine (HM.out _ _ _ P3 R3).mono ?_; rintro e w4 ⟨⟨tt, rfl, htt, st4⟩, ⟨R4, P4⟩, m4⟩; have rA4 := m4.row rA3 (by omega) (by omega))
    | (go_at_call 46; refine (new_any a n c l _ ((hs.alloc _).below a3 (hs.alloc _).lt) hn).mono ?_; rintro e w2 ⟨g, bv, rfl, hge, hbv, hr2, hb2⟩; have bb := bt (bt (ba w (.cells #[.int .u8 4, .slice a n c] 72)) a3) hb2; have sA := a3.size; have hA0 : w.heap.size ≤ gA := (by simp at a1; omega); have hg0 : w.heap.size ≤ g := (by simp at sA; omega); have P2 := hpar.below bb; have c2 : ∃ v, w2.cell? ⟨P, 11, none⟩ = some v := P2.c11; have f2 := P2.frozen 11; have P3 := P2.setR (g := g); have hgP : g ≠ P := (by omega); have R3 : RdS (w2.setCell ⟨P, 11, none⟩ (.pointer (some ⟨g, 0, none⟩))) g bv l r0 := rd_far (r := r0) hr2 (grownBy_setCell _ _ _ _) hgP (fun ad had _ => by have := hbv ad had; simp at sA; omega); have M3 : Mv w (w2.setCell ⟨P, 11, none⟩ (.pointer (some ⟨g, 0, none⟩))) P g := (Mv.ofB bb).setP 11 _; have rA2 := rA.below hb2 a2; have rA3 := rA2.setOther P 11 (.pointer (some ⟨g, 0, none⟩)) (by omega); have hAg : gA < g := Nat.lt_of_lt_of_le a2 hge; obtain ⟨v2, c2⟩ := c2; have c0 : w2.cell? ⟨w.heap.size, 0, none⟩ = some (.int .u8 4) := (hb2.cell (p := ⟨w.heap.size, 0, none⟩) (by simp at sA; show w.heap.size < _; omega)).trans ((a3.cell (p := ⟨w.heap.size, 0, none⟩) (by simp)).trans ((Row.new w 72 [.int .u8 4, .slice a n c]).cell 0)))
    | (refine alG infoTz (by rfl) rfl ?_; intro gA wA a1 a2 a3 rA; have cb : wA.cell? ⟨w.heap.size, 1, none⟩ = some (.slice a n c) := (a3.cell (p := ⟨w.heap.size, 1, none⟩) (by simp)).trans ((Row.new w 72 [.int .u8 4, .slice a n c]).cell 1)))
  have M5 := (M3.trans m4).fresh hg5 hA0
  have st5 : Stms w.heap.size w5 tt := own_keep (own_le st4 M3.size) hg5 (.inl (fun e => own_ne st4 rA4 (by decide) e.symm))
  have P5 := P4.fresh hg5 (rA4.kind (by decide) (by decide) (by decide))
  exact bodyPost_ret (retCT rfl _ _ 0 rfl (lvT r5)) rfl ⟨⟨tt, rfl, htt, st5⟩, ⟨_, P5⟩, Mv.low M5 (Below.refl _ _) hg0⟩
theorem say_5 {w : World} {P : Nat} {R : Option Nat} {s : St} (a : Option Addr) (n c : Nat) (l : List UInt8) (hs : Src w a n c (bcells l)) (hl : l.length ≤ 100000) (hpar : Par w P R s) :
    Calls Try.prog 33 #[.pointer (some ⟨P, 0, none⟩), .agg #[.int .u8 5, .slice a n c]] w (Said w P s (ihK l r0) (ihB l r0)) := by
  have hPl := hpar.lt
  have hn : n ≤ 140737488355328 := by have := hs.blen; omega
  obtain ⟨KK, hK⟩ : ∃ x, Hid (ihK l r0 = x) := ⟨_, rfl⟩
  obtain ⟨BB, hB⟩ : ∃ x, Hid (ihB l r0 = x) := ⟨_, rfl⟩
  obtain ⟨SS, hS⟩ : ∃ x, Hid (s = x) := ⟨_, rfl⟩
  rw [hK.out, hB.out, hS.out]
  have HM : Hid (∀ (W : World) (g : Nat) (bv : Option Addr), Par W P (some g) s → RdS W g bv l r0 → Calls Try.prog 58 #[.pointer (some ⟨P, 0, none⟩)] W fun e w' => SayR W KK BB e w' ∧ (∃ R, Par w' P R SS) ∧ Mv W w' P g) := fun W g bv P3 R3 => by
    rw [← hK.out, ← hB.out, ← hS.out]
    exact said_now P3 R3 (ihu_any (P3.pg R3) R3 hl)
  go_enter Try.func33, Try.ntmps33
  go_wp2_with (first
    | (have kk := m4; refine stT (.tmp 4) (.tmp 36) (by rfl) rfl gA tt _ rfl rfl rA4 ?_; intro w5 hg5 r5)
    | (go_at_call 58; have kk := P3; refine (HM.out _ _ _ P3 R3).mono ?_; rintro e w4 ⟨⟨tt, rfl, htt, st4⟩, ⟨R4, P4⟩, m4⟩; have rA4 := m4.row rA3 (by omega) (by omega))
    | (go_at_call 46; refine (new_any a n c l _ ((hs.alloc _).below a3 (hs.alloc _).lt) hn).mono ?_; rintro e w2 ⟨g, bv, rfl, hge, hbv, hr2, hb2⟩; have bb := bt (bt (ba w (.cells #[.int .u8 5, .slice a n c] 72)) a3) hb2; have sA := a3.size; have hA0 : w.heap.size ≤ gA := (by simp at a1; omega); have hg0 : w.heap.size ≤ g := (by simp at sA; omega); have P2 := hpar.below bb; have c2 : ∃ v, w2.cell? ⟨P, 11, none⟩ = some v := P2.c11; have f2 := P2.frozen 11; have P3 := P2.setR (g := g); have hgP : g ≠ P := (by omega); have R3 : RdS (w2.setCell ⟨P, 11, none⟩ (.pointer (some ⟨g, 0, none⟩))) g bv l r0 := rd_far (r := r0) hr2 (grownBy_setCell _ _ _ _) hgP (fun ad had _ => by have := hbv ad had; simp at sA; omega); have M3 : Mv w (w2.setCell ⟨P, 11, none⟩ (.pointer (some ⟨g, 0, none⟩))) P g := (Mv.ofB bb).setP 11 _; have rA2 := rA.below hb2 a2; have rA3 := rA2.setOther P 11 (.pointer (some ⟨g, 0, none⟩)) (by omega); have hAg : gA < g := Nat.lt_of_lt_of_le a2 hge; obtain ⟨v2, c2⟩ := c2; have c0 : w2.cell? ⟨w.heap.size, 0, none⟩ = some (.int .u8 5) := (hb2.cell (p := ⟨w.heap.size, 0, none⟩) (by simp at sA; show w.heap.size < _; omega)).trans ((a3.cell (p := ⟨w.heap.size, 0, none⟩) (by simp)).trans ((Row.new w 72 [.int .u8 5, .slice a n c]).cell 0)))
    | (refine alG infoTz (by rfl) rfl ?_; intro gA wA a1 a2 a3 rA; have cb : wA.cell? ⟨w.heap.size, 1, none⟩ = some (.slice a n c) := (a3.cell (p := ⟨w.heap.size, 1, none⟩) (by simp)).trans ((Row.new w 72 [.int .u8 5, .slice a n c]).cell 1)))
  have M5 := (M3.trans m4).fresh hg5 hA0
  have st5 : Stms w.heap.size w5 tt := own_keep (own_le st4 M3.size) hg5 (.inl (fun e => own_ne st4 rA4 (by decide) e.symm))
  have P5 := P4.fresh hg5 (rA4.kind (by decide) (by decide) (by decide))
  exact bodyPost_ret (retCT rfl _ _ 0 rfl (lvT r5)) rfl ⟨⟨tt, rfl, htt, st5⟩, ⟨_, P5⟩, Mv.low M5 (Below.refl _ _) hg0⟩
theorem say_8 {w : World} {P : Nat} {R : Option Nat} {s : St} (a : Option Addr) (n c : Nat) (l : List UInt8) (hs : Src w a n c (bcells l)) (hl : l.length ≤ 100000) (hpar : Par w P R s) :
    Calls Try.prog 33 #[.pointer (some ⟨P, 0, none⟩), .agg #[.int .u8 8, .slice a n c]] w (Said w P (upS s l r0) (upK s l r0) (upB s l r0)) := by
  have hPl := hpar.lt
  have hn : n ≤ 140737488355328 := by have := hs.blen; omega
  obtain ⟨KK, hK⟩ : ∃ x, Hid (upK s l r0 = x) := ⟨_, rfl⟩
  obtain ⟨BB, hB⟩ : ∃ x, Hid (upB s l r0 = x) := ⟨_, rfl⟩
  obtain ⟨SS, hS⟩ : ∃ x, Hid ((upS s l r0) = x) := ⟨_, rfl⟩
  rw [hK.out, hB.out, hS.out]
  have HM : Hid (∀ (W : World) (g : Nat) (bv : Option Addr), Par W P (some g) s → RdS W g bv l r0 → Calls Try.prog 61 #[.pointer (some ⟨P, 0, none⟩)] W fun e w' => SayR W KK BB e w' ∧ (∃ R, Par w' P R SS) ∧ Mv W w' P g) := fun W g bv P3 R3 => by
    rw [← hK.out, ← hB.out, ← hS.out]
    exact update_any P3 R3 hl
  go_enter Try.func33, Try.ntmps33
  go_wp2_with (first
    | (have kk := m4; refine stT (.tmp 4) (.tmp 50) (by rfl) rfl gA tt _ rfl rfl rA4 ?_; intro w5 hg5 r5)
    | (go_at_call 61; have kk := P3; refine (HM.out _ _ _ P3 R3).mono ?_; rintro e w4 ⟨⟨tt, rfl, htt, st4⟩, ⟨R4, P4⟩, m4⟩; have rA4 := m4.row rA3 (by omega) (by omega))
    | (go_at_call 46; refine (new_any a n c l _ ((hs.alloc _).below a3 (hs.alloc _).lt) hn).mono ?_; rintro e w2 ⟨g, bv, rfl, hge, hbv, hr2, hb2⟩; have bb := bt (bt (ba w (.cells #[.int .u8 8, .slice a n c] 72)) a3) hb2; have sA := a3.size; have hA0 : w.heap.size ≤ gA := (by simp at a1; omega); have hg0 : w.heap.size ≤ g := (by simp at sA; omega); have P2 := hpar.below bb; have c2 : ∃ v, w2.cell? ⟨P, 11, none⟩ = some v := P2.c11; have f2 := P2.frozen 11; have P3 := P2.setR (g := g); have hgP : g ≠ P := (by omega); have R3 : RdS (w2.setCell ⟨P, 11, none⟩ (.pointer (some ⟨g, 0, none⟩))) g bv l r0 := rd_far (r := r0) hr2 (grownBy_setCell _ _ _ _) hgP (fun ad had _ => by have := hbv ad had; simp at sA; omega); have M3 : Mv w (w2.setCell ⟨P, 11, none⟩ (.pointer (some ⟨g, 0, none⟩))) P g := (Mv.ofB bb).setP 11 _; have rA2 := rA.below hb2 a2; have rA3 := rA2.setOther P 11 (.pointer (some ⟨g, 0, none⟩)) (by omega); have hAg : gA < g := Nat.lt_of_lt_of_le a2 hge; obtain ⟨v2, c2⟩ := c2; have c0 : w2.cell? ⟨w.heap.size, 0, none⟩ = some (.int .u8 8) := (hb2.cell (p := ⟨w.heap.size, 0, none⟩) (by simp at sA; show w.heap.size < _; omega)).trans ((a3.cell (p := ⟨w.heap.size, 0, none⟩) (by simp)).trans ((Row.new w 72 [.int .u8 8, .slice a n c]).cell 0)))
    | (refine alG infoTz (by rfl) rfl ?_; intro gA wA a1 a2 a3 rA; have cb : wA.cell? ⟨w.heap.size, 1, none⟩ = some (.slice a n c) := (a3.cell (p := ⟨w.heap.size, 1, none⟩) (by simp)).trans ((Row.new w 72 [.int .u8 8, .slice a n c]).cell 1)))
  have M5 := (M3.trans m4).fresh hg5 hA0
  have st5 : Stms w.heap.size w5 tt := own_keep (own_le st4 M3.size) hg5 (.inl (fun e => own_ne st4 rA4 (by decide) e.symm))
  have P5 := P4.fresh hg5 (rA4.kind (by decide) (by decide) (by decide))
  exact bodyPost_ret (retCT rfl _ _ 0 rfl (lvT r5)) rfl ⟨⟨tt, rfl, htt, st5⟩, ⟨_, P5⟩, Mv.low M5 (Below.refl _ _) hg0⟩
theorem say_9 {w : World} {P : Nat} {R : Option Nat} {s : St} (a : Option Addr) (n c : Nat) (l : List UInt8) (hs : Src w a n c (bcells l)) (hl : l.length ≤ 100000) (hpar : Par w P R s) :
    Calls Try.prog 33 #[.pointer (some ⟨P, 0, none⟩), .agg #[.int .u8 9, .slice a n c]] w (Said w P s (rrK s l r0) (rrB s l r0)) := by
  have hPl := hpar.lt
  have hn : n ≤ 140737488355328 := by have := hs.blen; omega
  obtain ⟨KK, hK⟩ : ∃ x, Hid (rrK s l r0 = x) := ⟨_, rfl⟩
  obtain ⟨BB, hB⟩ : ∃ x, Hid (rrB s l r0 = x) := ⟨_, rfl⟩
  obtain ⟨SS, hS⟩ : ∃ x, Hid (s = x) := ⟨_, rfl⟩
  rw [hK.out, hB.out, hS.out]
  have HM : Hid (∀ (W : World) (g : Nat) (bv : Option Addr), Par W P (some g) s → RdS W g bv l r0 → Calls Try.prog 62 #[.pointer (some ⟨P, 0, none⟩)] W fun e w' => SayR W KK BB e w' ∧ (∃ R, Par w' P R SS) ∧ Mv W w' P g) := fun W g bv P3 R3 => by
    rw [← hK.out, ← hB.out, ← hS.out]
    exact routeReq_any P3 R3 hl
  go_enter Try.func33, Try.ntmps33
  go_wp2_with (first
    | (have kk := m4; refine stT (.tmp 4) (.tmp 56) (by rfl) rfl gA tt _ rfl rfl rA4 ?_; intro w5 hg5 r5)
    | (go_at_call 62; have kk := P3; refine (HM.out _ _ _ P3 R3).mono ?_; rintro e w4 ⟨⟨tt, rfl, htt, st4⟩, ⟨R4, P4⟩, m4⟩; have rA4 := m4.row rA3 (by omega) (by omega))
    | (go_at_call 46; refine (new_any a n c l _ ((hs.alloc _).below a3 (hs.alloc _).lt) hn).mono ?_; rintro e w2 ⟨g, bv, rfl, hge, hbv, hr2, hb2⟩; have bb := bt (bt (ba w (.cells #[.int .u8 9, .slice a n c] 72)) a3) hb2; have sA := a3.size; have hA0 : w.heap.size ≤ gA := (by simp at a1; omega); have hg0 : w.heap.size ≤ g := (by simp at sA; omega); have P2 := hpar.below bb; have c2 : ∃ v, w2.cell? ⟨P, 11, none⟩ = some v := P2.c11; have f2 := P2.frozen 11; have P3 := P2.setR (g := g); have hgP : g ≠ P := (by omega); have R3 : RdS (w2.setCell ⟨P, 11, none⟩ (.pointer (some ⟨g, 0, none⟩))) g bv l r0 := rd_far (r := r0) hr2 (grownBy_setCell _ _ _ _) hgP (fun ad had _ => by have := hbv ad had; simp at sA; omega); have M3 : Mv w (w2.setCell ⟨P, 11, none⟩ (.pointer (some ⟨g, 0, none⟩))) P g := (Mv.ofB bb).setP 11 _; have rA2 := rA.below hb2 a2; have rA3 := rA2.setOther P 11 (.pointer (some ⟨g, 0, none⟩)) (by omega); have hAg : gA < g := Nat.lt_of_lt_of_le a2 hge; obtain ⟨v2, c2⟩ := c2; have c0 : w2.cell? ⟨w.heap.size, 0, none⟩ = some (.int .u8 9) := (hb2.cell (p := ⟨w.heap.size, 0, none⟩) (by simp at sA; show w.heap.size < _; omega)).trans ((a3.cell (p := ⟨w.heap.size, 0, none⟩) (by simp)).trans ((Row.new w 72 [.int .u8 9, .slice a n c]).cell 0)))
    | (refine alG infoTz (by rfl) rfl ?_; intro gA wA a1 a2 a3 rA; have cb : wA.cell? ⟨w.heap.size, 1, none⟩ = some (.slice a n c) := (a3.cell (p := ⟨w.heap.size, 1, none⟩) (by simp)).trans ((Row.new w 72 [.int .u8 9, .slice a n c]).cell 1)))
  have M5 := (M3.trans m4).fresh hg5 hA0
  have st5 : Stms w.heap.size w5 tt := own_keep (own_le st4 M3.size) hg5 (.inl (fun e => own_ne st4 rA4 (by decide) e.symm))
  have P5 := P4.fresh hg5 (rA4.kind (by decide) (by decide) (by decide))
  exact bodyPost_ret (retCT rfl _ _ 0 rfl (lvT r5)) rfl ⟨⟨tt, rfl, htt, st5⟩, ⟨_, P5⟩, Mv.low M5 (Below.refl _ _) hg0⟩
theorem say_10 {w : World} {P : Nat} {R : Option Nat} {s : St} (a : Option Addr) (n c : Nat) (l : List UInt8) (hs : Src w a n c (bcells l)) (hl : l.length ≤ 100000) (hpar : Par w P R s) :
    Calls Try.prog 33 #[.pointer (some ⟨P, 0, none⟩), .agg #[.int .u8 10, .slice a n c]] w (Said w P s (sqK s l r0) (sqB s l r0)) := by
  have hPl := hpar.lt
  have hn : n ≤ 140737488355328 := by have := hs.blen; omega
  obtain ⟨KK, hK⟩ : ∃ x, Hid (sqK s l r0 = x) := ⟨_, rfl⟩
  obtain ⟨BB, hB⟩ : ∃ x, Hid (sqB s l r0 = x) := ⟨_, rfl⟩
  obtain ⟨SS, hS⟩ : ∃ x, Hid (s = x) := ⟨_, rfl⟩
  rw [hK.out, hB.out, hS.out]
  have HM : Hid (∀ (W : World) (g : Nat) (bv : Option Addr), Par W P (some g) s → RdS W g bv l r0 → Calls Try.prog 63 #[.pointer (some ⟨P, 0, none⟩)] W fun e w' => SayR W KK BB e w' ∧ (∃ R, Par w' P R SS) ∧ Mv W w' P g) := fun W g bv P3 R3 => by
    rw [← hK.out, ← hB.out, ← hS.out]
    exact seqnoReq_any P3 R3 hl
  go_enter Try.func33, Try.ntmps33
  go_wp2_with (first
    | (have kk := m4; refine stT (.tmp 4) (.tmp 62) (by rfl) rfl gA tt _ rfl rfl rA4 ?_; intro w5 hg5 r5)
    | (go_at_call 63; have kk := P3; refine (HM.out _ _ _ P3 R3).mono ?_; rintro e w4 ⟨⟨tt, rfl, htt, st4⟩, ⟨R4, P4⟩, m4⟩; have rA4 := m4.row rA3 (by omega) (by omega))
    | (go_at_call 46; refine (new_any a n c l _ ((hs.alloc _).below a3 (hs.alloc _).lt) hn).mono ?_; rintro e w2 ⟨g, bv, rfl, hge, hbv, hr2, hb2⟩; have bb := bt (bt (ba w (.cells #[.int .u8 10, .slice a n c] 72)) a3) hb2; have sA := a3.size; have hA0 : w.heap.size ≤ gA := (by simp at a1; omega); have hg0 : w.heap.size ≤ g := (by simp at sA; omega); have P2 := hpar.below bb; have c2 : ∃ v, w2.cell? ⟨P, 11, none⟩ = some v := P2.c11; have f2 := P2.frozen 11; have P3 := P2.setR (g := g); have hgP : g ≠ P := (by omega); have R3 : RdS (w2.setCell ⟨P, 11, none⟩ (.pointer (some ⟨g, 0, none⟩))) g bv l r0 := rd_far (r := r0) hr2 (grownBy_setCell _ _ _ _) hgP (fun ad had _ => by have := hbv ad had; simp at sA; omega); have M3 : Mv w (w2.setCell ⟨P, 11, none⟩ (.pointer (some ⟨g, 0, none⟩))) P g := (Mv.ofB bb).setP 11 _; have rA2 := rA.below hb2 a2; have rA3 := rA2.setOther P 11 (.pointer (some ⟨g, 0, none⟩)) (by omega); have hAg : gA < g := Nat.lt_of_lt_of_le a2 hge; obtain ⟨v2, c2⟩ := c2; have c0 : w2.cell? ⟨w.heap.size, 0, none⟩ = some (.int .u8 10) := (hb2.cell (p := ⟨w.heap.size, 0, none⟩) (by simp at sA; show w.heap.size < _; omega)).trans ((a3.cell (p := ⟨w.heap.size, 0, none⟩) (by simp)).trans ((Row.new w 72 [.int .u8 10, .slice a n c]).cell 0)))
    | (refine alG infoTz (by rfl) rfl ?_; intro gA wA a1 a2 a3 rA; have cb : wA.cell? ⟨w.heap.size, 1, none⟩ = some (.slice a n c) := (a3.cell (p := ⟨w.heap.size, 1, none⟩) (by simp)).trans ((Row.new w 72 [.int .u8 10, .slice a n c]).cell 1)))
  have M5 := (M3.trans m4).fresh hg5 hA0
  have st5 : Stms w.heap.size w5 tt := own_keep (own_le st4 M3.size) hg5 (.inl (fun e => own_ne st4 rA4 (by decide) e.symm))
  have P5 := P4.fresh hg5 (rA4.kind (by decide) (by decide) (by decide))
  exact bodyPost_ret (retCT rfl _ _ 0 rfl (lvT r5)) rfl ⟨⟨tt, rfl, htt, st5⟩, ⟨_, P5⟩, Mv.low M5 (Below.refl _ _) hg0⟩
theorem say_6 {w : World} {P : Nat} {R : Option Nat} {s : St} (a : Option Addr) (n c : Nat) (l : List UInt8) (hs : Src w a n c (bcells l))  (hn : n ≤ 140737488355328) (hpar : Par w P R s) :
    Calls Try.prog 33 #[.pointer (some ⟨P, 0, none⟩), .agg #[.int .u8 6, .slice a n c]] w (Said w P (riS s l r0) zeroK false) := by
  have hPl := hpar.lt
  go_enter Try.func33, Try.ntmps33
  go_wp2_with (first
    | (have kk := m4; refine stT (.tmp 4) (.tmp 64) (by rfl) rfl gA zeroT _ rfl rfl rA4 ?_; intro w5 hg5 r5)
    | (go_at_call 59; have kk := P3; refine (routerId_any P3 R3).mono ?_; rintro e w4 ⟨rfl, P4, m4⟩; have rA4 := m4.row rA3 (by omega) (by omega))
    | (go_at_call 46; refine (new_any a n c l _ ((hs.alloc _).below a3 (hs.alloc _).lt) hn).mono ?_; rintro e w2 ⟨g, bv, rfl, hge, hbv, hr2, hb2⟩; have bb := bt (bt (ba w (.cells #[.int .u8 6, .slice a n c] 72)) a3) hb2; have sA := a3.size; have hA0 : w.heap.size ≤ gA := (by simp at a1; omega); have hg0 : w.heap.size ≤ g := (by simp at sA; omega); have P2 := hpar.below bb; have c2 : ∃ v, w2.cell? ⟨P, 11, none⟩ = some v := P2.c11; have f2 := P2.frozen 11; have P3 := P2.setR (g := g); have hgP : g ≠ P := (by omega); have R3 : RdS (w2.setCell ⟨P, 11, none⟩ (.pointer (some ⟨g, 0, none⟩))) g bv l r0 := rd_far (r := r0) hr2 (grownBy_setCell _ _ _ _) hgP (fun ad had _ => by have := hbv ad had; simp at sA; omega); have M3 : Mv w (w2.setCell ⟨P, 11, none⟩ (.pointer (some ⟨g, 0, none⟩))) P g := (Mv.ofB bb).setP 11 _; have rA2 := rA.below hb2 a2; have rA3 := rA2.setOther P 11 (.pointer (some ⟨g, 0, none⟩)) (by omega); have hAg : gA < g := Nat.lt_of_lt_of_le a2 hge; obtain ⟨v2, c2⟩ := c2; have c0 : w2.cell? ⟨w.heap.size, 0, none⟩ = some (.int .u8 6) := (hb2.cell (p := ⟨w.heap.size, 0, none⟩) (by simp at sA; show w.heap.size < _; omega)).trans ((a3.cell (p := ⟨w.heap.size, 0, none⟩) (by simp)).trans ((Row.new w 72 [.int .u8 6, .slice a n c]).cell 0)))
    | (refine alG infoTz (by rfl) rfl ?_; intro gA wA a1 a2 a3 rA; have cb : wA.cell? ⟨w.heap.size, 1, none⟩ = some (.slice a n c) := (a3.cell (p := ⟨w.heap.size, 1, none⟩) (by simp)).trans ((Row.new w 72 [.int .u8 6, .slice a n c]).cell 1)))
  have M5 := (M3.trans m4).fresh hg5 hA0
  have P5 := P4.fresh hg5 (rA4.kind (by decide) (by decide) (by decide))
  exact bodyPost_ret (retCT rfl _ _ 0 rfl (lvT r5)) rfl ⟨⟨zeroT, rfl, (fun e => by cases e), Stms.none _ _ _ rfl rfl rfl rfl⟩, ⟨_, P5⟩, Mv.low M5 (Below.refl _ _) hg0⟩
theorem say_7 {w : World} {P : Nat} {R : Option Nat} {s : St} (a : Option Addr) (n c : Nat) (l : List UInt8) (hs : Src w a n c (bcells l))  (hn : n ≤ 140737488355328) (hpar : Par w P R s) :
    Calls Try.prog 33 #[.pointer (some ⟨P, 0, none⟩), .agg #[.int .u8 7, .slice a n c]] w (Said w P (nhS s l r0) zeroK false) := by
  have hPl := hpar.lt
  go_enter Try.func33, Try.ntmps33
  go_wp2_with (first
    | (have kk := m4; refine stT (.tmp 4) (.tmp 64) (by rfl) rfl gA zeroT _ rfl rfl rA4 ?_; intro w5 hg5 r5)
    | (go_at_call 60; have kk := P3; refine (nextHop_any P3 R3).mono ?_; rintro e w4 ⟨rfl, P4, m4⟩; have rA4 := m4.row rA3 (by omega) (by omega))
    | (go_at_call 46; refine (new_any a n c l _ ((hs.alloc _).below a3 (hs.alloc _).lt) hn).mono ?_; rintro e w2 ⟨g, bv, rfl, hge, hbv, hr2, hb2⟩; have bb := bt (bt (ba w (.cells #[.int .u8 7, .slice a n c] 72)) a3) hb2; have sA := a3.size; have hA0 : w.heap.size ≤ gA := (by simp at a1; omega); have hg0 : w.heap.size ≤ g := (by simp at sA; omega); have P2 := hpar.below bb; have c2 : ∃ v, w2.cell? ⟨P, 11, none⟩ = some v := P2.c11; have f2 := P2.frozen 11; have P3 := P2.setR (g := g); have hgP : g ≠ P := (by omega); have R3 : RdS (w2.setCell ⟨P, 11, none⟩ (.pointer (some ⟨g, 0, none⟩))) g bv l r0 := rd_far (r := r0) hr2 (grownBy_setCell _ _ _ _) hgP (fun ad had _ => by have := hbv ad had; simp at sA; omega); have M3 : Mv w (w2.setCell ⟨P, 11, none⟩ (.pointer (some ⟨g, 0, none⟩))) P g := (Mv.ofB bb).setP 11 _; have rA2 := rA.below hb2 a2; have rA3 := rA2.setOther P 11 (.pointer (some ⟨g, 0, none⟩)) (by omega); have hAg : gA < g := Nat.lt_of_lt_of_le a2 hge; obtain ⟨v2, c2⟩ := c2; have c0 : w2.cell? ⟨w.heap.size, 0, none⟩ = some (.int .u8 7) := (hb2.cell (p := ⟨w.heap.size, 0, none⟩) (by simp at sA; show w.heap.size < _; omega)).trans ((a3.cell (p := ⟨w.heap.size, 0, none⟩) (by simp)).trans ((Row.new w 72 [.int .u8 7, .slice a n c]).cell 0)))
    | (refine alG infoTz (by rfl) rfl ?_; intro gA wA a1 a2 a3 rA; have cb : wA.cell? ⟨w.heap.size, 1, none⟩ = some (.slice a n c) := (a3.cell (p := ⟨w.heap.size, 1, none⟩) (by simp)).trans ((Row.new w 72 [.int .u8 7, .slice a n c]).cell 1)))
  have M5 := (M3.trans m4).fresh hg5 hA0
  have P5 := P4.fresh hg5 (rA4.kind (by decide) (by decide) (by decide))
  exact bodyPost_ret (retCT rfl _ _ 0 rfl (lvT r5)) rfl ⟨⟨zeroT, rfl, (fun e => by cases e), Stms.none _ _ _ rfl rfl rfl rfl⟩, ⟨_, P5⟩, Mv.low M5 (Below.refl _ _) hg0⟩
theorem say_no {w : World} {P : Nat} {R : Option Nat} {s : St} (t : Nat) (a : Option Addr) (n c : Nat) (l : List UInt8) (hs : Src w a n c (bcells l))  (hn : n ≤ 140737488355328) (hpar : Par w P R s) (ht : t < 2 ∨ 10 < t) :
    Calls Try.prog 33 #[.pointer (some ⟨P, 0, none⟩), .agg #[.int .u8 (t : Int), .slice a n c]] w (Said w P s zeroK false) := by
  have hPl := hpar.lt
  have d2 : ((t : Int) == 2) = false := by simp; omega
  have d3 : ((t : Int) == 3) = false := by simp; omega
  have d4 : ((t : Int) == 4) = false := by simp; omega
  have d5 : ((t : Int) == 5) = false := by simp; omega
  have d6 : ((t : Int) == 6) = false := by simp; omega
  have d7 : ((t : Int) == 7) = false := by simp; omega
  have d8 : ((t : Int) == 8) = false := by simp; omega
  have d9 : ((t : Int) == 9) = false := by simp; omega
  have d10 : ((t : Int) == 10) = false := by simp; omega
  clear ht
  go_enter Try.func33, Try.ntmps33
  go_wp2_with (first
    | (have kk := P3; refine stT (.tmp 4) (.tmp 64) (by rfl) rfl gA zeroT _ rfl rfl rA3 ?_; intro w5 hg5 r5)
    | (go_at_call 46; refine (new_any a n c l _ ((hs.alloc _).below a3 (hs.alloc _).lt) hn).mono ?_; rintro e w2 ⟨g, bv, rfl, hge, hbv, hr2, hb2⟩; have bb := bt (bt (ba w (.cells #[.int .u8 (t : Int), .slice a n c] 72)) a3) hb2; have sA := a3.size; have hA0 : w.heap.size ≤ gA := (by simp at a1; omega); have hg0 : w.heap.size ≤ g := (by simp at sA; omega); have P2 := hpar.below bb; have c2 : ∃ v, w2.cell? ⟨P, 11, none⟩ = some v := P2.c11; have f2 := P2.frozen 11; have P3 := P2.setR (g := g); have hgP : g ≠ P := (by omega); have R3 : RdS (w2.setCell ⟨P, 11, none⟩ (.pointer (some ⟨g, 0, none⟩))) g bv l r0 := rd_far (r := r0) hr2 (grownBy_setCell _ _ _ _) hgP (fun ad had _ => by have := hbv ad had; simp at sA; omega); have M3 : Mv w (w2.setCell ⟨P, 11, none⟩ (.pointer (some ⟨g, 0, none⟩))) P g := (Mv.ofB bb).setP 11 _; have rA2 := rA.below hb2 a2; have rA3 := rA2.setOther P 11 (.pointer (some ⟨g, 0, none⟩)) (by omega); have hAg : gA < g := Nat.lt_of_lt_of_le a2 hge; obtain ⟨v2, c2⟩ := c2; have c0 : w2.cell? ⟨w.heap.size, 0, none⟩ = some (.int .u8 (t : Int)) := (hb2.cell (p := ⟨w.heap.size, 0, none⟩) (by simp at sA; show w.heap.size < _; omega)).trans ((a3.cell (p := ⟨w.heap.size, 0, none⟩) (by simp)).trans ((Row.new w 72 [.int .u8 (t : Int), .slice a n c]).cell 0)))
    | (refine alG infoTz (by rfl) rfl ?_; intro gA wA a1 a2 a3 rA; have cb : wA.cell? ⟨w.heap.size, 1, none⟩ = some (.slice a n c) := (a3.cell (p := ⟨w.heap.size, 1, none⟩) (by simp)).trans ((Row.new w 72 [.int .u8 (t : Int), .slice a n c]).cell 1)))
  have M5 := M3.fresh hg5 hA0
  have P5 := P3.fresh hg5 (rA3.kind (by decide) (by decide) (by decide))
  exact bodyPost_ret (retCT rfl _ _ 0 rfl (lvT r5)) rfl ⟨⟨zeroT, rfl, (fun e => by cases e), Stms.none _ _ _ rfl rfl rfl rfl⟩, ⟨_, P5⟩, Mv.low M5 (Below.refl _ _) hg0⟩
theorem say_any {w : World} {P : Nat} {R : Option Nat} {s : St} (t : Nat) (a : Option Addr) (n c : Nat) (l : List UInt8) (hs : Src w a n c (bcells l)) (hl : l.length ≤ 100000) (hpar : Par w P R s) (ht : t < 256) :
    Calls Try.prog 33 #[.pointer (some ⟨P, 0, none⟩), .agg #[.int .u8 (t : Int), .slice a n c]] w (Said w P (sayS s t l) (sayK s t l) (sayB s t l)) := by
  have hn : n ≤ 140737488355328 := by have := hs.blen; omega
  by_cases h : t < 2 ∨ 10 < t
  · have e1 : sayS s t l = s := by unfold sayS; rw [if_neg (by omega), if_neg (by omega), if_neg (by omega)]
    have e2 : sayB s t l = false := by unfold sayB; rw [if_neg (by omega), if_neg (by omega), if_neg (by omega), if_neg (by omega), if_neg (by omega), if_neg (by omega), if_neg (by omega)]
    have e3 : sayK s t l = zeroK := by unfold sayK; rw [if_neg (by omega), if_neg (by omega), if_neg (by omega), if_neg (by omega), if_neg (by omega), if_neg (by omega), if_neg (by omega)]
    rw [e1, e2, e3]
    exact say_no t a n c l hs hn hpar h
  · obtain rfl | rfl | rfl | rfl | rfl | rfl | rfl | rfl | rfl : t = 2 ∨ t = 3 ∨ t = 4 ∨ t = 5 ∨ t = 6 ∨ t = 7 ∨ t = 8 ∨ t = 9 ∨ t = 10 := by omega
    · exact say_2 a n c l hs hl hpar
    · exact say_3 a n c l hs hl hpar
    · exact say_4 a n c l hs hl hpar
    · exact say_5 a n c l hs hl hpar
    · exact say_6 a n c l hs hn hpar
    · exact say_7 a n c l hs hn hpar
    · exact say_8 a n c l hs hl hpar
    · exact say_9 a n c l hs hl hpar
    · exact say_10 a n c l hs hl hpar
end Go.Proofs.Ytognnfknbkedgaa
