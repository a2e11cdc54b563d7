/-
  The parser's reader: the contracts of well, bad, within, id, frame and address of package packet, for every reader that is there.
-/
import Derived.Test.YtaleclmccmeglaaTl
namespace Go.Proofs.Ytaleclmccmeglaa
open Go.RowKit
set_option linter.unusedSimpArgs false
set_option maxRecDepth 20000
variable {bv : Option Addr}

/-- Where a reading is, and its error; what a number of k bytes is there, and where it is then. -/
structure RS where
  p : Nat
  y : Int
def RS.adv (r : RS) (l : List UInt8) (k : Int) : RS := ⟨r.p + (tkB l r.p r.y k).length, tkE l r.p r.y k⟩
def RS.val (r : RS) (l : List UInt8) (k : Int) : Nat := nv (tkB l r.p r.y k)
def RS.bad (r : RS) : RS := ⟨r.p, if r.y = 0 then 2 else r.y⟩
/-- A reader in that state. -/
def RdS (w : World) (g : Nat) (bv : Option Addr) (l : List UInt8) (r : RS) : Prop := Rd w g bv l r.p r.y
def NowS (w w' : World) (g : Nat) (bv : Option Addr) (l : List UInt8) (r : RS) : Prop := Now w w' g bv l r.p r.y
theorem NowS.rd {w w' : World} {g : Nat} {l : List UInt8} {r : RS} (h : NowS w w' g bv l r) : RdS w' g bv l r := Now.rd h
theorem NowS.grown {w w' : World} {g : Nat} {l : List UInt8} {r : RS} (h : NowS w w' g bv l r) : w.grownBy w' (some g) := Now.grown h
theorem NowS.trans {a b c : World} {g : Nat} {l : List UInt8} {r s : RS} (h : NowS a b g bv l r) (k : NowS b c g bv l s) : NowS a c g bv l s := Now.trans h k
theorem NowS.below {w w' w2 : World} {g : Nat} {l : List UInt8} {r : RS} (h : NowS w w' g bv l r) (hb : Below w'.heap.size w' w2) : NowS w w2 g bv l r := Now.below h hb
theorem RdS.below {w w' : World} {g : Nat} {l : List UInt8} {r : RS} (h : RdS w g bv l r) (hb : Below w.heap.size w w') : RdS w' g bv l r := Rd.below h hb
theorem RdS.now {w : World} {g : Nat} {l : List UInt8} {r : RS} (h : RdS w g bv l r) : NowS w w g bv l r := Rd.now h
theorem RdS.lt {w : World} {g : Nat} {l : List UInt8} {r : RS} (h : RdS w g bv l r) : g < w.heap.size := Rd.lt h
theorem NowS.size {w w' : World} {g : Nat} {l : List UInt8} {r : RS} (h : NowS w w' g bv l r) : w.heap.size ≤ w'.heap.size := h.grown.size
theorem Now.low {w w1 w2 : World} {g B : Nat} {l : List UInt8} {p p0 : Nat} {y y0 : Int} (h0 : Rd w g bv l p0 y0) (h : Now w w1 g bv l p y) (hb : Below B w1 w2) (hB : w.heap.size ≤ B) : Now w w2 g bv l p y := by
  refine ⟨?_, ⟨hb.os.trans h.grown.os, hb.tape.trans h.grown.tape, hb.output.trans h.grown.output, Nat.le_trans h.grown.size hb.size, fun i hi hne => (hb.block i (Nat.lt_of_lt_of_le hi hB)).trans (h.grown.block i hi hne)⟩⟩
  obtain ⟨c, hbk, hc, hs⟩ := h.rd.ex
  refine ⟨h.rd.le, h.rd.big, h.rd.ne, c, (hb.block g (by have := h0.lt; omega)).trans hbk, hc, hs.below hb (fun ad had hne => ?_)⟩
  have hl : l ≠ [] := by rintro rfl; exact hne rfl
  have := h0.blt hl ad had
  omega
theorem NowS.low {w w1 w2 : World} {g B : Nat} {l : List UInt8} {r r0 : RS} (h0 : RdS w g bv l r0) (h : NowS w w1 g bv l r) (hb : Below B w1 w2) (hB : w.heap.size ≤ B) : NowS w w2 g bv l r := Now.low h0 h hb hB
theorem NowS.fresh {w w1 w2 : World} {g B : Nat} {l : List UInt8} {r r0 : RS} (h0 : RdS w g bv l r0) (h : NowS w w1 g bv l r) (hg : w1.grownBy w2 (some B)) (hB : w.heap.size ≤ B) : NowS w w2 g bv l r := Now.fresh h0 h hg hB
theorem Row.nowS {w w' : World} {g B : Nat} {l : List UInt8} {r : RS} {t : TypeId} {cs : List Value} (hr : Row w B t cs) (h : NowS w w' g bv l r) (hne : B ≠ g) : Row w' B t cs := row_now hr h hne
/-- The parser P whose reader is g. -/
structure Pg (w : World) (P g : Nat) : Prop where
  c : w.cell? ⟨P, 11, none⟩ = some (.pointer (some ⟨g, 0, none⟩))
  ne : P ≠ g
theorem Pg.now {w w' : World} {P g : Nat} {l : List UInt8} {r : RS} (h : Pg w P g) (hn : NowS w w' g bv l r) : Pg w' P g := ⟨hn.grown.cell h.c (fun e => h.ne (Option.some.inj e)), h.ne⟩
theorem Pg.lt {w : World} {P g : Nat} (h : Pg w P g) : P < w.heap.size := block_lt_of_cell h.c
theorem Pg.below {w w' : World} {P g : Nat} (h : Pg w P g) (hb : Below w.heap.size w w') : Pg w' P g := ⟨(hb.cell (p := ⟨P, 11, none⟩) h.lt).trans h.c, h.ne⟩
theorem Pg.fresh {w w1 : World} {P g k B : Nat} (h : Pg w P g) (hg : w.grownBy w1 (some k)) (hk : B ≤ k) (hP : P < B) : Pg w1 P g := ⟨hg.cell h.c (fun e => by have : P = k := Option.some.inj e; omega), h.ne⟩
theorem bd (w : World) : Below w.heap.size w w.drew := (Below.refl _ _).drew

theorem u8_r {w : World} {g : Nat} {l : List UInt8} {r : RS} (h : RdS w g bv l r) : Calls Try.prog 35 #[.pointer (some ⟨g, 0, none⟩)] w fun e w' => e = .returned (.int .u8 (r.val l 1)) ∧ NowS w w' g bv l (r.adv l 1) := u8_any g l r.p r.y w h
theorem u16_r {w : World} {g : Nat} {l : List UInt8} {r : RS} (h : RdS w g bv l r) : Calls Try.prog 36 #[.pointer (some ⟨g, 0, none⟩)] w fun e w' => e = .returned (.int .u16 (r.val l 2)) ∧ NowS w w' g bv l (r.adv l 2) := u16_any g l r.p r.y w h
theorem u32_r {w : World} {g : Nat} {l : List UInt8} {r : RS} (h : RdS w g bv l r) : Calls Try.prog 94 #[.pointer (some ⟨g, 0, none⟩)] w fun e w' => e = .returned (.int .u32 (r.val l 4)) ∧ NowS w w' g bv l (r.adv l 4) := u32_any g l r.p r.y w h
theorem val1_lt (r : RS) (l : List UInt8) : r.val l 1 < 256 := by
  show nv (tkB l r.p r.y 1) < 256
  simpa using nv_lt_of l r.p 1 r.y
theorem val2_lt (r : RS) (l : List UInt8) : r.val l 2 < 65536 := by
  show nv (tkB l r.p r.y 2) < 65536
  simpa using nv_lt_of l r.p 2 r.y

theorem well_any {w : World} {P g : Nat} {l : List UInt8} {r : RS} (hp : Pg w P g) (h : RdS w g bv l r) :
    Calls Try.prog 76 #[.pointer (some ⟨P, 0, none⟩)] w fun e w' => e = .returned (.bool (r.y == 0)) ∧ NowS w w' g bv l r := by
  have c := hp.c
  have hW : Calls Try.prog 37 #[.pointer (some ⟨g, 0, none⟩)] w fun e w' => ∃ z, e = .returned (.tuple #[.int .i64 r.y, .int .i64 z]) ∧ Now w w' g bv l r.p r.y := by
    refine (why_any g l r.p r.y w h).mono ?_
    rintro e w' ⟨rfl, hn⟩
    exact ⟨_, rfl, hn⟩
  generalize hy : r.y = y at *
  have HY : Hid (r.y = y) := hy
  clear hy
  go_enter Try.func76, Try.ntmps76
  go_wp2_with (go_at_call 37; refine hW.mono ?_; rintro e w1 ⟨z, rfl, hn1⟩)
  go_ret
  refine ⟨rfl, ?_⟩
  unfold NowS
  rw [HY.out]
  exact hn1
theorem bad_any {w : World} {P g : Nat} {l : List UInt8} {r : RS} (hp : Pg w P g) (h : RdS w g bv l r) :
    Calls Try.prog 78 #[.pointer (some ⟨P, 0, none⟩)] w fun e w' => e = .returned (.tuple #[]) ∧ NowS w w' g bv l r.bad := by
  have c := hp.c
  have hF := fail_any g l r.p r.y 2 w h
  go_enter Try.func78, Try.ntmps78
  go_wp2_with (go_at_call 92; refine hF.mono ?_; rintro e w1 ⟨rfl, hn1⟩)
  go_end0
  exact ⟨rfl, hn1⟩

/-! ### The pieces within -/
def selK (ts : List UInt8) (ks : List (UInt8 × List UInt8)) : List (UInt8 × List UInt8) := ks.filter fun k => decide (1 < k.1.toNat) && knB ts k.1.toNat
def mustK (ts : List UInt8) (k : UInt8 × List UInt8) : Bool := decide (k.1.toNat < 128) || knB ts k.1.toNat
theorem keys_sel (ts : List UInt8) (ps : List Pc) : keys (sel ts ps) = selK ts (keys ps) := by
  unfold keys sel selK
  rw [List.filter_map]
  rfl
theorem must_keys (ts : List UInt8) (ps : List Pc) : ps.all (mustB ts) = (keys ps).all (mustK ts) := by
  unfold keys
  rw [List.all_map]
  rfl
/-- What within tells, and the reading behind it. -/
def wiL (ts l : List UInt8) (r : RS) : List (UInt8 × List UInt8) := if r.y = 0 then selK ts (splL (l.drop r.p)).1 else []
def wiB (ts l : List UInt8) (r : RS) : Bool := if r.y = 0 then (splL (l.drop r.p)).1.all (mustK ts) && ((splL (l.drop r.p)).2 == 0) else false
def wiR (l : List UInt8) (r : RS) : RS := if r.y = 0 then ⟨l.length, 0⟩ else r
/-- What a call that tells pieces leaves: they lie in memory of its own. -/
structure Told (w w' : World) (a : Option Addr) (c : Nat) (ps : List Pc) : Prop where
  own : w'.ownsRow w.heap.size 60 2 (.slice a ps.length c) ps.length (rcs ps)
  bods : Bods w.heap.size w' ps
theorem within_any {w : World} {P g : Nat} {l : List UInt8} {r : RS} (hp : Pg w P g) (h : RdS w g bv l r) (hl : l.length ≤ 100000) (a : Option Addr) (n c : Nat) (ts : List UInt8) (hs : Src w a n c (bcells ts)) (hn : n ≤ 100) (hsg : ∀ ad, a = some ad → ad.block ≠ g) :
    Calls Try.prog 72 #[.pointer (some ⟨P, 0, none⟩), .slice a n c] w fun e w' => ∃ a' c' ps, e = .returned (.tuple #[.slice a' ps.length c', .bool (wiB ts l r)]) ∧ keys ps = wiL ts l r ∧ ps.length ≤ 100000 ∧ Told w w' a' c' ps ∧ NowS w w' g bv l (wiR l r) := by
  have hW := well_any hp h
  by_cases hy : r.y = 0
  · have e1 : wiL ts l r = selK ts (splL (l.drop r.p)).1 := by unfold wiL; rw [if_pos hy]
    have e2 : wiB ts l r = ((splL (l.drop r.p)).1.all (mustK ts) && ((splL (l.drop r.p)).2 == 0)) := by unfold wiB; rw [if_pos hy]
    have e3 : wiR l r = ⟨l.length, 0⟩ := by unfold wiR; rw [if_pos hy]
    have E : Hid (wiL ts l r = selK ts (splL (l.drop r.p)).1 ∧ wiR l r = ⟨l.length, 0⟩) := ⟨e1, e3⟩
    rw [hy] at hW
    have h0 : Rd w g bv l r.p 0 := by have := h; unfold RdS at this; rwa [hy] at this
    have HR : Hid (∀ W, NowS w W g bv l r → Calls Try.prog 40 #[.pointer (some ⟨g, 0, none⟩)] W fun e w' => ∃ m a c, Hid (m = (l.drop r.p).length) ∧ e = .returned (.slice a m c) ∧ Src w' a m c (bcells (l.drop r.p)) ∧ (∀ ad, a = some ad → W.heap.size ≤ ad.block) ∧ NowS W w' g bv l ⟨l.length, 0⟩) := by
      intro W hW
      have h1 : Rd W g bv l r.p 0 := by have := hW.rd; unfold RdS at this; rwa [hy] at this
      refine (hd_rest h1).mono ?_
      rintro e w' ⟨a, c, rfl, k1, k2, k3⟩
      exact ⟨_, a, c, (by show _ = _; simp), rfl, k1, k2, k3⟩
    obtain ⟨b1, B1⟩ : ∃ b, Hid ((splL (l.drop r.p)).1.all (mustK ts) = b) := ⟨_, rfl⟩
    obtain ⟨z1, Z1⟩ : ∃ z, Hid ((splL (l.drop r.p)).2 = z) := ⟨_, rfl⟩
    rw [e2, B1.out, Z1.out]
    have HS : Hid (∀ W a' c' m, Src W a n c (bcells ts) → m = (l.drop r.p).length → Src W a' m c' (bcells (l.drop r.p)) → Calls Try.prog 93 #[.slice a n c, .slice a' m c'] W fun e w' => ∃ a c k ps, Hid (k = ps.length) ∧ keys ps = selK ts (splL (l.drop r.p)).1 ∧ e = .returned (.tuple #[.slice a k c, .bool b1, .int .i64 z1]) ∧ Told W w' a c ps ∧ ps.length ≤ 100000 ∧ Below W.heap.size W w') := by
      intro W a' c' m k1 km k2
      have hld : (l.drop r.p).length ≤ l.length := by simp
      refine (sub_any a n c ts a' m c' (l.drop r.p) W k1 k2 (by omega) (by omega)).mono ?_
      rintro e w' ⟨a2, c2, ps, j1, rfl, j2, j3, j4, j5⟩
      refine ⟨a2, c2, _, sel ts ps, (rfl : _ = _), by rw [keys_sel, j1], ?_, ⟨j2, fun p hp => j3 p ((List.mem_filter.1 hp).1)⟩, by have := sel_le ts ps; omega, j5⟩
      rw [must_keys, j1, B1.out, Z1.out]
    have HG : Hid (∀ ad, a = some ad → ad.block ≠ g) := hsg
    clear e1 e2 e3 B1 Z1 h0 hsg
    have c0 := hp.c
    go_enter Try.func72, Try.ntmps72
    go_wp2_with (first
      | (go_at_call 93; have kk := hn2; refine (HS.out _ _ _ _ s3 hm.out s2).mono ?_; rintro e w3 ⟨a3, c3, k3, ps, hk3, kps, rfl, told, hps, b3⟩)
      | (go_at_call 40; have kk := hn1; refine (HR.out _ hn1).mono ?_; rintro e w2 ⟨m, a2, c2, hm, rfl, s2, g2, hn2⟩; have s3 : Src w2 a n c (bcells ts) := (hs.grown (grownBy_trans hn1.grown hn2.grown) (fun ad had _ e => HG.out ad had (Option.some.inj e))))
      | (go_at_call 76; refine hW.mono ?_; rintro e w1 ⟨rfl, hn1⟩; have c1 := (hp.now hn1).c))
    all_goals
      go_ret2
      have ek := hk3.out
      subst ek
      refine ⟨a3, c3, ps, by simp_all, by rw [E.out.1]; exact kps, hps, ⟨own_le told.own (Nat.le_trans hn1.size hn2.size), fun p hp => own_le (told.bods p hp) (Nat.le_trans hn1.size hn2.size)⟩, by rw [E.out.2]; exact (hn1.trans hn2).below b3⟩
  · have e1 : wiL ts l r = [] := by unfold wiL; rw [if_neg hy]
    have e2 : wiB ts l r = false := by unfold wiB; rw [if_neg hy]
    have e3 : wiR l r = r := by unfold wiR; rw [if_neg hy]
    rw [e1, e2, e3]
    have hy' : (r.y == 0) = false := by simpa using hy
    rw [hy'] at hW
    clear hy hy' e1 e2 e3
    go_enter Try.func72, Try.ntmps72
    go_wp2_with (go_at_call 76; refine hW.mono ?_; rintro e w1 ⟨rfl, hn1⟩)
    go_ret2
    exact ⟨none, 0, [], rfl, rfl, by decide, ⟨World.ownsRow_nil _ _ _ _, fun _ h => by cases h⟩, hn1⟩
end Go.Proofs.Ytaleclmccmeglaa
