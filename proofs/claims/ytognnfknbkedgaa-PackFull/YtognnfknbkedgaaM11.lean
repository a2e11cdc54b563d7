/-
  The contract of stamps of package packet, for one number and for two.
-/
import Derived.Test.YtognnfknbkedgaaM10
import Derived.Test.YtognnfknbkedgaaM06
namespace Go.Proofs.Ytognnfknbkedgaa
open Go.RowKit
set_option linter.unusedSimpArgs false
set_option maxRecDepth 20000
variable {bv : Option Addr}

/-- n numbers of four bytes each. -/
def nums : Nat → List UInt8 → RS → List UInt32
  | 0, _, _ => []
  | n + 1, l, r => UInt32.ofNat (r.val l 4) :: nums n l (r.adv l 4)
/-- The numbers of the first piece that has as many. -/
def stF (n : Nat) : List (UInt8 × List UInt8) → List UInt32
  | [] => []
  | k :: ks => if k.2.length < 4 * n then stF n ks else nums n k.2 ⟨0, 0⟩
theorem stF_drop {n : Nat} {ps : List Pc} {j : Nat} (hj : j < ps.length) (h : ps[j].l.length < 4 * n) : stF n (keys (ps.drop j)) = stF n (keys (ps.drop (j + 1))) := by
  rw [List.drop_eq_getElem_cons hj]
  simp only [keys, List.map_cons, stF]
  rw [if_pos h]
theorem stF_hit {n : Nat} {ps : List Pc} {j : Nat} (hj : j < ps.length) (h : ¬ ps[j].l.length < 4 * n) : stF n (keys (ps.drop j)) = nums n ps[j].l ⟨0, 0⟩ := by
  rw [List.drop_eq_getElem_cons hj]
  simp only [keys, List.map_cons, stF]
  rw [if_neg h]
/-- What stamps answers: numbers in memory of its own. -/
def Stamped (w : World) (ls : List UInt32) (e : Ending) (w' : World) : Prop := ∃ a c, e = .returned (.slice a ls.length c) ∧ w'.ownsRow w.heap.size 63 1 (.slice a ls.length c) ls.length (wcells ls) ∧ Below w.heap.size w w'
theorem val4_lt (r : RS) (l : List UInt8) : r.val l 4 < 4294967296 := by
  show nv (tkB l r.p r.y 4) < 4294967296
  simpa using nv_lt_of l r.p 4 r.y
theorem w32 (r : RS) (l : List UInt8) : Value.int .u32 (((UInt32.ofNat (r.val l 4)).toNat : Nat) : Int) = .int .u32 (r.val l 4 : Int) := by
  have h := val4_lt r l
  congr 1
  simp
  omega
theorem Row.own {w : World} {g B n : Nat} {t : TypeId} {cs : List Value} (h : Row w g t cs) (hB : B ≤ g) (hn : cs.length = n) (hm : n ≤ 100) : w.ownsRow B t 1 (.slice (some ⟨g, 0, none⟩) n n) n cs := by
  refine ⟨by omega, .inr ⟨g, n, cs.toArray, rfl, hB, h, Nat.le_refl _, by unfold maxLen; omega, by simp; omega, ?_⟩⟩
  simp [List.take_of_length_le, hn]
theorem mk1 (w : World) : (Instr.makeSlice 31 (.int .i64 1) (.int .i64 1)).run Try.prog w = .ok (.slice (some ⟨w.heap.size, 0, none⟩) 1 1) (w.alloc (.cells #[.int .u32 0] 63)) := by kernel_rfl
theorem mk2 (w : World) : (Instr.makeSlice 31 (.int .i64 2) (.int .i64 2)).run Try.prog w = .ok (.slice (some ⟨w.heap.size, 0, none⟩) 2 2) (w.alloc (.cells #[.int .u32 0, .int .u32 0] 63)) := by kernel_rfl
theorem rd_far {w w' : World} {g k : Nat} {l : List UInt8} {r : RS} (h : RdS w g bv l r) (hg : w.grownBy w' (some k)) (h1 : g ≠ k) (h2 : ∀ ad, bv = some ad → l ≠ [] → ad.block ≠ k) : RdS w' g bv l r := Rd.kept h hg (fun e => h1 (Option.some.inj e)) (fun ad had hl e => h2 ad had hl (Option.some.inj e))
theorem nowS_below {B : Nat} {a b c : World} {g : Nat} {l : List UInt8} {r : RS} (hb : Below B a b) (hs : B ≤ b.heap.size) (hg : B ≤ g) (h : NowS b c g bv l r) : Below B a c := now_below hb hs hg h

theorem stamps1 (a : Option Addr) (c : Nat) (ps : List Pc) (w : World) (hs : Rws w a ps.length ps) (hn : ps.length ≤ 100000) (hb : ∀ p ∈ ps, p.l.length ≤ 140737488355328) :
    Calls Try.prog 79 #[.int .i64 1, .slice a ps.length c] w (Stamped w (stF 1 (keys ps))) := by
  obtain ⟨n, HN⟩ : ∃ n, Hid (n = ps.length) := ⟨_, rfl⟩
  rw [← HN.out] at hs hn ⊢
  go_enter Try.func79, Try.ntmps79
  go_wp2
  go_loopw [12] (fun i wr => ∃ j : Nat, j ≤ n ∧ i = .int .i64 j ∧ Hid (stF 1 (keys ps) = stF 1 (keys (ps.drop j))) ∧ Below w.heap.size w wr) (fun i _ => n - (intOf i).toNat)
  case atStart => exact ⟨0, Nat.zero_le _, rfl, (rfl : _ = _), Below.refl _ _⟩
  case round =>
    obtain ⟨j, hj, rfl, hst, hbl⟩ := hrel
    by_cases hlt : j < n
    · have hjk : j < ps.length := by have := HN.out; omega
      obtain ⟨g, o, rfl, c0, c1⟩ := (hs.below hbl).at hjk
      have s0 := (hs.body ps[j] (List.getElem_mem hjk)).below hbl (hs.body ps[j] (List.getElem_mem hjk)).lt
      have sl : Hid (ps[j].n = ps[j].l.length) := s0.blen
      have sb := hb ps[j] (List.getElem_mem hjk)
      have hd := @stF_drop 1 ps j hjk
      have hh := @stF_hit 1 ps j hjk
      have hbs := hbl.size
      generalize ps[j].t.toNat = pt at *
      generalize ps[j].a = pa at *
      generalize ps[j].n = pn at *
      generalize ps[j].c = pc at *
      generalize ps[j].l = pl at *
      by_cases h4 : pn < 4
      · have HH : Hid (stF 1 (keys ps) = stF 1 (keys (ps.drop (j + 1)))) := by show _ = _; rw [hst.out]; exact hd (by have := sl.out; omega)
        have h4' : (pn : Int) < 4 := by omega
        clear hd hh s0 sl hst
        go_wp2
        go_roundw
        case rel => exact ⟨j + 1, by omega, by go_num, HH, hbl.alloc hbs _⟩
        case measure => simp [intOf]; omega
      · have HH : Hid (stF 1 (keys ps) = nums 1 pl ⟨0, 0⟩) := by show _ = _; rw [hst.out]; exact hh (by have := sl.out; omega)
        have h4' : ¬ (pn : Int) < 4 := by omega
        have s1 := s0.alloc (.cells #[.int .u8 (pt : Int), .slice pa pn pc] 72)
        have hp5 : pn ≤ 140737488355328 := by have := sl.out; omega
        have bb := hbl.alloc hbs (.cells #[.int .u8 (pt : Int), .slice pa pn pc] 72)
        obtain ⟨x0, X0⟩ : ∃ x, Hid (RS.val (⟨0, 0⟩ : RS) pl 4 = x) := ⟨_, rfl⟩
        have HR : Hid (wcells (nums 1 pl ⟨0, 0⟩) = [.int .u32 (x0 : Int)]) := by
          show _ = _
          simp only [nums, wcells, List.map_cons, List.map_nil, w32]
          rw [X0.out]
        have hmk := mk1
        clear hd hh hst sl
        go_wp2_with (go_at_call 46; refine (new_any pa pn pc pl _ s1 hp5).mono ?_; rintro e w1 ⟨gr, bv, rfl, hge, hbv, hr1, hb1⟩)
        have hge2 : w.heap.size ≤ gr := by simp at hge; omega
        have hbv2 : ∀ ad, bv = some ad → pl ≠ [] → ad.block ≠ w1.heap.size := fun ad had hl => by have := Rd.blt hr1 hl ad had; omega
        have bb1 := bb.trans (hb1.mono (by simp; omega))
        have g2lt : gr ≠ w1.heap.size := by have := Rd.lt hr1; omega
        have bw1 : w.heap.size ≤ w1.heap.size := bb1.size
        have R0 := Row.new w1 63 [.int .u32 0]
        have D0 : RdS (w1.alloc (.cells #[.int .u32 0] 63)) gr bv pl ⟨0, 0⟩ := RdS.below (r := ⟨0, 0⟩) hr1 (ba _ _)
        have B0 := bb1.alloc bw1 (.cells #[.int .u32 0] 63)
        clear hr1 hb1 bb1 bb s1 s0 c0 c1
        go_loopw [29] (fun i wr => (i = .int .i64 0 ∧ Row wr w1.heap.size 63 [.int .u32 0] ∧ RdS wr gr bv pl (⟨0, 0⟩ : RS) ∧ Below w.heap.size w wr) ∨ (i = .int .i64 1 ∧ Row wr w1.heap.size 63 [.int .u32 (x0 : Int)] ∧ RdS wr gr bv pl ((⟨0, 0⟩ : RS).adv pl 4) ∧ Below w.heap.size w wr)) (fun i _ => 1 - (intOf i).toNat)
        case atStart => exact .inl ⟨rfl, R0, D0, B0⟩
        case round =>
          clear R0 D0 B0
          rename World => wq
          rcases hrel with ⟨rfl, R0, D0, B0⟩ | ⟨rfl, R0, D0, B0⟩
          · have cz := R0.cell 0
            have fz := R0.frozen 0
            simp only [List.getElem?_cons_zero, List.getElem?_cons_succ] at cz
            have HU : Hid (∀ W, RdS W gr bv pl (⟨0, 0⟩ : RS) → Calls Try.prog 101 #[.pointer (some ⟨gr, 0, none⟩)] W fun e w' => e = .returned (.int .u32 (x0 : Int)) ∧ NowS W w' gr bv pl ((⟨0, 0⟩ : RS).adv pl 4)) := fun W h => by rw [← X0.out]; exact u32_r h
            go_wp2_with (go_at_call 101; refine (HU.out _ D0).mono ?_; rintro e w3 ⟨rfl, hn3⟩; have cz3 := (R0.nowS hn3 (fun e => g2lt e.symm)).cell 0; have fz3 := (R0.nowS hn3 (fun e => g2lt e.symm)).frozen 0; simp only [List.getElem?_cons_zero, List.getElem?_cons_succ] at cz3)
            go_roundw
            case rel => exact .inr (⟨by go_num, (R0.nowS hn3 (fun e => g2lt e.symm)).set 0 _, rd_far hn3.rd (grownBy_setCell w3 w1.heap.size 0 _) g2lt hbv2, (nowS_below B0 B0.size hge2 hn3).setCell (p := ⟨w1.heap.size, 0, none⟩) bw1 _⟩)
            case measure => simp [intOf]
          · go_wp2
            go_ret
            refine ⟨some ⟨w1.heap.size, 0, none⟩, 1, by rw [HH.out]; rfl, ?_, B0⟩
            rw [HH.out, HR.out]
            exact R0.own bw1 rfl (by show 1 ≤ 100; decide)
    · obtain rfl : n = j := by omega
      go_wp2
      go_ret
      have e := hst.out
      rw [List.drop_of_length_le (by have := HN.out; omega)] at e
      rw [e]
      exact ⟨none, 0, rfl, World.ownsRow_nil _ _ _ _, hbl⟩
theorem stamps2 (a : Option Addr) (c : Nat) (ps : List Pc) (w : World) (hs : Rws w a ps.length ps) (hn : ps.length ≤ 100000) (hb : ∀ p ∈ ps, p.l.length ≤ 140737488355328) :
    Calls Try.prog 79 #[.int .i64 2, .slice a ps.length c] w (Stamped w (stF 2 (keys ps))) := by
  obtain ⟨n, HN⟩ : ∃ n, Hid (n = ps.length) := ⟨_, rfl⟩
  rw [← HN.out] at hs hn ⊢
  go_enter Try.func79, Try.ntmps79
  go_wp2
  go_loopw [12] (fun i wr => ∃ j : Nat, j ≤ n ∧ i = .int .i64 j ∧ Hid (stF 2 (keys ps) = stF 2 (keys (ps.drop j))) ∧ Below w.heap.size w wr) (fun i _ => n - (intOf i).toNat)
  case atStart => exact ⟨0, Nat.zero_le _, rfl, (rfl : _ = _), Below.refl _ _⟩
  case round =>
    obtain ⟨j, hj, rfl, hst, hbl⟩ := hrel
    by_cases hlt : j < n
    · have hjk : j < ps.length := by have := HN.out; omega
      obtain ⟨g, o, rfl, c0, c1⟩ := (hs.below hbl).at hjk
      have s0 := (hs.body ps[j] (List.getElem_mem hjk)).below hbl (hs.body ps[j] (List.getElem_mem hjk)).lt
      have sl : Hid (ps[j].n = ps[j].l.length) := s0.blen
      have sb := hb ps[j] (List.getElem_mem hjk)
      have hd := @stF_drop 2 ps j hjk
      have hh := @stF_hit 2 ps j hjk
      have hbs := hbl.size
      generalize ps[j].t.toNat = pt at *
      generalize ps[j].a = pa at *
      generalize ps[j].n = pn at *
      generalize ps[j].c = pc at *
      generalize ps[j].l = pl at *
      by_cases h4 : pn < 8
      · have HH : Hid (stF 2 (keys ps) = stF 2 (keys (ps.drop (j + 1)))) := by show _ = _; rw [hst.out]; exact hd (by have := sl.out; omega)
        have h4' : (pn : Int) < 8 := by omega
        clear hd hh s0 sl hst
        go_wp2
        go_roundw
        case rel => exact ⟨j + 1, by omega, by go_num, HH, hbl.alloc hbs _⟩
        case measure => simp [intOf]; omega
      · have HH : Hid (stF 2 (keys ps) = nums 2 pl ⟨0, 0⟩) := by show _ = _; rw [hst.out]; exact hh (by have := sl.out; omega)
        have h4' : ¬ (pn : Int) < 8 := by omega
        have s1 := s0.alloc (.cells #[.int .u8 (pt : Int), .slice pa pn pc] 72)
        have hp5 : pn ≤ 140737488355328 := by have := sl.out; omega
        have bb := hbl.alloc hbs (.cells #[.int .u8 (pt : Int), .slice pa pn pc] 72)
        obtain ⟨x0, X0⟩ : ∃ x, Hid (RS.val (⟨0, 0⟩ : RS) pl 4 = x) := ⟨_, rfl⟩
        obtain ⟨x1, X1⟩ : ∃ x, Hid (RS.val ((⟨0, 0⟩ : RS).adv pl 4) pl 4 = x) := ⟨_, rfl⟩
        have HR : Hid (wcells (nums 2 pl ⟨0, 0⟩) = [.int .u32 (x0 : Int), .int .u32 (x1 : Int)]) := by
          show _ = _
          simp only [nums, wcells, List.map_cons, List.map_nil, w32]
          rw [X0.out, X1.out]
        have hmk := mk2
        clear hd hh hst sl
        go_wp2_with (go_at_call 46; refine (new_any pa pn pc pl _ s1 hp5).mono ?_; rintro e w1 ⟨gr, bv, rfl, hge, hbv, hr1, hb1⟩)
        have hge2 : w.heap.size ≤ gr := by simp at hge; omega
        have hbv2 : ∀ ad, bv = some ad → pl ≠ [] → ad.block ≠ w1.heap.size := fun ad had hl => by have := Rd.blt hr1 hl ad had; omega
        have bb1 := bb.trans (hb1.mono (by simp; omega))
        have g2lt : gr ≠ w1.heap.size := by have := Rd.lt hr1; omega
        have bw1 : w.heap.size ≤ w1.heap.size := bb1.size
        have R0 := Row.new w1 63 [.int .u32 0, .int .u32 0]
        have D0 : RdS (w1.alloc (.cells #[.int .u32 0, .int .u32 0] 63)) gr bv pl ⟨0, 0⟩ := RdS.below (r := ⟨0, 0⟩) hr1 (ba _ _)
        have B0 := bb1.alloc bw1 (.cells #[.int .u32 0, .int .u32 0] 63)
        clear hr1 hb1 bb1 bb s1 s0 c0 c1
        go_loopw [29] (fun i wr => (i = .int .i64 0 ∧ Row wr w1.heap.size 63 [.int .u32 0, .int .u32 0] ∧ RdS wr gr bv pl (⟨0, 0⟩ : RS) ∧ Below w.heap.size w wr) ∨ (i = .int .i64 1 ∧ Row wr w1.heap.size 63 [.int .u32 (x0 : Int), .int .u32 0] ∧ RdS wr gr bv pl ((⟨0, 0⟩ : RS).adv pl 4) ∧ Below w.heap.size w wr) ∨ (i = .int .i64 2 ∧ Row wr w1.heap.size 63 [.int .u32 (x0 : Int), .int .u32 (x1 : Int)] ∧ RdS wr gr bv pl (((⟨0, 0⟩ : RS).adv pl 4).adv pl 4) ∧ Below w.heap.size w wr)) (fun i _ => 2 - (intOf i).toNat)
        case atStart => exact .inl ⟨rfl, R0, D0, B0⟩
        case round =>
          clear R0 D0 B0
          rename World => wq
          rcases hrel with ⟨rfl, R0, D0, B0⟩ | ⟨rfl, R0, D0, B0⟩ | ⟨rfl, R0, D0, B0⟩
          · have cz := R0.cell 0
            have fz := R0.frozen 0
            simp only [List.getElem?_cons_zero, List.getElem?_cons_succ] at cz
            have HU : Hid (∀ W, RdS W gr bv pl (⟨0, 0⟩ : RS) → Calls Try.prog 101 #[.pointer (some ⟨gr, 0, none⟩)] W fun e w' => e = .returned (.int .u32 (x0 : Int)) ∧ NowS W w' gr bv pl ((⟨0, 0⟩ : RS).adv pl 4)) := fun W h => by rw [← X0.out]; exact u32_r h
            go_wp2_with (go_at_call 101; refine (HU.out _ D0).mono ?_; rintro e w3 ⟨rfl, hn3⟩; have cz3 := (R0.nowS hn3 (fun e => g2lt e.symm)).cell 0; have fz3 := (R0.nowS hn3 (fun e => g2lt e.symm)).frozen 0; simp only [List.getElem?_cons_zero, List.getElem?_cons_succ] at cz3)
            go_roundw
            case rel => exact .inr (.inl ⟨by go_num, (R0.nowS hn3 (fun e => g2lt e.symm)).set 0 _, rd_far hn3.rd (grownBy_setCell w3 w1.heap.size 0 _) g2lt hbv2, (nowS_below B0 B0.size hge2 hn3).setCell (p := ⟨w1.heap.size, 0, none⟩) bw1 _⟩)
            case measure => simp [intOf]
          · have cz := R0.cell 1
            have fz := R0.frozen 1
            simp only [List.getElem?_cons_zero, List.getElem?_cons_succ] at cz
            have HU : Hid (∀ W, RdS W gr bv pl ((⟨0, 0⟩ : RS).adv pl 4) → Calls Try.prog 101 #[.pointer (some ⟨gr, 0, none⟩)] W fun e w' => e = .returned (.int .u32 (x1 : Int)) ∧ NowS W w' gr bv pl (((⟨0, 0⟩ : RS).adv pl 4).adv pl 4)) := fun W h => by rw [← X1.out]; exact u32_r h
            go_wp2_with (go_at_call 101; refine (HU.out _ D0).mono ?_; rintro e w3 ⟨rfl, hn3⟩; have cz3 := (R0.nowS hn3 (fun e => g2lt e.symm)).cell 1; have fz3 := (R0.nowS hn3 (fun e => g2lt e.symm)).frozen 1; simp only [List.getElem?_cons_zero, List.getElem?_cons_succ] at cz3)
            go_roundw
            case rel => exact .inr (.inr (⟨by go_num, (R0.nowS hn3 (fun e => g2lt e.symm)).set 1 _, rd_far hn3.rd (grownBy_setCell w3 w1.heap.size 1 _) g2lt hbv2, (nowS_below B0 B0.size hge2 hn3).setCell (p := ⟨w1.heap.size, 1, none⟩) bw1 _⟩))
            case measure => simp [intOf]
          · go_wp2
            go_ret
            refine ⟨some ⟨w1.heap.size, 0, none⟩, 2, by rw [HH.out]; rfl, ?_, B0⟩
            rw [HH.out, HR.out]
            exact R0.own bw1 rfl (by show 2 ≤ 100; decide)
    · obtain rfl : n = j := by omega
      go_wp2
      go_ret
      have e := hst.out
      rw [List.drop_of_length_le (by have := HN.out; omega)] at e
      rw [e]
      exact ⟨none, 0, rfl, World.ownsRow_nil _ _ _ _, hbl⟩
end Go.Proofs.Ytognnfknbkedgaa

namespace Go.Proofs.Ytognnfknbkedgaa
open Go.RowKit
set_option linter.unusedSimpArgs false
set_option maxRecDepth 20000
variable {bv : Option Addr}

/-- What a piece that may say something tells: a Tlv, whether it does; the Stamps lie in memory of the call's own. -/
def Stms (B : Nat) (w : World) (t : Tl) : Prop := w.ownsRow B 63 1 (.slice t.sa t.sn t.sc) t.sn (wcells t.st)
def SayR (w : World) (k : TK) (ok : Bool) (e : Ending) (w' : World) : Prop := ∃ t, e = .returned (.tuple #[.agg (tcells t).toArray, .bool ok]) ∧ (ok = true → t.key = k) ∧ Stms w.heap.size w' t
theorem Stms.none (B : Nat) (w : World) (t : Tl) (h1 : t.sa = none) (h2 : t.sn = 0) (h3 : t.sc = 0) (h4 : t.st = []) : Stms B w t := by
  unfold Stms
  rw [h1, h2, h3, h4]
  exact World.ownsRow_nil _ _ _ _
def ackB (l : List UInt8) (r : RS) : Bool := wiB [] l (r.adv l 2)
def ackK (l : List UInt8) (r : RS) : TK := { zeroK with ty := 3, nonce := r.val l 2 }
theorem ack_any {w : World} {P g : Nat} {l : List UInt8} {r : RS} (hp : Pg w P g) (h : RdS w g bv l r) (hl : l.length ≤ 100000) :
    Calls Try.prog 56 #[.pointer (some ⟨P, 0, none⟩)] w fun e w' => SayR w (ackK l r) (ackB l r) e w' ∧ ∃ r', NowS w w' g bv l r' := by
  have hlt := h.lt
  obtain ⟨x, hx⟩ : ∃ x, Hid (r.val l 2 = x) := ⟨_, rfl⟩
  have HU : Hid (∀ W, RdS W g bv l r → Calls Try.prog 48 #[.pointer (some ⟨g, 0, none⟩)] W fun e w' => e = .returned (.int .u16 (x : Int)) ∧ NowS W w' g bv l (r.adv l 2)) := fun W h => by rw [← hx.out]; exact u16_r h
  have HW : Hid (∀ W, Pg W P g → RdS W g bv l (r.adv l 2) → Calls Try.prog 78 #[.pointer (some ⟨P, 0, none⟩), .slice none 0 0] W fun e w' => ∃ a' c' n, e = .returned (.tuple #[.slice a' n c', .bool (ackB l r)]) ∧ NowS W w' g bv l (wiR l (r.adv l 2))) := fun W h1 h2 => by
    refine (within_any h1 h2 hl none 0 0 [] (Src.nil _) (by decide) (fun _ h => by cases h)).mono ?_
    rintro e w' ⟨a', c', ps, rfl, _, _, _, hn⟩
    exact ⟨a', c', _, rfl, hn⟩
  have hEK : Hid (ackK l r = { zeroK with ty := 3, nonce := x }) := by show _ = _; unfold ackK; rw [hx.out]
  generalize ackB l r = b at *
  go_enter Try.func56, Try.ntmps56
  go_wp2_with (first
    | (have kk := hn2; refine stT (.tmp 2) (.tmp 18) (by rfl) rfl gA { zeroT with ty := 3, nonce := x } _ rfl rfl rA2 ?_; intro w4 hg4 r4)
    | (have kk := hn2; refine ldT (.tmp 4) (by rfl) rfl gB { zeroT with ty := 3, nonce := x } rfl rB2 ?_)
    | (go_at_call 78; have kk := rC; refine (HW.out _ hpC nC.rd).mono ?_; rintro e w3 ⟨a3, c3, n3, rfl, hn2⟩; have rA2 := rAC.nowS hn2 hgA; have rB2 := rC.nowS hn2 hgB)
    | (have kk := rB; refine stT (.tmp 4) (.tmp 12) (by rfl) rfl gB { zeroT with ty := 3, nonce := x } _ rfl rfl rB ?_; intro wC hgC rC; have hgB : gB ≠ g := (by omega); have nC : NowS w wC g bv l (r.adv l 2) := NowS.fresh h ((hn1.after a3).below b3) hgC (by omega); have hpC := hp.now nC; have rAC := (rA1.below b3 (by have := hn1.size; omega)).grown hgC (fun e => by have := Option.some.inj e; have := hn1.size; omega))
    | (have kk := hn1; refine alG infoTz (by rfl) rfl ?_; intro gB wB b1 b2 b3 rB; have hs1 := hn1.size; have hs2 := a3.size)
    | (go_at_call 48; refine (HU.out _ (h.below a3)).mono ?_; rintro e w1 ⟨rfl, hn1⟩; have hgA : gA ≠ g := (by omega); have rA1 := rA.nowS hn1 hgA)
    | (refine alG infoTz (by rfl) rfl ?_; intro gA wA a1 a2 a3 rA; have c1 := (hp.below a3).c))
  exact bodyPost_ret (retCT rfl _ _ 0 rfl (lvT r4)) rfl ⟨⟨{ zeroT with ty := 3, nonce := x }, rfl, fun _ => hEK.out.symm, Stms.none _ _ _ rfl rfl rfl rfl⟩, _, NowS.fresh h (nC.trans hn2) hg4 a1⟩
end Go.Proofs.Ytognnfknbkedgaa

namespace Go.Proofs.Ytognnfknbkedgaa
open Go.RowKit
set_option linter.unusedSimpArgs false
set_option maxRecDepth 20000
variable {bv : Option Addr}

/-- Nothing that was there has turned but the parser and its reader. -/
structure Mv (w w' : World) (P g : Nat) : Prop where
  os : w'.os = w.os
  tape : w'.tape = w.tape
  output : w'.output = w.output
  size : w.heap.size ≤ w'.heap.size
  block : ∀ k, k < w.heap.size → k ≠ P → k ≠ g → w'.heap[k]? = w.heap[k]?
theorem Mv.refl (w : World) (P g : Nat) : Mv w w P g := ⟨rfl, rfl, rfl, Nat.le_refl _, fun _ _ _ _ => rfl⟩
theorem Mv.ofG {w w' : World} {P g : Nat} (h : w.grownBy w' (some g)) : Mv w w' P g := ⟨h.os, h.tape, h.output, h.size, fun k hk _ h2 => h.block k hk (fun e => h2 (Option.some.inj e))⟩
theorem Mv.ofP {w w' : World} {P g : Nat} (h : w.grownBy w' (some P)) : Mv w w' P g := ⟨h.os, h.tape, h.output, h.size, fun k hk h1 _ => h.block k hk (fun e => h1 (Option.some.inj e))⟩
theorem Mv.ofNow {w w' : World} {P g : Nat} {l : List UInt8} {r : RS} (h : NowS w w' g bv l r) : Mv w w' P g := Mv.ofG h.grown
theorem Mv.ofB {w w' : World} {P g : Nat} (h : Below w.heap.size w w') : Mv w w' P g := ⟨h.os, h.tape, h.output, h.size, fun k hk _ _ => h.block k hk⟩
theorem Mv.trans {a b c : World} {P g : Nat} (h : Mv a b P g) (k : Mv b c P g) : Mv a c P g := ⟨k.os.trans h.os, k.tape.trans h.tape, k.output.trans h.output, Nat.le_trans h.size k.size, fun i hi h1 h2 => (k.block i (Nat.lt_of_lt_of_le hi h.size) h1 h2).trans (h.block i hi h1 h2)⟩
theorem Mv.fresh {w w1 w2 : World} {P g k : Nat} (h : Mv w w1 P g) (hg : w1.grownBy w2 (some k)) (hk : w.heap.size ≤ k) : Mv w w2 P g := ⟨hg.os.trans h.os, hg.tape.trans h.tape, hg.output.trans h.output, Nat.le_trans h.size hg.size, fun i hi h1 h2 => (hg.block i (Nat.lt_of_lt_of_le hi h.size) (fun e => by have := Option.some.inj e; omega)).trans (h.block i hi h1 h2)⟩
theorem Mv.setP {w w1 : World} {P g : Nat} (h : Mv w w1 P g) (j : Nat) (v : Value) : Mv w (w1.setCell ⟨P, j, none⟩ v) P g := h.trans (Mv.ofP (grownBy_setCell w1 P j v))
/-- A reader that is new: then only the parser has turned. -/
theorem Mv.low {w w1 w2 : World} {P g : Nat} (h : Mv w1 w2 P g) (hb : Below w.heap.size w w1) (hg : w.heap.size ≤ g) : w.grownBy w2 (some P) :=
  ⟨h.os.trans hb.os, h.tape.trans hb.tape, h.output.trans hb.output, Nat.le_trans hb.size h.size, fun k hk hne => (h.block k (Nat.lt_of_lt_of_le hk hb.size) (fun e => hne (by rw [e])) (fun e => by omega)).trans (hb.block k hk)⟩

theorem nobody_any (i : Id8) (w : World) : Calls Try.prog 70 #[.agg (icells i).toArray] w (Gives w (.bool (nobB i))) := by
  have e0 : ∀ w, (Op.equalIn (9998 + 2) 24 (.agg (icells i).toArray) (.agg #[.int .u8 0, .int .u8 0, .int .u8 0, .int .u8 0, .int .u8 0, .int .u8 0, .int .u8 0, .int .u8 0])).run Try.prog w = .ok (decide (i.l = zeroI.l)) w := fun w => eqI 9998 i zeroI w
  have e1 : ∀ w, (Op.equalIn (9998 + 2) 24 (.agg (icells i).toArray) (.agg #[.int .u8 255, .int .u8 255, .int .u8 255, .int .u8 255, .int .u8 255, .int .u8 255, .int .u8 255, .int .u8 255])).run Try.prog w = .ok (decide (i.l = fullI.l)) w := fun w => eqI 9998 i fullI w
  have R := Row.new w 24 (icells i)
  unfold nobB
  generalize decide (i.l = zeroI.l) = b0 at *
  generalize decide (i.l = fullI.l) = b1 at *
  cases b0
  all_goals
    go_enter Try.func70, Try.ntmps70
    go_wp2_with (refine ldI (.tmp 1) (by rfl) rfl w.heap.size 0 i rfl R.range ?_)
    go_ret
    exact ⟨rfl, ba _ _⟩

/-- What a TypeRouterId makes. -/
def riS (s : St) (l : List UInt8) (r : RS) : St := if (((r.adv l 2).adv l 8).y == 0) && !(nobB (idF l (r.adv l 2))) then { s with r := some (idF l (r.adv l 2)) } else s
theorem routerId_any {w : World} {P g : Nat} {l : List UInt8} {r : RS} {s : St} (hpar : Par w P (some g) s) (h : RdS w g bv l r) :
    Calls Try.prog 59 #[.pointer (some ⟨P, 0, none⟩)] w fun e w' => e = .returned (.tuple #[]) ∧ Par w' P (some g) (riS s l r) ∧ Mv w w' P g := by
  have hp := hpar.pg h
  have hlt := h.lt
  have H0 := h
  have c0 := hp.c
  unfold riS
  obtain ⟨i, hi⟩ : ∃ i, idF l (r.adv l 2) = i := ⟨_, rfl⟩
  have HI : Hid (∀ W, Pg W P g → RdS W g bv l (r.adv l 2) → Calls Try.prog 81 #[.pointer (some ⟨P, 0, none⟩)] W fun e w' => e = .returned (.agg (icells i).toArray) ∧ NowS W w' g bv l ((r.adv l 2).adv l 8)) := fun W h1 h2 => by rw [← hi]; exact id_any h1 h2
  have HN := nobody_any i
  rw [hi]
  obtain ⟨b1, hb1⟩ : ∃ b, (((r.adv l 2).adv l 8).y == 0) = b := ⟨_, rfl⟩
  have HW : Hid (∀ W, Pg W P g → RdS W g bv l ((r.adv l 2).adv l 8) → Calls Try.prog 82 #[.pointer (some ⟨P, 0, none⟩)] W fun e w' => e = .returned (.bool b1) ∧ NowS W w' g bv l ((r.adv l 2).adv l 8)) := fun W h1 h2 => by rw [← hb1]; exact well_any h1 h2
  rw [hb1]
  generalize nobB i = b2 at *
  clear hi hb1
  cases b1
  · go_enter Try.func59, Try.ntmps59
    go_wp2_with (first
      | (go_at_call 82; have kk := rB; refine (HW.out _ (hp.now N3) N3.rd).mono ?_; rintro e w4 ⟨rfl, hn4⟩)
      | (have kk := rA; refine stI0 (.tmp 2) (.tmp 9) (by rfl) rfl gA i _ (icells_len _) rfl rfl rA ?_; intro w3 hg3 rB; have N3 : NowS w w3 g bv l ((r.adv l 2).adv l 8) := NowS.fresh h ((hn1.trans hn2).below a3) hg3 (by have := hn1.size; have := hn2.size; omega))
      | (have kk := hn2; refine alG infoIz (by rfl) rfl ?_; intro gA wA a1 a2 a3 rA)
      | (go_at_call 81; refine (HI.out _ (hp.now hn1) hn1.rd).mono ?_; rintro e w2 ⟨rfl, hn2⟩)
      | (go_at_call 48; refine (u16_r h).mono ?_; rintro e w1 ⟨rfl, hn1⟩))
    go_end0
    exact ⟨rfl, hpar.now H0 (N3.trans hn4), Mv.ofNow (N3.trans hn4)⟩
  · cases b2
    · go_enter Try.func59, Try.ntmps59
      go_wp2_with (first
        | (refine ldI (.tmp 2) (by rfl) rfl gA 0 i rfl rC.range ?_)
        | (go_at_call 70; refine (HN _).mono ?_; rintro e w5 ⟨rfl, hb5⟩; have rD := rC.below hb5 rC.lt; have P5 := (hpar.now h (N3.trans hn4)).below hb5; have f5 := P5.frozen 0; obtain ⟨⟨v5, c5, _⟩, _⟩ := P5.at)
        | (go_at_call 82; have kk := rB; refine (HW.out _ (hp.now N3) N3.rd).mono ?_; rintro e w4 ⟨rfl, hn4⟩; have rC := rB.nowS hn4 (by have := hn1.size; have := hn2.size; omega))
        | (have kk := rA; refine stI0 (.tmp 2) (.tmp 9) (by rfl) rfl gA i _ (icells_len _) rfl rfl rA ?_; intro w3 hg3 rB; have N3 : NowS w w3 g bv l ((r.adv l 2).adv l 8) := NowS.fresh h ((hn1.trans hn2).below a3) hg3 (by have := hn1.size; have := hn2.size; omega))
        | (have kk := hn2; refine alG infoIz (by rfl) rfl ?_; intro gA wA a1 a2 a3 rA)
        | (go_at_call 81; refine (HI.out _ (hp.now hn1) hn1.rd).mono ?_; rintro e w2 ⟨rfl, hn2⟩)
        | (go_at_call 48; refine (u16_r h).mono ?_; rintro e w1 ⟨rfl, hn1⟩))
      go_end0
      exact ⟨rfl, P5.setRt rD, ((Mv.ofNow (N3.trans hn4)).trans (Mv.ofB hb5)).setP _ _⟩
    · go_enter Try.func59, Try.ntmps59
      go_wp2_with (first
        | (refine ldI (.tmp 2) (by rfl) rfl gA 0 i rfl rC.range ?_)
        | (go_at_call 70; refine (HN _).mono ?_; rintro e w5 ⟨rfl, hb5⟩)
        | (go_at_call 82; have kk := rB; refine (HW.out _ (hp.now N3) N3.rd).mono ?_; rintro e w4 ⟨rfl, hn4⟩; have rC := rB.nowS hn4 (by have := hn1.size; have := hn2.size; omega))
        | (have kk := rA; refine stI0 (.tmp 2) (.tmp 9) (by rfl) rfl gA i _ (icells_len _) rfl rfl rA ?_; intro w3 hg3 rB; have N3 : NowS w w3 g bv l ((r.adv l 2).adv l 8) := NowS.fresh h ((hn1.trans hn2).below a3) hg3 (by have := hn1.size; have := hn2.size; omega))
        | (have kk := hn2; refine alG infoIz (by rfl) rfl ?_; intro gA wA a1 a2 a3 rA)
        | (go_at_call 81; refine (HI.out _ (hp.now hn1) hn1.rd).mono ?_; rintro e w2 ⟨rfl, hn2⟩)
        | (go_at_call 48; refine (u16_r h).mono ?_; rintro e w1 ⟨rfl, hn1⟩))
      go_end0
      exact ⟨rfl, (hpar.now H0 (N3.trans hn4)).below hb5, (Mv.ofNow (N3.trans hn4)).trans (Mv.ofB hb5)⟩

/-- What a TypeNextHop makes. -/
def nhR (l : List UInt8) (r : RS) : RS := if r.val l 1 = 0 then ((r.adv l 1).adv l 1).bad else (r.adv l 1).adv l 1
def setHop (s : St) (f : Int) (a : Ad) : St := if f = 4 then { s with h4 := some a } else { s with h6 := some a }
def nhS (s : St) (l : List UInt8) (r : RS) : St := if (adN (r.val l 1) l (nhR l r)).y = 0 then setHop s (famA (adA (r.val l 1) l (nhR l r))) (adA (r.val l 1) l (nhR l r)) else s
theorem fam_or (a : Ad) : famA a = 4 ∨ famA a = 6 := by unfold famA; split <;> simp
theorem nextHop_any {w : World} {P g : Nat} {l : List UInt8} {r : RS} {s : St} (hpar : Par w P (some g) s) (h : RdS w g bv l r) :
    Calls Try.prog 60 #[.pointer (some ⟨P, 0, none⟩)] w fun e w' => e = .returned (.tuple #[]) ∧ Par w' P (some g) (nhS s l r) ∧ Mv w w' P g := by
  have hp := hpar.pg h
  have hlt := h.lt
  have H0 := h
  have c0 := hp.c
  have hae := val1_lt r l
  have HU1 : Hid (Calls Try.prog 47 #[.pointer (some ⟨g, 0, none⟩)] w fun e w' => e = .returned (.int .u8 (r.val l 1)) ∧ NowS w w' g bv l (r.adv l 1)) := u8_r h
  obtain ⟨rb, hrb⟩ : ∃ rb, nhR l r = rb := ⟨_, rfl⟩
  have hrb0 : Hid ((r.val l 1 = 0 → rb = ((r.adv l 1).adv l 1).bad) ∧ (r.val l 1 ≠ 0 → rb = (r.adv l 1).adv l 1)) := by
    unfold nhR at hrb
    constructor
    · intro h0; rw [if_pos h0] at hrb; exact hrb.symm
    · intro h0; rw [if_neg h0] at hrb; exact hrb.symm
  unfold nhS
  rw [hrb]
  generalize r.val l 1 = ae at *
  obtain ⟨A, hA⟩ : ∃ A, adA ae l rb = A := ⟨_, rfl⟩
  obtain ⟨rn, hrn⟩ : ∃ A, adN ae l rb = A := ⟨_, rfl⟩
  have HA : Hid (∀ W, Pg W P g → RdS W g bv l rb → Calls Try.prog 80 #[.pointer (some ⟨P, 0, none⟩), .int .u8 (ae : Int)] W fun e w' => e = .returned (Value.agg (acells A).toArray) ∧ NowS W w' g bv l rn) := fun W h1 h2 => by rw [← hA, ← hrn]; exact address_any ae hae h1 h2
  rw [hA, hrn]
  have HF := fam_any A
  have hf := fam_or A
  generalize famA A = f at *
  have HW : Hid (∀ W, Pg W P g → RdS W g bv l rn → Calls Try.prog 82 #[.pointer (some ⟨P, 0, none⟩)] W fun e w' => e = .returned (.bool (rn.y == 0)) ∧ NowS W w' g bv l rn) := fun W h1 h2 => well_any h1 h2
  clear hrb hA hrn
  -- the road to the address, with or without 'bad'
  have road : ∀ (K : Prop), True := fun _ => trivial
  clear road
  by_cases hy : rn.y = 0
  · have hy' : (rn.y == 0) = true := by simpa using hy
    rw [hy'] at HW
    rw [if_pos hy]
    clear hy hy'
    by_cases h0 : ae = 0
    · subst h0
      have e0 := hrb0.out.1 rfl
      subst e0
      clear hrb0
      go_enter Try.func60, Try.ntmps60
      go_wp2_with (first
        | (go_at_call 82; have kk := rB; refine (HW.out _ (hp.now N5) N5.rd).mono ?_; rintro e w6 ⟨rfl, hn6⟩; have rC := rB.nowS hn6 (by omega))
        | (have kk := rA; refine stA0 (.tmp 3) (.tmp 20) (by rfl) rfl gA A _ (acells_len _) rfl rfl rA ?_; intro w5 hg5 rB; have hsz : w.heap.size ≤ gA := (Nat.le_trans hN4.size a1); have N5 : NowS w w5 g bv l rn := NowS.fresh h (hN4.below a3) hg5 hsz)
        | (have kk := hN4; refine alG infoAz (by rfl) rfl ?_; intro gA wA a1 a2 a3 rA)
        | (go_at_call 80; have kk := hN; refine (HA.out _ (hp.now hN) hN.rd).mono ?_; rintro e w4 ⟨rfl, hn4⟩; have hN4 := hN.trans hn4)
        | (go_at_call 83; refine (bad_any (hp.now (hn1.trans hn2)) hn2.rd).mono ?_; rintro e w3 ⟨rfl, hn3⟩; have hN := (hn1.trans hn2).trans hn3)
        | (go_at_call 47; have kk := hn1; refine (u8_r hn1.rd).mono ?_; rintro e w2 ⟨rfl, hn2⟩)
        | (go_at_call 47; refine HU1.out.mono ?_; rintro e w1 ⟨rfl, hn1⟩; have c1 := (hp.now hn1).c))
      have N6 := N5.trans hn6
      have P6 := hpar.now H0 N6
      have rD := rC.below (bd w6) rC.lt
      have P7 := P6.below (bd w6)
      have M7 : Mv w w6.drew P g := (Mv.ofNow N6).trans (Mv.ofB (bd _))
      have hPA : P ≠ gA := by have := hp.lt; omega
      rcases hf with rfl | rfl
      all_goals
        refine wp_region_noPanic ?_
        refine wp_region_held_drew (S := fun W => Row W gA 26 (acells A)) (by kernel_rfl) (rD) (fun hHeld => ?_)
        refine tA 0 ?_
        refine tL 1 rfl (yA A (fun W hW => hW.range) (by rfl) rfl rfl) ?_
        refine tA 3 ?_
        refine tA 4 ?_
        refine tA 5 ?_
        refine r1 2 fun K hK => ?_
        go_simp
        refine (HF _).mono ?_
        rintro e w8 ⟨rfl, hb8⟩
        have P8 := P7.below hb8
        have r8 := rD.below hb8 rD.lt
        have M8 := M7.trans (Mv.ofB hb8)
        obtain ⟨_, ⟨v4, c4, _⟩, ⟨v6, c6, _⟩, _⟩ := P8.at
        have f4 := P8.frozen 5
        have f6 := P8.frozen 7
        refine oK hK (by exact r8) fun hHeld => ?_
        clear hK K
        refine tA 6 ?_
        refine r1 7 fun K hK => ?_
        go_simp
        refine oK hK (by exact r8.setOther _ _ _ hPA) fun hHeld => ?_
        clear hK K
        refine dN ?_
        refine NoPanic.normal ?_
        go_wp2
        go_end0
        exact ⟨rfl, by first | exact P8.setH4 r8 | exact P8.setH6 r8, M8.setP _ _⟩
    · have h0' : ((ae : Int) == 0) = false := by simp; omega
      have e0 := hrb0.out.2 h0
      subst e0
      clear hrb0 h0
      go_enter Try.func60, Try.ntmps60
      go_wp2_with (first
        | (go_at_call 82; have kk := rB; refine (HW.out _ (hp.now N5) N5.rd).mono ?_; rintro e w6 ⟨rfl, hn6⟩; have rC := rB.nowS hn6 (by omega))
        | (have kk := rA; refine stA0 (.tmp 3) (.tmp 20) (by rfl) rfl gA A _ (acells_len _) rfl rfl rA ?_; intro w5 hg5 rB; have hsz : w.heap.size ≤ gA := (Nat.le_trans hN4.size a1); have N5 : NowS w w5 g bv l rn := NowS.fresh h (hN4.below a3) hg5 hsz)
        | (have kk := hN4; refine alG infoAz (by rfl) rfl ?_; intro gA wA a1 a2 a3 rA)
        | (go_at_call 80; have kk := hN; refine (HA.out _ (hp.now hN) hN.rd).mono ?_; rintro e w4 ⟨rfl, hn4⟩; have hN4 := hN.trans hn4)
        | (go_at_call 47; have kk := hn1; refine (u8_r hn1.rd).mono ?_; rintro e w2 ⟨rfl, hn2⟩; have hN := hn1.trans hn2)
        | (go_at_call 47; refine HU1.out.mono ?_; rintro e w1 ⟨rfl, hn1⟩; have c1 := (hp.now hn1).c))
      have N6 := N5.trans hn6
      have P6 := hpar.now H0 N6
      have rD := rC.below (bd w6) rC.lt
      have P7 := P6.below (bd w6)
      have M7 : Mv w w6.drew P g := (Mv.ofNow N6).trans (Mv.ofB (bd _))
      have hPA : P ≠ gA := by have := hp.lt; omega
      rcases hf with rfl | rfl
      all_goals
        refine wp_region_noPanic ?_
        refine wp_region_held_drew (S := fun W => Row W gA 26 (acells A)) (by kernel_rfl) (rD) (fun hHeld => ?_)
        refine tA 0 ?_
        refine tL 1 rfl (yA A (fun W hW => hW.range) (by rfl) rfl rfl) ?_
        refine tA 3 ?_
        refine tA 4 ?_
        refine tA 5 ?_
        refine r1 2 fun K hK => ?_
        go_simp
        refine (HF _).mono ?_
        rintro e w8 ⟨rfl, hb8⟩
        have P8 := P7.below hb8
        have r8 := rD.below hb8 rD.lt
        have M8 := M7.trans (Mv.ofB hb8)
        obtain ⟨_, ⟨v4, c4, _⟩, ⟨v6, c6, _⟩, _⟩ := P8.at
        have f4 := P8.frozen 5
        have f6 := P8.frozen 7
        refine oK hK (by exact r8) fun hHeld => ?_
        clear hK K
        refine tA 6 ?_
        refine r1 7 fun K hK => ?_
        go_simp
        refine oK hK (by exact r8.setOther _ _ _ hPA) fun hHeld => ?_
        clear hK K
        refine dN ?_
        refine NoPanic.normal ?_
        go_wp2
        go_end0
        exact ⟨rfl, by first | exact P8.setH4 r8 | exact P8.setH6 r8, M8.setP _ _⟩
  · have hy' : (rn.y == 0) = false := by simpa using hy
    rw [hy'] at HW
    rw [if_neg hy]
    clear hy hy'
    by_cases h0 : ae = 0
    · subst h0
      have e0 := hrb0.out.1 rfl
      subst e0
      clear hrb0
      go_enter Try.func60, Try.ntmps60
      go_wp2_with (first
        | (go_at_call 82; have kk := rB; refine (HW.out _ (hp.now N5) N5.rd).mono ?_; rintro e w6 ⟨rfl, hn6⟩; have rC := rB.nowS hn6 (by omega))
        | (have kk := rA; refine stA0 (.tmp 3) (.tmp 20) (by rfl) rfl gA A _ (acells_len _) rfl rfl rA ?_; intro w5 hg5 rB; have hsz : w.heap.size ≤ gA := (Nat.le_trans hN4.size a1); have N5 : NowS w w5 g bv l rn := NowS.fresh h (hN4.below a3) hg5 hsz)
        | (have kk := hN4; refine alG infoAz (by rfl) rfl ?_; intro gA wA a1 a2 a3 rA)
        | (go_at_call 80; have kk := hN; refine (HA.out _ (hp.now hN) hN.rd).mono ?_; rintro e w4 ⟨rfl, hn4⟩; have hN4 := hN.trans hn4)
        | (go_at_call 83; refine (bad_any (hp.now (hn1.trans hn2)) hn2.rd).mono ?_; rintro e w3 ⟨rfl, hn3⟩; have hN := (hn1.trans hn2).trans hn3)
        | (go_at_call 47; have kk := hn1; refine (u8_r hn1.rd).mono ?_; rintro e w2 ⟨rfl, hn2⟩)
        | (go_at_call 47; refine HU1.out.mono ?_; rintro e w1 ⟨rfl, hn1⟩; have c1 := (hp.now hn1).c))
      go_end0
      exact ⟨rfl, hpar.now H0 (N5.trans hn6), Mv.ofNow (N5.trans hn6)⟩
    · have h0' : ((ae : Int) == 0) = false := by simp; omega
      have e0 := hrb0.out.2 h0
      subst e0
      clear hrb0 h0
      go_enter Try.func60, Try.ntmps60
      go_wp2_with (first
        | (go_at_call 82; have kk := rB; refine (HW.out _ (hp.now N5) N5.rd).mono ?_; rintro e w6 ⟨rfl, hn6⟩; have rC := rB.nowS hn6 (by omega))
        | (have kk := rA; refine stA0 (.tmp 3) (.tmp 20) (by rfl) rfl gA A _ (acells_len _) rfl rfl rA ?_; intro w5 hg5 rB; have hsz : w.heap.size ≤ gA := (Nat.le_trans hN4.size a1); have N5 : NowS w w5 g bv l rn := NowS.fresh h (hN4.below a3) hg5 hsz)
        | (have kk := hN4; refine alG infoAz (by rfl) rfl ?_; intro gA wA a1 a2 a3 rA)
        | (go_at_call 80; have kk := hN; refine (HA.out _ (hp.now hN) hN.rd).mono ?_; rintro e w4 ⟨rfl, hn4⟩; have hN4 := hN.trans hn4)
        | (go_at_call 47; have kk := hn1; refine (u8_r hn1.rd).mono ?_; rintro e w2 ⟨rfl, hn2⟩; have hN := hn1.trans hn2)
        | (go_at_call 47; refine HU1.out.mono ?_; rintro e w1 ⟨rfl, hn1⟩; have c1 := (hp.now hn1).c))
      go_end0
      exact ⟨rfl, hpar.now H0 (N5.trans hn6), Mv.ofNow (N5.trans hn6)⟩
end Go.Proofs.Ytognnfknbkedgaa
