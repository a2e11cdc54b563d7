/-
  The contract of stamps of package packet, for one number and for two.
-/
import Derived.Test.YtognnfknbkedgaaM06
import Derived.Test.YtognnfknbkedgaaM05
import Derived.Deep.QuietTactic
import Derived.BigQuiet
namespace Go.Proofs.Ytognnfknbkedgaa
open Go.RowKit
set_option linter.unusedSimpArgs false
set_option maxRecDepth 20000
variable {bv : Option Addr}

/-- n numbers of four bytes each. -/
def nums : Nat → List UInt8 → RS → List UInt32
  | 0, _, _ => []
  | n + 1, l, r => UInt32.ofNat (r.val l 4) :: nums n l (r.adv l 4)
/-- The numbers of the first piece that has as many. -/
def stF (n : Nat) : List (UInt8 × List UInt8) → List UInt32
  | [] => []
  | k :: ks => if k.2.length < 4 * n then stF n ks else nums n k.2 ⟨0, 0⟩
theorem stF_drop {n : Nat} {ps : List Pc} {j : Nat} (hj : j < ps.length) (h : ps[j].l.length < 4 * n) : stF n (keys (ps.drop j)) = stF n (keys (ps.drop (j + 1))) := by
  rw [List.drop_eq_getElem_cons hj]
  simp only [keys, List.map_cons, stF]
  rw [if_pos h]
theorem stF_hit {n : Nat} {ps : List Pc} {j : Nat} (hj : j < ps.length) (h : ¬ ps[j].l.length < 4 * n) : stF n (keys (ps.drop j)) = nums n ps[j].l ⟨0, 0⟩ := by
  rw [List.drop_eq_getElem_cons hj]
  simp only [keys, List.map_cons, stF]
  rw [if_neg h]
/-- What stamps answers: numbers in memory of its own. -/
def Stamped (w : World) (ls : List UInt32) (e : Ending) (w' : World) : Prop := ∃ a c, e = .returned (.slice a ls.length c) ∧ w'.ownsRow w.heap.size 63 1 (.slice a ls.length c) ls.length (wcells ls) ∧ Below w.heap.size w w'
theorem val4_lt (r : RS) (l : List UInt8) : r.val l 4 < 4294967296 := by
  show nv (tkB l r.p r.y 4) < 4294967296
  simpa using nv_lt_of l r.p 4 r.y
theorem w32 (r : RS) (l : List UInt8) : Value.int .u32 (((UInt32.ofNat (r.val l 4)).toNat : Nat) : Int) = .int .u32 (r.val l 4 : Int) := by
  have h := val4_lt r l
  congr 1
  simp
  omega
theorem Row.own {w : World} {g B n : Nat} {t : TypeId} {cs : List Value} (h : Row w g t cs) (hB : B ≤ g) (hn : cs.length = n) (hm : n ≤ 100) : w.ownsRow B t 1 (.slice (some ⟨g, 0, none⟩) n n) n cs := by
  refine ⟨by omega, .inr ⟨g, n, cs.toArray, rfl, hB, h, Nat.le_refl _, by unfold maxLen; omega, by simp; omega, ?_⟩⟩
  simp [List.take_of_length_le, hn]
theorem mk1 (w : World) : (Instr.makeSlice 31 (.int .i64 1) (.int .i64 1)).run Try.prog w = .ok (.slice (some ⟨w.heap.size, 0, none⟩) 1 1) (w.alloc (.cells #[.int .u32 0] 63)) := by kernel_rfl
theorem mk2 (w : World) : (Instr.makeSlice 31 (.int .i64 2) (.int .i64 2)).run Try.prog w = .ok (.slice (some ⟨w.heap.size, 0, none⟩) 2 2) (w.alloc (.cells #[.int .u32 0, .int .u32 0] 63)) := by kernel_rfl
theorem rd_far {w w' : World} {g k : Nat} {l : List UInt8} {r : RS} (h : RdS w g bv l r) (hg : w.grownBy w' (some k)) (h1 : g ≠ k) (h2 : ∀ ad, bv = some ad → l ≠ [] → ad.block ≠ k) : RdS w' g bv l r := Rd.kept h hg (fun e => h1 (Option.some.inj e)) (fun ad had hl e => h2 ad had hl (Option.some.inj e))
theorem nowS_below {B : Nat} {a b c : World} {g : Nat} {l : List UInt8} {r : RS} (hb : Below B a b) (hs : B ≤ b.heap.size) (hg : B ≤ g) (h : NowS b c g bv l r) : Below B a c := now_below hb hs hg h

theorem stamps1 (a : Option Addr) (c : Nat) (ps : List Pc) (w : World) (hs : Rws w a ps.length ps) (hn : ps.length ≤ 100000) (hb : ∀ p ∈ ps, p.l.length ≤ 140737488355328) :
    Calls Try.prog 79 #[.int .i64 1, .slice a ps.length c] w (Stamped w (stF 1 (keys ps))) := by
  obtain ⟨n, HN⟩ : ∃ n, Hid (n = ps.length) := ⟨_, rfl⟩
  rw [← HN.out] at hs hn ⊢
  go_enter Try.func79, Try.ntmps79
  go_wp2
  go_loopw [12] (fun i wr => ∃ j : Nat, j ≤ n ∧ i = .int .i64 j ∧ Hid (stF 1 (keys ps) = stF 1 (keys (ps.drop j))) ∧ Below w.heap.size w wr) (fun i _ => n - (intOf i).toNat)
  case atStart => exact ⟨0, Nat.zero_le _, rfl, (rfl : _ = _), Below.refl _ _⟩
  case round =>
    obtain ⟨j, hj, rfl, hst, hbl⟩ := hrel
    by_cases hlt : j < n
    · have hjk : j < ps.length := by have := HN.out; omega
      obtain ⟨g, o, rfl, c0, c1⟩ := (hs.below hbl).at hjk
      have s0 := (hs.body ps[j] (List.getElem_mem hjk)).below hbl (hs.body ps[j] (List.getElem_mem hjk)).lt
      have sl : Hid (ps[j].n = ps[j].l.length) := s0.blen
      have sb := hb ps[j] (List.getElem_mem hjk)
      have hd := @stF_drop 1 ps j hjk
      have hh := @stF_hit 1 ps j hjk
      have hbs := hbl.size
      generalize ps[j].t.toNat = pt at *
      generalize ps[j].a = pa at *
      generalize ps[j].n = pn at *
      generalize ps[j].c = pc at *
      generalize ps[j].l = pl at *
      by_cases h4 : pn < 4
      · have HH : Hid (stF 1 (keys ps) = stF 1 (keys (ps.drop (j + 1)))) := by show _ = _; rw [hst.out]; exact hd (by have := sl.out; omega)
        have h4' : (pn : Int) < 4 := by omega
        clear hd hh s0 sl hst
        go_wp2
        go_roundw
        case rel => exact ⟨j + 1, by omega, by go_num, HH, hbl.alloc hbs _⟩
        case measure => simp [intOf]; omega
      · have HH : Hid (stF 1 (keys ps) = nums 1 pl ⟨0, 0⟩) := by show _ = _; rw [hst.out]; exact hh (by have := sl.out; omega)
        have h4' : ¬ (pn : Int) < 4 := by omega
        have s1 := s0.alloc (.cells #[.int .u8 (pt : Int), .slice pa pn pc] 72)
        have hp5 : pn ≤ 140737488355328 := by have := sl.out; omega
        have bb := hbl.alloc hbs (.cells #[.int .u8 (pt : Int), .slice pa pn pc] 72)
        obtain ⟨x0, X0⟩ : ∃ x, Hid (RS.val (⟨0, 0⟩ : RS) pl 4 = x) := ⟨_, rfl⟩
        have HR : Hid (wcells (nums 1 pl ⟨0, 0⟩) = [.int .u32 (x0 : Int)]) := by
          show _ = _
          simp only [nums, wcells, List.map_cons, List.map_nil, w32]
          rw [X0.out]
        have hmk := mk1
        clear hd hh hst sl
        go_wp2_with (go_at_call 46; refine (new_any pa pn pc pl _ s1 hp5).mono ?_; rintro e w1 ⟨gr, bv, rfl, hge, hbv, hr1, hb1⟩)
        have hge2 : w.heap.size ≤ gr := by simp at hge; omega
        have hbv2 : ∀ ad, bv = some ad → pl ≠ [] → ad.block ≠ w1.heap.size := fun ad had hl => by have := Rd.blt hr1 hl ad had; omega
        have bb1 := bb.trans (hb1.mono (by simp; omega))
        have g2lt : gr ≠ w1.heap.size := by have := Rd.lt hr1; omega
        have bw1 : w.heap.size ≤ w1.heap.size := bb1.size
        have R0 := Row.new w1 63 [.int .u32 0]
        have D0 : RdS (w1.alloc (.cells #[.int .u32 0] 63)) gr bv pl ⟨0, 0⟩ := RdS.below (r := ⟨0, 0⟩) hr1 (ba _ _)
        have B0 := bb1.alloc bw1 (.cells #[.int .u32 0] 63)
        clear hr1 hb1 bb1 bb s1 s0 c0 c1
        go_loopw [29] (fun i wr => (i = .int .i64 0 ∧ Row wr w1.heap.size 63 [.int .u32 0] ∧ RdS wr gr bv pl (⟨0, 0⟩ : RS) ∧ Below w.heap.size w wr) ∨ (i = .int .i64 1 ∧ Row wr w1.heap.size 63 [.int .u32 (x0 : Int)] ∧ RdS wr gr bv pl ((⟨0, 0⟩ : RS).adv pl 4) ∧ Below w.heap.size w wr)) (fun i _ => 1 - (intOf i).toNat)
        case atStart => exact .inl ⟨rfl, R0, D0, B0⟩
        case round =>
          clear R0 D0 B0
          rename World => wq
          rcases hrel with ⟨rfl, R0, D0, B0⟩ | ⟨rfl, R0, D0, B0⟩
          · have cz := R0.cell 0
            have fz := R0.frozen 0
            simp only [List.getElem?_cons_zero, List.getElem?_cons_succ] at cz
            have HU : Hid (∀ W, RdS W gr bv pl (⟨0, 0⟩ : RS) → Calls Try.prog 101 #[.pointer (some ⟨gr, 0, none⟩)] W fun e w' => e = .returned (.int .u32 (x0 : Int)) ∧ NowS W w' gr bv pl ((⟨0, 0⟩ : RS).adv pl 4)) := fun W h => by rw [← X0.out]; exact u32_r h
            go_wp2_with (go_at_call 101; refine (HU.out _ D0).mono ?_; rintro e w3 ⟨rfl, hn3⟩; have cz3 := (R0.nowS hn3 (fun e => g2lt e.symm)).cell 0; have fz3 := (R0.nowS hn3 (fun e => g2lt e.symm)).frozen 0; simp only [List.getElem?_cons_zero, List.getElem?_cons_succ] at cz3)
            go_roundw
            case rel => exact .inr (⟨by go_num, (R0.nowS hn3 (fun e => g2lt e.symm)).set 0 _, rd_far hn3.rd (grownBy_setCell w3 w1.heap.size 0 _) g2lt hbv2, (nowS_below B0 B0.size hge2 hn3).setCell (p := ⟨w1.heap.size, 0, none⟩) bw1 _⟩)
            case measure => simp [intOf]
          · go_wp2
            go_ret
            refine ⟨some ⟨w1.heap.size, 0, none⟩, 1, by rw [HH.out]; rfl, ?_, B0⟩
            rw [HH.out, HR.out]
            exact R0.own bw1 rfl (by show 1 ≤ 100; decide)
    · obtain rfl : n = j := by omega
      go_wp2
      go_ret
      have e := hst.out
      rw [List.drop_of_length_le (by have := HN.out; omega)] at e
      rw [e]
      exact ⟨none, 0, rfl, World.ownsRow_nil _ _ _ _, hbl⟩
theorem stamps2 (a : Option Addr) (c : Nat) (ps : List Pc) (w : World) (hs : Rws w a ps.length ps) (hn : ps.length ≤ 100000) (hb : ∀ p ∈ ps, p.l.length ≤ 140737488355328) :
    Calls Try.prog 79 #[.int .i64 2, .slice a ps.length c] w (Stamped w (stF 2 (keys ps))) := by
  obtain ⟨n, HN⟩ : ∃ n, Hid (n = ps.length) := ⟨_, rfl⟩
  rw [← HN.out] at hs hn ⊢
  go_enter Try.func79, Try.ntmps79
  go_wp2
  go_loopw [12] (fun i wr => ∃ j : Nat, j ≤ n ∧ i = .int .i64 j ∧ Hid (stF 2 (keys ps) = stF 2 (keys (ps.drop j))) ∧ Below w.heap.size w wr) (fun i _ => n - (intOf i).toNat)
  case atStart => exact ⟨0, Nat.zero_le _, rfl, (rfl : _ = _), Below.refl _ _⟩
  case round =>
    obtain ⟨j, hj, rfl, hst, hbl⟩ := hrel
    by_cases hlt : j < n
    · have hjk : j < ps.length := by have := HN.out; omega
      obtain ⟨g, o, rfl, c0, c1⟩ := (hs.below hbl).at hjk
      have s0 := (hs.body ps[j] (List.getElem_mem hjk)).below hbl (hs.body ps[j] (List.getElem_mem hjk)).lt
      have sl : Hid (ps[j].n = ps[j].l.length) := s0.blen
      have sb := hb ps[j] (List.getElem_mem hjk)
      have hd := @stF_drop 2 ps j hjk
      have hh := @stF_hit 2 ps j hjk
      have hbs := hbl.size
      generalize ps[j].t.toNat = pt at *
      generalize ps[j].a = pa at *
      generalize ps[j].n = pn at *
      generalize ps[j].c = pc at *
      generalize ps[j].l = pl at *
      by_cases h4 : pn < 8
      · have HH : Hid (stF 2 (keys ps) = stF 2 (keys (ps.drop (j + 1)))) := by show _ = _; rw [hst.out]; exact hd (by have := sl.out; omega)
        have h4' : (pn : Int) < 8 := by omega
        clear hd hh s0 sl hst
        go_wp2
        go_roundw
        case rel => exact ⟨j + 1, by omega, by go_num, HH, hbl.alloc hbs _⟩
        case measure => simp [intOf]; omega
      · have HH : Hid (stF 2 (keys ps) = nums 2 pl ⟨0, 0⟩) := by show _ = _; rw [hst.out]; exact hh (by have := sl.out; omega)
        have h4' : ¬ (pn : Int) < 8 := by omega
        have s1 := s0.alloc (.cells #[.int .u8 (pt : Int), .slice pa pn pc] 72)
        have hp5 : pn ≤ 140737488355328 := by have := sl.out; omega
        have bb := hbl.alloc hbs (.cells #[.int .u8 (pt : Int), .slice pa pn pc] 72)
        obtain ⟨x0, X0⟩ : ∃ x, Hid (RS.val (⟨0, 0⟩ : RS) pl 4 = x) := ⟨_, rfl⟩
        obtain ⟨x1, X1⟩ : ∃ x, Hid (RS.val ((⟨0, 0⟩ : RS).adv pl 4) pl 4 = x) := ⟨_, rfl⟩
        have HR : Hid (wcells (nums 2 pl ⟨0, 0⟩) = [.int .u32 (x0 : Int), .int .u32 (x1 : Int)]) := by
          show _ = _
          simp only [nums, wcells, List.map_cons, List.map_nil, w32]
          rw [X0.out, X1.out]
        have hmk := mk2
        clear hd hh hst sl
        go_wp2_with (go_at_call 46; refine (new_any pa pn pc pl _ s1 hp5).mono ?_; rintro e w1 ⟨gr, bv, rfl, hge, hbv, hr1, hb1⟩)
        have hge2 : w.heap.size ≤ gr := by simp at hge; omega
        have hbv2 : ∀ ad, bv = some ad → pl ≠ [] → ad.block ≠ w1.heap.size := fun ad had hl => by have := Rd.blt hr1 hl ad had; omega
        have bb1 := bb.trans (hb1.mono (by simp; omega))
        have g2lt : gr ≠ w1.heap.size := by have := Rd.lt hr1; omega
        have bw1 : w.heap.size ≤ w1.heap.size := bb1.size
        have R0 := Row.new w1 63 [.int .u32 0, .int .u32 0]
        have D0 : RdS (w1.alloc (.cells #[.int .u32 0, .int .u32 0] 63)) gr bv pl ⟨0, 0⟩ := RdS.below (r := ⟨0, 0⟩) hr1 (ba _ _)
        have B0 := bb1.alloc bw1 (.cells #[.int .u32 0, .int .u32 0] 63)
        clear hr1 hb1 bb1 bb s1 s0 c0 c1
        go_loopw [29] (fun i wr => (i = .int .i64 0 ∧ Row wr w1.heap.size 63 [.int .u32 0, .int .u32 0] ∧ RdS wr gr bv pl (⟨0, 0⟩ : RS) ∧ Below w.heap.size w wr) ∨ (i = .int .i64 1 ∧ Row wr w1.heap.size 63 [.int .u32 (x0 : Int), .int .u32 0] ∧ RdS wr gr bv pl ((⟨0, 0⟩ : RS).adv pl 4) ∧ Below w.heap.size w wr) ∨ (i = .int .i64 2 ∧ Row wr w1.heap.size 63 [.int .u32 (x0 : Int), .int .u32 (x1 : Int)] ∧ RdS wr gr bv pl (((⟨0, 0⟩ : RS).adv pl 4).adv pl 4) ∧ Below w.heap.size w wr)) (fun i _ => 2 - (intOf i).toNat)
        case atStart => exact .inl ⟨rfl, R0, D0, B0⟩
        case round =>
          clear R0 D0 B0
          rename World => wq
          rcases hrel with ⟨rfl, R0, D0, B0⟩ | ⟨rfl, R0, D0, B0⟩ | ⟨rfl, R0, D0, B0⟩
          · have cz := R0.cell 0
            have fz := R0.frozen 0
            simp only [List.getElem?_cons_zero, List.getElem?_cons_succ] at cz
            have HU : Hid (∀ W, RdS W gr bv pl (⟨0, 0⟩ : RS) → Calls Try.prog 101 #[.pointer (some ⟨gr, 0, none⟩)] W fun e w' => e = .returned (.int .u32 (x0 : Int)) ∧ NowS W w' gr bv pl ((⟨0, 0⟩ : RS).adv pl 4)) := fun W h => by rw [← X0.out]; exact u32_r h
            go_wp2_with (go_at_call 101; refine (HU.out _ D0).mono ?_; rintro e w3 ⟨rfl, hn3⟩; have cz3 := (R0.nowS hn3 (fun e => g2lt e.symm)).cell 0; have fz3 := (R0.nowS hn3 (fun e => g2lt e.symm)).frozen 0; simp only [List.getElem?_cons_zero, List.getElem?_cons_succ] at cz3)
            go_roundw
            case rel => exact .inr (.inl ⟨by go_num, (R0.nowS hn3 (fun e => g2lt e.symm)).set 0 _, rd_far hn3.rd (grownBy_setCell w3 w1.heap.size 0 _) g2lt hbv2, (nowS_below B0 B0.size hge2 hn3).setCell (p := ⟨w1.heap.size, 0, none⟩) bw1 _⟩)
            case measure => simp [intOf]
          · have cz := R0.cell 1
            have fz := R0.frozen 1
            simp only [List.getElem?_cons_zero, List.getElem?_cons_succ] at cz
            have HU : Hid (∀ W, RdS W gr bv pl ((⟨0, 0⟩ : RS).adv pl 4) → Calls Try.prog 101 #[.pointer (some ⟨gr, 0, none⟩)] W fun e w' => e = .returned (.int .u32 (x1 : Int)) ∧ NowS W w' gr bv pl (((⟨0, 0⟩ : RS).adv pl 4).adv pl 4)) := fun W h => by rw [← X1.out]; exact u32_r h
            go_wp2_with (go_at_call 101; refine (HU.out _ D0).mono ?_; rintro e w3 ⟨rfl, hn3⟩; have cz3 := (R0.nowS hn3 (fun e => g2lt e.symm)).cell 1; have fz3 := (R0.nowS hn3 (fun e => g2lt e.symm)).frozen 1; simp only [List.getElem?_cons_zero, List.getElem?_cons_succ] at cz3)
            go_roundw
            case rel => exact .inr (.inr (⟨by go_num, (R0.nowS hn3 (fun e => g2lt e.symm)).set 1 _, rd_far hn3.rd (grownBy_setCell w3 w1.heap.size 1 _) g2lt hbv2, (nowS_below B0 B0.size hge2 hn3).setCell (p := ⟨w1.heap.size, 1, none⟩) bw1 _⟩))
            case measure => simp [intOf]
          · go_wp2
            go_ret
            refine ⟨some ⟨w1.heap.size, 0, none⟩, 2, by rw [HH.out]; rfl, ?_, B0⟩
            rw [HH.out, HR.out]
            exact R0.own bw1 rfl (by show 2 ≤ 100; decide)
    · obtain rfl : n = j := by omega
      go_wp2
      go_ret
      have e := hst.out
      rw [List.drop_of_length_le (by have := HN.out; omega)] at e
      rw [e]
      exact ⟨none, 0, rfl, World.ownsRow_nil _ _ _ _, hbl⟩
end Go.Proofs.Ytognnfknbkedgaa

namespace Go.Proofs.Ytognnfknbkedgaa
open Go.RowKit
set_option linter.unusedSimpArgs false
set_option maxRecDepth 20000
variable {bv : Option Addr}

/-- What a piece that may say something tells: a Tlv, whether it does; the Stamps lie in memory of the call's own. -/
def Stms (B : Nat) (w : World) (t : Tl) : Prop := w.ownsRow B 63 1 (.slice t.sa t.sn t.sc) t.sn (wcells t.st)
def SayR (w : World) (k : TK) (ok : Bool) (e : Ending) (w' : World) : Prop := ∃ t, e = .returned (.tuple #[.agg (tcells t).toArray, .bool ok]) ∧ (ok = true → t.key = k) ∧ Stms w.heap.size w' t
theorem Stms.none (B : Nat) (w : World) (t : Tl) (h1 : t.sa = none) (h2 : t.sn = 0) (h3 : t.sc = 0) (h4 : t.st = []) : Stms B w t := by
  unfold Stms
  rw [h1, h2, h3, h4]
  exact World.ownsRow_nil _ _ _ _
def ackB (l : List UInt8) (r : RS) : Bool := wiB [] l (r.adv l 2)
def ackK (l : List UInt8) (r : RS) : TK := { zeroK with ty := 3, nonce := r.val l 2 }
theorem ack_any {w : World} {P g : Nat} {l : List UInt8} {r : RS} (hp : Pg w P g) (h : RdS w g bv l r) (hl : l.length ≤ 100000) :
    Calls Try.prog 56 #[.pointer (some ⟨P, 0, none⟩)] w fun e w' => SayR w (ackK l r) (ackB l r) e w' ∧ ∃ r', NowS w w' g bv l r' := by
  have hlt := h.lt
  obtain ⟨x, hx⟩ : ∃ x, Hid (r.val l 2 = x) := ⟨_, rfl⟩
  have HU : Hid (∀ W, RdS W g bv l r → Calls Try.prog 48 #[.pointer (some ⟨g, 0, none⟩)] W fun e w' => e = .returned (.int .u16 (x : Int)) ∧ NowS W w' g bv l (r.adv l 2)) := fun W h => by rw [← hx.out]; exact u16_r h
  have HW : Hid (∀ W, Pg W P g → RdS W g bv l (r.adv l 2) → Calls Try.prog 78 #[.pointer (some ⟨P, 0, none⟩), .slice none 0 0] W fun e w' => ∃ a' c' n, e = .returned (.tuple #[.slice a' n c', .bool (ackB l r)]) ∧ NowS W w' g bv l (wiR l (r.adv l 2))) := fun W h1 h2 => by
    refine (within_any h1 h2 hl none 0 0 [] (Src.nil _) (by decide) (fun _ h => by cases h)).mono ?_
    rintro e w' ⟨a', c', ps, rfl, _, _, _, hn⟩
    exact ⟨a', c', _, rfl, hn⟩
  have hEK : Hid (ackK l r = { zeroK with ty := 3, nonce := x }) := by show _ = _; unfold ackK; rw [hx.out]
  generalize ackB l r = b at *
  go_enter Try.func56, Try.ntmps56
  go_wp2_with (first
    | (have kk := hn2; refine stT (.tmp 2) (.tmp 18) (by rfl) rfl gA { zeroT with ty := 3, nonce := x } _ rfl rfl rA2 ?_; intro w4 hg4 r4)
    | (have kk := hn2; refine ldT (.tmp 4) (by rfl) rfl gB { zeroT with ty := 3, nonce := x } rfl rB2 ?_)
    | (go_at_call 78; have kk := rC; refine (HW.out _ hpC nC.rd).mono ?_; rintro e w3 ⟨a3, c3, n3, rfl, hn2⟩; have rA2 := rAC.nowS hn2 hgA; have rB2 := rC.nowS hn2 hgB)
    | (have kk := rB; refine stT (.tmp 4) (.tmp 12) (by rfl) rfl gB { zeroT with ty := 3, nonce := x } _ rfl rfl rB ?_; intro wC hgC rC; have hgB : gB ≠ g := (by omega); have nC : NowS w wC g bv l (r.adv l 2) := NowS.fresh h ((hn1.after a3).below b3) hgC (by omega); have hpC := hp.now nC; have rAC := (rA1.below b3 (by have := hn1.size; omega)).grown hgC (fun e => by have := Option.some.inj e; have := hn1.size; omega))
    | (have kk := hn1; refine alG infoTz (by rfl) rfl ?_; intro gB wB b1 b2 b3 rB; have hs1 := hn1.size; have hs2 := a3.size)
    | (go_at_call 48; refine (HU.out _ (h.below a3)).mono ?_; rintro e w1 ⟨rfl, hn1⟩; have hgA : gA ≠ g := (by omega); have rA1 := rA.nowS hn1 hgA)
    | (refine alG infoTz (by rfl) rfl ?_; intro gA wA a1 a2 a3 rA; have c1 := (hp.below a3).c))
  exact bodyPost_ret (retCT rfl _ _ 0 rfl (lvT r4)) rfl ⟨⟨{ zeroT with ty := 3, nonce := x }, rfl, fun _ => hEK.out.symm, Stms.none _ _ _ rfl rfl rfl rfl⟩, _, NowS.fresh h (nC.trans hn2) hg4 a1⟩
end Go.Proofs.Ytognnfknbkedgaa

namespace Go.Proofs.Ytognnfknbkedgaa
open Go.RowKit
set_option linter.unusedSimpArgs false
set_option maxRecDepth 20000

/-- slices.Equal of the same numbers. -/
theorem equal_true (a b : Option Addr) (n c d : Nat) (st : List UInt32) (w : World) (h1 : Src w a n c (wcells st)) (h2 : Src w b n d (wcells st)) (hn : n ≤ 100000) :
    Calls Try.prog 29 #[.slice a n c, .slice b n d] w fun e w' => e = .returned (.bool true) ∧ Below w.heap.size w w' := by
  have hs1 : Hid (n = st.length) := h1.wlen
  go_enter Try.func29, Try.ntmps29
  go_wp2
  go_loopw [13] (fun i wr => ∃ j : Nat, j ≤ n ∧ i = .int .i64 j ∧ Below w.heap.size w wr) (fun i _ => n - (intOf i).toNat)
  case atStart => exact ⟨0, Nat.zero_le _, rfl, Below.refl _ _⟩
  case round =>
    obtain ⟨j, hj, rfl, hbl⟩ := hrel
    by_cases hlt : j < n
    · have hjk : j < st.length := by have := hs1.out; omega
      cases a with
      | none => exact absurd (h1.bare rfl).1 (by omega)
      | some p =>
        cases b with
        | none => exact absurd (h2.bare rfl).1 (by omega)
        | some q =>
          have d1 := (h1.below hbl h1.lt).wordAt j hjk
          have d2 := (h2.below hbl h2.lt).wordAt j hjk
          generalize st[j].toNat = x at *
          go_wp2
          go_quiet (fail)
          go_wp2
          go_roundw
          case rel => exact ⟨j + 1, by omega, by go_num, below_drewN hbl _⟩
          case measure => simp [intOf]; omega
    · go_wp2
      go_ret
      exact ⟨rfl, hbl⟩
theorem snum_true (t u : Tl) (w : World) (hk : t.key = u.key) :
    Calls Try.prog 28 #[.agg (tcells t).toArray, .agg (tcells u).toArray] w fun e w' => e = .returned (.bool true) ∧ Below w.heap.size w w' := by
  obtain ⟨ty, no, iv, sq, rx, me, ho, un, al, id, ad, pr, sa, sn, sc, st⟩ := t
  obtain ⟨ty', no', iv', sq', rx', me', ho', un', al', id', ad', pr', sb, sm, sd, st'⟩ := u
  unfold Tl.key at hk
  simp only [TK.mk.injEq] at hk
  obtain ⟨rfl, rfl, rfl, rfl, rfl, rfl, rfl, rfl, rfl, rfl, rfl, rfl, rfl⟩ := hk
  generalize hT : (⟨ty, no, iv, sq, rx, me, ho, un, al, id, ad, pr, sa, sn, sc, st⟩ : Tl) = t
  generalize hU : (⟨ty, no, iv, sq, rx, me, ho, un, al, id, ad, pr, sb, sm, sd, st⟩ : Tl) = u
  have T0 : (tcells t)[0]? = some (.int .u8 (ty : Int)) := by rw [← hT]; rfl
  have U0 : (tcells u)[0]? = some (.int .u8 (ty : Int)) := by rw [← hU]; rfl
  have T1 : (tcells t)[1]? = some (.int .u16 (no : Int)) := by rw [← hT]; rfl
  have U1 : (tcells u)[1]? = some (.int .u16 (no : Int)) := by rw [← hU]; rfl
  have T2 : (tcells t)[2]? = some (.int .u16 (iv : Int)) := by rw [← hT]; rfl
  have U2 : (tcells u)[2]? = some (.int .u16 (iv : Int)) := by rw [← hU]; rfl
  have T3 : (tcells t)[3]? = some (.int .u16 (sq : Int)) := by rw [← hT]; rfl
  have U3 : (tcells u)[3]? = some (.int .u16 (sq : Int)) := by rw [← hU]; rfl
  have T4 : (tcells t)[4]? = some (.int .u16 (rx : Int)) := by rw [← hT]; rfl
  have U4 : (tcells u)[4]? = some (.int .u16 (rx : Int)) := by rw [← hU]; rfl
  have T5 : (tcells t)[5]? = some (.int .u16 (me : Int)) := by rw [← hT]; rfl
  have U5 : (tcells u)[5]? = some (.int .u16 (me : Int)) := by rw [← hU]; rfl
  have T6 : (tcells t)[6]? = some (.int .u8 (ho : Int)) := by rw [← hT]; rfl
  have U6 : (tcells u)[6]? = some (.int .u8 (ho : Int)) := by rw [← hU]; rfl
  clear hT hU
  go_enter Try.func28, Try.ntmps28
  go_wp2
  go_ret
  exact ⟨rfl, bt (ba _ _) (ba _ _)⟩
set_option maxHeartbeats 2000000 in
theorem psame_true (t u : Tl) (w : World) (ht : TSrc w t) (hu : TSrc w u) (hk : t.key = u.key) (hn : t.sn ≤ 100000) :
    Calls Try.prog 12 #[.agg (tcells t).toArray, .agg (tcells u).toArray] w fun e w' => e = .returned (.bool true) ∧ Below w.heap.size w w' := by
  have HSN : Hid (∀ W, Calls Try.prog 28 #[.agg (tcells t).toArray, .agg (tcells u).toArray] W fun e w' => e = .returned (.bool true) ∧ Below W.heap.size W w') := fun W => snum_true t u W hk
  obtain ⟨ty, no, iv, sq, rx, me, ho, un, al, id, ad, pr, sa, sn, sc, st⟩ := t
  obtain ⟨ty', no', iv', sq', rx', me', ho', un', al', id', ad', pr', sb, sm, sd, st'⟩ := u
  unfold Tl.key at hk
  simp only [TK.mk.injEq] at hk
  obtain ⟨rfl, rfl, rfl, rfl, rfl, rfl, rfl, rfl, rfl, rfl, rfl, rfl, rfl⟩ := hk
  have hs1 : Hid (sn = st.length) := TSrc.len ht
  obtain rfl : sm = sn := (TSrc.len hu).trans hs1.out.symm
  have hm : sm ≤ 100000 := hn
  clear hn
  generalize hT : (⟨ty, no, iv, sq, rx, me, ho, un, al, id, ad, pr, sa, sm, sc, st⟩ : Tl) = t at *
  generalize hU : (⟨ty, no, iv, sq, rx, me, ho, un, al, id, ad, pr, sb, sm, sd, st⟩ : Tl) = u at *
  have HT : Hid ((⟨ty, no, iv, sq, rx, me, ho, un, al, id, ad, pr, sa, sm, sc, st⟩ : Tl) = t) := hT
  have HU : Hid ((⟨ty, no, iv, sq, rx, me, ho, un, al, id, ad, pr, sb, sm, sd, st⟩ : Tl) = u) := hU
  have s1 : Src w sa sm sc (wcells st) := by rw [← hT] at ht; exact ht
  have s2 : Src w sb sm sd (wcells st) := by rw [← hU] at hu; exact hu
  have eI : ∀ w, (Op.equalIn (9998 + 2) 24 (.agg (icells id).toArray) (.agg (icells id).toArray)).run Try.prog w = .ok true w := fun w => by rw [eqI 9998 id id w]; simp
  have eA : ∀ w, (Op.equalIn (9998 + 2) 26 (Value.agg (acells ad).toArray) (Value.agg (acells ad).toArray)).run Try.prog w = .ok true w := fun w => by rw [eqA 9998 ad ad w]; simp
  have eQ : ∀ w, (Op.equalIn (9996 + 4) 30 (Value.agg (qcells pr).toArray) (Value.agg (qcells pr).toArray)).run Try.prog w = .ok true w := fun w => by rw [eqQ 9996 pr pr w]; simp
  have RT := (Row.new w 33 (tcells t)).alloc (.cells (tcells u).toArray 33)
  have RU := two_newR w (.cells (tcells t).toArray 33) 33 (tcells u)
  have BX := bt (ba w (.cells (tcells t).toArray 33)) (ba _ (.cells (tcells u).toArray 33))
  clear hT hU ht hu
  go_enter Try.func12, Try.ntmps12
  go_wp2_with (first
    | (go_at_call 29; have kk := hb1; refine (equal_true sa sb sm sc sd st _ (s1.below bW s1.lt) (s2.below bW s2.lt) hm).mono ?_; rintro e w2 ⟨rfl, hb2⟩)
    | (have kk := hb1; refine ldQ (.tmp 39) (by rfl) rfl _ _ pr rfl p2 ?_)
    | (have kk := hb1; refine ldQ (.tmp 37) (by rfl) rfl _ _ pr rfl p1 ?_)
    | (have kk := hb1; refine ldA (.tmp 32) (by rfl) rfl _ _ ad rfl a2 ?_)
    | (have kk := hb1; refine ldA (.tmp 30) (by rfl) rfl _ _ ad rfl a1 ?_)
    | (have kk := hb1; refine ldI (.tmp 25) (by rfl) rfl _ _ id rfl i2 ?_)
    | (have kk := hb1; refine ldI (.tmp 23) (by rfl) rfl _ _ id rfl i1 ?_)
    | (go_at_call 28; refine (HSN.out _).mono ?_; rintro e wr ⟨rfl, hb1⟩; have rT := RT.below hb1 RT.lt; have rU := RU.below hb1 RU.lt; have bW := bt BX hb1; have i1 : wr.rangeAt w.heap.size 9 (icells id) := (by have := rT.rId2; rw [← HT.out] at this; exact this); have i2 : wr.rangeAt (w.heap.size + 1) 9 (icells id) := (by have := rU.rId2; rw [← HU.out] at this; exact this); have a1 : LA wr w.heap.size 17 ad := (by have := rT.rAd; rw [← HT.out] at this; exact this); have a2 : LA wr (w.heap.size + 1) 17 ad := (by have := rU.rAd; rw [← HU.out] at this; exact this); have p1 : LQ wr w.heap.size 33 pr := (by have := rT.rPr; rw [← HT.out] at this; exact this); have p2 : LQ wr (w.heap.size + 1) 33 pr := (by have := rU.rPr; rw [← HU.out] at this; exact this); have m7 : wr.cell? ⟨w.heap.size, 7, none⟩ = some (.bool un) := (by have := rT.cell 7; rw [← HT.out] at this; exact this); have n7 : wr.cell? ⟨w.heap.size + 1, 7, none⟩ = some (.bool un) := (by have := rU.cell 7; rw [← HU.out] at this; exact this); have m8 : wr.cell? ⟨w.heap.size, 8, none⟩ = some (.bool al) := (by have := rT.cell 8; rw [← HT.out] at this; exact this); have n8 : wr.cell? ⟨w.heap.size + 1, 8, none⟩ = some (.bool al) := (by have := rU.cell 8; rw [← HU.out] at this; exact this); have k67 : wr.cell? ⟨w.heap.size, 67, none⟩ = some (.slice sa sm sc) := (by have := rT.rSt; rw [← HT.out] at this; exact this); have l67 : wr.cell? ⟨w.heap.size + 1, 67, none⟩ = some (.slice sb sm sd) := (by have := rU.rSt; rw [← HU.out] at this; exact this))
    | (refine ldT (.tmp 3) (by rfl) rfl (w.heap.size + 1) u rfl RU ?_)
    | (refine ldT (.tmp 2) (by rfl) rfl w.heap.size t rfl RT ?_))
  go_ret
  exact ⟨rfl, bt bW hb2⟩
end Go.Proofs.Ytognnfknbkedgaa
