/-
  The contract of stamps of package packet, for one number and for two.
-/
import Derived.Test.YtaleclmccmeglaaPar
namespace Go.Proofs.Ytaleclmccmeglaa
open Go.RowKit
set_option linter.unusedSimpArgs false
set_option maxRecDepth 20000
variable {bv : Option Addr}

/-- n numbers of four bytes each. -/
def nums : Nat → List UInt8 → RS → List UInt32
  | 0, _, _ => []
  | n + 1, l, r => UInt32.ofNat (r.val l 4) :: nums n l (r.adv l 4)
/-- The numbers of the first piece that has as many. -/
def stF (n : Nat) : List (UInt8 × List UInt8) → List UInt32
  | [] => []
  | k :: ks => if k.2.length < 4 * n then stF n ks else nums n k.2 ⟨0, 0⟩
theorem stF_drop {n : Nat} {ps : List Pc} {j : Nat} (hj : j < ps.length) (h : ps[j].l.length < 4 * n) : stF n (keys (ps.drop j)) = stF n (keys (ps.drop (j + 1))) := by
  rw [List.drop_eq_getElem_cons hj]
  simp only [keys, List.map_cons, stF]
  rw [if_pos h]
theorem stF_hit {n : Nat} {ps : List Pc} {j : Nat} (hj : j < ps.length) (h : ¬ ps[j].l.length < 4 * n) : stF n (keys (ps.drop j)) = nums n ps[j].l ⟨0, 0⟩ := by
  rw [List.drop_eq_getElem_cons hj]
  simp only [keys, List.map_cons, stF]
  rw [if_neg h]
/-- What stamps answers: numbers in memory of its own. -/
def Stamped (w : World) (ls : List UInt32) (e : Ending) (w' : World) : Prop := ∃ a c, e = .returned (.slice a ls.length c) ∧ w'.ownsRow w.heap.size 77 1 (.slice a ls.length c) ls.length (wcells ls) ∧ Below w.heap.size w w'
theorem val4_lt (r : RS) (l : List UInt8) : r.val l 4 < 4294967296 := by
  show nv (tkB l r.p r.y 4) < 4294967296
  simpa using nv_lt_of l r.p 4 r.y
theorem w32 (r : RS) (l : List UInt8) : Value.int .u32 (((UInt32.ofNat (r.val l 4)).toNat : Nat) : Int) = .int .u32 (r.val l 4 : Int) := by
  have h := val4_lt r l
  congr 1
  simp
  omega
theorem Row.own {w : World} {g B n : Nat} {t : TypeId} {cs : List Value} (h : Row w g t cs) (hB : B ≤ g) (hn : cs.length = n) (hm : n ≤ 100) : w.ownsRow B t 1 (.slice (some ⟨g, 0, none⟩) n n) n cs := by
  refine ⟨by omega, .inr ⟨g, n, cs.toArray, rfl, hB, h, Nat.le_refl _, by unfold maxLen; omega, by simp; omega, ?_⟩⟩
  simp [List.take_of_length_le, hn]
theorem mk1 (w : World) : (Instr.makeSlice 42 (.int .i64 1) (.int .i64 1)).run Try.prog w = .ok (.slice (some ⟨w.heap.size, 0, none⟩) 1 1) (w.alloc (.cells #[.int .u32 0] 77)) := by kernel_rfl
theorem mk2 (w : World) : (Instr.makeSlice 42 (.int .i64 2) (.int .i64 2)).run Try.prog w = .ok (.slice (some ⟨w.heap.size, 0, none⟩) 2 2) (w.alloc (.cells #[.int .u32 0, .int .u32 0] 77)) := by kernel_rfl
theorem rd_far {w w' : World} {g k : Nat} {l : List UInt8} {r : RS} (h : RdS w g bv l r) (hg : w.grownBy w' (some k)) (h1 : g ≠ k) (h2 : ∀ ad, bv = some ad → l ≠ [] → ad.block ≠ k) : RdS w' g bv l r := Rd.kept h hg (fun e => h1 (Option.some.inj e)) (fun ad had hl e => h2 ad had hl (Option.some.inj e))
theorem nowS_below {B : Nat} {a b c : World} {g : Nat} {l : List UInt8} {r : RS} (hb : Below B a b) (hs : B ≤ b.heap.size) (hg : B ≤ g) (h : NowS b c g bv l r) : Below B a c := now_below hb hs hg h

theorem stamps1 (a : Option Addr) (c : Nat) (ps : List Pc) (w : World) (hs : Rws w a ps.length ps) (hn : ps.length ≤ 100000) (hb : ∀ p ∈ ps, p.l.length ≤ 140737488355328) :
    Calls Try.prog 73 #[.int .i64 1, .slice a ps.length c] w (Stamped w (stF 1 (keys ps))) := by
  obtain ⟨n, HN⟩ : ∃ n, Hid (n = ps.length) := ⟨_, rfl⟩
  rw [← HN.out] at hs hn ⊢
  go_enter Try.func73, Try.ntmps73
  go_wp2
  go_loopw [12] (fun i wr => ∃ j : Nat, j ≤ n ∧ i = .int .i64 j ∧ Hid (stF 1 (keys ps) = stF 1 (keys (ps.drop j))) ∧ Below w.heap.size w wr) (fun i _ => n - (intOf i).toNat)
  case atStart => exact ⟨0, Nat.zero_le _, rfl, (rfl : _ = _), Below.refl _ _⟩
  case round =>
    obtain ⟨j, hj, rfl, hst, hbl⟩ := hrel
    by_cases hlt : j < n
    · have hjk : j < ps.length := by have := HN.out; omega
      obtain ⟨g, o, rfl, c0, c1⟩ := (hs.below hbl).at hjk
      have s0 := (hs.body ps[j] (List.getElem_mem hjk)).below hbl (hs.body ps[j] (List.getElem_mem hjk)).lt
      have sl : Hid (ps[j].n = ps[j].l.length) := s0.blen
      have sb := hb ps[j] (List.getElem_mem hjk)
      have hd := @stF_drop 1 ps j hjk
      have hh := @stF_hit 1 ps j hjk
      have hbs := hbl.size
      generalize ps[j].t.toNat = pt at *
      generalize ps[j].a = pa at *
      generalize ps[j].n = pn at *
      generalize ps[j].c = pc at *
      generalize ps[j].l = pl at *
      by_cases h4 : pn < 4
      · have HH : Hid (stF 1 (keys ps) = stF 1 (keys (ps.drop (j + 1)))) := by show _ = _; rw [hst.out]; exact hd (by have := sl.out; omega)
        have h4' : (pn : Int) < 4 := by omega
        clear hd hh s0 sl hst
        go_wp2
        go_roundw
        case rel => exact ⟨j + 1, by omega, by go_num, HH, hbl.alloc hbs _⟩
        case measure => simp [intOf]; omega
      · have HH : Hid (stF 1 (keys ps) = nums 1 pl ⟨0, 0⟩) := by show _ = _; rw [hst.out]; exact hh (by have := sl.out; omega)
        have h4' : ¬ (pn : Int) < 4 := by omega
        have s1 := s0.alloc (.cells #[.int .u8 (pt : Int), .slice pa pn pc] 60)
        have hp5 : pn ≤ 140737488355328 := by have := sl.out; omega
        have bb := hbl.alloc hbs (.cells #[.int .u8 (pt : Int), .slice pa pn pc] 60)
        obtain ⟨x0, X0⟩ : ∃ x, Hid (RS.val (⟨0, 0⟩ : RS) pl 4 = x) := ⟨_, rfl⟩
        have HR : Hid (wcells (nums 1 pl ⟨0, 0⟩) = [.int .u32 (x0 : Int)]) := by
          show _ = _
          simp only [nums, wcells, List.map_cons, List.map_nil, w32]
          rw [X0.out]
        have hmk := mk1
        clear hd hh hst sl
        go_wp2_with (go_at_call 34; refine (new_any pa pn pc pl _ s1 hp5).mono ?_; rintro e w1 ⟨gr, bv, rfl, hge, hbv, hr1, hb1⟩)
        have hge2 : w.heap.size ≤ gr := by simp at hge; omega
        have hbv2 : ∀ ad, bv = some ad → pl ≠ [] → ad.block ≠ w1.heap.size := fun ad had hl => by have := Rd.blt hr1 hl ad had; omega
        have bb1 := bb.trans (hb1.mono (by simp; omega))
        have g2lt : gr ≠ w1.heap.size := by have := Rd.lt hr1; omega
        have bw1 : w.heap.size ≤ w1.heap.size := bb1.size
        have R0 := Row.new w1 77 [.int .u32 0]
        have D0 : RdS (w1.alloc (.cells #[.int .u32 0] 77)) gr bv pl ⟨0, 0⟩ := RdS.below (r := ⟨0, 0⟩) hr1 (ba _ _)
        have B0 := bb1.alloc bw1 (.cells #[.int .u32 0] 77)
        clear hr1 hb1 bb1 bb s1 s0 c0 c1
        go_loopw [29] (fun i wr => (i = .int .i64 0 ∧ Row wr w1.heap.size 77 [.int .u32 0] ∧ RdS wr gr bv pl (⟨0, 0⟩ : RS) ∧ Below w.heap.size w wr) ∨ (i = .int .i64 1 ∧ Row wr w1.heap.size 77 [.int .u32 (x0 : Int)] ∧ RdS wr gr bv pl ((⟨0, 0⟩ : RS).adv pl 4) ∧ Below w.heap.size w wr)) (fun i _ => 1 - (intOf i).toNat)
        case atStart => exact .inl ⟨rfl, R0, D0, B0⟩
        case round =>
          clear R0 D0 B0
          rename World => wq
          rcases hrel with ⟨rfl, R0, D0, B0⟩ | ⟨rfl, R0, D0, B0⟩
          · have cz := R0.cell 0
            have fz := R0.frozen 0
            simp only [List.getElem?_cons_zero, List.getElem?_cons_succ] at cz
            have HU : Hid (∀ W, RdS W gr bv pl (⟨0, 0⟩ : RS) → Calls Try.prog 94 #[.pointer (some ⟨gr, 0, none⟩)] W fun e w' => e = .returned (.int .u32 (x0 : Int)) ∧ NowS W w' gr bv pl ((⟨0, 0⟩ : RS).adv pl 4)) := fun W h => by rw [← X0.out]; exact u32_r h
            go_wp2_with (go_at_call 94; refine (HU.out _ D0).mono ?_; rintro e w3 ⟨rfl, hn3⟩; have cz3 := (R0.nowS hn3 (fun e => g2lt e.symm)).cell 0; have fz3 := (R0.nowS hn3 (fun e => g2lt e.symm)).frozen 0; simp only [List.getElem?_cons_zero, List.getElem?_cons_succ] at cz3)
            go_roundw
            case rel => exact .inr (⟨by go_num, (R0.nowS hn3 (fun e => g2lt e.symm)).set 0 _, rd_far hn3.rd (grownBy_setCell w3 w1.heap.size 0 _) g2lt hbv2, (nowS_below B0 B0.size hge2 hn3).setCell (p := ⟨w1.heap.size, 0, none⟩) bw1 _⟩)
            case measure => simp [intOf]
          · go_wp2
            go_ret
            refine ⟨some ⟨w1.heap.size, 0, none⟩, 1, by rw [HH.out]; rfl, ?_, B0⟩
            rw [HH.out, HR.out]
            exact R0.own bw1 rfl (by show 1 ≤ 100; decide)
    · obtain rfl : n = j := by omega
      go_wp2
      go_ret
      have e := hst.out
      rw [List.drop_of_length_le (by have := HN.out; omega)] at e
      rw [e]
      exact ⟨none, 0, rfl, World.ownsRow_nil _ _ _ _, hbl⟩
theorem stamps2 (a : Option Addr) (c : Nat) (ps : List Pc) (w : World) (hs : Rws w a ps.length ps) (hn : ps.length ≤ 100000) (hb : ∀ p ∈ ps, p.l.length ≤ 140737488355328) :
    Calls Try.prog 73 #[.int .i64 2, .slice a ps.length c] w (Stamped w (stF 2 (keys ps))) := by
  obtain ⟨n, HN⟩ : ∃ n, Hid (n = ps.length) := ⟨_, rfl⟩
  rw [← HN.out] at hs hn ⊢
  go_enter Try.func73, Try.ntmps73
  go_wp2
  go_loopw [12] (fun i wr => ∃ j : Nat, j ≤ n ∧ i = .int .i64 j ∧ Hid (stF 2 (keys ps) = stF 2 (keys (ps.drop j))) ∧ Below w.heap.size w wr) (fun i _ => n - (intOf i).toNat)
  case atStart => exact ⟨0, Nat.zero_le _, rfl, (rfl : _ = _), Below.refl _ _⟩
  case round =>
    obtain ⟨j, hj, rfl, hst, hbl⟩ := hrel
    by_cases hlt : j < n
    · have hjk : j < ps.length := by have := HN.out; omega
      obtain ⟨g, o, rfl, c0, c1⟩ := (hs.below hbl).at hjk
      have s0 := (hs.body ps[j] (List.getElem_mem hjk)).below hbl (hs.body ps[j] (List.getElem_mem hjk)).lt
      have sl : Hid (ps[j].n = ps[j].l.length) := s0.blen
      have sb := hb ps[j] (List.getElem_mem hjk)
      have hd := @stF_drop 2 ps j hjk
      have hh := @stF_hit 2 ps j hjk
      have hbs := hbl.size
      generalize ps[j].t.toNat = pt at *
      generalize ps[j].a = pa at *
      generalize ps[j].n = pn at *
      generalize ps[j].c = pc at *
      generalize ps[j].l = pl at *
      by_cases h4 : pn < 8
      · have HH : Hid (stF 2 (keys ps) = stF 2 (keys (ps.drop (j + 1)))) := by show _ = _; rw [hst.out]; exact hd (by have := sl.out; omega)
        have h4' : (pn : Int) < 8 := by omega
        clear hd hh s0 sl hst
        go_wp2
        go_roundw
        case rel => exact ⟨j + 1, by omega, by go_num, HH, hbl.alloc hbs _⟩
        case measure => simp [intOf]; omega
      · have HH : Hid (stF 2 (keys ps) = nums 2 pl ⟨0, 0⟩) := by show _ = _; rw [hst.out]; exact hh (by have := sl.out; omega)
        have h4' : ¬ (pn : Int) < 8 := by omega
        have s1 := s0.alloc (.cells #[.int .u8 (pt : Int), .slice pa pn pc] 60)
        have hp5 : pn ≤ 140737488355328 := by have := sl.out; omega
        have bb := hbl.alloc hbs (.cells #[.int .u8 (pt : Int), .slice pa pn pc] 60)
        obtain ⟨x0, X0⟩ : ∃ x, Hid (RS.val (⟨0, 0⟩ : RS) pl 4 = x) := ⟨_, rfl⟩
        obtain ⟨x1, X1⟩ : ∃ x, Hid (RS.val ((⟨0, 0⟩ : RS).adv pl 4) pl 4 = x) := ⟨_, rfl⟩
        have HR : Hid (wcells (nums 2 pl ⟨0, 0⟩) = [.int .u32 (x0 : Int), .int .u32 (x1 : Int)]) := by
          show _ = _
          simp only [nums, wcells, List.map_cons, List.map_nil, w32]
          rw [X0.out, X1.out]
        have hmk := mk2
        clear hd hh hst sl
        go_wp2_with (go_at_call 34; refine (new_any pa pn pc pl _ s1 hp5).mono ?_; rintro e w1 ⟨gr, bv, rfl, hge, hbv, hr1, hb1⟩)
        have hge2 : w.heap.size ≤ gr := by simp at hge; omega
        have hbv2 : ∀ ad, bv = some ad → pl ≠ [] → ad.block ≠ w1.heap.size := fun ad had hl => by have := Rd.blt hr1 hl ad had; omega
        have bb1 := bb.trans (hb1.mono (by simp; omega))
        have g2lt : gr ≠ w1.heap.size := by have := Rd.lt hr1; omega
        have bw1 : w.heap.size ≤ w1.heap.size := bb1.size
        have R0 := Row.new w1 77 [.int .u32 0, .int .u32 0]
        have D0 : RdS (w1.alloc (.cells #[.int .u32 0, .int .u32 0] 77)) gr bv pl ⟨0, 0⟩ := RdS.below (r := ⟨0, 0⟩) hr1 (ba _ _)
        have B0 := bb1.alloc bw1 (.cells #[.int .u32 0, .int .u32 0] 77)
        clear hr1 hb1 bb1 bb s1 s0 c0 c1
        go_loopw [29] (fun i wr => (i = .int .i64 0 ∧ Row wr w1.heap.size 77 [.int .u32 0, .int .u32 0] ∧ RdS wr gr bv pl (⟨0, 0⟩ : RS) ∧ Below w.heap.size w wr) ∨ (i = .int .i64 1 ∧ Row wr w1.heap.size 77 [.int .u32 (x0 : Int), .int .u32 0] ∧ RdS wr gr bv pl ((⟨0, 0⟩ : RS).adv pl 4) ∧ Below w.heap.size w wr) ∨ (i = .int .i64 2 ∧ Row wr w1.heap.size 77 [.int .u32 (x0 : Int), .int .u32 (x1 : Int)] ∧ RdS wr gr bv pl (((⟨0, 0⟩ : RS).adv pl 4).adv pl 4) ∧ Below w.heap.size w wr)) (fun i _ => 2 - (intOf i).toNat)
        case atStart => exact .inl ⟨rfl, R0, D0, B0⟩
        case round =>
          clear R0 D0 B0
          rename World => wq
          rcases hrel with ⟨rfl, R0, D0, B0⟩ | ⟨rfl, R0, D0, B0⟩ | ⟨rfl, R0, D0, B0⟩
          · have cz := R0.cell 0
            have fz := R0.frozen 0
            simp only [List.getElem?_cons_zero, List.getElem?_cons_succ] at cz
            have HU : Hid (∀ W, RdS W gr bv pl (⟨0, 0⟩ : RS) → Calls Try.prog 94 #[.pointer (some ⟨gr, 0, none⟩)] W fun e w' => e = .returned (.int .u32 (x0 : Int)) ∧ NowS W w' gr bv pl ((⟨0, 0⟩ : RS).adv pl 4)) := fun W h => by rw [← X0.out]; exact u32_r h
            go_wp2_with (go_at_call 94; refine (HU.out _ D0).mono ?_; rintro e w3 ⟨rfl, hn3⟩; have cz3 := (R0.nowS hn3 (fun e => g2lt e.symm)).cell 0; have fz3 := (R0.nowS hn3 (fun e => g2lt e.symm)).frozen 0; simp only [List.getElem?_cons_zero, List.getElem?_cons_succ] at cz3)
            go_roundw
            case rel => exact .inr (.inl ⟨by go_num, (R0.nowS hn3 (fun e => g2lt e.symm)).set 0 _, rd_far hn3.rd (grownBy_setCell w3 w1.heap.size 0 _) g2lt hbv2, (nowS_below B0 B0.size hge2 hn3).setCell (p := ⟨w1.heap.size, 0, none⟩) bw1 _⟩)
            case measure => simp [intOf]
          · have cz := R0.cell 1
            have fz := R0.frozen 1
            simp only [List.getElem?_cons_zero, List.getElem?_cons_succ] at cz
            have HU : Hid (∀ W, RdS W gr bv pl ((⟨0, 0⟩ : RS).adv pl 4) → Calls Try.prog 94 #[.pointer (some ⟨gr, 0, none⟩)] W fun e w' => e = .returned (.int .u32 (x1 : Int)) ∧ NowS W w' gr bv pl (((⟨0, 0⟩ : RS).adv pl 4).adv pl 4)) := fun W h => by rw [← X1.out]; exact u32_r h
            go_wp2_with (go_at_call 94; refine (HU.out _ D0).mono ?_; rintro e w3 ⟨rfl, hn3⟩; have cz3 := (R0.nowS hn3 (fun e => g2lt e.symm)).cell 1; have fz3 := (R0.nowS hn3 (fun e => g2lt e.symm)).frozen 1; simp only [List.getElem?_cons_zero, List.getElem?_cons_succ] at cz3)
            go_roundw
            case rel => exact .inr (.inr (⟨by go_num, (R0.nowS hn3 (fun e => g2lt e.symm)).set 1 _, rd_far hn3.rd (grownBy_setCell w3 w1.heap.size 1 _) g2lt hbv2, (nowS_below B0 B0.size hge2 hn3).setCell (p := ⟨w1.heap.size, 1, none⟩) bw1 _⟩))
            case measure => simp [intOf]
          · go_wp2
            go_ret
            refine ⟨some ⟨w1.heap.size, 0, none⟩, 2, by rw [HH.out]; rfl, ?_, B0⟩
            rw [HH.out, HR.out]
            exact R0.own bw1 rfl (by show 2 ≤ 100; decide)
    · obtain rfl : n = j := by omega
      go_wp2
      go_ret
      have e := hst.out
      rw [List.drop_of_length_le (by have := HN.out; omega)] at e
      rw [e]
      exact ⟨none, 0, rfl, World.ownsRow_nil _ _ _ _, hbl⟩
end Go.Proofs.Ytaleclmccmeglaa
