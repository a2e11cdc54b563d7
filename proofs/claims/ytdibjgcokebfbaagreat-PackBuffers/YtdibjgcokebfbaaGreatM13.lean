/-
  The contracts of keep, noSource and source of package packet.
-/
import Derived.Test.YtdibjgcokebfbaaGreatM12
namespace Go.Proofs.YtdibjgcokebfbaaGreat
open Go.RowKit
set_option linter.unusedSimpArgs false
set_option maxRecDepth 20000
variable {bv : Option Addr}

/-- What an update makes of its address. -/
def kpI (ae : Nat) (a : Ad) : Id8 := if ae = 1 then spI zeroI 4 (a.l.drop 12) else spI zeroI 0 (a.l.drop 8)
def kpD (s : St) (ae : Nat) (a : Ad) : St := if ae = 1 then { s with d1 := some a } else { s with d2 := some a }
def kpS (s : St) (ae fl : Nat) (a : Ad) : St :=
  let s1 := if (bits BinOp.and IntKind.u8 (fl : Int) 128 != 0) then kpD s ae a else s
  if (bits BinOp.and IntKind.u8 (fl : Int) 64 != 0) then { s1 with r := some (kpI ae a) } else s1
theorem keep_any {w : World} {P : Nat} {R : Option Nat} {s : St} (ae fl : Nat) (a : Ad) (hae : ae = 1 ∨ ae = 2) (hpar : Par w P R s) :
    Calls Tryz.prog 117 #[.pointer (some ⟨P, 0, none⟩), .int .u8 (ae : Int), .int .u8 (fl : Int), (Value.agg (acells a).toArray)] w fun e w' => e = .returned (.tuple #[]) ∧ Par w' P R (kpS s ae fl a) ∧ w.grownBy w' (some P) := by
  unfold kpS
  generalize hb1 : (bits BinOp.and IntKind.u8 (fl : Int) 128 != 0) = b1
  generalize hb2 : (bits BinOp.and IntKind.u8 (fl : Int) 64 != 0) = b2
  have P1 := hpar.below (ba w (.cells (acells a).toArray 23))
  have R1 := Row.new w 23 (acells a)
  have hPl := hpar.lt
  have G1 := grownBy_below (some P) (ba w (.cells (acells a).toArray 23))
  have f9 := P1.frozen 9
  have f10 := P1.frozen 10
  obtain ⟨_, _, _, ⟨v9, c9, _⟩, ⟨v10, c10, _⟩⟩ := P1.at
  have S9 : Hid (Par ((w.alloc (.cells (acells a).toArray 23)).setCell ⟨P, 9, none⟩ (.pointer (some ⟨w.heap.size, 0, none⟩))) P R { s with d1 := some a } ∧ w.grownBy ((w.alloc (.cells (acells a).toArray 23)).setCell ⟨P, 9, none⟩ (.pointer (some ⟨w.heap.size, 0, none⟩))) (some P) ∧ Row ((w.alloc (.cells (acells a).toArray 23)).setCell ⟨P, 9, none⟩ (.pointer (some ⟨w.heap.size, 0, none⟩))) w.heap.size 23 (acells a)) := ⟨P1.setD1 R1, grownBy_trans G1 (grownBy_setCell _ _ _ _), R1.setOther _ _ _ (by omega)⟩
  have S10 : Hid (Par ((w.alloc (.cells (acells a).toArray 23)).setCell ⟨P, 10, none⟩ (.pointer (some ⟨w.heap.size, 0, none⟩))) P R { s with d2 := some a } ∧ w.grownBy ((w.alloc (.cells (acells a).toArray 23)).setCell ⟨P, 10, none⟩ (.pointer (some ⟨w.heap.size, 0, none⟩))) (some P) ∧ Row ((w.alloc (.cells (acells a).toArray 23)).setCell ⟨P, 10, none⟩ (.pointer (some ⟨w.heap.size, 0, none⟩))) w.heap.size 23 (acells a)) := ⟨P1.setD2 R1, grownBy_trans G1 (grownBy_setCell _ _ _ _), R1.setOther _ _ _ (by omega)⟩
  have S0 : Hid (Par (w.alloc (.cells (acells a).toArray 23)) P R s ∧ w.grownBy (w.alloc (.cells (acells a).toArray 23)) (some P) ∧ Row (w.alloc (.cells (acells a).toArray 23)) w.heap.size 23 (acells a)) := ⟨P1, G1, R1⟩
  rw [World.setCell_alloc_past _ _ _ _ hPl] at S9 S10
  clear P1 R1 G1
  rcases hae with rfl | rfl
  · cases b2
    · cases b1
      all_goals
        go_enter Tryz.func117, Tryz.ntmps117
        go_wp2
        go_end0
        first
          | exact ⟨rfl, S0.out.1, S0.out.2.1⟩
          | exact ⟨rfl, S9.out.1, S9.out.2.1⟩
          | exact ⟨rfl, S10.out.1, S10.out.2.1⟩
    · cases b1
      · obtain ⟨X1, X2, X3⟩ := S0.out
        clear S0 S9 S10
        go_enter Tryz.func117, Tryz.ntmps117
        go_wp2_with (refine alG infoIz (by rfl) rfl ?_; intro gI wI i1 i2 i3 rI)
        have i4 : w.heap.size < gI := by simp at i1; omega
        have bX := i3.trans (bd wI |>.mono i3.size)
        have RI1 := X3.below bX X3.lt
        have rI1 := rI.below (bd wI) rI.lt
        clear rI i3 X3 c9 c10 f9 f10
        refine wp_region_noPanic ?_
        refine wp_region_held_drew (S := fun _ => True) (by kernel_rfl) (trivial) (fun hHeld => ?_)
        refine tA 0 ?_
        refine tA 1 ?_
        refine r1 2 fun K hK => ?_
        refine step_copy_splice rfl (.tmp 23) (.tmp 24) 46 46 rfl 5 Tryz.underlying46 (by kernel_rfl) _ _ _ _ _ _ rfl rfl gI 4 (icells zeroI) 38 rI1 (bcells (a.l.drop 12)) (by rw [bcells_length, List.length_drop, a.len]; rfl) (fun _ => ⟨rfl, _, rfl, fun j v hv => ?_⟩) (by rw [bcells_length, icells_len, List.length_drop, a.len]; omega) (bcells_one _) gI _ (Below.refl _ _) (Nat.le_refl _) ?_
        · (rw [Addr.add_mid, RI1.cell]; have e : bcells (a.l.drop 12) = (bcells a.l).drop 12 := (by simp [bcells]); rw [e, List.getElem?_drop] at hv; exact hv)
        intro w2 HG2 hB2
        refine oK hK (by trivial) fun hHeld => ?_
        clear hK K
        refine dN ?_
        refine NoPanic.normal ?_
        have r2 : Row w2 gI 38 (icells (kpI 1 a)) := by show Row w2 gI _ (icells (spI zeroI 4 (a.l.drop 12))); rw [icells_spI _ _ _ (by rw [List.length_drop, a.len]; omega)]; exact HG2.out
        have bX2 := bX.trans (hB2.mono i1)
        have P2 := X1.below bX2
        have f0 := P2.frozen 0
        obtain ⟨⟨v0, c0, _⟩, _⟩ := P2.at
        have G2 := grownBy_trans (grownBy_trans X2 (grownBy_below (some P) bX2)) (grownBy_setCell w2 P 0 (.pointer (some ⟨gI, 0, none⟩)))
        have Q2 := P2.setRt r2
        have HQ : Hid (Par _ P R _ ∧ w.grownBy _ (some P)) := ⟨Q2, G2⟩
        clear HG2 hB2 bX bX2 X1 X2 P2 r2 RI1 rI1 Q2 G2 hHeld
        go_wp2
        go_end0
        exact ⟨rfl, HQ.out.1, HQ.out.2⟩
      · obtain ⟨X1, X2, X3⟩ := S9.out
        clear S0 S9 S10
        go_enter Tryz.func117, Tryz.ntmps117
        go_wp2_with (refine alG infoIz (by rfl) rfl ?_; intro gI wI i1 i2 i3 rI)
        have i4 : w.heap.size < gI := by simp at i1; omega
        have bX := i3.trans (bd wI |>.mono i3.size)
        have RI1 := X3.below bX X3.lt
        have rI1 := rI.below (bd wI) rI.lt
        clear rI i3 X3 c9 c10 f9 f10
        refine wp_region_noPanic ?_
        refine wp_region_held_drew (S := fun _ => True) (by kernel_rfl) (trivial) (fun hHeld => ?_)
        refine tA 0 ?_
        refine tA 1 ?_
        refine r1 2 fun K hK => ?_
        refine step_copy_splice rfl (.tmp 23) (.tmp 24) 46 46 rfl 5 Tryz.underlying46 (by kernel_rfl) _ _ _ _ _ _ rfl rfl gI 4 (icells zeroI) 38 rI1 (bcells (a.l.drop 12)) (by rw [bcells_length, List.length_drop, a.len]; rfl) (fun _ => ⟨rfl, _, rfl, fun j v hv => ?_⟩) (by rw [bcells_length, icells_len, List.length_drop, a.len]; omega) (bcells_one _) gI _ (Below.refl _ _) (Nat.le_refl _) ?_
        · (rw [Addr.add_mid, RI1.cell]; have e : bcells (a.l.drop 12) = (bcells a.l).drop 12 := (by simp [bcells]); rw [e, List.getElem?_drop] at hv; exact hv)
        intro w2 HG2 hB2
        refine oK hK (by trivial) fun hHeld => ?_
        clear hK K
        refine dN ?_
        refine NoPanic.normal ?_
        have r2 : Row w2 gI 38 (icells (kpI 1 a)) := by show Row w2 gI _ (icells (spI zeroI 4 (a.l.drop 12))); rw [icells_spI _ _ _ (by rw [List.length_drop, a.len]; omega)]; exact HG2.out
        have bX2 := bX.trans (hB2.mono i1)
        have P2 := X1.below bX2
        have f0 := P2.frozen 0
        obtain ⟨⟨v0, c0, _⟩, _⟩ := P2.at
        have G2 := grownBy_trans (grownBy_trans X2 (grownBy_below (some P) bX2)) (grownBy_setCell w2 P 0 (.pointer (some ⟨gI, 0, none⟩)))
        have Q2 := P2.setRt r2
        have HQ : Hid (Par _ P R _ ∧ w.grownBy _ (some P)) := ⟨Q2, G2⟩
        clear HG2 hB2 bX bX2 X1 X2 P2 r2 RI1 rI1 Q2 G2 hHeld
        go_wp2
        go_end0
        exact ⟨rfl, HQ.out.1, HQ.out.2⟩
  · cases b2
    · cases b1
      all_goals
        go_enter Tryz.func117, Tryz.ntmps117
        go_wp2
        go_end0
        first
          | exact ⟨rfl, S0.out.1, S0.out.2.1⟩
          | exact ⟨rfl, S9.out.1, S9.out.2.1⟩
          | exact ⟨rfl, S10.out.1, S10.out.2.1⟩
    · cases b1
      · obtain ⟨X1, X2, X3⟩ := S0.out
        clear S0 S9 S10
        go_enter Tryz.func117, Tryz.ntmps117
        go_wp2_with (refine alG infoIz (by rfl) rfl ?_; intro gI wI i1 i2 i3 rI)
        have i4 : w.heap.size < gI := by simp at i1; omega
        have bX := i3.trans (bd wI |>.mono i3.size)
        have RI1 := X3.below bX X3.lt
        have rI1 := rI.below (bd wI) rI.lt
        clear rI i3 X3 c9 c10 f9 f10
        refine wp_region_noPanic ?_
        refine wp_region_held_drew (S := fun _ => True) (by kernel_rfl) (trivial) (fun hHeld => ?_)
        refine tA 0 ?_
        refine tA 1 ?_
        refine r1 2 fun K hK => ?_
        refine step_copy_splice rfl (.tmp 26) (.tmp 27) 46 46 rfl 5 Tryz.underlying46 (by kernel_rfl) _ _ _ _ _ _ rfl rfl gI 0 (icells zeroI) 38 rI1 (bcells (a.l.drop 8)) (by rw [bcells_length, List.length_drop, a.len]; rfl) (fun _ => ⟨rfl, _, rfl, fun j v hv => ?_⟩) (by rw [bcells_length, icells_len, List.length_drop, a.len]; omega) (bcells_one _) gI _ (Below.refl _ _) (Nat.le_refl _) ?_
        · (rw [Addr.add_mid, RI1.cell]; have e : bcells (a.l.drop 8) = (bcells a.l).drop 8 := (by simp [bcells]); rw [e, List.getElem?_drop] at hv; exact hv)
        intro w2 HG2 hB2
        refine oK hK (by trivial) fun hHeld => ?_
        clear hK K
        refine dN ?_
        refine NoPanic.normal ?_
        have r2 : Row w2 gI 38 (icells (kpI 2 a)) := by show Row w2 gI _ (icells (spI zeroI 0 (a.l.drop 8))); rw [icells_spI _ _ _ (by rw [List.length_drop, a.len]; omega)]; exact HG2.out
        have bX2 := bX.trans (hB2.mono i1)
        have P2 := X1.below bX2
        have f0 := P2.frozen 0
        obtain ⟨⟨v0, c0, _⟩, _⟩ := P2.at
        have G2 := grownBy_trans (grownBy_trans X2 (grownBy_below (some P) bX2)) (grownBy_setCell w2 P 0 (.pointer (some ⟨gI, 0, none⟩)))
        have Q2 := P2.setRt r2
        have HQ : Hid (Par _ P R _ ∧ w.grownBy _ (some P)) := ⟨Q2, G2⟩
        clear HG2 hB2 bX bX2 X1 X2 P2 r2 RI1 rI1 Q2 G2 hHeld
        go_wp2
        go_end0
        exact ⟨rfl, HQ.out.1, HQ.out.2⟩
      · obtain ⟨X1, X2, X3⟩ := S10.out
        clear S0 S9 S10
        go_enter Tryz.func117, Tryz.ntmps117
        go_wp2_with (refine alG infoIz (by rfl) rfl ?_; intro gI wI i1 i2 i3 rI)
        have i4 : w.heap.size < gI := by simp at i1; omega
        have bX := i3.trans (bd wI |>.mono i3.size)
        have RI1 := X3.below bX X3.lt
        have rI1 := rI.below (bd wI) rI.lt
        clear rI i3 X3 c9 c10 f9 f10
        refine wp_region_noPanic ?_
        refine wp_region_held_drew (S := fun _ => True) (by kernel_rfl) (trivial) (fun hHeld => ?_)
        refine tA 0 ?_
        refine tA 1 ?_
        refine r1 2 fun K hK => ?_
        refine step_copy_splice rfl (.tmp 26) (.tmp 27) 46 46 rfl 5 Tryz.underlying46 (by kernel_rfl) _ _ _ _ _ _ rfl rfl gI 0 (icells zeroI) 38 rI1 (bcells (a.l.drop 8)) (by rw [bcells_length, List.length_drop, a.len]; rfl) (fun _ => ⟨rfl, _, rfl, fun j v hv => ?_⟩) (by rw [bcells_length, icells_len, List.length_drop, a.len]; omega) (bcells_one _) gI _ (Below.refl _ _) (Nat.le_refl _) ?_
        · (rw [Addr.add_mid, RI1.cell]; have e : bcells (a.l.drop 8) = (bcells a.l).drop 8 := (by simp [bcells]); rw [e, List.getElem?_drop] at hv; exact hv)
        intro w2 HG2 hB2
        refine oK hK (by trivial) fun hHeld => ?_
        clear hK K
        refine dN ?_
        refine NoPanic.normal ?_
        have r2 : Row w2 gI 38 (icells (kpI 2 a)) := by show Row w2 gI _ (icells (spI zeroI 0 (a.l.drop 8))); rw [icells_spI _ _ _ (by rw [List.length_drop, a.len]; omega)]; exact HG2.out
        have bX2 := bX.trans (hB2.mono i1)
        have P2 := X1.below bX2
        have f0 := P2.frozen 0
        obtain ⟨⟨v0, c0, _⟩, _⟩ := P2.at
        have G2 := grownBy_trans (grownBy_trans X2 (grownBy_below (some P) bX2)) (grownBy_setCell w2 P 0 (.pointer (some ⟨gI, 0, none⟩)))
        have Q2 := P2.setRt r2
        have HQ : Hid (Par _ P R _ ∧ w.grownBy _ (some P)) := ⟨Q2, G2⟩
        clear HG2 hB2 bX bX2 X1 X2 P2 r2 RI1 rI1 Q2 G2 hHeld
        go_wp2
        go_end0
        exact ⟨rfl, HQ.out.1, HQ.out.2⟩
end Go.Proofs.YtdibjgcokebfbaaGreat

namespace Go.Proofs.YtdibjgcokebfbaaGreat
open Go.RowKit
set_option linter.unusedSimpArgs false
set_option maxRecDepth 20000
variable {bv : Option Addr}

/-- Whether a piece of AeAny says something. -/
def nsB (l : List UInt8) (r : RS) : Bool := wiB [128] l r && decide ((wiL [128] l r).length = 0)
/-- The prefix that a SubSource tells. -/
def soR (l : List UInt8) (r : RS) : RS := if r.val l 1 = 0 then (r.adv l 1).bad else r.adv l 1
def soP (s : St) (ae : Nat) (l : List UInt8) (r : RS) : Pf := pfP s ae (r.val l 1) 0 l (soR l r)
def soN (s : St) (ae : Nat) (l : List UInt8) (r : RS) : RS := pfR s ae (r.val l 1) 0 l (soR l r)
end Go.Proofs.YtdibjgcokebfbaaGreat

namespace Go.Proofs.YtdibjgcokebfbaaGreat
open Go.RowKit
set_option linter.unusedSimpArgs false
set_option maxRecDepth 20000
variable {bv : Option Addr}

def aqB (l : List UInt8) (r : RS) : Bool := wiB [] l (((r.adv l 2).adv l 2).adv l 2)
def aqK (l : List UInt8) (r : RS) : TK := { zeroK with ty := 2, nonce := (r.adv l 2).val l 2, intv := ((r.adv l 2).adv l 2).val l 2 }
end Go.Proofs.YtdibjgcokebfbaaGreat

namespace Go.Proofs.YtdibjgcokebfbaaGreat
open Go.RowKit
set_option linter.unusedSimpArgs false
set_option maxRecDepth 20000
variable {bv : Option Addr}

/-- The bodies of pieces are no longer than the bytes. -/
theorem spl_le : ∀ (f : Nat) (l : List UInt8), ∀ k ∈ (spl f l).1, k.2.length ≤ l.length
  | 0, _, k, hk => by simp [spl] at hk
  | _ + 1, [], k, hk => by simp [spl] at hk
  | f + 1, t :: r, k, hk => by
    unfold spl at hk
    split at hk
    · rcases List.mem_cons.1 hk with rfl | hk
      · simp
      · have := spl_le f r k hk; simp; omega
    · cases r with
      | nil => simp at hk
      | cons q s =>
        simp only at hk
        split at hk
        · simp at hk
        · rcases List.mem_cons.1 hk with rfl | hk
          · simp; omega
          · have := spl_le f _ k hk
            simp at this ⊢
            omega
def heB (l : List UInt8) (r : RS) : Bool := wiB [3] l (((r.adv l 2).adv l 2).adv l 2)
def heU (l : List UInt8) (r : RS) : Bool := (bits BinOp.and IntKind.u16 (r.val l 2 : Int) 32768 != 0)
def heK (l : List UInt8) (r : RS) : TK := { zeroK with ty := 4, uni := heU l r, seq := (r.adv l 2).val l 2, intv := ((r.adv l 2).adv l 2).val l 2, st := stF 1 (wiL [3] l (((r.adv l 2).adv l 2).adv l 2)) }
end Go.Proofs.YtdibjgcokebfbaaGreat

namespace Go.Proofs.YtdibjgcokebfbaaGreat
open Go.RowKit
set_option linter.unusedSimpArgs false
set_option maxRecDepth 20000
variable {bv : Option Addr}

def ihB (l : List UInt8) (r : RS) : Bool := wiB [3] l (adN (r.val l 1) l ((((r.adv l 1).adv l 1).adv l 2).adv l 2))
def ihK (l : List UInt8) (r : RS) : TK := { zeroK with ty := 5, all := decide (r.val l 1 = 0), rx := ((r.adv l 1).adv l 1).val l 2, intv := (((r.adv l 1).adv l 1).adv l 2).val l 2, ad := adA (r.val l 1) l ((((r.adv l 1).adv l 1).adv l 2).adv l 2), st := stF 2 (wiL [3] l (adN (r.val l 1) l ((((r.adv l 1).adv l 1).adv l 2).adv l 2))) }
end Go.Proofs.YtdibjgcokebfbaaGreat

namespace Go.Proofs.YtdibjgcokebfbaaGreat
open Go.RowKit
set_option linter.unusedSimpArgs false
set_option maxRecDepth 20000
variable {bv : Option Addr}

section
variable {ops : Array Oper} {op : Oper} {a : Act} {w : World} {Q : Exit → Act → World → Prop} {K : Act → World → Prop} {E : Prop}
theorem sStQ (x y : Operand) (hw : Region.wanted op (yielded ops a.tmps) = true) (ho : op.op = .store 42 x y) (b : Nat) (q : Pr) (cs : List Value) (hl : cs.length = 34) (hx : a.eval x = .pointer (some ⟨b, 0, none⟩)) (hy : a.eval y = (Value.agg (qcells q).toArray)) (hr : Row w b 42 cs)
    (h : ∀ W, w.grownBy W (some b) → Row W b 42 (qcells q) → K (a.put op.dst undef) W) : if Region.wanted op (yielded ops a.tmps) = true then Oper.wp Tryz.prog op a w K Q else E := by
  rw [if_pos hw]
  refine wp_store_mid _ x y ho b 0 _ hx hy (by simpa [qcells_len] using hr.there (n := 34) (by omega)) (by rw [infoQ]; simp [qcells_len]) (all_oneCell_toArray (qcells_one q)) (h _ (grownBy_setCells b _ _ _) ?_)
  have := Row.setCells (qcells q) [] w cs hr (by rw [qcells_len, hl])
  simpa using this
end
/-- The pair that a piece tells, and whether it may be. -/
def prK (s : St) (ae : Nat) (dst : Pf) (l : List UInt8) (r : RS) : Pr := match wiL [128] l r with
  | [] => ⟨dst, anyP (famP dst)⟩
  | k :: _ => ⟨dst, soP s ae k.2 ⟨0, 0⟩⟩
def prW (s : St) (ae : Nat) (l : List UInt8) (r : RS) : Bool := match wiL [128] l r with
  | [] => true
  | k :: _ => (soN s ae k.2 ⟨0, 0⟩).y == 0
def prB (s : St) (ae : Nat) (dst : Pf) (l : List UInt8) (r : RS) : Bool := if wiB [128] l r && decide ((wiL [128] l r).length ≤ 1) then prW s ae l r && (chkQ (prK s ae dst l r) == 0) else false
def prQ (s : St) (ae : Nat) (dst : Pf) (l : List UInt8) (r : RS) : Pr := if wiB [128] l r && decide ((wiL [128] l r).length ≤ 1) then prK s ae dst l r else zeroQ
theorem wiB_y {ts l : List UInt8} {r : RS} (h : wiB ts l r = true) : wiR l r = ⟨l.length, 0⟩ := by
  unfold wiB at h
  unfold wiR
  split at h
  · rename_i h0
    rw [if_pos h0]
  · cases h
section
variable {ops : Array Oper} {rest : List Oper} {op : Oper} {a : Act} {w : World} {Q : Exit → Act → World → Prop}
end
/-- What pair answers. -/
def Paired (w : World) (P g : Nat) (s : St) (q : Pr) (b : Bool) (e : Ending) (w' : World) : Prop := e = .returned (.tuple #[(Value.agg (qcells q).toArray), .bool b]) ∧ (∃ R, Par w' P R s) ∧ Mv w w' P g
set_option maxHeartbeats 1000000 in
theorem pair_0 {w : World} {P g : Nat} {l : List UInt8} {r : RS} {s : St} (ae : Nat) (dst : Pf) (hl : l.length ≤ 100000) (hpar : Par w P (some g) s) (h : RdS w g bv l r) (hb : wiB [128] l r = true) (hx : (wiL [128] l r).length = 0) :
    Calls Tryz.prog 118 #[.pointer (some ⟨P, 0, none⟩), .int .u8 (ae : Int), (Value.agg (pcells dst).toArray)] w (Paired w P g s ⟨dst, anyP (famP dst)⟩ (chkQ ⟨dst, anyP (famP dst)⟩ == 0)) := by
  have hR := wiB_y hb
  have hp := hpar.pg h
  have hlt := h.lt
  have HW : Hid (∀ W a, Pg W P g → RdS W g bv l r → Src W (some a) 1 1 (bcells [128]) → a.block ≠ g → Calls Tryz.prog 108 #[.pointer (some ⟨P, 0, none⟩), .slice (some a) 1 1] W fun e w' => ∃ a' c' ps n, Hid (n = ps.length) ∧ e = .returned (.tuple #[.slice a' n c', .bool true]) ∧ Hid (n = ps.length ∧ keys ps = wiL [128] l r ∧ ps.length ≤ 100000) ∧ Told W w' a' c' ps ∧ NowS W w' g bv l (wiR l r)) := fun W a h1 h2 h3 h4 => by
    rw [← hb]
    refine (within_any h1 h2 hl (some a) 1 1 [128] h3 (by decide) (fun _ h => by cases h; exact h4)).mono ?_
    rintro e w' ⟨a', c', ps, rfl, k1, k2, k3, hn⟩
    exact ⟨a', c', ps, _, (rfl : _ = _), rfl, ⟨rfl, k1, k2⟩, k3, hn⟩
  have HX : Hid ((wiL [128] l r).length = 0) := hx
  rw [hR] at HW
  clear hx hb hR
  go_enter Tryz.func118, Tryz.ntmps118
  go_wp2_with (first
      | (go_at_call 108; refine (HW.out _ _ ((hp.below bA).below (ba _ _)) ((h.below bA).below (ba _ _)) (new_src wA #[.int .u8 128]) (show wA.heap.size ≠ g by have := bA.size; omega)).mono ?_; rintro e w3 ⟨a3, c3, ps, n3, hn3, rfl, hk3, told, hn2⟩; obtain rfl : n3 = 0 := (by obtain ⟨k0, k1, _⟩ := hk3.out; have h9 := HX.out; rw [← k1] at h9; simp [keys] at h9; rw [k0, h9]; rfl))
      | (refine alG infoQz (by rfl) rfl ?_; intro gA wA a1 a2 aw rA; have bA := bt (ba w (.cells (pcells dst).toArray 40)) aw; have rD := (Row.new w 40 (pcells dst)).below aw (Row.new w 40 (pcells dst)).lt))
  have rA3 := (rA.alloc (.cells #[.int .u8 128] 5)).nowS hn2 (by simp at a1; omega)
  have rD3 := (rD.alloc (.cells #[.int .u8 128] 5)).nowS hn2 (by omega)
  have N3 := hn2.after (bt bA (ba wA (.cells #[.int .u8 128] 5)))
  have hA0 : w.heap.size ≤ gA := by simp at a1; omega
  have hAD : gA < w3.heap.size := rA3.lt
  have hqA : gA ≠ g := by omega
  have hB := bd w3
  have hs3 := N3.size
  clear aw rA rD bA a1 a2
  refine wp_region_noPanic ?_
  refine wp_region_held_drew (S := fun W => Row W w.heap.size 40 (pcells dst)) (by kernel_rfl) (rD3.below hB rD3.lt) (fun hHeld => ?_)
  refine tL 0 rfl (yP dst (fun W hW => hW.range) (by rfl) rfl rfl) ?_
  refine tL 1 rfl (yP dst (fun W hW => hW.range) (by rfl) rfl rfl) ?_
  refine rM [2,5] ?_
  refine cL (fun K hK => ?_) ?_
  · skip
    go_simp
    refine (pfam_any dst _).mono ?_
    rintro e w4 ⟨rfl, hb4⟩
    try replace rB := rB.below hb4 rB.lt
    replace hB := hB.trans (hb4.mono hB.size)
    refine oK hK (by exact rD3.below hB rD3.lt) fun hHeld => ?_
    clear hK K
    refine rM [3,5] ?_
    refine cL (fun K hK => ?_) ?_
    · skip
      go_simp
      refine (any_any _ _).mono ?_
      rintro e w4 ⟨rfl, hb4⟩
      try replace rB := rB.below hb4 rB.lt
      replace hB := hB.trans (hb4.mono hB.size)
      refine oK hK (by exact rD3.below hB rD3.lt) fun hHeld => ?_
      clear hK K
      refine tL 4 rfl (yB [(0, .tmp 25), (1, .tmp 28)] (by rfl) rfl (bdPr dst (anyP (famP dst)))) ?_
      refine r1 5 fun K hK => ?_
      refine sAlG infoQz (by rfl) rfl ?_
      intro gB wB b1 b2 b3 rB
      have hgB : w3.heap.size ≤ gB := Nat.le_trans hB.size b1
      replace hB := hB.trans (b3.mono hB.size)
      clear b1 b2 b3
      refine oK hK (by exact rD3.below hB rD3.lt) fun hHeld => ?_
      clear hK K
      refine r1 6 fun K hK => ?_
      refine sStQ (.tmp 10) (.tmp 29) (by rfl) rfl gB ⟨dst, anyP (famP dst)⟩ _ (qcells_len _) rfl rfl rB ?_
      intro wC hgC rC
      replace hB := hB.grown hgC hB.size (fun k hk => by cases hk; exact hgB)
      refine oK hK (by exact rD3.below hB rD3.lt) fun hHeld => ?_
      clear hK K
      refine dN ?_
      refine NoPanic.normal ?_
      clear hHeld
      have rAf := rA3.below hB rA3.lt
      have NF := N3.below hB
      have PF := hpar.now h NF
      have MF : Mv w wC P g := Mv.ofNow NF
      have hqB : gB ≠ g := by omega
      go_wp2
      have RF := NF.rd.below (bd wC)
      have PD := PF.below (bd wC)
      replace rC := rC.below (bd wC) rC.lt
      replace rAf := rAf.below (bd wC) rAf.lt
      replace MF := MF.trans (Mv.ofB (bd wC))
      replace PF := PD
      clear PD
      refine wp_region_noPanic ?_
      refine wp_region_held_drew (S := fun W => Row W gB 42 (qcells (⟨dst, anyP (famP dst)⟩))) (by kernel_rfl) (rC) (fun hHeld => ?_)
      refine tL 0 rfl (yQ (⟨dst, anyP (famP dst)⟩) (fun W hW => hW.range) (by rfl) rfl rfl) ?_
      refine tA 1 ?_
      refine r1 2 fun K hK => ?_
      go_simp
      refine (well_any (PF.pg RF) RF).mono ?_
      rintro e w6 ⟨rfl, hn6⟩
      have rF6 := rAf
      replace rAf := rAf.nowS hn6 hqA
      replace rC := rC.nowS hn6 hqB
      replace PF := PF.now RF hn6
      replace MF := MF.trans (Mv.ofNow hn6)
      refine oK hK (by exact rC) fun hHeld => ?_
      clear hK K
      refine tA 3 ?_
      refine tL 4 rfl (yQ (⟨dst, anyP (famP dst)⟩) (fun W hW => hW.range) (by rfl) rfl rfl) ?_
      refine r1 5 fun K hK => ?_
      go_simp
      refine (checkQ_any (⟨dst, anyP (famP dst)⟩) _).mono ?_
      rintro e w7 ⟨rfl, hb7⟩
      replace rAf := rAf.below hb7 rAf.lt
      replace rC := rC.below hb7 rC.lt
      replace PF := PF.below hb7
      replace MF := MF.trans (Mv.ofB hb7)
      refine oK hK (by exact rC) fun hHeld => ?_
      clear hK K
      refine tA 6 ?_
      refine tA 7 ?_
      refine r1 8 fun K hK => ?_
      refine sStQ (.tmp 6) (.tmp 45) (by rfl) rfl gA (⟨dst, anyP (famP dst)⟩) _ (qcells_len _) rfl rfl rAf ?_
      intro w8 hg8 r8
      have rC8 := rC.grown hg8 (fun e => by have := Option.some.inj e; omega)
      replace PF := PF.fresh hg8 (fun t cs hr => by unfold Row at hr rAf; rw [rAf] at hr; cases hr; exact ⟨by decide, by decide, by decide⟩)
      replace MF := MF.fresh hg8 hA0
      refine oK hK (by exact rC8) fun hHeld => ?_
      clear hK K
      refine tA 9 ?_
      refine dN ?_
      refine NoPanic.normal ?_
      go_wp2
      exact bodyPost_ret (retCT rfl _ _ 0 rfl (lvQ r8.range)) rfl ⟨rfl, ⟨_, PF⟩, MF⟩
    refine cE fun K hK => ?_
    refine sAlG infoQz (by rfl) rfl ?_
    intro gB wB b1 b2 b3 rB
    have hgB : w3.heap.size ≤ gB := Nat.le_trans hB.size b1
    replace hB := hB.trans (b3.mono hB.size)
    clear b1 b2 b3
    refine oK hK (by exact rD3.below hB rD3.lt) fun hHeld => ?_
    clear hK K
    refine r1 3 fun K hK => ?_
    go_simp
    refine (any_any _ _).mono ?_
    rintro e w4 ⟨rfl, hb4⟩
    try replace rB := rB.below hb4 rB.lt
    replace hB := hB.trans (hb4.mono hB.size)
    refine oK hK (by exact rD3.below hB rD3.lt) fun hHeld => ?_
    clear hK K
    refine tL 4 rfl (yB [(0, .tmp 25), (1, .tmp 28)] (by rfl) rfl (bdPr dst (anyP (famP dst)))) ?_
    refine r1 6 fun K hK => ?_
    refine sStQ (.tmp 10) (.tmp 29) (by rfl) rfl gB ⟨dst, anyP (famP dst)⟩ _ (qcells_len _) rfl rfl rB ?_
    intro wC hgC rC
    replace hB := hB.grown hgC hB.size (fun k hk => by cases hk; exact hgB)
    refine oK hK (by exact rD3.below hB rD3.lt) fun hHeld => ?_
    clear hK K
    refine dN ?_
    refine NoPanic.normal ?_
    clear hHeld
    have rAf := rA3.below hB rA3.lt
    have NF := N3.below hB
    have PF := hpar.now h NF
    have MF : Mv w wC P g := Mv.ofNow NF
    have hqB : gB ≠ g := by omega
    go_wp2
    have RF := NF.rd.below (bd wC)
    have PD := PF.below (bd wC)
    replace rC := rC.below (bd wC) rC.lt
    replace rAf := rAf.below (bd wC) rAf.lt
    replace MF := MF.trans (Mv.ofB (bd wC))
    replace PF := PD
    clear PD
    refine wp_region_noPanic ?_
    refine wp_region_held_drew (S := fun W => Row W gB 42 (qcells (⟨dst, anyP (famP dst)⟩))) (by kernel_rfl) (rC) (fun hHeld => ?_)
    refine tL 0 rfl (yQ (⟨dst, anyP (famP dst)⟩) (fun W hW => hW.range) (by rfl) rfl rfl) ?_
    refine tA 1 ?_
    refine r1 2 fun K hK => ?_
    go_simp
    refine (well_any (PF.pg RF) RF).mono ?_
    rintro e w6 ⟨rfl, hn6⟩
    have rF6 := rAf
    replace rAf := rAf.nowS hn6 hqA
    replace rC := rC.nowS hn6 hqB
    replace PF := PF.now RF hn6
    replace MF := MF.trans (Mv.ofNow hn6)
    refine oK hK (by exact rC) fun hHeld => ?_
    clear hK K
    refine tA 3 ?_
    refine tL 4 rfl (yQ (⟨dst, anyP (famP dst)⟩) (fun W hW => hW.range) (by rfl) rfl rfl) ?_
    refine r1 5 fun K hK => ?_
    go_simp
    refine (checkQ_any (⟨dst, anyP (famP dst)⟩) _).mono ?_
    rintro e w7 ⟨rfl, hb7⟩
    replace rAf := rAf.below hb7 rAf.lt
    replace rC := rC.below hb7 rC.lt
    replace PF := PF.below hb7
    replace MF := MF.trans (Mv.ofB hb7)
    refine oK hK (by exact rC) fun hHeld => ?_
    clear hK K
    refine tA 6 ?_
    refine tA 7 ?_
    refine r1 8 fun K hK => ?_
    refine sStQ (.tmp 6) (.tmp 45) (by rfl) rfl gA (⟨dst, anyP (famP dst)⟩) _ (qcells_len _) rfl rfl rAf ?_
    intro w8 hg8 r8
    have rC8 := rC.grown hg8 (fun e => by have := Option.some.inj e; omega)
    replace PF := PF.fresh hg8 (fun t cs hr => by unfold Row at hr rAf; rw [rAf] at hr; cases hr; exact ⟨by decide, by decide, by decide⟩)
    replace MF := MF.fresh hg8 hA0
    refine oK hK (by exact rC8) fun hHeld => ?_
    clear hK K
    refine tA 9 ?_
    refine dN ?_
    refine NoPanic.normal ?_
    go_wp2
    exact bodyPost_ret (retCT rfl _ _ 0 rfl (lvQ r8.range)) rfl ⟨rfl, ⟨_, PF⟩, MF⟩
  refine cE fun K hK => ?_
  refine sAlG infoQz (by rfl) rfl ?_
  intro gB wB b1 b2 b3 rB
  have hgB : w3.heap.size ≤ gB := Nat.le_trans hB.size b1
  replace hB := hB.trans (b3.mono hB.size)
  clear b1 b2 b3
  refine oK hK (by exact rD3.below hB rD3.lt) fun hHeld => ?_
  clear hK K
  refine r1 2 fun K hK => ?_
  go_simp
  refine (pfam_any dst _).mono ?_
  rintro e w4 ⟨rfl, hb4⟩
  try replace rB := rB.below hb4 rB.lt
  replace hB := hB.trans (hb4.mono hB.size)
  refine oK hK (by exact rD3.below hB rD3.lt) fun hHeld => ?_
  clear hK K
  refine r1 3 fun K hK => ?_
  go_simp
  refine (any_any _ _).mono ?_
  rintro e w4 ⟨rfl, hb4⟩
  try replace rB := rB.below hb4 rB.lt
  replace hB := hB.trans (hb4.mono hB.size)
  refine oK hK (by exact rD3.below hB rD3.lt) fun hHeld => ?_
  clear hK K
  refine tL 4 rfl (yB [(0, .tmp 25), (1, .tmp 28)] (by rfl) rfl (bdPr dst (anyP (famP dst)))) ?_
  refine r1 6 fun K hK => ?_
  refine sStQ (.tmp 10) (.tmp 29) (by rfl) rfl gB ⟨dst, anyP (famP dst)⟩ _ (qcells_len _) rfl rfl rB ?_
  intro wC hgC rC
  replace hB := hB.grown hgC hB.size (fun k hk => by cases hk; exact hgB)
  refine oK hK (by exact rD3.below hB rD3.lt) fun hHeld => ?_
  clear hK K
  refine dN ?_
  refine NoPanic.normal ?_
  clear hHeld
  have rAf := rA3.below hB rA3.lt
  have NF := N3.below hB
  have PF := hpar.now h NF
  have MF : Mv w wC P g := Mv.ofNow NF
  have hqB : gB ≠ g := by omega
  go_wp2
  have RF := NF.rd.below (bd wC)
  have PD := PF.below (bd wC)
  replace rC := rC.below (bd wC) rC.lt
  replace rAf := rAf.below (bd wC) rAf.lt
  replace MF := MF.trans (Mv.ofB (bd wC))
  replace PF := PD
  clear PD
  refine wp_region_noPanic ?_
  refine wp_region_held_drew (S := fun W => Row W gB 42 (qcells (⟨dst, anyP (famP dst)⟩))) (by kernel_rfl) (rC) (fun hHeld => ?_)
  refine tL 0 rfl (yQ (⟨dst, anyP (famP dst)⟩) (fun W hW => hW.range) (by rfl) rfl rfl) ?_
  refine tA 1 ?_
  refine r1 2 fun K hK => ?_
  go_simp
  refine (well_any (PF.pg RF) RF).mono ?_
  rintro e w6 ⟨rfl, hn6⟩
  have rF6 := rAf
  replace rAf := rAf.nowS hn6 hqA
  replace rC := rC.nowS hn6 hqB
  replace PF := PF.now RF hn6
  replace MF := MF.trans (Mv.ofNow hn6)
  refine oK hK (by exact rC) fun hHeld => ?_
  clear hK K
  refine tA 3 ?_
  refine tL 4 rfl (yQ (⟨dst, anyP (famP dst)⟩) (fun W hW => hW.range) (by rfl) rfl rfl) ?_
  refine r1 5 fun K hK => ?_
  go_simp
  refine (checkQ_any (⟨dst, anyP (famP dst)⟩) _).mono ?_
  rintro e w7 ⟨rfl, hb7⟩
  replace rAf := rAf.below hb7 rAf.lt
  replace rC := rC.below hb7 rC.lt
  replace PF := PF.below hb7
  replace MF := MF.trans (Mv.ofB hb7)
  refine oK hK (by exact rC) fun hHeld => ?_
  clear hK K
  refine tA 6 ?_
  refine tA 7 ?_
  refine r1 8 fun K hK => ?_
  refine sStQ (.tmp 6) (.tmp 45) (by rfl) rfl gA (⟨dst, anyP (famP dst)⟩) _ (qcells_len _) rfl rfl rAf ?_
  intro w8 hg8 r8
  have rC8 := rC.grown hg8 (fun e => by have := Option.some.inj e; omega)
  replace PF := PF.fresh hg8 (fun t cs hr => by unfold Row at hr rAf; rw [rAf] at hr; cases hr; exact ⟨by decide, by decide, by decide⟩)
  replace MF := MF.fresh hg8 hA0
  refine oK hK (by exact rC8) fun hHeld => ?_
  clear hK K
  refine tA 9 ?_
  refine dN ?_
  refine NoPanic.normal ?_
  go_wp2
  exact bodyPost_ret (retCT rfl _ _ 0 rfl (lvQ r8.range)) rfl ⟨rfl, ⟨_, PF⟩, MF⟩
end Go.Proofs.YtdibjgcokebfbaaGreat

namespace Go.Proofs.YtdibjgcokebfbaaGreat
open Go.RowKit
set_option linter.unusedSimpArgs false
set_option maxRecDepth 20000
variable {bv : Option Addr}

theorem Mv.row {w w' : World} {P g k : Nat} {t : TypeId} {cs : List Value} (h : Mv w w' P g) (hr : Row w k t cs) (h1 : k ≠ P) (h2 : k ≠ g) : Row w' k t cs := (h.block k hr.lt h1 h2).trans hr
theorem Row.kind {w : World} {k : Nat} {t : TypeId} {cs : List Value} (hr : Row w k t cs) (h1 : t ≠ 149) (h2 : t ≠ 23) (h3 : t ≠ 38) : ∀ t' cs', Row w k t' cs' → t' ≠ 149 ∧ t' ≠ 23 ∧ t' ≠ 38 := fun t' cs' hr' => by
  unfold Row at hr hr'
  rw [hr] at hr'
  cases hr'
  exact ⟨h1, h2, h3⟩
section
variable {ops : Array Oper} {rest : List Oper} {op : Oper} {a : Act} {w : World} {Q : Exit → Act → World → Prop}
theorem stQt (x y : Operand) (hw : Region.wanted op (yielded ops a.tmps) = true) (ho : op.op = .store 42 x y) (b : Nat) (t : Tl) (q : Pr) (hx : a.eval x = .pointer (some ⟨b, 33, none⟩)) (hy : a.eval y = (Value.agg (qcells q).toArray)) (hr : Row w b 45 (tcells t))
    (h : ∀ W, w.grownBy W (some b) → Row W b 45 (tcells { t with pr := q }) → wpList Tryz.prog ops Q rest (a.put op.dst undef) W) : wpList Tryz.prog ops Q (op :: rest) a w :=
  stQ x y hw ho b 33 q hx hy (hr.thereMid (by rw [tcells_len]; omega)) (h _ (grownBy_setCells b _ _ _) (hr.tPr q))
theorem stIt (x y : Operand) (hw : Region.wanted op (yielded ops a.tmps) = true) (ho : op.op = .store 38 x y) (b : Nat) (t : Tl) (q : Id8) (hx : a.eval x = .pointer (some ⟨b, 9, none⟩)) (hy : a.eval y = .agg (icells q).toArray) (hr : Row w b 45 (tcells t))
    (h : ∀ W, w.grownBy W (some b) → Row W b 45 (tcells { t with id := q }) → wpList Tryz.prog ops Q rest (a.put op.dst undef) W) : wpList Tryz.prog ops Q (op :: rest) a w :=
  stI x y hw ho b 9 q hx hy (hr.thereMid (by rw [tcells_len]; omega)) (h _ (grownBy_setCells b _ _ _) (hr.tId q))
end
def rrB (s : St) (l : List UInt8) (r : RS) : Bool := if r.val l 1 = 0 then nsB l ((r.adv l 1).adv l 1) else prB s (r.val l 1) (pfP s (r.val l 1) ((r.adv l 1).val l 1) 0 l ((r.adv l 1).adv l 1)) l (pfR s (r.val l 1) ((r.adv l 1).val l 1) 0 l ((r.adv l 1).adv l 1))
def rrK (s : St) (l : List UInt8) (r : RS) : TK := if r.val l 1 = 0 then { zeroK with ty := 9, all := true } else { zeroK with ty := 9, pr := prQ s (r.val l 1) (pfP s (r.val l 1) ((r.adv l 1).val l 1) 0 l ((r.adv l 1).adv l 1)) l (pfR s (r.val l 1) ((r.adv l 1).val l 1) 0 l ((r.adv l 1).adv l 1)) }
end Go.Proofs.YtdibjgcokebfbaaGreat

namespace Go.Proofs.YtdibjgcokebfbaaGreat
open Go.RowKit
set_option linter.unusedSimpArgs false
set_option maxRecDepth 20000
variable {bv : Option Addr}

/-- At the end this frame for some x, and a world of which PP is known; no panic. -/
def MeetsE {α : Type} (F : α → Act) (PP : α → World → Prop) : Exit → Act → World → Prop
  | .normal, a, w => ∃ x, a = F x ∧ PP x w
  | _, _, _ => False
theorem region_ex {α : Type} {P : Program} {c : Code} {Q : Exit → Act → World → Prop} {a : Act} {w : World} {PP : α → World → Prop} (F : α → Act) (h1 : Code.wp P c (MeetsE F PP) a w) (h2 : ∀ x W, PP x W → Q .normal (F x) W) : Code.wp P c Q a w :=
  Code.wp_mono (fun e b v h => by
    cases e with
    | normal => obtain ⟨x, rfl, h⟩ := h; exact h2 x v h
    | _ => exact (h : False).elim) h1
theorem Row.rId {w : World} {g : Nat} {t : Tl} (hr : Row w g 45 (tcells t)) : w.rangeAt g 9 (icells t.id) := by
  have h := rangeAt_right hr.range (k := 9) rfl
  rw [Nat.zero_add] at h
  exact rangeAt_left h
def sqR (l : List UInt8) (r : RS) : RS := if (decide ((((r.adv l 1).adv l 1).adv l 2).val l 1 = 0) || decide ((idF l (((((r.adv l 1).adv l 1).adv l 2).adv l 1).adv l 1)).l = zeroI.l)) then ((((((r.adv l 1).adv l 1).adv l 2).adv l 1).adv l 1).adv l 8).bad else ((((((r.adv l 1).adv l 1).adv l 2).adv l 1).adv l 1).adv l 8)
def sqB (s : St) (l : List UInt8) (r : RS) : Bool := prB s (r.val l 1) (pfP s (r.val l 1) ((r.adv l 1).val l 1) 0 l (sqR l r)) l (pfR s (r.val l 1) ((r.adv l 1).val l 1) 0 l (sqR l r))
def sqK (s : St) (l : List UInt8) (r : RS) : TK := { zeroK with ty := 10, seq := ((r.adv l 1).adv l 1).val l 2, hops := (((r.adv l 1).adv l 1).adv l 2).val l 1, id := idF l (((((r.adv l 1).adv l 1).adv l 2).adv l 1).adv l 1), pr := prQ s (r.val l 1) (pfP s (r.val l 1) ((r.adv l 1).val l 1) 0 l (sqR l r)) l (pfR s (r.val l 1) ((r.adv l 1).val l 1) 0 l (sqR l r)) }
end Go.Proofs.YtdibjgcokebfbaaGreat
