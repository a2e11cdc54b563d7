/-
  The parser: what was told once for many, in memory; slices of an address's array.
-/
import Derived.Test.YtdibjgcokebfbaaGreatM11
import Derived.Test.YtdibjgcokebfbaaGreatM06
import Derived.BigRegion
namespace Go.Proofs.YtdibjgcokebfbaaGreat
open Go.RowKit
set_option linter.unusedSimpArgs false
set_option maxRecDepth 20000
variable {bv : Option Addr}

/-- What was told once for many: the router, the next hops, the default prefixes. -/
structure St where
  r : Option Id8
  h4 : Option Ad
  h6 : Option Ad
  d1 : Option Ad
  d2 : Option Ad
def pv (o : Option Nat) : Value := .pointer (o.map fun b => ⟨b, 0, none⟩)
def pcs (r h4 h6 d1 d2 R : Option Nat) : List Value := [pv r, pv none, pv none, pv none, pv none, pv h4, pv none, pv h6, pv none, pv d1, pv d2, pv R]
def PA (w : World) : Option Nat → Option Ad → Prop
  | none, none => True
  | some b, some a => Row w b 23 (acells a)
  | _, _ => False
def PI (w : World) : Option Nat → Option Id8 → Prop
  | none, none => True
  | some b, some a => Row w b 38 (icells a)
  | _, _ => False
theorem PA.grown {w w' : World} {row : Option Nat} : ∀ {o : Option Nat} {x : Option Ad}, PA w o x → w.grownBy w' row → (∀ b cs, Row w b 23 cs → some b ≠ row) → PA w' o x
  | none, none, _, _, _ => trivial
  | some _, some _, h, hg, hne => Row.grown h hg (hne _ _ h)
  | none, some _, h, _, _ => h.elim
  | some _, none, h, _, _ => h.elim
theorem PI.grown {w w' : World} {row : Option Nat} : ∀ {o : Option Nat} {x : Option Id8}, PI w o x → w.grownBy w' row → (∀ b cs, Row w b 38 cs → some b ≠ row) → PI w' o x
  | none, none, _, _, _ => trivial
  | some _, some _, h, hg, hne => Row.grown h hg (hne _ _ h)
  | none, some _, h, _, _ => h.elim
  | some _, none, h, _, _ => h.elim
/-- The parser P, its reader R, and what it was told. -/
structure Par (w : World) (P : Nat) (R : Option Nat) (s : St) : Prop where
  ex : ∃ r h4 h6 d1 d2, Row w P 149 (pcs r h4 h6 d1 d2 R) ∧ PI w r s.r ∧ PA w h4 s.h4 ∧ PA w h6 s.h6 ∧ PA w d1 s.d1 ∧ PA w d2 s.d2
theorem Par.grown {w w' : World} {P : Nat} {R : Option Nat} {s : St} {row : Option Nat} (h : Par w P R s) (hg : w.grownBy w' row) (hne : ∀ b t cs, Row w b t cs → t = 149 ∨ t = 23 ∨ t = 38 → some b ≠ row) : Par w' P R s := by
  obtain ⟨r, h4, h6, d1, d2, k0, k1, k2, k3, k4, k5⟩ := h.ex
  have nA : ∀ b cs, Row w b 23 cs → some b ≠ row := fun b cs hr => hne b _ cs hr (.inr (.inl rfl))
  exact ⟨r, h4, h6, d1, d2, k0.grown hg (hne _ _ _ k0 (.inl rfl)), k1.grown hg (fun b cs hr => hne b _ cs hr (.inr (.inr rfl))), k2.grown hg nA, k3.grown hg nA, k4.grown hg nA, k5.grown hg nA⟩
theorem RdS.rowne {w : World} {g b : Nat} {l : List UInt8} {r : RS} {t : TypeId} {cs : List Value} (h : RdS w g bv l r) (hr : Row w b t cs) (ht : t ≠ 168) : b ≠ g := by
  rintro rfl
  obtain ⟨c, hb, _⟩ := Rd.ex h
  unfold Row at hr
  rw [hb] at hr
  cases hr
  exact ht rfl
theorem Par.now {w w' : World} {P g : Nat} {R : Option Nat} {s : St} {l : List UInt8} {r r0 : RS} (h : Par w P R s) (h0 : RdS w g bv l r0) (hn : NowS w w' g bv l r) : Par w' P R s :=
  h.grown hn.grown (fun b t cs hr ht e => by
    refine h0.rowne hr ?_ (Option.some.inj e)
    rcases ht with rfl | rfl | rfl <;> decide)
theorem Par.below {w w' : World} {P : Nat} {R : Option Nat} {s : St} (h : Par w P R s) (hb : Below w.heap.size w w') : Par w' P R s := h.grown (grownBy_below none hb) (fun _ _ _ _ _ => by simp)
theorem Par.fresh {w w' : World} {P k : Nat} {R : Option Nat} {s : St} (h : Par w P R s) (hg : w.grownBy w' (some k)) (hk : ∀ t cs, Row w k t cs → t ≠ 149 ∧ t ≠ 23 ∧ t ≠ 38) : Par w' P R s :=
  h.grown hg (fun b t cs hr ht e => by
    have := Option.some.inj e
    subst this
    obtain ⟨h1, h2, h3⟩ := hk _ _ hr
    rcases ht with rfl | rfl | rfl <;> contradiction)
theorem Par.pg {w : World} {P g : Nat} {s : St} {l : List UInt8} {r : RS} (h : Par w P (some g) s) (h0 : RdS w g bv l r) : Pg w P g := by
  obtain ⟨r, h4, h6, d1, d2, k0, _⟩ := h.ex
  exact ⟨k0.cell 11, h0.rowne k0 (by decide)⟩
theorem Par.lt {w : World} {P : Nat} {R : Option Nat} {s : St} (h : Par w P R s) : P < w.heap.size := by
  obtain ⟨r, h4, h6, d1, d2, k0, _⟩ := h.ex
  exact k0.lt
/-- A pointer of the parser is written anew. -/
theorem Par.setC {w : World} {P j : Nat} {R : Option Nat} {v : Value} {r h4 h6 d1 d2 r' h4' h6' d1' d2' R' : Option Nat} {s' : St} (k0 : Row w P 149 (pcs r h4 h6 d1 d2 R)) (e : (pcs r h4 h6 d1 d2 R).set j v = pcs r' h4' h6' d1' d2' R') (k1 : PI w r' s'.r) (k2 : PA w h4' s'.h4) (k3 : PA w h6' s'.h6) (k4 : PA w d1' s'.d1) (k5 : PA w d2' s'.d2) : Par (w.setCell ⟨P, j, none⟩ v) P R' s' := by
  have hg := grownBy_setCell w P j v
  have q := k0.set j v
  rw [e] at q
  have nA : ∀ b t cs, Row w b t cs → t ≠ 149 → some b ≠ some P := fun b t cs hr ht e => by
    have := Option.some.inj e
    subst this
    unfold Row at hr k0
    rw [hr] at k0
    cases k0
    exact ht rfl
  have nB : ∀ b cs, Row w b 23 cs → some b ≠ some P := fun b cs hr => nA b _ cs hr (by decide)
  exact ⟨r', h4', h6', d1', d2', q, k1.grown hg (fun b cs hr => nA b _ cs hr (by decide)), k2.grown hg nB, k3.grown hg nB, k4.grown hg nB, k5.grown hg nB⟩
theorem Par.setR {w : World} {P g : Nat} {R : Option Nat} {s : St} (h : Par w P R s) : Par (w.setCell ⟨P, 11, none⟩ (.pointer (some ⟨g, 0, none⟩))) P (some g) s := by
  obtain ⟨r, h4, h6, d1, d2, k0, k1, k2, k3, k4, k5⟩ := h.ex
  exact Par.setC k0 (r' := r) (h4' := h4) (h6' := h6) (d1' := d1) (d2' := d2) rfl k1 k2 k3 k4 k5
theorem Par.setRt {w : World} {P b : Nat} {R : Option Nat} {s : St} {i : Id8} (h : Par w P R s) (hr : Row w b 38 (icells i)) : Par (w.setCell ⟨P, 0, none⟩ (.pointer (some ⟨b, 0, none⟩))) P R { s with r := some i } := by
  obtain ⟨r, h4, h6, d1, d2, k0, k1, k2, k3, k4, k5⟩ := h.ex
  exact Par.setC k0 (r' := some b) (h4' := h4) (h6' := h6) (d1' := d1) (d2' := d2) rfl hr k2 k3 k4 k5
theorem Par.setH4 {w : World} {P b : Nat} {R : Option Nat} {s : St} {i : Ad} (h : Par w P R s) (hr : Row w b 23 (acells i)) : Par (w.setCell ⟨P, 5, none⟩ (.pointer (some ⟨b, 0, none⟩))) P R { s with h4 := some i } := by
  obtain ⟨r, h4, h6, d1, d2, k0, k1, k2, k3, k4, k5⟩ := h.ex
  exact Par.setC k0 (r' := r) (h4' := some b) (h6' := h6) (d1' := d1) (d2' := d2) rfl k1 hr k3 k4 k5
theorem Par.setH6 {w : World} {P b : Nat} {R : Option Nat} {s : St} {i : Ad} (h : Par w P R s) (hr : Row w b 23 (acells i)) : Par (w.setCell ⟨P, 7, none⟩ (.pointer (some ⟨b, 0, none⟩))) P R { s with h6 := some i } := by
  obtain ⟨r, h4, h6, d1, d2, k0, k1, k2, k3, k4, k5⟩ := h.ex
  exact Par.setC k0 (r' := r) (h4' := h4) (h6' := some b) (d1' := d1) (d2' := d2) rfl k1 k2 hr k4 k5
theorem Par.setD1 {w : World} {P b : Nat} {R : Option Nat} {s : St} {i : Ad} (h : Par w P R s) (hr : Row w b 23 (acells i)) : Par (w.setCell ⟨P, 9, none⟩ (.pointer (some ⟨b, 0, none⟩))) P R { s with d1 := some i } := by
  obtain ⟨r, h4, h6, d1, d2, k0, k1, k2, k3, k4, k5⟩ := h.ex
  exact Par.setC k0 (r' := r) (h4' := h4) (h6' := h6) (d1' := some b) (d2' := d2) rfl k1 k2 k3 hr k5
theorem Par.setD2 {w : World} {P b : Nat} {R : Option Nat} {s : St} {i : Ad} (h : Par w P R s) (hr : Row w b 23 (acells i)) : Par (w.setCell ⟨P, 10, none⟩ (.pointer (some ⟨b, 0, none⟩))) P R { s with d2 := some i } := by
  obtain ⟨r, h4, h6, d1, d2, k0, k1, k2, k3, k4, k5⟩ := h.ex
  exact Par.setC k0 (r' := r) (h4' := h4) (h6' := h6) (d1' := d1) (d2' := some b) rfl k1 k2 k3 k4 hr
theorem Par.frozen {w : World} {P : Nat} {R : Option Nat} {s : St} (h : Par w P R s) (j : Nat) : w.frozen? ⟨P, j, none⟩ = false := by
  obtain ⟨r, h4, h6, d1, d2, k0, _⟩ := h.ex
  exact k0.frozen j
/-- A pointer that the parser holds, and where it leads. -/
def PtA (w : World) (v : Value) (x : Option Ad) : Prop := (v = .pointer none ∧ x = none) ∨ ∃ b a, v = .pointer (some ⟨b, 0, none⟩) ∧ x = some a ∧ Row w b 23 (acells a)
def PtI (w : World) (v : Value) (x : Option Id8) : Prop := (v = .pointer none ∧ x = none) ∨ ∃ b a, v = .pointer (some ⟨b, 0, none⟩) ∧ x = some a ∧ Row w b 38 (icells a)
theorem PA.pt {w : World} : ∀ {o : Option Nat} {x : Option Ad}, PA w o x → PtA w (pv o) x
  | none, none, _ => .inl ⟨rfl, rfl⟩
  | some b, some a, h => .inr ⟨b, a, rfl, rfl, h⟩
  | none, some _, h => h.elim
  | some _, none, h => h.elim
theorem PI.pt {w : World} : ∀ {o : Option Nat} {x : Option Id8}, PI w o x → PtI w (pv o) x
  | none, none, _ => .inl ⟨rfl, rfl⟩
  | some b, some a, h => .inr ⟨b, a, rfl, rfl, h⟩
  | none, some _, h => h.elim
  | some _, none, h => h.elim
theorem Par.at {w : World} {P : Nat} {R : Option Nat} {s : St} (h : Par w P R s) : (∃ v, w.cell? ⟨P, 0, none⟩ = some v ∧ PtI w v s.r) ∧ (∃ v, w.cell? ⟨P, 5, none⟩ = some v ∧ PtA w v s.h4) ∧ (∃ v, w.cell? ⟨P, 7, none⟩ = some v ∧ PtA w v s.h6) ∧ (∃ v, w.cell? ⟨P, 9, none⟩ = some v ∧ PtA w v s.d1) ∧ (∃ v, w.cell? ⟨P, 10, none⟩ = some v ∧ PtA w v s.d2) := by
  obtain ⟨r, h4, h6, d1, d2, k0, k1, k2, k3, k4, k5⟩ := h.ex
  exact ⟨⟨_, k0.cell 0, k1.pt⟩, ⟨_, k0.cell 5, k2.pt⟩, ⟨_, k0.cell 7, k3.pt⟩, ⟨_, k0.cell 9, k4.pt⟩, ⟨_, k0.cell 10, k5.pt⟩⟩
/-! ### Slices of an address's array -/
section
variable {ops : Array Oper} {op : Oper} {a : Act} {S : World → Prop} {v : Value}
theorem ySl {t : TypeId} (x : Operand) (lo hi mx : Option Operand) (hw : Region.wanted op (yielded ops a.tmps) = true) (ho : op.op = .slice t x lo hi mx) (hv : ∀ w, (Instr.sliceAt t (a.eval x) (lo.map a.eval) (hi.map a.eval) (mx.map a.eval)).run Tryz.prog w = .ok v w) : YieldsIf Tryz.prog ops S op v a :=
  .inl ⟨hw, fun w _ => by
    unfold execOp
    simp only [ho, hv, Sem.run_bind, Result.andThen_ok, Sem.run_pure]⟩
end
def adrIf (g lo n : Nat) : Addr := if n = lo then ⟨g, 0, none⟩ else ⟨g, lo, none⟩
theorem adrIf_ne {g lo n : Nat} (h : lo < n) : adrIf g lo n = ⟨g, lo, none⟩ := by unfold adrIf; rw [if_neg (by omega)]
theorem slA2 (g lo hi : Nat) (x y : Int) (hx : x = lo) (hy : y = hi) (h1 : lo ≤ hi) (h2 : hi ≤ 16) (w : World) : (Instr.sliceAt 23 (.pointer (some ⟨g, 0, none⟩)) (some (.int .i64 x)) (some (.int .i64 y)) none).run Tryz.prog w = .ok (.slice (some (adrIf g lo 16)) (hi - lo) (16 - lo)) w := by
  subst hx hy
  have k1 : (0 : Int) ≤ (lo : Int) := by omega
  have k2 : (lo : Int) ≤ (hi : Int) := by omega
  have k3 : (0 : Int) ≤ (hi : Int) := by omega
  have k4 : (hi : Int) ≤ 16 := by omega
  unfold adrIf
  by_cases h : 16 = lo
  · rw [if_pos h]
    subst h
    obtain rfl : hi = 16 := by omega
    go_simp
  · rw [if_neg h]
    go_simp
theorem slA1 (g lo : Nat) (x : Int) (hx : x = lo) (h1 : lo ≤ 16) (w : World) : (Instr.sliceAt 23 (.pointer (some ⟨g, 0, none⟩)) (some (.int .i64 x)) none none).run Tryz.prog w = .ok (.slice (some (adrIf g lo 16)) (16 - lo) (16 - lo)) w := by
  subst hx
  have k1 : (0 : Int) ≤ (lo : Int) := by omega
  have k2 : (lo : Int) ≤ 16 := by omega
  unfold adrIf
  by_cases h : 16 = lo
  · rw [if_pos h]
    subst h
    go_simp
  · rw [if_neg h]
    go_simp
end Go.Proofs.YtdibjgcokebfbaaGreat

namespace Go.Proofs.YtdibjgcokebfbaaGreat
open Go.RowKit
set_option linter.unusedSimpArgs false
set_option maxRecDepth 20000
variable {bv : Option Addr}

/-- n numbers of four bytes each. -/
def nums : Nat → List UInt8 → RS → List UInt32
  | 0, _, _ => []
  | n + 1, l, r => UInt32.ofNat (r.val l 4) :: nums n l (r.adv l 4)
/-- The numbers of the first piece that has as many. -/
def stF (n : Nat) : List (UInt8 × List UInt8) → List UInt32
  | [] => []
  | k :: ks => if k.2.length < 4 * n then stF n ks else nums n k.2 ⟨0, 0⟩
theorem Row.own {w : World} {g B n : Nat} {t : TypeId} {cs : List Value} (h : Row w g t cs) (hB : B ≤ g) (hn : cs.length = n) (hm : n ≤ 100) : w.ownsRow B t 1 (.slice (some ⟨g, 0, none⟩) n n) n cs := by
  refine ⟨by omega, .inr ⟨g, n, cs.toArray, rfl, hB, h, Nat.le_refl _, by unfold maxLen; omega, by simp; omega, ?_⟩⟩
  simp [List.take_of_length_le, hn]
theorem rd_far {w w' : World} {g k : Nat} {l : List UInt8} {r : RS} (h : RdS w g bv l r) (hg : w.grownBy w' (some k)) (h1 : g ≠ k) (h2 : ∀ ad, bv = some ad → l ≠ [] → ad.block ≠ k) : RdS w' g bv l r := Rd.kept h hg (fun e => h1 (Option.some.inj e)) (fun ad had hl e => h2 ad had hl (Option.some.inj e))
end Go.Proofs.YtdibjgcokebfbaaGreat

namespace Go.Proofs.YtdibjgcokebfbaaGreat
open Go.RowKit
set_option linter.unusedSimpArgs false
set_option maxRecDepth 20000
variable {bv : Option Addr}

/-- What a piece that may say something tells: a Tlv, whether it does; the Stamps lie in memory of the call's own. -/
def Stms (B : Nat) (w : World) (t : Tl) : Prop := w.ownsRow B 100 1 (.slice t.sa t.sn t.sc) t.sn (wcells t.st)
def SayR (w : World) (k : TK) (ok : Bool) (e : Ending) (w' : World) : Prop := ∃ t, e = .returned (.tuple #[.agg (tcells t).toArray, .bool ok]) ∧ (ok = true → t.key = k) ∧ Stms w.heap.size w' t
theorem Stms.none (B : Nat) (w : World) (t : Tl) (h1 : t.sa = none) (h2 : t.sn = 0) (h3 : t.sc = 0) (h4 : t.st = []) : Stms B w t := by
  unfold Stms
  rw [h1, h2, h3, h4]
  exact World.ownsRow_nil _ _ _ _
def ackB (l : List UInt8) (r : RS) : Bool := wiB [] l (r.adv l 2)
def ackK (l : List UInt8) (r : RS) : TK := { zeroK with ty := 3, nonce := r.val l 2 }
end Go.Proofs.YtdibjgcokebfbaaGreat

namespace Go.Proofs.YtdibjgcokebfbaaGreat
open Go.RowKit
set_option linter.unusedSimpArgs false
set_option maxRecDepth 20000
variable {bv : Option Addr}

/-- Nothing that was there has turned but the parser and its reader. -/
structure Mv (w w' : World) (P g : Nat) : Prop where
  os : w'.os = w.os
  tape : w'.tape = w.tape
  output : w'.output = w.output
  size : w.heap.size ≤ w'.heap.size
  block : ∀ k, k < w.heap.size → k ≠ P → k ≠ g → w'.heap[k]? = w.heap[k]?
theorem Mv.refl (w : World) (P g : Nat) : Mv w w P g := ⟨rfl, rfl, rfl, Nat.le_refl _, fun _ _ _ _ => rfl⟩
theorem Mv.ofG {w w' : World} {P g : Nat} (h : w.grownBy w' (some g)) : Mv w w' P g := ⟨h.os, h.tape, h.output, h.size, fun k hk _ h2 => h.block k hk (fun e => h2 (Option.some.inj e))⟩
theorem Mv.ofP {w w' : World} {P g : Nat} (h : w.grownBy w' (some P)) : Mv w w' P g := ⟨h.os, h.tape, h.output, h.size, fun k hk h1 _ => h.block k hk (fun e => h1 (Option.some.inj e))⟩
theorem Mv.ofNow {w w' : World} {P g : Nat} {l : List UInt8} {r : RS} (h : NowS w w' g bv l r) : Mv w w' P g := Mv.ofG h.grown
theorem Mv.ofB {w w' : World} {P g : Nat} (h : Below w.heap.size w w') : Mv w w' P g := ⟨h.os, h.tape, h.output, h.size, fun k hk _ _ => h.block k hk⟩
theorem Mv.trans {a b c : World} {P g : Nat} (h : Mv a b P g) (k : Mv b c P g) : Mv a c P g := ⟨k.os.trans h.os, k.tape.trans h.tape, k.output.trans h.output, Nat.le_trans h.size k.size, fun i hi h1 h2 => (k.block i (Nat.lt_of_lt_of_le hi h.size) h1 h2).trans (h.block i hi h1 h2)⟩
theorem Mv.fresh {w w1 w2 : World} {P g k : Nat} (h : Mv w w1 P g) (hg : w1.grownBy w2 (some k)) (hk : w.heap.size ≤ k) : Mv w w2 P g := ⟨hg.os.trans h.os, hg.tape.trans h.tape, hg.output.trans h.output, Nat.le_trans h.size hg.size, fun i hi h1 h2 => (hg.block i (Nat.lt_of_lt_of_le hi h.size) (fun e => by have := Option.some.inj e; omega)).trans (h.block i hi h1 h2)⟩
theorem Mv.setP {w w1 : World} {P g : Nat} (h : Mv w w1 P g) (j : Nat) (v : Value) : Mv w (w1.setCell ⟨P, j, none⟩ v) P g := h.trans (Mv.ofP (grownBy_setCell w1 P j v))
/-- A reader that is new: then only the parser has turned. -/
theorem Mv.low {w w1 w2 : World} {P g : Nat} (h : Mv w1 w2 P g) (hb : Below w.heap.size w w1) (hg : w.heap.size ≤ g) : w.grownBy w2 (some P) :=
  ⟨h.os.trans hb.os, h.tape.trans hb.tape, h.output.trans hb.output, Nat.le_trans hb.size h.size, fun k hk hne => (h.block k (Nat.lt_of_lt_of_le hk hb.size) (fun e => hne (by rw [e])) (fun e => by omega)).trans (hb.block k hk)⟩

theorem nobody_any (i : Id8) (w : World) : Calls Tryz.prog 113 #[.agg (icells i).toArray] w (Gives w (.bool (nobB i))) := by
  have e0 : ∀ w, (Op.equalIn (9998 + 2) 38 (.agg (icells i).toArray) (.agg #[.int .u8 0, .int .u8 0, .int .u8 0, .int .u8 0, .int .u8 0, .int .u8 0, .int .u8 0, .int .u8 0])).run Tryz.prog w = .ok (decide (i.l = zeroI.l)) w := fun w => eqI 9998 i zeroI w
  have e1 : ∀ w, (Op.equalIn (9998 + 2) 38 (.agg (icells i).toArray) (.agg #[.int .u8 255, .int .u8 255, .int .u8 255, .int .u8 255, .int .u8 255, .int .u8 255, .int .u8 255, .int .u8 255])).run Tryz.prog w = .ok (decide (i.l = fullI.l)) w := fun w => eqI 9998 i fullI w
  have R := Row.new w 38 (icells i)
  unfold nobB
  generalize decide (i.l = zeroI.l) = b0 at *
  generalize decide (i.l = fullI.l) = b1 at *
  cases b0
  all_goals
    go_enter Tryz.func113, Tryz.ntmps113
    go_wp2_with (refine ldI (.tmp 1) (by rfl) rfl w.heap.size 0 i rfl R.range ?_)
    go_ret
    exact ⟨rfl, ba _ _⟩

/-- What a TypeRouterId makes. -/
def riS (s : St) (l : List UInt8) (r : RS) : St := if (((r.adv l 2).adv l 8).y == 0) && !(nobB (idF l (r.adv l 2))) then { s with r := some (idF l (r.adv l 2)) } else s
theorem routerId_any {w : World} {P g : Nat} {l : List UInt8} {r : RS} {s : St} (hpar : Par w P (some g) s) (h : RdS w g bv l r) :
    Calls Tryz.prog 79 #[.pointer (some ⟨P, 0, none⟩)] w fun e w' => e = .returned (.tuple #[]) ∧ Par w' P (some g) (riS s l r) ∧ Mv w w' P g := by
  have hp := hpar.pg h
  have hlt := h.lt
  have H0 := h
  have c0 := hp.c
  unfold riS
  obtain ⟨i, hi⟩ : ∃ i, idF l (r.adv l 2) = i := ⟨_, rfl⟩
  have HI : Hid (∀ W, Pg W P g → RdS W g bv l (r.adv l 2) → Calls Tryz.prog 111 #[.pointer (some ⟨P, 0, none⟩)] W fun e w' => e = .returned (.agg (icells i).toArray) ∧ NowS W w' g bv l ((r.adv l 2).adv l 8)) := fun W h1 h2 => by rw [← hi]; exact id_any h1 h2
  have HN := nobody_any i
  rw [hi]
  obtain ⟨b1, hb1⟩ : ∃ b, (((r.adv l 2).adv l 8).y == 0) = b := ⟨_, rfl⟩
  have HW : Hid (∀ W, Pg W P g → RdS W g bv l ((r.adv l 2).adv l 8) → Calls Tryz.prog 112 #[.pointer (some ⟨P, 0, none⟩)] W fun e w' => e = .returned (.bool b1) ∧ NowS W w' g bv l ((r.adv l 2).adv l 8)) := fun W h1 h2 => by rw [← hb1]; exact well_any h1 h2
  rw [hb1]
  generalize nobB i = b2 at *
  clear hi hb1
  cases b1
  · go_enter Tryz.func79, Tryz.ntmps79
    go_wp2_with (first
      | (go_at_call 112; have kk := rB; refine (HW.out _ (hp.now N3) N3.rd).mono ?_; rintro e w4 ⟨rfl, hn4⟩)
      | (have kk := rA; refine stI0 (.tmp 2) (.tmp 9) (by rfl) rfl gA i _ (icells_len _) rfl rfl rA ?_; intro w3 hg3 rB; have N3 : NowS w w3 g bv l ((r.adv l 2).adv l 8) := NowS.fresh h ((hn1.trans hn2).below a3) hg3 (by have := hn1.size; have := hn2.size; omega))
      | (have kk := hn2; refine alG infoIz (by rfl) rfl ?_; intro gA wA a1 a2 a3 rA)
      | (go_at_call 111; refine (HI.out _ (hp.now hn1) hn1.rd).mono ?_; rintro e w2 ⟨rfl, hn2⟩)
      | (go_at_call 69; refine (u16_r h).mono ?_; rintro e w1 ⟨rfl, hn1⟩))
    go_end0
    exact ⟨rfl, hpar.now H0 (N3.trans hn4), Mv.ofNow (N3.trans hn4)⟩
  · cases b2
    · go_enter Tryz.func79, Tryz.ntmps79
      go_wp2_with (first
        | (refine ldI (.tmp 2) (by rfl) rfl gA 0 i rfl rC.range ?_)
        | (go_at_call 113; refine (HN _).mono ?_; rintro e w5 ⟨rfl, hb5⟩; have rD := rC.below hb5 rC.lt; have P5 := (hpar.now h (N3.trans hn4)).below hb5; have f5 := P5.frozen 0; obtain ⟨⟨v5, c5, _⟩, _⟩ := P5.at)
        | (go_at_call 112; have kk := rB; refine (HW.out _ (hp.now N3) N3.rd).mono ?_; rintro e w4 ⟨rfl, hn4⟩; have rC := rB.nowS hn4 (by have := hn1.size; have := hn2.size; omega))
        | (have kk := rA; refine stI0 (.tmp 2) (.tmp 9) (by rfl) rfl gA i _ (icells_len _) rfl rfl rA ?_; intro w3 hg3 rB; have N3 : NowS w w3 g bv l ((r.adv l 2).adv l 8) := NowS.fresh h ((hn1.trans hn2).below a3) hg3 (by have := hn1.size; have := hn2.size; omega))
        | (have kk := hn2; refine alG infoIz (by rfl) rfl ?_; intro gA wA a1 a2 a3 rA)
        | (go_at_call 111; refine (HI.out _ (hp.now hn1) hn1.rd).mono ?_; rintro e w2 ⟨rfl, hn2⟩)
        | (go_at_call 69; refine (u16_r h).mono ?_; rintro e w1 ⟨rfl, hn1⟩))
      go_end0
      exact ⟨rfl, P5.setRt rD, ((Mv.ofNow (N3.trans hn4)).trans (Mv.ofB hb5)).setP _ _⟩
    · go_enter Tryz.func79, Tryz.ntmps79
      go_wp2_with (first
        | (refine ldI (.tmp 2) (by rfl) rfl gA 0 i rfl rC.range ?_)
        | (go_at_call 113; refine (HN _).mono ?_; rintro e w5 ⟨rfl, hb5⟩)
        | (go_at_call 112; have kk := rB; refine (HW.out _ (hp.now N3) N3.rd).mono ?_; rintro e w4 ⟨rfl, hn4⟩; have rC := rB.nowS hn4 (by have := hn1.size; have := hn2.size; omega))
        | (have kk := rA; refine stI0 (.tmp 2) (.tmp 9) (by rfl) rfl gA i _ (icells_len _) rfl rfl rA ?_; intro w3 hg3 rB; have N3 : NowS w w3 g bv l ((r.adv l 2).adv l 8) := NowS.fresh h ((hn1.trans hn2).below a3) hg3 (by have := hn1.size; have := hn2.size; omega))
        | (have kk := hn2; refine alG infoIz (by rfl) rfl ?_; intro gA wA a1 a2 a3 rA)
        | (go_at_call 111; refine (HI.out _ (hp.now hn1) hn1.rd).mono ?_; rintro e w2 ⟨rfl, hn2⟩)
        | (go_at_call 69; refine (u16_r h).mono ?_; rintro e w1 ⟨rfl, hn1⟩))
      go_end0
      exact ⟨rfl, (hpar.now H0 (N3.trans hn4)).below hb5, (Mv.ofNow (N3.trans hn4)).trans (Mv.ofB hb5)⟩

/-- What a TypeNextHop makes. -/
def nhR (l : List UInt8) (r : RS) : RS := if r.val l 1 = 0 then ((r.adv l 1).adv l 1).bad else (r.adv l 1).adv l 1
def setHop (s : St) (f : Int) (a : Ad) : St := if f = 4 then { s with h4 := some a } else { s with h6 := some a }
def nhS (s : St) (l : List UInt8) (r : RS) : St := if (adN (r.val l 1) l (nhR l r)).y = 0 then setHop s (famA (adA (r.val l 1) l (nhR l r))) (adA (r.val l 1) l (nhR l r)) else s
theorem fam_or (a : Ad) : famA a = 4 ∨ famA a = 6 := by unfold famA; split <;> simp
end Go.Proofs.YtdibjgcokebfbaaGreat

namespace Go.Proofs.YtdibjgcokebfbaaGreat
open Go.RowKit
set_option linter.unusedSimpArgs false
set_option maxRecDepth 20000
variable {bv : Option Addr}

/-- How many bytes so many bits want; the default prefix of an AE. -/
def pfN (plen : Nat) : Nat := (plen + 7) / 8
def pfD (s : St) (ae : Nat) : Option Ad := if ae = 1 then s.d1 else s.d2
/-- Whether a prefix may not be. -/
def pfX (s : St) (ae plen om : Nat) : Bool := !(decide (ae = 1) || decide (ae = 2)) || (decide (8 * (16 - frN ae) < plen) || (decide (pfN plen < om) || (decide (0 < om) && (pfD s ae).isNone)))
/-- The address with the omitted bytes; with those that are read; with zeros behind its bits. -/
def pfA1 (s : St) (ae om : Nat) : Ad := if 0 < om then spA (frA ae) (frN ae) ((((pfD s ae).getD zeroA).l.drop (frN ae)).take om) else frA ae
def pfA2 (s : St) (ae plen om : Nat) (l : List UInt8) (r : RS) : Ad := spA (pfA1 s ae om) (frN ae + om) (tkB l r.p r.y ((pfN plen - om : Nat) : Int))
def mskA (a : Ad) (i k : Nat) : Ad := ⟨a.l.set i (keepB k (a.l.getD i 0)), by rw [List.length_set]; exact a.len⟩
def pfA3 (s : St) (ae plen om : Nat) (l : List UInt8) (r : RS) : Ad := if 0 < plen % 8 then mskA (pfA2 s ae plen om l r) (frN ae + pfN plen - 1) (plen % 8) else pfA2 s ae plen om l r
/-- The prefix that is read, and the reading behind it. -/
def pfP (s : St) (ae plen om : Nat) (l : List UInt8) (r : RS) : Pf := if pfX s ae plen om then zeroP else ⟨pfA3 s ae plen om l r, ((8 * frN ae + plen : Nat) : Int)⟩
def pfR (s : St) (ae plen om : Nat) (l : List UInt8) (r : RS) : RS := if pfX s ae plen om then r.bad else r.adv l ((pfN plen - om : Nat) : Int)
theorem foldSet : ∀ (l arr : List Value) (k : Nat), k + l.length ≤ arr.length → List.foldl (fun (cs : Array Value) (x : Value × Nat) => cs.setIfInBounds x.2 x.1) arr.toArray (l.zipIdx k) = (arr.take k ++ l ++ arr.drop (k + l.length)).toArray
  | [], arr, k, h => by simp
  | x :: l, arr, k, h => by
    simp only [List.length_cons] at h
    rw [List.zipIdx_cons, List.foldl_cons]
    have ih := foldSet l (arr.set k x) (k + 1) (by simp; omega)
    simp only [List.setIfInBounds_toArray] at ih ⊢
    rw [ih]
    congr 1
    have e1 : (arr.set k x).take (k + 1) = arr.take k ++ [x] := by
      rw [List.take_add_one, List.take_set_of_le (Nat.le_refl _), List.getElem?_set_self (by omega)]; rfl
    have e2 : (arr.set k x).drop (k + 1 + l.length) = arr.drop (k + (l.length + 1)) := by
      rw [List.drop_set_of_lt (by omega)]; congr 1; omega
    rw [e1, e2, List.length_cons]
    simp
theorem buildP (a : Ad) (n : Int) : Value.agg ((List.foldl (fun (cs : Array Value) (x : Value × Nat) => cs.setIfInBounds x.2 x.1) #[Value.int .u8 0, Value.int .u8 0, Value.int .u8 0, Value.int .u8 0, Value.int .u8 0, Value.int .u8 0, Value.int .u8 0, Value.int .u8 0, Value.int .u8 0, Value.int .u8 0, Value.int .u8 0, Value.int .u8 0, Value.int .u8 0, Value.int .u8 0, Value.int .u8 0, Value.int .u8 0, Value.int .i64 0] (acells a).zipIdx).setIfInBounds 16 (.int .i64 n)) = (Value.agg (pcells (⟨a, n⟩)).toArray) := by
  have h1 := foldSet (acells a) [Value.int .u8 0, Value.int .u8 0, Value.int .u8 0, Value.int .u8 0, Value.int .u8 0, Value.int .u8 0, Value.int .u8 0, Value.int .u8 0, Value.int .u8 0, Value.int .u8 0, Value.int .u8 0, Value.int .u8 0, Value.int .u8 0, Value.int .u8 0, Value.int .u8 0, Value.int .u8 0, Value.int .i64 0] 0 (by rw [acells_len]; simp)
  rw [acells_len] at h1
  simp only [List.take_zero, List.nil_append, Nat.zero_add] at h1
  rw [h1]
  have h2 : (acells a ++ List.drop 16 [Value.int .u8 0, Value.int .u8 0, Value.int .u8 0, Value.int .u8 0, Value.int .u8 0, Value.int .u8 0, Value.int .u8 0, Value.int .u8 0, Value.int .u8 0, Value.int .u8 0, Value.int .u8 0, Value.int .u8 0, Value.int .u8 0, Value.int .u8 0, Value.int .u8 0, Value.int .u8 0, Value.int .i64 0]).toArray.setIfInBounds 16 (.int .i64 n) = ((acells a ++ [Value.int .i64 0]).set 16 (.int .i64 n)).toArray := by
    simp only [List.drop_succ_cons, List.drop_zero, List.setIfInBounds_toArray]
  rw [h2, List.set_append_right _ _ (by rw [acells_len]; omega), acells_len]
  rfl
theorem foldSize (a : Ad) : (List.foldl (fun (cs : Array Value) (x : Value × Nat) => cs.setIfInBounds x.2 x.1) #[Value.int .u8 0, Value.int .u8 0, Value.int .u8 0, Value.int .u8 0, Value.int .u8 0, Value.int .u8 0, Value.int .u8 0, Value.int .u8 0, Value.int .u8 0, Value.int .u8 0, Value.int .u8 0, Value.int .u8 0, Value.int .u8 0, Value.int .u8 0, Value.int .u8 0, Value.int .u8 0, Value.int .i64 0] (acells a).zipIdx).size = 17 := by
  have h1 := foldSet (acells a) [Value.int .u8 0, Value.int .u8 0, Value.int .u8 0, Value.int .u8 0, Value.int .u8 0, Value.int .u8 0, Value.int .u8 0, Value.int .u8 0, Value.int .u8 0, Value.int .u8 0, Value.int .u8 0, Value.int .u8 0, Value.int .u8 0, Value.int .u8 0, Value.int .u8 0, Value.int .u8 0, Value.int .i64 0] 0 (by rw [acells_len]; simp)
  rw [h1]
  simp [acells_len]
theorem mskA_cells (a : Ad) (i k : Nat) (hk : k < 8) (b : UInt8) (hb : a.l[i]? = some b) : acells (mskA a i k) = (acells a).set i (.int .u8 (bits BinOp.andNot IntKind.u8 (b.toNat : Int) (255 / 2 ^ k))) := by
  unfold acells bcells mskA
  simp only
  rw [List.map_set, keepB_bits b k hk]
  have e : a.l.getD i 0 = b := by simp [List.getD, hb]
  rw [e]

set_option maxHeartbeats 4000000 in
/-- One that may be. -/
theorem prefix_ok2 {w : World} {P g : Nat} {l : List UInt8} {r : RS} {s : St} (plen om : Nat) (hpl : plen < 256) (hom : om < 256) (hX : pfX s 2 plen om = false) (hpar : Par w P (some g) s) (h : RdS w g bv l r) :
    Calls Tryz.prog 116 #[.pointer (some ⟨P, 0, none⟩), .int .u8 2, .int .i64 (plen : Int), .int .i64 (om : Int)] w fun e w' => e = .returned (Value.agg (pcells (⟨pfA3 s 2 plen om l r, ((8 * 0 + plen : Nat) : Int)⟩)).toArray) ∧ NowS w w' g bv l (r.adv l ((pfN plen - om : Nat) : Int)) := by
  have hp := hpar.pg h
  have hPlt := hpar.lt
  have hlt := h.lt
  obtain ⟨_, _, _, ⟨v1, c1, p1⟩, ⟨v2, c2, p2⟩⟩ := hpar.at
  have hf := frame_any 2 (by decide)
  rw [show frA 2 = zeroA from rfl, show ((frN 2 : Nat) : Int) = 0 from rfl, show frB 2 = true from rfl] at hf
  obtain ⟨n, hn⟩ : ∃ n, n = pfN plen := ⟨_, rfl⟩
  obtain ⟨odd, ho⟩ : ∃ n, n = plen % 8 := ⟨_, rfl⟩
  have hnn : ((plen : Int) + 7) / 8 = (n : Int) := by subst hn; unfold pfN; omega
  have hnt : Int.tdiv ((plen : Int) + 7) 8 = (n : Int) := by rw [Int.tdiv_eq_ediv_of_nonneg (by omega)]; exact hnn
  have hot : Int.tmod (plen : Int) 8 = (odd : Int) := by rw [Int.tmod_eq_emod_of_nonneg (by omega)]; omega
  have hpd : PtA w v2 s.d2 := p2
  have cdv := c2
  have hX2 : ¬ 8 * (16 - 0) < plen ∧ ¬ n < om ∧ (0 < om → s.d2.isSome) := by
    subst hn
    unfold pfX pfD at hX
    simp [show frN 2 = 0 from rfl] at hX
    obtain ⟨k1, k2, k3⟩ := hX
    refine ⟨by omega, by omega, fun h0 => ?_⟩
    cases hs : s.d2 with
    | none => have := k3 h0; rw [hs] at this; simp at this
    | some _ => rfl
  obtain ⟨x1, x2, x3⟩ := hX2
  have hn16 : n ≤ 16 := by subst hn; unfold pfN; omega
  have hodd : odd < 8 := by omega
  have hpos : 0 < odd → 0 < n := by subst hn; unfold pfN; omega
  have q1 : ¬ (128 : Int) < (plen : Int) := by omega
  have q2 : ¬ (n : Int) < (om : Int) := by omega
  have E1 : Hid (pfN plen = n ∧ plen % 8 = odd) := ⟨hn.symm, ho.symm⟩
  have EA1 : Hid (pfA1 s 2 om = if 0 < om then spA zeroA 0 (((s.d2.getD zeroA).l.drop 0).take om) else zeroA) := rfl
  obtain ⟨A2, hA2⟩ : ∃ A, A = pfA2 s 2 plen om l r := ⟨_, rfl⟩
  have EA2 : Hid (A2 = spA (pfA1 s 2 om) (0 + om) (tkB l r.p r.y ((n - om : Nat) : Int))) := by show _ = _; rw [hA2]; unfold pfA2; rw [E1.out.1]; rfl
  obtain ⟨A3, hA3⟩ : ∃ A, A = pfA3 s 2 plen om l r := ⟨_, rfl⟩
  have EA3 : Hid (A3 = if 0 < odd then mskA A2 (0 + n - 1) odd else A2) := by show _ = _; rw [hA3]; unfold pfA3; rw [E1.out.1, E1.out.2, hA2]; rfl
  rw [E1.out.1, ← hA3, show ((8 * 0 + plen : Nat) : Int) = (plen : Int) by omega]
  have y1 : IntKind.i64.wrap (om : Int) = (om : Int) := by rw [IntKind.wrap_i64]; omega
  have y2 : IntKind.i64.wrap ((n : Int) - (om : Int)) = (n : Int) - (om : Int) := by rw [IntKind.wrap_i64]; omega
  have y3 : (n : Int) - (om : Int) = ((n - om : Nat) : Int) := by omega
  have y9 : IntKind.i64.wrap ((n - om : Nat) : Int) = ((n - om : Nat) : Int) := by rw [IntKind.wrap_i64]; omega
  have y4 : IntKind.i64.wrap (n : Int) = (n : Int) := by rw [IntKind.wrap_i64]; omega
  clear hn ho hX c1 c2 p1 p2 hA2 hA3
  obtain ⟨A1, hA1⟩ : ∃ A, A = pfA1 s 2 om := ⟨_, rfl⟩
  by_cases h0 : 0 < om
  · have h0' : (0 : Int) < (om : Int) := by omega
    rcases hpd with ⟨rfl, e⟩ | ⟨b, D, rfl, e, rD⟩
    · have := x3 h0; rw [e] at this; cases this
    · have EB : Hid (A1 = spA zeroA 0 ((D.l.drop 0).take om)) := by show _ = _; rw [hA1, EA1.out, if_pos h0, e]; rfl
      rw [← hA1] at EA2
      clear e x3 hA1 EA1 h0
      go_enter Tryz.func116, Tryz.ntmps116
      go_wp2_with (first
        | (have kk := b3; refine stA0 (.tmp 9) (.tmp 27) (by rfl) rfl gB zeroA _ (acells_len _) rfl rfl rB ?_; intro wC hgC rC; have rA2 := (rA1.below b3 (Nat.lt_of_lt_of_le a2 hB1.size)).grown hgC (by intro e; have := hB1.size; cases e; omega); have bC := (bt a4 b3).grown hgC (bt a4 b3).size (fun k hk => by cases hk; exact Nat.le_trans a4.size b1); have cd := (bC.cell (p := ⟨P, 10, none⟩) hPlt).trans cdv)
        | (have kk := hB1; refine alG infoAz (by rfl) rfl ?_; intro gB wB b1 b2 b3 rB)
        | (go_at_call 129; refine (hf _).mono ?_; rintro e w1 ⟨rfl, hB1⟩; have rA1 := rA.below hB1 a2; have a4 := bt a3 hB1)
        | (refine alG infoPz (by rfl) rfl ?_; intro gA wA a1 a2 a3 rA))

      have rD1 := rD.below bC rD.lt
      have hBC : gB < wC.heap.size := rC.lt
      have hsz : w.heap.size ≤ gB := Nat.le_trans a4.size b1
      have hne : gA < gB := by have := hB1.size; omega
      have hbB : b < gB := by have := rD.lt; omega
      have hgB : gB ≠ g := by omega
      have hgA : gA ≠ g := by omega
      have hPB : P < gB := by omega
      have N0 : NowS w wC.drew g bv l r := ((h.below bC).now.after bC).below (bd _)
      have hpD : Pg wC.drew P g := (hp.below bC).below (bd _)
      clear a3 b3 rA kk a4 hB1 rA1 rB b2 cd hgC
      refine wp_region_noPanic ?_
      refine wp_region_held_drew (S := fun _ => True) (by kernel_rfl) (trivial) (fun hHeld => ?_)
      refine tA 0 ?_
      refine tA 1 ?_
      refine tA 2 ?_
      refine tA 3 ?_
      refine tL 4 rfl (ySl (.tmp 9) (some (.tmp 63)) (some (.tmp 66)) none (by rfl) rfl (slA2 gB 0 (0 + om) _ _ rfl (by omega) (by omega) (by omega))) ?_
      refine tA 5 ?_
      refine tA 6 ?_
      refine tA 7 ?_
      refine tL 8 rfl (ySl (.tmp 69) (some (.tmp 70)) none none (by rfl) rfl (slA1 b 0 _ rfl (by omega))) ?_
      refine r1 9 fun K hK => ?_
      refine step_copy_splice rfl (.tmp 67) (.tmp 71) 46 46 rfl 5 Tryz.underlying46 (by kernel_rfl) _ _ _ _ _ _ rfl rfl gB 0 (acells zeroA) 23 (rC.below (bd _) hBC) (bcells ((D.l.drop 0).take om)) (by rw [bcells_length, List.length_take, List.length_drop, D.len]; show _ = min _ _; omega) (fun _ => ⟨by rw [adrIf_ne (by omega)], _, rfl, fun j v hv => ?_⟩) (by rw [bcells_length, acells_len, List.length_take, List.length_drop, D.len]; omega) (bcells_one _) gB _ (Below.refl _ _) (Nat.le_refl _) ?_
      · (rw [adrIf_ne (by omega), Addr.add_mid, (rD1.below (bd _) (by omega)).cell]; rw [← bcells_part] at hv; have := take_get hv; rwa [List.getElem?_drop] at this)
      intro w2 HG2 hB2
      refine oK hK (by trivial) fun hHeld => ?_
      clear hK K
      refine dN ?_
      refine NoPanic.normal ?_
      have rB2 : Row w2 gB 23 (acells A1) := by rw [EB.out, acells_spA _ _ _ (by rw [List.length_take, List.length_drop, D.len]; omega)]; exact HG2.out
      have rA3 : Row w2 gA 40 (pcells zeroP) := (rA2.below (bd _) (by omega)).below hB2 hne
      have N1 : NowS w w2 g bv l r := NowS.low h N0 hB2 hsz
      have hpW : Pg w2 P g := ⟨(hB2.cell (p := ⟨P, 11, none⟩) hPB).trans hpD.c, hpD.ne⟩
      clear HG2 hB2 rA2 N0 hpD bC rD rD1 rC EB hHeld hBC
      go_wp2
      have hrW := N1.rd
      refine wp_region_noPanic ?_
      refine wp_region_held_drew (S := fun W => W.cell? ⟨P, 11, none⟩ = some (.pointer (some ⟨g, 0, none⟩))) (by kernel_rfl) ((hpW.below (bd _)).c) (fun hHeld => ?_)
      refine tA 0 ?_
      refine tA 1 ?_
      refine tA 2 ?_
      refine tL 3 rfl (ySl (.tmp 9) (some (.tmp 75)) none none (by rfl) rfl (slA1 gB (0 + om) _ (by omega) (by omega))) ?_
      refine tA 4 ?_
      refine tA 5 ?_
      refine tA 6 ?_
      refine tA 7 ?_
      refine tA 8 ?_
      refine tA 9 ?_
      refine tA 10 ?_
      refine r1 11 fun K hK => ?_
      go_simp
      refine (bytes_r (n - om) (hrW.below (bd _))).mono ?_
      rintro e w4 ⟨m4, a4, c4, hm4, hle4, rfl, s4, hn4⟩
      have rB4 := (rB2.below (bd _) rB2.lt).nowS hn4 hgB
      have rA4 := (rA3.below (bd _) rA3.lt).nowS hn4 hgA
      refine oK hK (by exact ((hpW.below (bd _)).now hn4).c) fun hHeld => ?_
      clear hK K
      refine r1 12 fun K hK => ?_
      refine step_copy_splice rfl (.tmp 76) (.tmp 84) 46 46 rfl 5 Tryz.underlying46 (by kernel_rfl) _ _ _ _ _ _ rfl rfl gB (0 + om) (acells A1) 23 rB4 (bcells (tkB l r.p r.y ((n - om : Nat) : Int))) (by rw [bcells_length]; refine hm4.out.symm.trans (Nat.min_eq_left ?_).symm; omega) (fun h5 => ⟨by rw [adrIf_ne (by rw [bcells_length, ← hm4.out] at h5; omega), Nat.zero_add], s4.pos h5⟩) (by rw [bcells_length, acells_len]; have := tkB_le l r.p r.y (n - om); omega) (bcells_one _) gB w4 (Below.refl _ _) (Nat.le_refl _) ?_
      intro w5 HG5 hB5
      refine oK hK (by exact (hB5.cell (p := ⟨P, 11, none⟩) hPB).trans ‹_›) fun hHeld => ?_
      clear hK K
      refine dN ?_
      refine NoPanic.normal ?_
      have rB5 : Row w5 gB 23 (acells A2) := by rw [EA2.out, acells_spA _ _ _ (by have := tkB_le l r.p r.y (n - om); omega)]; exact HG5.out
      have rA5 : Row w5 gA 40 (pcells zeroP) := rA4.below hB5 hne
      have N5 : NowS w w5 g bv l (r.adv l ((n - om : Nat) : Int)) := NowS.low h (N1.trans (hn4.after (bd _))) hB5 hsz
      clear HG5 hB5 rA4 rB4 hn4 s4 hHeld rB2 rA3 N1 hpW hrW EA2
      by_cases hodd0 : 0 < odd
      · have h6 : (0 : Int) < (odd : Int) := by omega
        have hn0 := hpos hodd0
        obtain ⟨i, hi⟩ : ∃ i, i = 0 + n - 1 := ⟨_, rfl⟩
        obtain ⟨b6, hb6⟩ : ∃ b, A2.l[i]? = some b := ⟨_, List.getElem?_eq_getElem (by rw [A2.len]; omega)⟩
        have c6 : w5.cell? ⟨gB, i, none⟩ = some (.int .u8 b6.toNat) := by rw [rB5.cell]; exact bcells_get hb6
        have f6 := rB5.frozen i
        have y5 : ((n : Int) - 1) = (i : Int) := by omega
        have y6 : IntKind.i64.wrap ((n : Int) - 1) = (i : Int) := by rw [IntKind.wrap_i64]; omega
        have y7 : (i : Int) < 16 := by omega
        have y8 : (0 : Int) ≤ (i : Int) := by omega
        have EA6 : Hid (acells A3 = (acells A2).set i (.int .u8 (bits BinOp.andNot IntKind.u8 (b6.toNat : Int) (255 / 2 ^ odd)))) := by show _ = _; rw [EA3.out, if_pos hodd0, ← hi]; exact mskA_cells A2 i odd hodd b6 hb6
        clear EA3 hi hpos hb6
        go_wp2
        go_region
        refine name_world (R := fun W => Exit.then _ _ _ _ W) (P := fun W3 => Row W3 gB 23 (acells A3) ∧ Row W3 gA 40 (pcells zeroP) ∧ NowS w W3 g bv l (r.adv l ((n - om : Nat) : Int))) _ ⟨by rw [EA6.out]; exact (rB5.set i _).drew, ((rA5.grown (grownBy_setCell w5 gB i _) (fun e => by have := Option.some.inj e; omega)).drew), (N5.fresh h (grownBy_setCell w5 gB i _) hsz).below (bd _)⟩ ?_
        rintro W3 ⟨rB7, rA7, N7⟩
        clear rB5 rA5 N5 c6 f6 EA6
        have hal := acells_len A3
        have hfs := foldSize A3
        go_wp2_with (first
          | (refine stP0 (.tmp 8) (.tmp 105) (by rfl) rfl gA ⟨A3, (plen : Int)⟩ _ (pcells_len _) rfl (buildP A3 ((plen : Int))) rA7 ?_; intro w8 hg8 r8)
          | (refine ldA (.tmp 9) (by rfl) rfl gB 0 A3 rfl rB7.range ?_))
        exact bodyPost_ret (retC rfl _ _ 0 rfl (lvP r8.range)) rfl ⟨rfl, N7.fresh h hg8 a1⟩
      · have h6 : ¬ (0 : Int) < (odd : Int) := by omega
        obtain rfl : A3 = A2 := by rw [EA3.out, if_neg hodd0]
        clear EA3
        have hal := acells_len A3
        have hfs := foldSize A3
        go_wp2_with (first
          | (refine stP0 (.tmp 8) (.tmp 105) (by rfl) rfl gA ⟨A3, (plen : Int)⟩ _ (pcells_len _) rfl (buildP A3 ((plen : Int))) rA5 ?_; intro w8 hg8 r8)
          | (refine ldA (.tmp 9) (by rfl) rfl gB 0 A3 rfl rB5.range ?_))
        exact bodyPost_ret (retC rfl _ _ 0 rfl (lvP r8.range)) rfl ⟨rfl, N5.fresh h hg8 a1⟩
  · have h0' : ¬ (0 : Int) < (om : Int) := by omega
    have EB : Hid (A1 = zeroA) := by show _ = _; rw [hA1, EA1.out, if_neg h0]
    rw [← hA1] at EA2
    have hcd : ∃ q, v2 = .pointer q := by rcases hpd with ⟨rfl, _⟩ | ⟨b, D, rfl, _, _⟩ <;> exact ⟨_, rfl⟩
    obtain ⟨q, rfl⟩ := hcd
    clear x3 hA1 EA1 h0 hpd
    go_enter Tryz.func116, Tryz.ntmps116
    go_wp2_with (first
      | (have kk := b3; refine stA0 (.tmp 9) (.tmp 27) (by rfl) rfl gB zeroA _ (acells_len _) rfl rfl rB ?_; intro wC hgC rC; have rA2 := (rA1.below b3 (Nat.lt_of_lt_of_le a2 hB1.size)).grown hgC (by intro e; have := hB1.size; cases e; omega); have bC := (bt a4 b3).grown hgC (bt a4 b3).size (fun k hk => by cases hk; exact Nat.le_trans a4.size b1); have cd := (bC.cell (p := ⟨P, 10, none⟩) hPlt).trans cdv)
      | (have kk := hB1; refine alG infoAz (by rfl) rfl ?_; intro gB wB b1 b2 b3 rB)
      | (go_at_call 129; refine (hf _).mono ?_; rintro e w1 ⟨rfl, hB1⟩; have rA1 := rA.below hB1 a2; have a4 := bt a3 hB1)
      | (refine alG infoPz (by rfl) rfl ?_; intro gA wA a1 a2 a3 rA))
    have hBC : gB < wC.heap.size := rC.lt
    have hsz : w.heap.size ≤ gB := Nat.le_trans a4.size b1
    have hne : gA < gB := by have := hB1.size; omega
    have hgB : gB ≠ g := by omega
    have hgA : gA ≠ g := by omega
    have hPB : P < gB := by omega
    have N1 : NowS w wC g bv l r := (h.below bC).now.after bC
    have hpW : Pg wC P g := hp.below bC
    have rB2 : Row wC gB 23 (acells A1) := by rw [EB.out]; exact rC
    have rA3 := rA2
    clear a3 b3 rA kk a4 hB1 rA1 rB b2 cd hgC rC rA2 bC hBC
    have hrW := N1.rd
    refine wp_region_noPanic ?_
    refine wp_region_held_drew (S := fun W => W.cell? ⟨P, 11, none⟩ = some (.pointer (some ⟨g, 0, none⟩))) (by kernel_rfl) ((hpW.below (bd _)).c) (fun hHeld => ?_)
    refine tA 0 ?_
    refine tA 1 ?_
    refine tA 2 ?_
    refine tL 3 rfl (ySl (.tmp 9) (some (.tmp 75)) none none (by rfl) rfl (slA1 gB (0 + om) _ (by omega) (by omega))) ?_
    refine tA 4 ?_
    refine tA 5 ?_
    refine tA 6 ?_
    refine tA 7 ?_
    refine tA 8 ?_
    refine tA 9 ?_
    refine tA 10 ?_
    refine r1 11 fun K hK => ?_
    go_simp
    refine (bytes_r (n - om) (hrW.below (bd _))).mono ?_
    rintro e w4 ⟨m4, a4, c4, hm4, hle4, rfl, s4, hn4⟩
    have rB4 := (rB2.below (bd _) rB2.lt).nowS hn4 hgB
    have rA4 := (rA3.below (bd _) rA3.lt).nowS hn4 hgA
    refine oK hK (by exact ((hpW.below (bd _)).now hn4).c) fun hHeld => ?_
    clear hK K
    refine r1 12 fun K hK => ?_
    refine step_copy_splice rfl (.tmp 76) (.tmp 84) 46 46 rfl 5 Tryz.underlying46 (by kernel_rfl) _ _ _ _ _ _ rfl rfl gB (0 + om) (acells A1) 23 rB4 (bcells (tkB l r.p r.y ((n - om : Nat) : Int))) (by rw [bcells_length]; refine hm4.out.symm.trans (Nat.min_eq_left ?_).symm; omega) (fun h5 => ⟨by rw [adrIf_ne (by rw [bcells_length, ← hm4.out] at h5; omega), Nat.zero_add], s4.pos h5⟩) (by rw [bcells_length, acells_len]; have := tkB_le l r.p r.y (n - om); omega) (bcells_one _) gB w4 (Below.refl _ _) (Nat.le_refl _) ?_
    intro w5 HG5 hB5
    refine oK hK (by exact (hB5.cell (p := ⟨P, 11, none⟩) hPB).trans ‹_›) fun hHeld => ?_
    clear hK K
    refine dN ?_
    refine NoPanic.normal ?_
    have rB5 : Row w5 gB 23 (acells A2) := by rw [EA2.out, acells_spA _ _ _ (by have := tkB_le l r.p r.y (n - om); omega)]; exact HG5.out
    have rA5 : Row w5 gA 40 (pcells zeroP) := rA4.below hB5 hne
    have N5 : NowS w w5 g bv l (r.adv l ((n - om : Nat) : Int)) := NowS.low h (N1.trans (hn4.after (bd _))) hB5 hsz
    clear HG5 hB5 rA4 rB4 hn4 s4 hHeld rB2 rA3 N1 hpW hrW EA2
    by_cases hodd0 : 0 < odd
    · have h6 : (0 : Int) < (odd : Int) := by omega
      have hn0 := hpos hodd0
      obtain ⟨i, hi⟩ : ∃ i, i = 0 + n - 1 := ⟨_, rfl⟩
      obtain ⟨b6, hb6⟩ : ∃ b, A2.l[i]? = some b := ⟨_, List.getElem?_eq_getElem (by rw [A2.len]; omega)⟩
      have c6 : w5.cell? ⟨gB, i, none⟩ = some (.int .u8 b6.toNat) := by rw [rB5.cell]; exact bcells_get hb6
      have f6 := rB5.frozen i
      have y5 : ((n : Int) - 1) = (i : Int) := by omega
      have y6 : IntKind.i64.wrap ((n : Int) - 1) = (i : Int) := by rw [IntKind.wrap_i64]; omega
      have y7 : (i : Int) < 16 := by omega
      have y8 : (0 : Int) ≤ (i : Int) := by omega
      have EA6 : Hid (acells A3 = (acells A2).set i (.int .u8 (bits BinOp.andNot IntKind.u8 (b6.toNat : Int) (255 / 2 ^ odd)))) := by show _ = _; rw [EA3.out, if_pos hodd0, ← hi]; exact mskA_cells A2 i odd hodd b6 hb6
      clear EA3 hi hpos hb6
      go_wp2
      go_region
      refine name_world (R := fun W => Exit.then _ _ _ _ W) (P := fun W3 => Row W3 gB 23 (acells A3) ∧ Row W3 gA 40 (pcells zeroP) ∧ NowS w W3 g bv l (r.adv l ((n - om : Nat) : Int))) _ ⟨by rw [EA6.out]; exact (rB5.set i _).drew, ((rA5.grown (grownBy_setCell w5 gB i _) (fun e => by have := Option.some.inj e; omega)).drew), (N5.fresh h (grownBy_setCell w5 gB i _) hsz).below (bd _)⟩ ?_
      rintro W3 ⟨rB7, rA7, N7⟩
      clear rB5 rA5 N5 c6 f6 EA6
      have hal := acells_len A3
      have hfs := foldSize A3
      go_wp2_with (first
        | (refine stP0 (.tmp 8) (.tmp 105) (by rfl) rfl gA ⟨A3, (plen : Int)⟩ _ (pcells_len _) rfl (buildP A3 ((plen : Int))) rA7 ?_; intro w8 hg8 r8)
        | (refine ldA (.tmp 9) (by rfl) rfl gB 0 A3 rfl rB7.range ?_))
      exact bodyPost_ret (retC rfl _ _ 0 rfl (lvP r8.range)) rfl ⟨rfl, N7.fresh h hg8 a1⟩
    · have h6 : ¬ (0 : Int) < (odd : Int) := by omega
      obtain rfl : A3 = A2 := by rw [EA3.out, if_neg hodd0]
      clear EA3
      have hal := acells_len A3
      have hfs := foldSize A3
      go_wp2_with (first
        | (refine stP0 (.tmp 8) (.tmp 105) (by rfl) rfl gA ⟨A3, (plen : Int)⟩ _ (pcells_len _) rfl (buildP A3 ((plen : Int))) rA5 ?_; intro w8 hg8 r8)
        | (refine ldA (.tmp 9) (by rfl) rfl gB 0 A3 rfl rB5.range ?_))
      exact bodyPost_ret (retC rfl _ _ 0 rfl (lvP r8.range)) rfl ⟨rfl, N5.fresh h hg8 a1⟩
end Go.Proofs.YtdibjgcokebfbaaGreat
