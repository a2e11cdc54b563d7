/-
  The parser: what was told once for many, in memory; slices of an address's array.
-/
import Derived.Test.YtaleclmccmeglaaAdr
namespace Go.Proofs.Ytaleclmccmeglaa
open Go.RowKit
set_option linter.unusedSimpArgs false
set_option maxRecDepth 20000
variable {bv : Option Addr}

/-- What was told once for many: the router, the next hops, the default prefixes. -/
structure St where
  r : Option Id8
  h4 : Option Ad
  h6 : Option Ad
  d1 : Option Ad
  d2 : Option Ad
def pv (o : Option Nat) : Value := .pointer (o.map fun b => ⟨b, 0, none⟩)
def pcs (r h4 h6 d1 d2 R : Option Nat) : List Value := [pv r, pv none, pv none, pv none, pv none, pv h4, pv none, pv h6, pv none, pv d1, pv d2, pv R]
def PA (w : World) : Option Nat → Option Ad → Prop
  | none, none => True
  | some b, some a => Row w b 23 (acells a)
  | _, _ => False
def PI (w : World) : Option Nat → Option Id8 → Prop
  | none, none => True
  | some b, some a => Row w b 37 (icells a)
  | _, _ => False
theorem PA.grown {w w' : World} {row : Option Nat} : ∀ {o : Option Nat} {x : Option Ad}, PA w o x → w.grownBy w' row → (∀ b cs, Row w b 23 cs → some b ≠ row) → PA w' o x
  | none, none, _, _, _ => trivial
  | some _, some _, h, hg, hne => Row.grown h hg (hne _ _ h)
  | none, some _, h, _, _ => h.elim
  | some _, none, h, _, _ => h.elim
theorem PI.grown {w w' : World} {row : Option Nat} : ∀ {o : Option Nat} {x : Option Id8}, PI w o x → w.grownBy w' row → (∀ b cs, Row w b 37 cs → some b ≠ row) → PI w' o x
  | none, none, _, _, _ => trivial
  | some _, some _, h, hg, hne => Row.grown h hg (hne _ _ h)
  | none, some _, h, _, _ => h.elim
  | some _, none, h, _, _ => h.elim
/-- The parser P, its reader R, and what it was told. -/
structure Par (w : World) (P : Nat) (R : Option Nat) (s : St) : Prop where
  ex : ∃ r h4 h6 d1 d2, Row w P 95 (pcs r h4 h6 d1 d2 R) ∧ PI w r s.r ∧ PA w h4 s.h4 ∧ PA w h6 s.h6 ∧ PA w d1 s.d1 ∧ PA w d2 s.d2
theorem Par.grown {w w' : World} {P : Nat} {R : Option Nat} {s : St} {row : Option Nat} (h : Par w P R s) (hg : w.grownBy w' row) (hne : ∀ b t cs, Row w b t cs → t = 95 ∨ t = 23 ∨ t = 37 → some b ≠ row) : Par w' P R s := by
  obtain ⟨r, h4, h6, d1, d2, k0, k1, k2, k3, k4, k5⟩ := h.ex
  have nA : ∀ b cs, Row w b 23 cs → some b ≠ row := fun b cs hr => hne b _ cs hr (.inr (.inl rfl))
  exact ⟨r, h4, h6, d1, d2, k0.grown hg (hne _ _ _ k0 (.inl rfl)), k1.grown hg (fun b cs hr => hne b _ cs hr (.inr (.inr rfl))), k2.grown hg nA, k3.grown hg nA, k4.grown hg nA, k5.grown hg nA⟩
theorem RdS.rowne {w : World} {g b : Nat} {l : List UInt8} {r : RS} {t : TypeId} {cs : List Value} (h : RdS w g bv l r) (hr : Row w b t cs) (ht : t ≠ 118) : b ≠ g := by
  rintro rfl
  obtain ⟨c, hb, _⟩ := Rd.ex h
  unfold Row at hr
  rw [hb] at hr
  cases hr
  exact ht rfl
theorem Par.now {w w' : World} {P g : Nat} {R : Option Nat} {s : St} {l : List UInt8} {r r0 : RS} (h : Par w P R s) (h0 : RdS w g bv l r0) (hn : NowS w w' g bv l r) : Par w' P R s :=
  h.grown hn.grown (fun b t cs hr ht e => by
    refine h0.rowne hr ?_ (Option.some.inj e)
    rcases ht with rfl | rfl | rfl <;> decide)
theorem Par.below {w w' : World} {P : Nat} {R : Option Nat} {s : St} (h : Par w P R s) (hb : Below w.heap.size w w') : Par w' P R s := h.grown (grownBy_below none hb) (fun _ _ _ _ _ => by simp)
theorem Par.fresh {w w' : World} {P k : Nat} {R : Option Nat} {s : St} (h : Par w P R s) (hg : w.grownBy w' (some k)) (hk : ∀ t cs, Row w k t cs → t ≠ 95 ∧ t ≠ 23 ∧ t ≠ 37) : Par w' P R s :=
  h.grown hg (fun b t cs hr ht e => by
    have := Option.some.inj e
    subst this
    obtain ⟨h1, h2, h3⟩ := hk _ _ hr
    rcases ht with rfl | rfl | rfl <;> contradiction)
theorem Par.pg {w : World} {P g : Nat} {s : St} {l : List UInt8} {r : RS} (h : Par w P (some g) s) (h0 : RdS w g bv l r) : Pg w P g := by
  obtain ⟨r, h4, h6, d1, d2, k0, _⟩ := h.ex
  exact ⟨k0.cell 11, h0.rowne k0 (by decide)⟩
theorem Par.lt {w : World} {P : Nat} {R : Option Nat} {s : St} (h : Par w P R s) : P < w.heap.size := by
  obtain ⟨r, h4, h6, d1, d2, k0, _⟩ := h.ex
  exact k0.lt
/-- A pointer of the parser is written anew. -/
theorem Par.setC {w : World} {P j : Nat} {R : Option Nat} {v : Value} {r h4 h6 d1 d2 r' h4' h6' d1' d2' R' : Option Nat} {s' : St} (k0 : Row w P 95 (pcs r h4 h6 d1 d2 R)) (e : (pcs r h4 h6 d1 d2 R).set j v = pcs r' h4' h6' d1' d2' R') (k1 : PI w r' s'.r) (k2 : PA w h4' s'.h4) (k3 : PA w h6' s'.h6) (k4 : PA w d1' s'.d1) (k5 : PA w d2' s'.d2) : Par (w.setCell ⟨P, j, none⟩ v) P R' s' := by
  have hg := grownBy_setCell w P j v
  have q := k0.set j v
  rw [e] at q
  have nA : ∀ b t cs, Row w b t cs → t ≠ 95 → some b ≠ some P := fun b t cs hr ht e => by
    have := Option.some.inj e
    subst this
    unfold Row at hr k0
    rw [hr] at k0
    cases k0
    exact ht rfl
  have nB : ∀ b cs, Row w b 23 cs → some b ≠ some P := fun b cs hr => nA b _ cs hr (by decide)
  exact ⟨r', h4', h6', d1', d2', q, k1.grown hg (fun b cs hr => nA b _ cs hr (by decide)), k2.grown hg nB, k3.grown hg nB, k4.grown hg nB, k5.grown hg nB⟩
theorem Par.setR {w : World} {P g : Nat} {R : Option Nat} {s : St} (h : Par w P R s) : Par (w.setCell ⟨P, 11, none⟩ (.pointer (some ⟨g, 0, none⟩))) P (some g) s := by
  obtain ⟨r, h4, h6, d1, d2, k0, k1, k2, k3, k4, k5⟩ := h.ex
  exact Par.setC k0 (r' := r) (h4' := h4) (h6' := h6) (d1' := d1) (d2' := d2) rfl k1 k2 k3 k4 k5
theorem Par.setRt {w : World} {P b : Nat} {R : Option Nat} {s : St} {i : Id8} (h : Par w P R s) (hr : Row w b 37 (icells i)) : Par (w.setCell ⟨P, 0, none⟩ (.pointer (some ⟨b, 0, none⟩))) P R { s with r := some i } := by
  obtain ⟨r, h4, h6, d1, d2, k0, k1, k2, k3, k4, k5⟩ := h.ex
  exact Par.setC k0 (r' := some b) (h4' := h4) (h6' := h6) (d1' := d1) (d2' := d2) rfl hr k2 k3 k4 k5
theorem Par.setH4 {w : World} {P b : Nat} {R : Option Nat} {s : St} {i : Ad} (h : Par w P R s) (hr : Row w b 23 (acells i)) : Par (w.setCell ⟨P, 5, none⟩ (.pointer (some ⟨b, 0, none⟩))) P R { s with h4 := some i } := by
  obtain ⟨r, h4, h6, d1, d2, k0, k1, k2, k3, k4, k5⟩ := h.ex
  exact Par.setC k0 (r' := r) (h4' := some b) (h6' := h6) (d1' := d1) (d2' := d2) rfl k1 hr k3 k4 k5
theorem Par.setH6 {w : World} {P b : Nat} {R : Option Nat} {s : St} {i : Ad} (h : Par w P R s) (hr : Row w b 23 (acells i)) : Par (w.setCell ⟨P, 7, none⟩ (.pointer (some ⟨b, 0, none⟩))) P R { s with h6 := some i } := by
  obtain ⟨r, h4, h6, d1, d2, k0, k1, k2, k3, k4, k5⟩ := h.ex
  exact Par.setC k0 (r' := r) (h4' := h4) (h6' := some b) (d1' := d1) (d2' := d2) rfl k1 k2 hr k4 k5
theorem Par.setD1 {w : World} {P b : Nat} {R : Option Nat} {s : St} {i : Ad} (h : Par w P R s) (hr : Row w b 23 (acells i)) : Par (w.setCell ⟨P, 9, none⟩ (.pointer (some ⟨b, 0, none⟩))) P R { s with d1 := some i } := by
  obtain ⟨r, h4, h6, d1, d2, k0, k1, k2, k3, k4, k5⟩ := h.ex
  exact Par.setC k0 (r' := r) (h4' := h4) (h6' := h6) (d1' := some b) (d2' := d2) rfl k1 k2 k3 hr k5
theorem Par.setD2 {w : World} {P b : Nat} {R : Option Nat} {s : St} {i : Ad} (h : Par w P R s) (hr : Row w b 23 (acells i)) : Par (w.setCell ⟨P, 10, none⟩ (.pointer (some ⟨b, 0, none⟩))) P R { s with d2 := some i } := by
  obtain ⟨r, h4, h6, d1, d2, k0, k1, k2, k3, k4, k5⟩ := h.ex
  exact Par.setC k0 (r' := r) (h4' := h4) (h6' := h6) (d1' := d1) (d2' := some b) rfl k1 k2 k3 k4 hr
theorem Par.frozen {w : World} {P : Nat} {R : Option Nat} {s : St} (h : Par w P R s) (j : Nat) : w.frozen? ⟨P, j, none⟩ = false := by
  obtain ⟨r, h4, h6, d1, d2, k0, _⟩ := h.ex
  exact k0.frozen j
/-- A pointer that the parser holds, and where it leads. -/
def PtA (w : World) (v : Value) (x : Option Ad) : Prop := (v = .pointer none ∧ x = none) ∨ ∃ b a, v = .pointer (some ⟨b, 0, none⟩) ∧ x = some a ∧ Row w b 23 (acells a)
def PtI (w : World) (v : Value) (x : Option Id8) : Prop := (v = .pointer none ∧ x = none) ∨ ∃ b a, v = .pointer (some ⟨b, 0, none⟩) ∧ x = some a ∧ Row w b 37 (icells a)
theorem PA.pt {w : World} : ∀ {o : Option Nat} {x : Option Ad}, PA w o x → PtA w (pv o) x
  | none, none, _ => .inl ⟨rfl, rfl⟩
  | some b, some a, h => .inr ⟨b, a, rfl, rfl, h⟩
  | none, some _, h => h.elim
  | some _, none, h => h.elim
theorem PI.pt {w : World} : ∀ {o : Option Nat} {x : Option Id8}, PI w o x → PtI w (pv o) x
  | none, none, _ => .inl ⟨rfl, rfl⟩
  | some b, some a, h => .inr ⟨b, a, rfl, rfl, h⟩
  | none, some _, h => h.elim
  | some _, none, h => h.elim
theorem Par.at {w : World} {P : Nat} {R : Option Nat} {s : St} (h : Par w P R s) : (∃ v, w.cell? ⟨P, 0, none⟩ = some v ∧ PtI w v s.r) ∧ (∃ v, w.cell? ⟨P, 5, none⟩ = some v ∧ PtA w v s.h4) ∧ (∃ v, w.cell? ⟨P, 7, none⟩ = some v ∧ PtA w v s.h6) ∧ (∃ v, w.cell? ⟨P, 9, none⟩ = some v ∧ PtA w v s.d1) ∧ (∃ v, w.cell? ⟨P, 10, none⟩ = some v ∧ PtA w v s.d2) := by
  obtain ⟨r, h4, h6, d1, d2, k0, k1, k2, k3, k4, k5⟩ := h.ex
  exact ⟨⟨_, k0.cell 0, k1.pt⟩, ⟨_, k0.cell 5, k2.pt⟩, ⟨_, k0.cell 7, k3.pt⟩, ⟨_, k0.cell 9, k4.pt⟩, ⟨_, k0.cell 10, k5.pt⟩⟩
/-! ### Slices of an address's array -/
section
variable {ops : Array Oper} {op : Oper} {a : Act} {S : World → Prop} {v : Value}
theorem ySl {t : TypeId} (x : Operand) (lo hi mx : Option Operand) (hw : Region.wanted op (yielded ops a.tmps) = true) (ho : op.op = .slice t x lo hi mx) (hv : ∀ w, (Instr.sliceAt t (a.eval x) (lo.map a.eval) (hi.map a.eval) (mx.map a.eval)).run Try.prog w = .ok v w) : YieldsIf Try.prog ops S op v a :=
  .inl ⟨hw, fun w _ => by
    unfold execOp
    simp only [ho, hv, Sem.run_bind, Result.andThen_ok, Sem.run_pure]⟩
end
def adrIf (g lo n : Nat) : Addr := if n = lo then ⟨g, 0, none⟩ else ⟨g, lo, none⟩
theorem adrIf_ne {g lo n : Nat} (h : lo < n) : adrIf g lo n = ⟨g, lo, none⟩ := by unfold adrIf; rw [if_neg (by omega)]
theorem slA2 (g lo hi : Nat) (x y : Int) (hx : x = lo) (hy : y = hi) (h1 : lo ≤ hi) (h2 : hi ≤ 16) (w : World) : (Instr.sliceAt 23 (.pointer (some ⟨g, 0, none⟩)) (some (.int .i64 x)) (some (.int .i64 y)) none).run Try.prog w = .ok (.slice (some (adrIf g lo 16)) (hi - lo) (16 - lo)) w := by
  subst hx hy
  have k1 : (0 : Int) ≤ (lo : Int) := by omega
  have k2 : (lo : Int) ≤ (hi : Int) := by omega
  have k3 : (0 : Int) ≤ (hi : Int) := by omega
  have k4 : (hi : Int) ≤ 16 := by omega
  unfold adrIf
  by_cases h : 16 = lo
  · rw [if_pos h]
    subst h
    obtain rfl : hi = 16 := by omega
    go_simp
  · rw [if_neg h]
    go_simp
theorem slA1 (g lo : Nat) (x : Int) (hx : x = lo) (h1 : lo ≤ 16) (w : World) : (Instr.sliceAt 23 (.pointer (some ⟨g, 0, none⟩)) (some (.int .i64 x)) none none).run Try.prog w = .ok (.slice (some (adrIf g lo 16)) (16 - lo) (16 - lo)) w := by
  subst hx
  have k1 : (0 : Int) ≤ (lo : Int) := by omega
  have k2 : (lo : Int) ≤ 16 := by omega
  unfold adrIf
  by_cases h : 16 = lo
  · rw [if_pos h]
    subst h
    go_simp
  · rw [if_neg h]
    go_simp
end Go.Proofs.Ytaleclmccmeglaa
