/-
  Pieces (api.Raw) in memory: loads, stores, slices of them; the contract of check for every list of pieces.
-/
import Derived.Test.YtaleclmccmeglaaOp
import Derived.Deep.MidRow
namespace Go.Proofs.Ytaleclmccmeglaa
open Go.RowKit
set_option linter.unusedSimpArgs false

/-- A piece: its type, where its body lies, its length and room, its bytes. -/
structure Pc where
  t : UInt8
  a : Option Addr
  n : Nat
  c : Nat
  l : List UInt8
def rc (p : Pc) : List Value := [.int .u8 (p.t.toNat : Int), .slice p.a p.n p.c]
def rcs (ps : List Pc) : List Value := ps.flatMap rc
theorem rcs_len (ps : List Pc) : (rcs ps).length = ps.length * 2 := by
  induction ps with
  | nil => rfl
  | cons p ps ih => simp only [rcs, List.flatMap_cons, List.length_append, List.length_cons] at *; rw [ih]; simp [rc]; omega
theorem rcs_append (ps qs : List Pc) : rcs (ps ++ qs) = rcs ps ++ rcs qs := by simp [rcs]
theorem rcs_one (ps : List Pc) : ∀ u ∈ rcs ps, u.oneCell' = true := by
  intro u hu
  obtain ⟨p, _, hu⟩ := List.mem_flatMap.1 hu
  simp [rc] at hu
  rcases hu with rfl | rfl <;> rfl
theorem rcs_get (ps : List Pc) (j : Nat) (p : Pc) (h : ps[j]? = some p) (k : Nat) (hk : k < 2) : (rcs ps)[j * 2 + k]? = (rc p)[k]? := by
  induction ps generalizing j with
  | nil => simp at h
  | cons q ps ih =>
    have e : rcs (q :: ps) = rc q ++ rcs ps := by simp [rcs]
    rw [e]
    cases j with
    | zero =>
      simp at h
      subst h
      rw [List.getElem?_append_left (by simp [rc]; omega)]
      simp
    | succ j =>
      rw [List.getElem?_append_right (by simp [rc]; omega)]
      have e2 : (j + 1) * 2 + k - (rc q).length = j * 2 + k := by simp [rc]; omega
      rw [e2]
      exact ih j (by simpa using h)

theorem infoR : (Try.prog.info? 60).map (·.size) = some 2 := by kernel_rfl
theorem infoR3 : (Try.prog.info? 60).map (fun i => (i.zero, i.size, i.bytes)) = some (some (.agg #[.int .u8 0, .slice none 0 0]), 2, 32) := by kernel_rfl

/-- A block of the call's own that holds these cells. -/
def Row (w : World) (g : Nat) (t : TypeId) (cs : List Value) : Prop := w.heap[g]? = some (.cells cs.toArray t (0, 0))
theorem Row.lt {w : World} {g : Nat} {t : TypeId} {cs : List Value} (h : Row w g t cs) : g < w.heap.size := (Array.getElem?_eq_some_iff.1 h).1
theorem Row.new (w : World) (t : TypeId) (cs : List Value) : Row (w.alloc (.cells cs.toArray t)) w.heap.size t cs := by
  show (w.heap.push _)[w.heap.size]? = _
  simp
theorem Row.below {w w' : World} {B g : Nat} {t : TypeId} {cs : List Value} (h : Row w g t cs) (hb : Below B w w') (hlt : g < B) : Row w' g t cs := (hb.block g hlt).trans h
theorem Row.grown {w w' : World} {g : Nat} {t : TypeId} {cs : List Value} {row : Option Nat} (h : Row w g t cs) (hg : w.grownBy w' row) (hne : some g ≠ row) : Row w' g t cs := (hg.block g h.lt hne).trans h
theorem Row.alloc {w : World} {g : Nat} {t : TypeId} {cs : List Value} (h : Row w g t cs) (o : Obj) : Row (w.alloc o) g t cs := h.grown (World.grownBy_alloc w o none) (by simp)
theorem Row.cell {w : World} {g : Nat} {t : TypeId} {cs : List Value} (h : Row w g t cs) (j : Nat) : w.cell? ⟨g, j, none⟩ = cs[j]? := by
  rw [cell_of_row w g j cs.toArray t (0, 0) h]; simp
theorem Row.frozen {w : World} {g : Nat} {t : TypeId} {cs : List Value} (h : Row w g t cs) (j : Nat) : w.frozen? ⟨g, j, none⟩ = false := by
  unfold Row at h
  simp [World.frozen?, h]
theorem Row.range {w : World} {g : Nat} {t : TypeId} {cs : List Value} (h : Row w g t cs) : w.rangeAt g 0 cs := fun j v hv => by rw [Nat.zero_add, h.cell]; exact hv
theorem Row.there {w : World} {g : Nat} {t : TypeId} {cs : List Value} {n : Nat} (h : Row w g t cs) (hn : n ≤ cs.length) : w.there g 0 n := fun j hj => by
  rw [Nat.zero_add, h.cell, h.frozen]
  exact ⟨by simp; omega, rfl⟩
theorem Row.set {w : World} {g : Nat} {t : TypeId} {cs : List Value} (h : Row w g t cs) (j : Nat) (v : Value) : Row (w.setCell ⟨g, j, none⟩ v) g t (cs.set j v) := by
  unfold Row at *
  simp [World.setCell, Array.getElem?_modify, h]
theorem below_setCells {B : Nat} {w0 : World} (g : Nat) (h : B ≤ g) : ∀ (vs : List Value) (o : Nat) (w : World), Below B w0 w → Below B w0 (w.setCells g o vs)
  | [], _, _, hb => hb
  | v :: r, o, w, hb => by
    rw [World.setCells]
    exact below_setCells g h r (o + 1) _ (hb.setCell (p := ⟨g, o, none⟩) h v)
theorem retC {P : Program} {fn : Func} {p : Tmp} {ty : TypeId} {v : Value} {w : World} (h : fn.results = #[.cell p ty]) (tmps : Array Value) (b o : Nat) (hp : tmps.getD p undef = .pointer (some ⟨b, o, none⟩))
    (hl : (loadVar ty ⟨b, o, none⟩).run P w = .ok v w) : (results fn tmps).run P w = .ok v w := by
  simp only [results, h]
  rw [Array.getD_eq_getD_getElem?] at hp
  simp [Sem.run_bind, hp, asAddr, hl, Result.andThen]
theorem lvR {w : World} {g : Nat} {x y : Value} (h : w.rangeAt g 0 [x, y]) : (loadVar 60 ⟨g, 0, none⟩).run Try.prog w = .ok (.agg #[x, y]) w :=
  run_loadVar_mid w g 0 _ [x, y] _ h Try.underlying60 rfl (by rw [infoR]; rfl)
section
variable {ops : Array Oper} {rest : List Oper} {op : Oper} {a : Act} {w : World} {Q : Exit → Act → World → Prop}
/-- A load of a piece. -/
theorem ldR (x : Operand) (hw : Region.wanted op (yielded ops a.tmps) = true) (ho : op.op = .load 60 x) (b o : Nat) (u v : Value) (hx : a.eval x = .pointer (some ⟨b, o, none⟩)) (hc : w.rangeAt b o [u, v])
    (h : wpList Try.prog ops Q rest (a.put op.dst (.agg #[u, v])) w) : wpList Try.prog ops Q (op :: rest) a w :=
  wpList_step fun K hK => by
    rw [if_pos hw]
    exact wp_load_mid _ x ho b o hx [u, v] _ hc Try.underlying60 rfl (by rw [infoR]; rfl) (hK _ _ h)
/-- A store of a piece into a block of the call's own. -/
theorem stR (x y : Operand) (hw : Region.wanted op (yielded ops a.tmps) = true) (ho : op.op = .store 60 x y) (b : Nat) (u v u' v' : Value) (hx : a.eval x = .pointer (some ⟨b, 0, none⟩)) (hy : a.eval y = .agg #[u, v]) (hr : Row w b 60 [u', v'])
    (h1 : u.oneCell' = true) (h2 : v.oneCell' = true)
    (h : ∀ w', w.grownBy w' (some b) → Row w' b 60 [u, v] → wpList Try.prog ops Q rest (a.put op.dst undef) w') : wpList Try.prog ops Q (op :: rest) a w :=
  wpList_step fun K hK => by
    rw [if_pos hw]
    refine wp_store_mid _ x y ho b 0 _ hx hy (by simpa using hr.there (n := 2) (by simp)) (by rw [infoR]; simp) (all_oneCell_toArray (cs := [u, v]) (by intro z hz; simp at hz; rcases hz with rfl | rfl <;> assumption)) (hK _ _ (h _ ?_ ?_))
    · have k := grownBy_trans (grownBy_setCell w b 0 u) (grownBy_setCell _ b 1 v)
      simpa [World.setCells] using k
    · have q := (hr.set 0 u).set 1 v
      simpa [World.setCells] using q
end

/-- A slice of pieces. -/
structure Rws (w : World) (a : Option Addr) (n : Nat) (ps : List Pc) : Prop where
  len : ps.length = n
  place : ps ≠ [] → ∃ g o, a = some ⟨g, o, none⟩ ∧ g < w.heap.size ∧ ∀ j p, ps[j]? = some p → w.rangeAt g (o + j * 2) (rc p)
  body : ∀ p ∈ ps, Src w p.a p.n p.c (bcells p.l)
theorem Rws.below {w w' : World} {a : Option Addr} {n : Nat} {ps : List Pc} (h : Rws w a n ps) (hb : Below w.heap.size w w') : Rws w' a n ps :=
  ⟨h.len, fun hne => by
    obtain ⟨g, o, e, hg, hr⟩ := h.place hne
    exact ⟨g, o, e, Nat.lt_of_lt_of_le hg hb.size, fun j p hp i v hv => (hb.cell (p := ⟨g, o + j * 2 + i, none⟩) hg).trans (hr j p hp i v hv)⟩, fun p hp => (h.body p hp).below hb (h.body p hp).lt⟩
theorem Rws.at {w : World} {a : Option Addr} {n : Nat} {ps : List Pc} (h : Rws w a n ps) {j : Nat} (hj : j < ps.length) : ∃ g o, a = some ⟨g, o, none⟩ ∧ w.cell? ⟨g, o + j * 2, none⟩ = some (.int .u8 (ps[j].t.toNat : Int)) ∧ w.cell? ⟨g, o + j * 2 + 1, none⟩ = some (.slice ps[j].a ps[j].n ps[j].c) := by
  obtain ⟨g, o, e, _, hr⟩ := h.place (by rintro rfl; simp at hj)
  have hp := hr j ps[j] (List.getElem?_eq_getElem hj)
  exact ⟨g, o, e, hp 0 _ rfl, hp 1 _ rfl⟩
/-- What check tells. -/
def badP (p : Pc) : Bool := p.t == 0 && decide (0 < p.n)
def longP (p : Pc) : Bool := decide (255 < p.n)
def chkE (ps : List Pc) : Int := if ps.any badP then 2 else if ps.any longP then 1 else 0
theorem any_take (f : Pc → Bool) (ps : List Pc) (j : Nat) (hj : j < ps.length) : (ps.take (j + 1)).any f = ((ps.take j).any f || f ps[j]) := by
  rw [List.take_succ_eq_append_getElem hj, List.any_append]; simp
theorem any_at (f : Pc → Bool) (ps : List Pc) (j : Nat) (hj : j < ps.length) (h : f ps[j] = true) : ps.any f = true := List.any_eq_true.2 ⟨ps[j], List.getElem_mem hj, h⟩

end Go.Proofs.Ytaleclmccmeglaa
