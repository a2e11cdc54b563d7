/-
  What is held of a pair: its cells, loads, stores; the kernel's two kinds of maps.
-/
import Derived.Test.YtadnnjngflphjaaB1
namespace Go.Proofs.Ytadnnjngflphjaa
open Go.RowKit Go.Maps
set_option linter.unusedSimpArgs false
set_option linter.unusedVariables false
set_option maxRecDepth 20000
/-- An entry, and is it others'? -/
structure Hd where
  e : En
  b : Bool
def hcs (h : Hd) : List Value := ecs h.e ++ [.bool h.b]
theorem hcs_len (h : Hd) : (hcs h).length = 52 := by simp [hcs, ecs_len]
theorem hcs_one (h : Hd) : ∀ u ∈ hcs h, u.oneCell' = true := by
  intro u hu
  simp only [hcs, List.mem_append, List.mem_singleton] at hu
  rcases hu with h | h
  · exact ecs_one _ u h
  · subst h; rfl
abbrev hV (h : Hd) : Value := .agg (hcs h).toArray
def zeroH : Hd := ⟨zeroE, false⟩
theorem infoHs : (Try.prog.info? 67).map (·.size) = some 52 := by kernel_rfl
theorem infoHz : (Try.prog.info? 67).map (·.zero) = some (some (.agg (hcs zeroH).toArray)) := by kernel_rfl
theorem zeroHv (w : World) : (zeroValue 67).run Try.prog w = .ok (hV zeroH) w := by kernel_rfl
theorem bdH0 (n : En) (w : World) : (Instr.build 67 #[(0, eV n)]).run Try.prog w = .ok (hV ⟨n, false⟩) w := by
  obtain ⟨p, i, a⟩ := n
  induction p using Pr.lits with | h =>
  induction a using Ad.lits with | h =>
  show _ = _
  kernel_rfl
theorem bdH1 (n : En) (b : Bool) (w : World) : (Instr.build 67 #[(0, eV n), (1, .bool b)]).run Try.prog w = .ok (hV ⟨n, b⟩) w := by
  obtain ⟨p, i, a⟩ := n
  induction p using Pr.lits with | h =>
  induction a using Ad.lits with | h =>
  show _ = _
  kernel_rfl
def LH (w : World) (b o : Nat) (h : Hd) : Prop := w.rangeAt b o (hcs h)
section
variable {w : World} {b o : Nat} {n : Hd}
theorem LH.e (h : LH w b o n) : LE w b o n.e := rangeAt_left h
theorem LH.b_ (h : LH w b o n) : w.cell? ⟨b, o + 51, none⟩ = some (.bool n.b) := by
  have := rangeAt_right h (ecs_len n.e) 0 (.bool n.b) rfl
  simpa using this
theorem LH.below {w' : World} {B : Nat} (h : LH w b o n) (hb : Below B w w') (hlt : b < B) : LH w' b o n := rangeAt_below h hb hlt
end
theorem Row.hd {w : World} {g : Nat} {t : TypeId} {n : Hd} (h : Row w g t (hcs n)) : LH w g 0 n := h.range
section
variable {ops : Array Oper} {rest : List Oper} {op : Oper} {a : Act} {w : World} {Q : Exit → Act → World → Prop} {K : Act → World → Prop} {E : Prop} {S : World → Prop}
theorem ldH (x : Operand) (hw : Region.wanted op (yielded ops a.tmps) = true) (ho : op.op = .load 67 x) (b o : Nat) (n : Hd) (hx : a.eval x = .pointer (some ⟨b, o, none⟩)) (hc : LH w b o n)
    (h : wpList Try.prog ops Q rest (a.put op.dst (hV n)) w) : wpList Try.prog ops Q (op :: rest) a w :=
  wpList_step fun K hK => by
    rw [if_pos hw]
    exact wp_load_mid _ x ho b o hx (hcs n) _ hc Try.underlying67 rfl (by rw [infoHs, hcs_len]) (hK _ _ h)
theorem yH {b o : Nat} {x : Operand} (n : Hd) (hS : ∀ w, S w → LH w b o n) (hw : Region.wanted op (yielded ops a.tmps) = true) (ho : op.op = .load 67 x) (hx : a.eval x = .pointer (some ⟨b, o, none⟩)) : YieldsIf Try.prog ops S op (hV n) a :=
  yieldsIf_load_mid hw _ x ho b o hx (hcs n) _ hS Try.underlying67 rfl (by rw [infoHs, hcs_len])
theorem stH (x y : Operand) (hw : Region.wanted op (yielded ops a.tmps) = true) (ho : op.op = .store 67 x y) (b : Nat) (n u : Hd) (hx : a.eval x = .pointer (some ⟨b, 0, none⟩)) (hy : a.eval y = hV n) (hr : Row w b 67 (hcs u))
    (h : ∀ W, w.grownBy W (some b) → Row W b 67 (hcs n) → wpList Try.prog ops Q rest (a.put op.dst undef) W) : wpList Try.prog ops Q (op :: rest) a w :=
  wpList_step fun K hK => by
    rw [if_pos hw]
    refine wp_store_mid _ x y ho b 0 _ hx hy (by simpa [hcs_len] using hr.there (n := 52) (by rw [hcs_len]; omega)) (by rw [infoHs]; simp [hcs_len]) (all_oneCell_toArray (hcs_one n)) (hK _ _ (h _ (grownBy_setCells b _ _ _) ?_))
    have := Row.setCells (hcs n) [] w (hcs u) hr (by rw [hcs_len, hcs_len])
    simpa using this
end
theorem lvH {w : World} {g : Nat} {n : Hd} (h : Row w g 67 (hcs n)) : (loadVar 67 ⟨g, 0, none⟩).run Try.prog w = .ok (hV n) w :=
  run_loadVar_mid w g 0 _ (hcs n) _ h.range Try.underlying67 rfl (by rw [infoHs, hcs_len])
/-- Of a destination: the map of what is held of its sources, and that. -/
structure Ob where
  d : Pf
  r : Option Nat
  S : List Hd
def zeroOb : Ob := ⟨zeroP, none, []⟩
def mI : Mk Hd := ⟨fun h => h.e.p.s, hV, zeroH, 74, 67, Try.underlying74, zeroHv⟩
def mO : Mk Ob := ⟨Ob.d, fun o => .map o.r, zeroOb, 61, 74, Try.underlying61, fun w => by kernel_rfl⟩
/-! ### A nil map -/
theorem find_nil (p : Pf) (hi : wfP p) (w : World) : (Instr.findKey 33 (Value.agg (pcells p).toArray) []).run Try.prog w = .ok none w := by
  rcases keyLawP.find w (kp_of hi) [] (by simp) with ⟨h, _⟩ | ⟨j, e, _, h, _⟩
  · exact h
  · simp at h
theorem look_nil {α : Type} (k : Mk α) (p : Pf) (hi : wfP p) (w : World) : (Instr.lookup k.M (.map none) (Value.agg (pcells p).toArray) true).run Try.prog w = .ok (.tuple #[k.val k.z, .bool false]) w := by
  simp [Instr.lookup, run_underlying k.und, keyLawP.check w true (kp_of hi), find_nil p hi, k.zv, Result.andThen]
theorem look_nil1 {α : Type} (k : Mk α) (p : Pf) (hi : wfP p) (w : World) : (Instr.lookup k.M (.map none) (Value.agg (pcells p).toArray) false).run Try.prog w = .ok (k.val k.z) w := by
  simp [Instr.lookup, run_underlying k.und, keyLawP.check w true (kp_of hi), find_nil p hi, k.zv, Result.andThen]
end Go.Proofs.Ytadnnjngflphjaa
