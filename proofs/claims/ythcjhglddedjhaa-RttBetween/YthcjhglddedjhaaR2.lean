/-
  A configuration of times that lies in a block: its cells, its load in a region that draws its order.
-/
import Derived.Test.YthcjhglddedjhaaR1
namespace Go.Proofs.Ythcjhglddedjhaa
open Go.RowKit
set_option linter.unusedSimpArgs false
theorem row5 {w : World} {g : Nat} {t : TypeId} {a b c d e : Value} (h : Row w g t [a, b, c, d, e]) : w.cell? ⟨g, 0, none⟩ = some a ∧ w.cell? ⟨g, 1, none⟩ = some b ∧ w.cell? ⟨g, 2, none⟩ = some c ∧ w.cell? ⟨g, 3, none⟩ = some d ∧ w.cell? ⟨g, 4, none⟩ = some e :=
  ⟨h.cell 0, h.cell 1, h.cell 2, h.cell 3, h.cell 4⟩
theorem infoR : (Try.prog.info? 23).map (·.size) = some 5 := by kernel_rfl
theorem yR {ops : Array Oper} {S : World → Prop} {op : Oper} {a : Act} {b o : Nat} {x : Operand} (c : Rt) (hS : ∀ w, S w → w.rangeAt b o (rcs c)) (hw : Region.wanted op (yielded ops a.tmps) = true) (ho : op.op = .load 23 x) (hx : a.eval x = .pointer (some ⟨b, o, none⟩)) : YieldsIf Try.prog ops S op (.agg #[.bool c.on, .int .i64 c.mi, .int .i64 c.ma, .int .i64 c.co, .int .i64 c.de]) a :=
  yieldsIf_load_mid hw _ x ho b o hx (rcs c) _ hS Try.underlying23 rfl (by rw [infoR]; rfl)
end Go.Proofs.Ythcjhglddedjhaa
