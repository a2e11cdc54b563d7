/-
  When two distances are the same.
-/
import Derived.Test.YtodemeilmaoodaaSRow
import Derived.ChangeKeysEq
namespace Go.Proofs.Ytodemeilmaoodaa
open Go.RowKit
set_option linter.unusedSimpArgs false
theorem two_of {α : Type} : ∀ {l : List α}, l.length = 2 → ∃ a b, l = [a, b]
  | [a, b], _ => ⟨a, b, rfl⟩
theorem eqD (d : Nat) (a1 a2 b1 b2 : Int) (w : World) : (Op.equalIn (d + 2) 33 (.agg #[.int .u16 a1, .int .u16 a2]) (.agg #[.int .u16 b1, .int .u16 b2])).run Try.prog w = .ok (a1 == b1 && a2 == b2) w := by
  have he : ∀ w a b, (Op.equalIn (d + 1) 22 (.int .u16 a) (.int .u16 b)).run Try.prog w = .ok (a == b) w := fun w a b => run_equalIn_int w d _ _ _ a b Try.underlying22
  have hf : (Try.prog.fieldsOf 33).toList.map (fun f => (f.name, f.type, f.offset)) = [("Seqno", 22, 0), ("Metric", 22, 1)] := by kernel_rfl
  rw [run_equalIn_struct w (d + 1) 33 _ _ (by kernel_rfl) (by kernel_rfl)]
  generalize (Try.prog.fieldsOf 33).toList = fs at hf
  obtain ⟨f1, f2, rfl⟩ : ∃ f1 f2, fs = [f1, f2] := two_of (by have := congrArg List.length hf; simpa using this)
  · simp only [List.map_cons, List.map_nil, List.cons.injEq, Prod.mk.injEq, and_true] at hf
    obtain ⟨⟨n1, t1, o1⟩, n2, t2, o2⟩ := hf
    have hb : ∀ w, (isAgg 22).run Try.prog w = .ok false w := fun w => by simp [isAgg, run_underlying Try.underlying22]
    simp [Op.eqFields, n1, n2, t1, t2, o1, o2, Sem.run_bind, Sem.run_ite, part, hb, Result.andThen_ok, he]
    by_cases hh : a1 = b1 <;> by_cases hn : a2 = b2 <;> simp [hh, hn]
theorem run_eqlD (a1 a2 b1 b2 : Int) (w : World) : (binOp .eql 33 (.agg #[.int .u16 a1, .int .u16 a2]) (.agg #[.int .u16 b1, .int .u16 b2])).run Try.prog w = .ok (.bool (a1 == b1 && a2 == b2)) w := by
  have h := eqD 9998 a1 a2 b1 b2 w
  rw [run_eql_struct w, h]; rfl
theorem run_neqD (a1 a2 b1 b2 : Int) (w : World) : (binOp .neq 33 (.agg #[.int .u16 a1, .int .u16 a2]) (.agg #[.int .u16 b1, .int .u16 b2])).run Try.prog w = .ok (.bool (!(a1 == b1 && a2 == b2))) w := by
  have h := eqD 9998 a1 a2 b1 b2 w
  rw [run_neq_struct w, h]; rfl
theorem guardD (op : BinOp) (x y : Operand) (a1 a2 b1 b2 : Int) (w : World) : (eqGuard op 33 x y (.agg #[.int .u16 a1, .int .u16 a2]) (.agg #[.int .u16 b1, .int .u16 b2])).run Try.prog w = .ok () w :=
  run_eqGuard_agg w op _ x y _ _ (by kernel_rfl)
end Go.Proofs.Ytodemeilmaoodaa
