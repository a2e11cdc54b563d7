/-
  When two entries, two operations are the same.
-/
import Derived.Test.YtadnnjngflphjaaB1
import Derived.ChangeKeysEq
namespace Go.Proofs.Ytadnnjngflphjaa
open Go.RowKit Go.Maps
set_option linter.unusedSimpArgs false
set_option linter.unusedVariables false
set_option maxRecDepth 20000
def eqEn (x y : En) : Bool := qB x.p y.p && (x.i == y.i && decide (x.a.l = y.a.l))
theorem eqEn_iff (x y : En) : eqEn x y = true ↔ x = y := by
  obtain ⟨p, i, a⟩ := x
  obtain ⟨q, j, b⟩ := y
  unfold eqEn
  simp only [Bool.and_eq_true, beq_iff_eq, decide_eq_true_eq, qB_iff, En.mk.injEq]
  exact ⟨fun ⟨h1, h2, h3⟩ => ⟨h1, h2, Ad.ext h3⟩, fun ⟨h1, h2, h3⟩ => ⟨h1, h2, by rw [h3]⟩⟩
theorem eqEn_self (x : En) : eqEn x x = true := (eqEn_iff x x).2 rfl
theorem ek_parts (x : En) : ((ecs x).drop 0).take 34 = qcells x.p ∧ ((ecs x).drop 35).take 16 = acells x.a := by
  refine ⟨?_, ?_⟩
  · simp [ecs, qcells_len]
  · simp [ecs, qcells_len, acells_len, List.drop_append, List.drop_of_length_le, List.take_of_length_le (Nat.le_of_eq (acells_len x.a))]
theorem ec34 (n : En) : (ecs n)[34]? = some (.int .i64 n.i) := by
  simp [ecs, qcells_len, List.getElem?_append_right]
set_option maxHeartbeats 4000000 in
theorem eqE (x y : En) (d : Nat) (hd : 6 ≤ d) (w : World) : (Op.equalIn (d + 1) 37 (eV x) (eV y)).run Try.prog w = .ok (eqEn x y) w := by
  obtain ⟨d, rfl⟩ : ∃ k, d = k + 6 := ⟨d - 6, by omega⟩
  have hQ : ∀ w, (Op.equalIn (d + 6) 35 (Value.agg (qcells x.p).toArray) (Value.agg (qcells y.p).toArray)).run Try.prog w = .ok (qB x.p y.p) w := eqQ (d + 2) x.p y.p
  have hA : ∀ w, (Op.equalIn (d + 6) 31 (Value.agg (acells x.a).toArray) (Value.agg (acells y.a).toArray)).run Try.prog w = .ok (decide (x.a.l = y.a.l)) w := eqA (d + 4) x.a y.a
  have heI : ∀ w a b, (Op.equalIn (d + 6) 3 (.int .i64 a) (.int .i64 b)).run Try.prog w = .ok (a == b) w := fun w a b => run_equalIn_int w (d + 5) _ _ _ a b Try.underlying3
  have hf : (Try.prog.fieldsOf 37).toList.map (fun f => (f.name, f.type, f.offset)) = [("Pair", 35, 0), ("If", 3, 34), ("Hop", 31, 35)] := by kernel_rfl
  obtain ⟨p1, p2⟩ := ek_parts x
  obtain ⟨q1, q2⟩ := ek_parts y
  have cx := ec34 x
  have cy := ec34 y
  rw [run_equalIn_struct w (d + 6) 37 _ _ (by kernel_rfl) (by kernel_rfl)]
  generalize (Try.prog.fieldsOf 37).toList = fs at hf
  have hl : fs.length = 3 := by have := congrArg List.length hf; simpa using this
  match fs, hl with
  | [f0, f1, f2], _ =>
    simp only [List.map_cons, List.map_nil, List.cons.injEq, Prod.mk.injEq, and_true] at hf
    obtain ⟨⟨n0, t0, o0⟩, ⟨n1, t1, o1⟩, n2, t2, o2⟩ := hf
    have a1 : ∀ w, (isAgg 35).run Try.prog w = .ok true w := fun w => by simp [isAgg, run_underlying Try.underlying35]
    have a2 : ∀ w, (isAgg 31).run Try.prog w = .ok true w := fun w => by simp [isAgg, run_underlying Try.underlying31]
    have a4 : ∀ w, (isAgg 3).run Try.prog w = .ok false w := fun w => by simp [isAgg, run_underlying Try.underlying3]
    have s1 : ∀ w, (Go.sizeOf 35).run Try.prog w = .ok 34 w := fun w => by kernel_rfl
    have s2 : ∀ w, (Go.sizeOf 31).run Try.prog w = .ok 16 w := fun w => by kernel_rfl
    have u0 : ¬ "Pair" = "_" := by decide
    have u1 : ¬ "If" = "_" := by decide
    have u2 : ¬ "Hop" = "_" := by decide
    rw [List.drop_zero] at p1 q1
    simp only [ne_eq, not_false_eq_true, u0, u1, u2, Op.eqFields, n0, t0, o0, n1, t1, o1, n2, t2, o2, Sem.run_bind, Sem.run_ite, part, a1, a2, a4, s1, s2, Result.andThen_ok, if_true, Nat.zero_add, Nat.reduceAdd, Sem.run_pure, Bool.false_eq_true, if_false, List.getElem?_toArray, List.extract_toArray, List.extract_eq_take_drop, Nat.reduceSub, List.drop_zero, cx, cy, p1, p2, q1, q2, hQ, hA, heI]
    unfold eqEn
    generalize qB x.p y.p = b0
    generalize (x.i == y.i) = b1
    generalize decide (x.a.l = y.a.l) = b2
    cases b0 <;> cases b1 <;> cases b2 <;> rfl
theorem run_eqlE (x y : En) (w : World) : (binOp .eql 37 (eV x) (eV y)).run Try.prog w = .ok (.bool (eqEn x y)) w := by
  have h := eqE x y 9999 (by omega) w
  rw [run_eql_struct w, h]; rfl
theorem run_neqE (x y : En) (w : World) : (binOp .neq 37 (eV x) (eV y)).run Try.prog w = .ok (.bool (!eqEn x y)) w := by
  have h := eqE x y 9999 (by omega) w
  rw [run_neq_struct w, h]; rfl
theorem guardE (op : BinOp) (a b : Operand) (x y : En) (w : World) : (eqGuard op 37 a b (eV x) (eV y)).run Try.prog w = .ok () w :=
  run_eqGuard_agg w op _ a b _ _ (by kernel_rfl)
end Go.Proofs.Ytadnnjngflphjaa
