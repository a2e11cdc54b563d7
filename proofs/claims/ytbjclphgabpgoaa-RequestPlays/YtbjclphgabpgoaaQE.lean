/-
  When two requests are the same; the document's orders of pairs and routers.
-/
import Derived.Test.YtbjclphgabpgoaaRE
import Derived.Test.YtbjclphgabpgoaaEv
import Derived.ChangeKeysEq
namespace Go.Proofs.Ytbjclphgabpgoaa
open Go.RowKit Go.Maps Go.Shelf
set_option linter.unusedSimpArgs false
set_option linter.unusedVariables false
set_option maxRecDepth 20000
def eqSr (x y : Sr) : Bool := qB x.p y.p && (decide (x.id.l = y.id.l) && (x.s == y.s && (x.m == y.m && x.t == y.t)))
theorem eqSr_iff (x y : Sr) : eqSr x y = true ↔ x = y := by
  obtain ⟨p, i, s, m, t⟩ := x
  obtain ⟨q, j, s', m', t'⟩ := y
  unfold eqSr
  simp only [Bool.and_eq_true, beq_iff_eq, decide_eq_true_eq, qB_iff, Sr.mk.injEq]
  exact ⟨fun ⟨h1, h2, h3, h4, h5⟩ => ⟨h1, Id8.ext h2, h3, h4, h5⟩, fun ⟨h1, h2, h3, h4, h5⟩ => ⟨h1, by rw [h2], h3, h4, h5⟩⟩
theorem eqSr_self (x : Sr) : eqSr x x = true := (eqSr_iff x x).2 rfl
theorem sk_parts (x : Sr) : ((scs x).drop 0).take 34 = qcells x.p ∧ ((scs x).drop 34).take 8 = icells x.id := by
  refine ⟨?_, ?_⟩
  · simp [scs, qcells_len]
  · simp [scs, qcells_len, icells_len]
set_option maxHeartbeats 4000000 in
theorem eqS (x y : Sr) (w : World) : (Op.equalIn 10000 67 (sV x) (sV y)).run Try.prog w = .ok (eqSr x y) w := by
  have hQ : ∀ w, (Op.equalIn 9999 38 (Value.agg (qcells x.p).toArray) (Value.agg (qcells y.p).toArray)).run Try.prog w = .ok (qB x.p y.p) w := eqQ 9995 x.p y.p
  have hI : ∀ w, (Op.equalIn 9999 40 (idV x.id) (idV y.id)).run Try.prog w = .ok (decide (x.id.l = y.id.l)) w := eqI 9997 x.id y.id
  have heU : ∀ w a b, (Op.equalIn 9999 23 (.int .u16 a) (.int .u16 b)).run Try.prog w = .ok (a == b) w := fun w a b => run_equalIn_int w 9998 _ _ _ a b Try.underlying23
  have heI : ∀ w a b, (Op.equalIn 9999 3 (.int .i64 a) (.int .i64 b)).run Try.prog w = .ok (a == b) w := fun w a b => run_equalIn_int w 9998 _ _ _ a b Try.underlying3
  have hf : (Try.prog.fieldsOf 67).toList.map (fun f => (f.name, f.type, f.offset)) = [("Pair", 38, 0), ("Id", 40, 34), ("Seqno", 23, 42), ("Tries", 3, 43), ("At", 3, 44)] := by kernel_rfl
  obtain ⟨p1, p2⟩ := sk_parts x
  obtain ⟨q1, q2⟩ := sk_parts y
  have cx := sc44 x
  have cy := sc44 y
  have cx1 := sc43 x
  have cy1 := sc43 y
  have cx2 := sc42 x
  have cy2 := sc42 y
  rw [run_equalIn_struct w 9999 67 _ _ (by kernel_rfl) (by kernel_rfl)]
  generalize (Try.prog.fieldsOf 67).toList = fs at hf
  have hl : fs.length = 5 := by have := congrArg List.length hf; simpa using this
  match fs, hl with
  | [f0, f1, f2, f3, f4], _ =>
    simp only [List.map_cons, List.map_nil, List.cons.injEq, Prod.mk.injEq, and_true] at hf
    obtain ⟨⟨n0, t0, o0⟩, ⟨n1, t1, o1⟩, ⟨n2, t2, o2⟩, ⟨n3, t3, o3⟩, n4, t4, o4⟩ := hf
    have a1 : ∀ w, (isAgg 38).run Try.prog w = .ok true w := fun w => by simp [isAgg, run_underlying Try.underlying38]
    have a2 : ∀ w, (isAgg 40).run Try.prog w = .ok true w := fun w => by simp [isAgg, run_underlying Try.underlying40]
    have a3 : ∀ w, (isAgg 23).run Try.prog w = .ok false w := fun w => by simp [isAgg, run_underlying Try.underlying23]
    have a4 : ∀ w, (isAgg 3).run Try.prog w = .ok false w := fun w => by simp [isAgg, run_underlying Try.underlying3]
    have s1 : ∀ w, (Go.sizeOf 38).run Try.prog w = .ok 34 w := fun w => by kernel_rfl
    have s2 : ∀ w, (Go.sizeOf 40).run Try.prog w = .ok 8 w := fun w => by kernel_rfl
    have u0 : ¬ "Pair" = "_" := by decide
    have u1 : ¬ "Id" = "_" := by decide
    have u2 : ¬ "Seqno" = "_" := by decide
    have u3 : ¬ "Tries" = "_" := by decide
    have u4 : ¬ "At" = "_" := by decide
    rw [List.drop_zero] at p1 q1
    simp only [ne_eq, not_false_eq_true, u0, u1, u2, u3, u4, Op.eqFields, n0, t0, o0, n1, t1, o1, n2, t2, o2, n3, t3, o3, n4, t4, o4, Sem.run_bind, Sem.run_ite, part, a1, a2, a3, a4, s1, s2, Result.andThen_ok, if_true, Nat.zero_add, Nat.reduceAdd, Sem.run_pure, Bool.false_eq_true, if_false, List.getElem?_toArray, List.extract_toArray, List.extract_eq_take_drop, Nat.reduceSub, List.drop_zero, cx, cy, cx1, cy1, cx2, cy2, p1, p2, q1, q2, hQ, hI, heU, heI]
    unfold eqSr
    generalize qB x.p y.p = b0
    generalize decide (x.id.l = y.id.l) = b1
    generalize (x.s == y.s) = b2
    generalize (x.m == y.m) = b3
    generalize (x.t == y.t) = b4
    cases b0 <;> cases b1 <;> cases b2 <;> cases b3 <;> cases b4 <;> rfl
theorem run_eqlS (x y : Sr) (w : World) : (binOp .eql 67 (sV x) (sV y)).run Try.prog w = .ok (.bool (eqSr x y)) w := by
  have h := eqS x y w
  rw [run_eql_struct w, h]; rfl
theorem run_neqS (x y : Sr) (w : World) : (binOp .neq 67 (sV x) (sV y)).run Try.prog w = .ok (.bool (!eqSr x y)) w := by
  have h := eqS x y w
  rw [run_neq_struct w, h]; rfl
theorem guardS (op : BinOp) (a b : Operand) (x y : Sr) (w : World) : (eqGuard op 67 a b (sV x) (sV y)).run Try.prog w = .ok () w :=
  run_eqGuard_agg w op _ a b _ _ (by kernel_rfl)
theorem run_eqlQ' (p q : Pr) (w : World) : (binOp .eql 38 (Value.agg (qcells p).toArray) (Value.agg (qcells q).toArray)).run Try.prog w = .ok (.bool (qB p q)) w := run_eqlQ p q w
end Go.Proofs.Ytbjclphgabpgoaa
