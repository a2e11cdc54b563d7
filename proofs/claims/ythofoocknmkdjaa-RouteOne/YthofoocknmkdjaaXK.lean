/-
  When two routes are the same; lists in order are one.
-/
import Derived.Test.YthofoocknmkdjaaCtb
import Derived.ChangeKeysEq
namespace Go.Proofs.Ythofoocknmkdjaa
open Go.RowKit Go.Maps Go.Shelf
set_option linter.unusedSimpArgs false
set_option linter.unusedVariables false
set_option maxRecDepth 20000
theorem Asc.head {x : Ro} {K : List Ro} (h : Asc (x :: K)) : ∀ y ∈ K, cmpN x y < 0 := (List.pairwise_cons.1 h).1
theorem Asc.unique : ∀ {K K' : List Ro}, Asc K → Asc K' → K.Perm K' → K = K'
  | [], K', _, _, hp => (hp.nil_eq)
  | x :: K, [], _, _, hp => by have := hp.length_eq; simp at this
  | x :: K, y :: K', h, h', hp => by
    have hxy : x = y := by
      have h1 : x ∈ y :: K' := hp.mem_iff.1 (by simp)
      have h2 : y ∈ x :: K := hp.mem_iff.2 (by simp)
      rcases List.mem_cons.1 h1 with e | e
      · exact e
      · rcases List.mem_cons.1 h2 with e2 | e2
        · exact e2.symm
        · have a := h.head y e2
          have b := h'.head x e
          have c := cmpN_neg x y
          omega
    subst hxy
    rw [Asc.unique (List.pairwise_cons.1 h).2 (List.pairwise_cons.1 h').2 (List.Perm.cons_inv hp)]
theorem Asc.filter {K : List Ro} (h : Asc K) (q : Ro → Bool) : Asc (K.filter q) := List.Pairwise.filter _ h
def eqRo (x y : Ro) : Bool := qB x.p y.p && (x.i == y.i && (decide (x.a.l = y.a.l) && (decide (x.id.l = y.id.l) && (x.q == y.q && (x.r == y.r && (x.m == y.m && (decide (x.h.l = y.h.l) && (x.u == y.u && (x.d == y.d && x.s == y.s)))))))))
theorem eqRo_self (x : Ro) : eqRo x x = true := by
  unfold eqRo
  simp [qB_refl]
theorem ok_parts (x : Ro) : ((ocs x).drop 0).take 34 = qcells x.p ∧ ((ocs x).drop 35).take 16 = acells x.a ∧ ((ocs x).drop 51).take 8 = icells x.id ∧ ((ocs x).drop 62).take 16 = acells x.h := by
  refine ⟨?_, ?_, ?_, ?_⟩
  · simp [ocs, qcells_len]
  · simp [ocs, qcells_len, acells_len, List.drop_append, List.drop_of_length_le]
  · simp [ocs, qcells_len, acells_len, icells_len, List.drop_append, List.drop_of_length_le]
  · simp [ocs, qcells_len, acells_len, icells_len, omd, List.drop_append, List.drop_of_length_le]
set_option maxHeartbeats 4000000 in
theorem eqR (x y : Ro) (w : World) : (Op.equalIn 10000 41 (rV x) (rV y)).run Try.prog w = .ok (eqRo x y) w := by
  have hQ : ∀ w, (Op.equalIn 9999 36 (Value.agg (qcells x.p).toArray) (Value.agg (qcells y.p).toArray)).run Try.prog w = .ok (qB x.p y.p) w := eqQ 9995 x.p y.p
  have hI : ∀ w, (Op.equalIn 9999 38 (idV x.id) (idV y.id)).run Try.prog w = .ok (decide (x.id.l = y.id.l)) w := eqI 9997 x.id y.id
  have hA : ∀ w, (Op.equalIn 9999 32 (Value.agg (acells x.a).toArray) (Value.agg (acells y.a).toArray)).run Try.prog w = .ok (decide (x.a.l = y.a.l)) w := eqA 9997 x.a y.a
  have hH : ∀ w, (Op.equalIn 9999 32 (Value.agg (acells x.h).toArray) (Value.agg (acells y.h).toArray)).run Try.prog w = .ok (decide (x.h.l = y.h.l)) w := eqA 9997 x.h y.h
  have heI : ∀ w a b, (Op.equalIn 9999 3 (.int .i64 a) (.int .i64 b)).run Try.prog w = .ok (a == b) w := fun w a b => run_equalIn_int w 9998 _ _ _ a b Try.underlying3
  have he16 : ∀ w a b, (Op.equalIn 9999 39 (.int .u16 a) (.int .u16 b)).run Try.prog w = .ok (a == b) w := fun w a b => run_equalIn_int w 9998 _ _ _ a b Try.underlying39
  have heB : ∀ w (a b : Bool), (Op.equalIn 9999 4 (.bool a) (.bool b)).run Try.prog w = .ok (a == b) w := fun w a b => run_equalIn_bool w 9998 _ a b Try.underlying4
  have hf : (Try.prog.fieldsOf 41).toList.map (fun f => (f.name, f.type, f.offset)) = [("Pair", 36, 0), ("If", 3, 34), ("From", 32, 35), ("Id", 38, 51), ("Seqno", 39, 59), ("Ref", 39, 60), ("Metric", 39, 61), ("Hop", 32, 62), ("Until", 3, 78), ("Hold", 3, 79), ("Selected", 4, 80)] := by kernel_rfl
  obtain ⟨p1, p2, p3, p4⟩ := ok_parts x
  obtain ⟨q1, q2, q3, q4⟩ := ok_parts y
  have x34 := oc34 x
  have y34 := oc34 y
  have x59 := oc59 x
  have y59 := oc59 y
  have x60 := oc60 x
  have y60 := oc60 y
  have x61 := oc61 x
  have y61 := oc61 y
  have x78 := oc78 x
  have y78 := oc78 y
  have x79 := oc79 x
  have y79 := oc79 y
  have x80 := oc80 x
  have y80 := oc80 y
  rw [run_equalIn_struct w 9999 41 _ _ (by kernel_rfl) (by kernel_rfl)]
  generalize (Try.prog.fieldsOf 41).toList = fs at hf
  have hl : fs.length = 11 := by have := congrArg List.length hf; simpa using this
  match fs, hl with
  | [f0, f1, f2, f3, f4, f5, f6, f7, f8, f9, f10], _ =>
    simp only [List.map_cons, List.map_nil, List.cons.injEq, Prod.mk.injEq, and_true] at hf
    obtain ⟨⟨n0, t0, o0⟩, ⟨n1, t1, o1⟩, ⟨n2, t2, o2⟩, ⟨n3, t3, o3⟩, ⟨n4, t4, o4⟩, ⟨n5, t5, o5⟩, ⟨n6, t6, o6⟩, ⟨n7, t7, o7⟩, ⟨n8, t8, o8⟩, ⟨n9, t9, o9⟩, n10, t10, o10⟩ := hf
    have a1 : ∀ w, (isAgg 36).run Try.prog w = .ok true w := fun w => by simp [isAgg, run_underlying Try.underlying36]
    have a2 : ∀ w, (isAgg 38).run Try.prog w = .ok true w := fun w => by simp [isAgg, run_underlying Try.underlying38]
    have a3 : ∀ w, (isAgg 32).run Try.prog w = .ok true w := fun w => by simp [isAgg, run_underlying Try.underlying32]
    have a4 : ∀ w, (isAgg 3).run Try.prog w = .ok false w := fun w => by simp [isAgg, run_underlying Try.underlying3]
    have a5 : ∀ w, (isAgg 39).run Try.prog w = .ok false w := fun w => by simp [isAgg, run_underlying Try.underlying39]
    have a6 : ∀ w, (isAgg 4).run Try.prog w = .ok false w := fun w => by simp [isAgg, run_underlying Try.underlying4]
    have s1 : ∀ w, (Go.sizeOf 36).run Try.prog w = .ok 34 w := fun w => by kernel_rfl
    have s2 : ∀ w, (Go.sizeOf 38).run Try.prog w = .ok 8 w := fun w => by kernel_rfl
    have s3 : ∀ w, (Go.sizeOf 32).run Try.prog w = .ok 16 w := fun w => by kernel_rfl
    have u0 : ¬ "Pair" = "_" := by decide
    have u1 : ¬ "If" = "_" := by decide
    have u2 : ¬ "From" = "_" := by decide
    have u3 : ¬ "Id" = "_" := by decide
    have u4 : ¬ "Seqno" = "_" := by decide
    have u5 : ¬ "Ref" = "_" := by decide
    have u6 : ¬ "Metric" = "_" := by decide
    have u7 : ¬ "Hop" = "_" := by decide
    have u8 : ¬ "Until" = "_" := by decide
    have u9 : ¬ "Hold" = "_" := by decide
    have u10 : ¬ "Selected" = "_" := by decide
    rw [List.drop_zero] at p1 q1
    simp only [ne_eq, not_false_eq_true, u0, u1, u2, u3, u4, u5, u6, u7, u8, u9, u10, Op.eqFields, n0, t0, o0, n1, t1, o1, n2, t2, o2, n3, t3, o3, n4, t4, o4, n5, t5, o5, n6, t6, o6, n7, t7, o7, n8, t8, o8, n9, t9, o9, n10, t10, o10, Sem.run_bind, Sem.run_ite, part, a1, a2, a3, a4, a5, a6, s1, s2, s3, Result.andThen_ok, if_true, Nat.zero_add, Nat.reduceAdd, Sem.run_pure, Bool.false_eq_true, if_false, List.getElem?_toArray, List.extract_toArray, List.extract_eq_take_drop, Nat.reduceSub, List.drop_zero, x34, y34, x59, y59, x60, y60, x61, y61, x78, y78, x79, y79, x80, y80, p1, p2, p3, p4, q1, q2, q3, q4, hQ, hI, hA, hH, heI, he16, heB]
    unfold eqRo
    generalize qB x.p y.p = b0
    generalize (x.i == y.i) = b1
    generalize decide (x.a.l = y.a.l) = b2
    generalize decide (x.id.l = y.id.l) = b3
    generalize (x.q == y.q) = b4
    generalize (x.r == y.r) = b5
    generalize (x.m == y.m) = b6
    generalize decide (x.h.l = y.h.l) = b7
    generalize (x.u == y.u) = b8
    generalize (x.d == y.d) = b9
    generalize (x.s == y.s) = b10
    cases b0
    · rfl
    cases b1
    · rfl
    cases b2
    · rfl
    cases b3
    · rfl
    cases b4
    · rfl
    cases b5
    · rfl
    cases b6
    · rfl
    cases b7
    · rfl
    cases b8
    · rfl
    cases b9
    · rfl
    cases b10 <;> rfl
theorem run_eqlR (x y : Ro) (w : World) : (binOp .eql 41 (rV x) (rV y)).run Try.prog w = .ok (.bool (eqRo x y)) w := by
  have h := eqR x y w
  rw [run_eql_struct w, h]; rfl
theorem run_neqR (x y : Ro) (w : World) : (binOp .neq 41 (rV x) (rV y)).run Try.prog w = .ok (.bool (!eqRo x y)) w := by
  have h := eqR x y w
  rw [run_neq_struct w, h]; rfl
theorem guardR (op : BinOp) (a b : Operand) (x y : Ro) (w : World) : (eqGuard op 41 a b (rV x) (rV y)).run Try.prog w = .ok () w :=
  run_eqGuard_agg w op _ a b _ _ (by kernel_rfl)
end Go.Proofs.Ythofoocknmkdjaa
