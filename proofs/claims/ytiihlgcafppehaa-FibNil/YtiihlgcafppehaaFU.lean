/-
  Operations are compared; what live makes, as plain functions.
-/
import Derived.Test.YtiihlgcafppehaaFT
import Derived.Test.YtiihlgcafppehaaEv
namespace Go.Proofs.Ytiihlgcafppehaa
open Go.RowKit Go.Maps Go.Shelf
set_option linter.unusedSimpArgs false
set_option linter.unusedVariables false
set_option maxRecDepth 20000
def eqOq (x y : Oq) : Bool := x.k == y.k && eqEn x.e y.e
theorem eqOq_self (x : Oq) : eqOq x x = true := by unfold eqOq; rw [eqEn_self]; simp
theorem ok_parts (x : Oq) : ((pcs x).drop 1).take 51 = ecs x.e := by
  show List.take 51 (ecs x.e) = ecs x.e
  exact List.take_of_length_le (by rw [ecs_len]; omega)
set_option maxHeartbeats 4000000 in
theorem eqO (x y : Oq) (d : Nat) (hd : 8 ≤ d) (w : World) : (Op.equalIn (d + 1) 52 (oV x) (oV y)).run Try.prog w = .ok (eqOq x y) w := by
  obtain ⟨d, rfl⟩ : ∃ k, d = k + 8 := ⟨d - 8, by omega⟩
  have hE : ∀ w, (Op.equalIn (d + 8) 36 (eV x.e) (eV y.e)).run Try.prog w = .ok (eqEn x.e y.e) w := eqE x.e y.e (d + 7) (by omega)
  have heI : ∀ w a b, (Op.equalIn (d + 8) 3 (.int .i64 a) (.int .i64 b)).run Try.prog w = .ok (a == b) w := fun w a b => run_equalIn_int w (d + 7) _ _ _ a b Try.underlying3
  have hf : (Try.prog.fieldsOf 52).toList.map (fun f => (f.name, f.type, f.offset)) = [("Kind", 3, 0), ("Entry", 36, 1)] := by kernel_rfl
  have p1 := ok_parts x
  have q1 := ok_parts y
  have cx : (pcs x)[0]? = some (.int .i64 x.k) := rfl
  have cy : (pcs y)[0]? = some (.int .i64 y.k) := rfl
  rw [run_equalIn_struct w (d + 8) 52 _ _ (by kernel_rfl) (by kernel_rfl)]
  generalize (Try.prog.fieldsOf 52).toList = fs at hf
  have hl : fs.length = 2 := by have := congrArg List.length hf; simpa using this
  match fs, hl with
  | [f0, f1], _ =>
    simp only [List.map_cons, List.map_nil, List.cons.injEq, Prod.mk.injEq, and_true] at hf
    obtain ⟨⟨n0, t0, o0⟩, n1, t1, o1⟩ := hf
    have a1 : ∀ w, (isAgg 36).run Try.prog w = .ok true w := fun w => by simp [isAgg, run_underlying Try.underlying36]
    have a4 : ∀ w, (isAgg 3).run Try.prog w = .ok false w := fun w => by simp [isAgg, run_underlying Try.underlying3]
    have s1 : ∀ w, (Go.sizeOf 36).run Try.prog w = .ok 51 w := fun w => by kernel_rfl
    have u0 : ¬ "Kind" = "_" := by decide
    have u1 : ¬ "Entry" = "_" := by decide
    simp only [ne_eq, not_false_eq_true, u0, u1, Op.eqFields, n0, t0, o0, n1, t1, o1, Sem.run_bind, Sem.run_ite, part, a1, a4, s1, Result.andThen_ok, if_true, Nat.zero_add, Nat.reduceAdd, Sem.run_pure, Bool.false_eq_true, if_false, List.getElem?_toArray, List.extract_toArray, List.extract_eq_take_drop, Nat.reduceSub, cx, cy, p1, q1, hE, heI]
    unfold eqOq
    generalize (x.k == y.k) = b0
    generalize eqEn x.e y.e = b1
    cases b0 <;> cases b1 <;> rfl
theorem run_eqlO (x y : Oq) (w : World) : (binOp .eql 52 (oV x) (oV y)).run Try.prog w = .ok (.bool (eqOq x y)) w := by
  have h := eqO x y 9999 (by omega) w
  rw [run_eql_struct w, h]; rfl
theorem guardO (op : BinOp) (a b : Operand) (x y : Oq) (w : World) : (eqGuard op 52 a b (oV x) (oV y)).run Try.prog w = .ok () w :=
  run_eqGuard_agg w op _ a b _ _ (by kernel_rfl)
def a32 : Ad := ⟨[32, 0, 0, 0, 0, 0, 0, 0, 0, 0, 0, 0, 0, 0, 0, 0], rfl⟩
def p0 : Pr := ⟨⟨a32, 8⟩, ⟨zeroA, 0⟩⟩
def e0 : En := ⟨p0, 1, zeroA⟩
theorem bdA32 (w : World) : (Instr.build 24 #[(0, .int .u8 32)]).run Try.prog w = .ok (Value.agg (acells a32).toArray) w := by kernel_rfl
theorem bdP32 (w : World) : (Instr.build 32 #[(0, (Value.agg (acells a32).toArray)), (1, .int .i64 8)]).run Try.prog w = .ok (Value.agg (pcells (⟨a32, 8⟩)).toArray) w := by kernel_rfl
theorem bdQ32 (w : World) : (Instr.build 34 #[(0, (Value.agg (pcells (⟨a32, 8⟩)).toArray))]).run Try.prog w = .ok (Value.agg (qcells p0).toArray) w := by kernel_rfl
theorem bdE32 (w : World) : (Instr.build 36 #[(0, (Value.agg (qcells p0).toArray)), (1, .int .i64 1)]).run Try.prog w = .ok (eV e0) w := by kernel_rfl
theorem wf0 : wfQ e0.p := ⟨rfl, rfl⟩
theorem chk0 : Fa.chkQ e0.p = 0 := by decide
theorem getN_one (e : En) : getN mE [e] e.p = some e := by
  show List.find? _ [e] = some e
  simp [keyB, mE, qB_self]
theorem todR_add (e : En) : todR [e] [] e.p = some ⟨1, e⟩ := by unfold todR; rw [getN_one]; rfl
theorem todR_rem (e : En) : todR [] [e] e.p = some ⟨3, e⟩ := by unfold todR; rw [getN_one]; rfl
theorem layP_add (e : En) (now : Int) : layP [e] [] [] now e.p = [⟨1, e⟩] := by unfold layP; rw [todR_add]; rfl
theorem layT_add (e : En) (now t : Int) : layT [e] [] [] now t e.p = t := by unfold layT; rw [todR_add]; rfl
theorem layP_rem (e : En) (now : Int) : layP [] [e] [] now e.p = [⟨3, e⟩] := by unfold layP; rw [todR_rem]; rfl
theorem layT_rem (e : En) (now t : Int) : layT [] [e] [] now t e.p = t := by unfold layT; rw [todR_rem]; rfl
theorem getT_one (p : Pr) (t : Int) : getN mT [(p, t)] p = some (p, t) := by
  show List.find? _ [(p, t)] = some (p, t)
  simp [keyB, mT, qB_self]
theorem layP_again (e : En) : layP [e] [] [(e.p, 1005)] 1005 e.p = [⟨1, e⟩] := by unfold layP waitB; rw [todR_add, getT_one]; rfl
theorem layT_again (e : En) (t : Int) : layT [e] [] [(e.p, 1005)] 1005 t e.p = t := by unfold layT; rw [todR_add, getT_one]; rfl
theorem replA_one (e : En) (k now : Int) : replA [(e.p, 1005)] ⟨k, e⟩ now true = [] := by
  show delN mT [(e.p, (1005 : Int))] e.p = []
  simp [delN, keyB, mT, qB_self]
theorem replH_one (e : En) : replH [e] ⟨3, e⟩ true = [] := by
  show delN mE [e] e.p = []
  simp [delN, keyB, mE, qB_self]
theorem eqM_one (e : En) : eqM [e] [e] = true := by
  refine eqM_yes rfl fun n hn => ?_
  obtain rfl := List.mem_singleton.1 hn
  unfold okE
  rw [getN_one]
  exact eqEn_self _
theorem EsW.one {w : World} {g : Nat} {e : En} (h : Row w g 36 (ecs e)) : EsW w (some ⟨g, 0, none⟩) [e] :=
  ⟨.inr ⟨g, 0, rfl, h.lt, fun j p hp => by
    cases j with
    | zero => cases hp; exact h.en
    | succ j => simp at hp⟩⟩
theorem num_any (e : Int) (w : World) : Calls Try.prog 8 #[.int .i64 e] w fun e' w' => e' = .returned (.int .i64 e) ∧ w = w' := by
  go_enter Try.func8, Try.ntmps8
  go_wp2
  go_ret
  exact ⟨rfl, rfl⟩
end Go.Proofs.Ytiihlgcafppehaa
