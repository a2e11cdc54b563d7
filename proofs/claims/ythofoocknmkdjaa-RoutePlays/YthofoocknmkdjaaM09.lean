/-
  live: a route is told, reckoned, and forgotten.
-/
import Derived.Test.YthofoocknmkdjaaM08
import Derived.Test.YthofoocknmkdjaaM05
import Derived.ChangeKeysEq
import Derived.Test.YthofoocknmkdjaaM06
import Derived.OpenShut
import Derived.ChangeOld
import Derived.Below
import Derived.SizedLaws
import Derived.ShutString
import Derived.Deep.Slices
import Derived.Deep.SlicePairs
namespace Go.Proofs.Ythofoocknmkdjaa
open Go.RowKit Go.Maps Go.Shelf
set_option linter.unusedSimpArgs false
set_option linter.unusedVariables false
set_option maxRecDepth 20000
def a32 : Ad := ⟨[32, 0, 0, 0, 0, 0, 0, 0, 0, 0, 0, 0, 0, 0, 0, 0], rfl⟩
def aF2 : Ad := ⟨[254, 128, 0, 0, 0, 0, 0, 0, 0, 0, 0, 0, 0, 0, 0, 2], rfl⟩
def p0 : Pr := ⟨⟨a32, 8⟩, zeroP⟩
def i0 : Id8 := ⟨[0, 0, 0, 0, 0, 0, 0, 1], rfl⟩
def n0 : Ro := ⟨p0, 0, aF2, i0, 1, 100, 0, zeroA, 0, 1000, false⟩
def n1 : Ro := ⟨p0, 0, aF2, i0, 1, 100, 65535, zeroA, 1000, 1000, false⟩
def n2 : Ro := ⟨p0, 0, aF2, i0, 1, 100, 196, zeroA, 1000, 1000, false⟩
def n3 : Ro := ⟨p0, 0, aF2, i0, 1, 65535, 196, zeroA, 2000, 1000, false⟩
theorem bdA32 (w : World) : (Instr.build 32 #[(0, .int .u8 32)]).run Try.prog w = .ok (Value.agg (acells a32).toArray) w := by kernel_rfl
theorem bdAF2 (w : World) : (Instr.build 32 #[(0, .int .u8 254), (1, .int .u8 128), (15, .int .u8 2)]).run Try.prog w = .ok (Value.agg (acells aF2).toArray) w := by kernel_rfl
theorem bdP32 (w : World) : (Instr.build 34 #[(0, (Value.agg (acells a32).toArray)), (1, .int .i64 8)]).run Try.prog w = .ok (Value.agg (pcells (⟨a32, 8⟩)).toArray) w := by kernel_rfl
theorem bdQ32 (w : World) : (Instr.build 36 #[(0, (Value.agg (pcells (⟨a32, 8⟩)).toArray))]).run Try.prog w = .ok (Value.agg (qcells p0).toArray) w := by kernel_rfl
theorem bdI01 (w : World) : (Instr.build 38 #[(7, .int .u8 1)]).run Try.prog w = .ok (idV i0) w := by kernel_rfl
theorem bdN0 (w : World) : (Instr.build 41 #[(0, (Value.agg (qcells p0).toArray)), (2, (Value.agg (acells aF2).toArray)), (3, idV i0), (4, .int .u16 1), (5, .int .u16 100), (9, .int .i64 1000)]).run Try.prog w = .ok (rV n0) w := by kernel_rfl
theorem num_any (e : Int) (w : World) : Calls Try.prog 30 #[.int .i64 e] w fun e' w' => e' = .returned (.int .i64 e) ∧ w = w' := by
  go_enter Try.func30, Try.ntmps30
  go_wp2
  go_ret
  exact ⟨rfl, rfl⟩
/-- What a way costs. -/
def plusC (n : Ro) : Int := if 65439 < n.r then 65535 else if n.r < 0 then 0 else n.r + 96
theorem plus_any (n : Ro) (w : World) (h : n.ok) : Calls Try.prog 31 #[rV n] w (Gives w (.int .u16 (plusC n))) := by
  have h0 := h.r0
  have h1 := h.r1
  have c60 := ((Row.new w 41 (ocs n)).cell 60).trans (oc60 n)
  clear h
  by_cases hr : 65439 < n.r
  · have hc : plusC n = 65535 := by unfold plusC; rw [if_pos hr]
    rw [hc]
    clear hc
    go_enter Try.func31, Try.ntmps31
    go_wp2_with fail
    go_ret
    exact ⟨rfl, ba _ _⟩
  · have hc : plusC n = n.r + 96 := by unfold plusC; rw [if_neg hr, if_neg (by omega)]
    have hw : IntKind.u16.wrap (n.r + 96) = n.r + 96 := by simp [IntKind.wrap, IntKind.signed, IntKind.bits]; omega
    rw [hc]
    clear hc
    go_enter Try.func31, Try.ntmps31
    go_wp2_with fail
    go_ret
    exact ⟨by first | rfl | exact congrArg (fun z => Ending.returned (Value.int .u16 z)) hw, ba _ _⟩
theorem plus0 (n : Ro) : 0 ≤ plusC n := by unfold plusC; split <;> (try split) <;> omega
theorem plus1 (n : Ro) (h : n.ok) : plusC n < 65536 := by have := h.r1; unfold plusC; split <;> (try split) <;> omega
theorem en_plus : ∀ args w, (callFunc 31 args).run Try.prog w = .ok (.enter 31 args) w := enters_of Try.func31 (by kernel_rfl) rfl
theorem reckonP_any {w : World} {t mb : Nat} {most : Int} {L : List Ro} (h : Tb w t mb most L) :
    Calls Try.prog 29 #[.pointer (some ⟨t, 0, none⟩), .func (.func 31) #[] #[]] w fun e w' => ∃ a c K, e = .returned (.slice a (pairsR (chgR plusC K)).length c) ∧ K.Perm L ∧ Asc K ∧ kP.Own w' w.heap.size (.slice a (pairsR (chgR plusC K)).length c) (pairsR (chgR plusC K)) ∧ Turn w w' t mb most (mapR (costF plusC) (costB plusC) L) :=
  reckon_any h plusC _ en_plus (fun n W hn => plus_any n W hn) plus0 plus1
theorem tick_one {w : World} {t mb : Nat} {most : Int} {n : Ro} (h : Tb w t mb most [n]) (now : Int) (ha : 0 ≤ now) (hb : now ≤ 17592186044416) (hl : lateB now n = true) :
    Calls Try.prog 28 #[.pointer (some ⟨t, 0, none⟩), .int .i64 now] w fun e w' => ∃ a1 c1 a2 c2, e = .returned (.tuple #[.slice a1 (expR [n]).length c1, .slice a2 (goneR now [n]).length c2]) ∧ Turn w w' t mb most (tickR now [n] [n]) := by
  refine (tick_any h now ha hb).mono ?_
  rintro e w' ⟨a1, c1, a2, c2, K, hp, _, rfl, hT, _⟩
  have e1 : [n].filter (lateB now) = [n] := by simp [hl]
  rw [e1] at hp
  obtain rfl := List.perm_singleton.1 hp
  exact ⟨a1, c1, a2, c2, rfl, hT⟩
theorem reckon_one {w : World} {t mb : Nat} {most : Int} {n : Ro} (h : Tb w t mb most [n]) :
    Calls Try.prog 29 #[.pointer (some ⟨t, 0, none⟩), .func (.func 31) #[] #[]] w fun e w' => ∃ a c, e = .returned (.slice a (pairsR (chgR plusC [n])).length c) ∧ Turn w w' t mb most (mapR (costF plusC) (costB plusC) [n]) := by
  refine (reckonP_any h).mono ?_
  rintro e w' ⟨a, c, K, rfl, hp, _, _, hT⟩
  obtain rfl := List.perm_singleton.1 hp
  exact ⟨a, c, rfl, hT⟩
theorem list_len {w : World} {t mb : Nat} {most : Int} {L : List Ro} (h : Tb w t mb most L) : Calls Try.prog 14 #[.pointer (some ⟨t, 0, none⟩)] w fun e w' => ∃ a c, e = .returned (.slice a L.length c) ∧ Below w.heap.size w w' := by
  refine (list_any h).mono ?_
  rintro e w' ⟨a, c, K, rfl, hp, _, _, hB⟩
  exact ⟨a, c, by rw [hp.length_eq], hB⟩
theorem lvT : tellR 2 [] 0 n0 true = (1, 0, [n1]) := rfl
section
variable {ops : Array Oper} {rest : List Oper} {op : Oper} {a : Act} {w : World} {Q : Exit → Act → World → Prop}
theorem bdV {T : TypeId} {v : Value} (parts : List (Nat × Operand)) (vals : List (Nat × Value)) (hw : Region.wanted op (yielded ops a.tmps) = true) (ho : op.op = .build T parts.toArray)
    (he : parts.map (fun p => (p.1, a.eval p.2)) = vals) (hv : (Instr.build T vals.toArray).run Try.prog w = .ok v w)
    (h : wpList Try.prog ops Q rest (a.put op.dst v) w) : wpList Try.prog ops Q (op :: rest) a w := bdG parts hw ho (by rw [he]; exact hv) h
end
theorem wf0 : wfK n0.k := ⟨⟨rfl, rfl⟩, rfl⟩
set_option maxHeartbeats 8000000 in
theorem live_any (w : World) : Calls Try.prog 10 #[] w (Gives w (.bool true)) := by
  have hN := new_any 2 w
  obtain ⟨t, ht⟩ : ∃ t, w.heap.size + 1 = t := ⟨_, rfl⟩
  obtain ⟨mb, hmb⟩ : ∃ mb, w.heap.size = mb := ⟨_, rfl⟩
  have HB : Hid (∀ (W W' : World) (L : List Ro), Below w.heap.size w W → Turn W W' t mb 2 L → Below w.heap.size w W') := fun W W' L hb hT => hT.below hb (by omega) hb.size
  have HM : Hid (w.heap.size = mb) := hmb
  have hN' : Calls Try.prog 11 #[.int .i64 2] w fun e w' => e = .returned (.pointer (some ⟨t, 0, none⟩)) ∧ Tb w' t mb 2 [] ∧ Below w.heap.size w w' := by rw [← hmb, ← ht]; exact hN
  clear hN ht hmb
  have HD : Hid (∃ (va vb vp vq vi : Value) (x0 x1 x2 x3 : Ro),
      (∀ w, (Instr.build 32 #[(0, .int .u8 32)]).run Try.prog w = .ok va w) ∧ (∀ w, (Instr.build 34 #[(0, va), (1, .int .i64 8)]).run Try.prog w = .ok vp w) ∧ (∀ w, (Instr.build 36 #[(0, vp)]).run Try.prog w = .ok vq w) ∧
      (∀ w, (Instr.build 32 #[(0, .int .u8 254), (1, .int .u8 128), (15, .int .u8 2)]).run Try.prog w = .ok vb w) ∧ (∀ w, (Instr.build 38 #[(7, .int .u8 1)]).run Try.prog w = .ok vi w) ∧
      (∀ w, (Instr.build 41 #[(0, vq), (2, vb), (3, vi), (4, .int .u16 1), (5, .int .u16 100), (9, .int .i64 1000)]).run Try.prog w = .ok (rV x0) w) ∧
      (∀ W, Tb W t mb 2 [] → Calls Try.prog 26 #[.pointer (some ⟨t, 0, none⟩), .int .i64 0, rV x0, .bool true] W fun e w' => e = .returned (.tuple #[.int .i64 1, .int .i64 0]) ∧ Turn W w' t mb 2 [x1]) ∧
      (∀ W, Tb W t mb 2 [x1] → Calls Try.prog 29 #[.pointer (some ⟨t, 0, none⟩), .func (.func 31) #[] #[]] W fun e w' => ∃ a c, e = .returned (.slice a 1 c) ∧ Turn W w' t mb 2 [x2]) ∧
      (∀ W, Tb W t mb 2 [x2] → Calls Try.prog 15 #[.pointer (some ⟨t, 0, none⟩), (Value.agg (qcells x0.p).toArray), .int .i64 0, (Value.agg (acells x0.a).toArray)] W (Gives W (.tuple #[rV x2, .bool true]))) ∧
      (∀ W, Tb W t mb 2 [x2] → Calls Try.prog 28 #[.pointer (some ⟨t, 0, none⟩), .int .i64 1000] W fun e w' => ∃ a1 c1 a2 c2, e = .returned (.tuple #[.slice a1 1 c1, .slice a2 0 c2]) ∧ Turn W w' t mb 2 [x3]) ∧
      (∀ W, Tb W t mb 2 [x3] → Calls Try.prog 28 #[.pointer (some ⟨t, 0, none⟩), .int .i64 2000] W fun e w' => ∃ a1 c1 a2 c2, e = .returned (.tuple #[.slice a1 0 c1, .slice a2 1 c2]) ∧ Turn W w' t mb 2 []) ∧ x2.m = 196) :=
    ⟨(Value.agg (acells a32).toArray), (Value.agg (acells aF2).toArray), (Value.agg (pcells (⟨a32, 8⟩)).toArray), (Value.agg (qcells p0).toArray), idV i0, n0, n1, n2, n3, bdA32, bdP32, bdQ32, bdAF2, bdI01, bdN0,
      fun W h => by
        have := tell_any h n0 0 true (by omega) (by omega) wf0 ⟨by decide, by decide, by decide, by decide, by decide, by decide⟩ (by simp)
        rwa [lvT] at this,
      fun W h => reckon_one h, fun W h => get_any h n0.k wf0, fun W h => tick_one h 1000 (by omega) (by omega) rfl, fun W h => tick_one h 2000 (by omega) (by omega) rfl, rfl⟩
  obtain ⟨va, vb, vp, vq, vi, x0, x1, x2, x3, dA, dP, dQ, dB, dI, dN, K1, R1, G1, T1, T2, e61⟩ := HD.out
  clear HD
  have L1 : ∀ W, Tb W t mb 2 [] → Calls Try.prog 14 #[.pointer (some ⟨t, 0, none⟩)] W fun e w' => ∃ a c, e = .returned (.slice a 0 c) ∧ Below W.heap.size W w' := fun W h => list_len h
  go_enter Try.func10, Try.ntmps10
  go_wp2_with (first
    | (have kk := s9; go_at_call 14; refine (L1 _ s9).mono ?_; rintro e w10 ⟨a10, z10, rfl, k10⟩; have bF := bt b9 k10; (try simp only [Act.put, List.setIfInBounds_toArray, List.set_cons_zero, List.set_cons_succ]))
    | (have kk := s9; go_at_call 30; refine (num_any _ _).mono ?_; rintro e w' ⟨rfl, rfl⟩; (try simp only [Act.put, List.setIfInBounds_toArray, List.set_cons_zero, List.set_cons_succ]))
    | (have kk := s8; go_at_call 28; refine (T2 _ s8).mono ?_; rintro e w9 ⟨a9, z9, a9', z9', rfl, hT9⟩; have s9 := hT9.tb; have b9 := HB.out _ _ _ b8 hT9; have c61 := ((q8.keep hT9.gr ng6).cell 61).trans (oc61 x2); rw [e61] at c61; clear s8; (try simp only [Act.put, List.setIfInBounds_toArray, List.set_cons_zero, List.set_cons_succ]))
    | (have kk := s6; go_at_call 28; refine (T1 _ s6).mono ?_; rintro e w8 ⟨a8, z8, a8', z8', rfl, hT8⟩; have s8 := hT8.tb; have b8 := HB.out _ _ _ b6 hT8; have q8 := r6.keep hT8.gr ng6; clear s6; (try simp only [Act.put, List.setIfInBounds_toArray, List.set_cons_zero, List.set_cons_succ]))
    | (have kk := r5; refine stS (.tmp 6) (.tmp 36) rfl rfl g5 x2 _ rfl rfl r5 ?_; intro W6 g6 r6; have b56 := grown_below g6 hB5 hge5 hB5.size; have s6 := s4.below b56; have b6 := bt b4 b56; clear r5; (try simp only [Act.put, List.setIfInBounds_toArray, List.set_cons_zero, List.set_cons_succ]))
    | (have kk := s4; refine alG infoRz rfl rfl ?_; intro g5 W5 hge5 hgl5 hB5 r5; have ng6 : g5 ≠ mb := (by have := s4.map.lt; omega); (try simp only [Act.put, List.setIfInBounds_toArray, List.set_cons_zero, List.set_cons_succ]))
    | (have kk := s3; go_at_call 15; refine (G1 _ s3).mono ?_; rintro e w4 ⟨rfl, k4⟩; have s4 := s3.below k4; have b4 := bt b3 k4; clear s3; (try simp only [Act.put, List.setIfInBounds_toArray, List.set_cons_zero, List.set_cons_succ]))
    | (have kk := s3; refine ldA (.tmp 33) rfl rfl _ _ x0.a rfl (by have := qn3.ro.a; simpa using this) ?_; (try simp only [Act.put, List.setIfInBounds_toArray, List.set_cons_zero, List.set_cons_succ]))
    | (have kk := s3; refine ldQ (.tmp 31) rfl rfl _ _ x0.p rfl qn3.ro.q ?_; (try simp only [Act.put, List.setIfInBounds_toArray, List.set_cons_zero, List.set_cons_succ]))
    | (have kk := s2; go_at_call 29; refine (R1 _ s2).mono ?_; rintro e w3 ⟨a3, z3, rfl, hT3⟩; have s3 := hT3.tb; have b3 := HB.out _ _ _ b2 hT3; have qn3 := qn2.keep hT3.gr nn; clear s2; (try simp only [Act.put, List.setIfInBounds_toArray, List.set_cons_zero, List.set_cons_succ]))
    | (have kk := s1; go_at_call 26; refine (K1 _ s1).mono ?_; rintro e w2 ⟨rfl, hT2⟩; have s2 := hT2.tb; have b2 := HB.out _ _ _ b1 hT2; have qn2 := qn1.keep hT2.gr nn; clear s1; (try simp only [Act.put, List.setIfInBounds_toArray, List.set_cons_zero, List.set_cons_succ]))
    | (have kk := s1; refine ldS (.tmp 2) rfl rfl _ _ x0 rfl qn1.ro ?_; (try simp only [Act.put, List.setIfInBounds_toArray, List.set_cons_zero, List.set_cons_succ]))
    | (have kk := rn; refine stS (.tmp 2) (.tmp 18) rfl rfl gn x0 _ rfl rfl rn ?_; intro Wn1 gn1 qn1; have bn0 := grown_below gn1 hBn hgen hBn.size; have s1 := s0.below bn0; have b1 := bt b0 bn0; clear rn; (try simp only [Act.put, List.setIfInBounds_toArray, List.set_cons_zero, List.set_cons_succ]))
    | (have kk := mk0; refine alG infoRz rfl rfl ?_; intro gn Wn hgen hgln hBn rn; have nn : gn ≠ mb := (by have := HM.out; have := hz0; omega); clear mk0 kk; (try simp only [Act.put, List.setIfInBounds_toArray, List.set_cons_zero, List.set_cons_succ]))
    | ((with_reducible refine bdV (T := 41) (v := rV x0) [(0, .tmp 15), (2, .tmp 16), (3, .tmp 17), (4, .const (.int .u16 1)), (5, .const (.int .u16 100)), (9, .const (.int .i64 1000))] [(0, vq), (2, vb), (3, vi), (4, .int .u16 1), (5, .int .u16 100), (9, .int .i64 1000)] ?_ ?_ ?_ ?_ ?_); (focus rfl); (focus rfl); (focus rfl); (focus exact dN _); have mk0 := True.intro; (try simp only [Act.put, List.setIfInBounds_toArray, List.set_cons_zero, List.set_cons_succ]))
    | ((with_reducible refine bdG (T := 38) (v := vi) [(7, .const (.int .u8 1))] ?_ ?_ ?_ ?_); (focus rfl); (focus rfl); (focus exact dI _); (try simp only [Act.put, List.setIfInBounds_toArray, List.set_cons_zero, List.set_cons_succ]))
    | ((with_reducible refine bdG (T := 32) (v := vb) [(0, .const (.int .u8 254)), (1, .const (.int .u8 128)), (15, .const (.int .u8 2))] ?_ ?_ ?_ ?_); (focus rfl); (focus rfl); (focus exact dB _); (try simp only [Act.put, List.setIfInBounds_toArray, List.set_cons_zero, List.set_cons_succ]))
    | ((with_reducible refine bdG (T := 36) (v := vq) [(0, .tmp 14)] ?_ ?_ ?_ ?_); (focus rfl); (focus rfl); (focus exact dQ _); (try simp only [Act.put, List.setIfInBounds_toArray, List.set_cons_zero, List.set_cons_succ]))
    | ((with_reducible refine bdG (T := 34) (v := vp) [(0, .tmp 13), (1, .const (.int .i64 8))] ?_ ?_ ?_ ?_); (focus rfl); (focus rfl); (focus exact dP _); (try simp only [Act.put, List.setIfInBounds_toArray, List.set_cons_zero, List.set_cons_succ]))
    | ((with_reducible refine bdG (T := 32) (v := va) [(0, .const (.int .u8 32))] ?_ ?_ ?_ ?_); (focus rfl); (focus rfl); (focus exact dA _); (try simp only [Act.put, List.setIfInBounds_toArray, List.set_cons_zero, List.set_cons_succ]))
    | (go_at_call 11; refine hN'.mono ?_; rintro e w0 ⟨rfl, s0, b0⟩; have hz0 : w.heap.size + 1 ≤ w0.heap.size := (by have := s0.map.lt; have := HM.out; omega); (try simp only [Act.put, List.setIfInBounds_toArray, List.set_cons_zero, List.set_cons_succ])))
  go_ret
  exact ⟨rfl, bF⟩
end Go.Proofs.Ythofoocknmkdjaa

namespace Go.Proofs.Ythofoocknmkdjaa
open Go.RowKit
set_option linter.unusedSimpArgs false
def CutQ (R : Act → World → Prop) (Q : Exit → Act → World → Prop) : Exit → Act → World → Prop
  | .normal, a, w => R a w
  | .exit i, a, w => Q (.exit i) a w
  | .goto l, a, w => Q (.goto l) a w
  | .ret, a, w => Q .ret a w
  | .panic c, a, w => Q (.panic c) a w
  | .outgrown, a, w => Q .outgrown a w
theorem CutQ.normal {R : Act → World → Prop} {Q : Exit → Act → World → Prop} {a : Act} {w : World} (h : R a w) : CutQ R Q .normal a w := h
/-- These slots, from i on. -/
def over (a : Act) (i : Nat) : List Value → Act
  | [] => a
  | v :: vs => over (a.put (some i) v) (i + 1) vs
end Go.Proofs.Ythofoocknmkdjaa

namespace Go.Proofs.Ythofoocknmkdjaa
open Go.RowKit Go.Maps Go.Shelf
set_option linter.unusedSimpArgs false
set_option linter.unusedVariables false
set_option maxRecDepth 20000
theorem Asc.head {x : Ro} {K : List Ro} (h : Asc (x :: K)) : ∀ y ∈ K, cmpN x y < 0 := (List.pairwise_cons.1 h).1
theorem Asc.unique : ∀ {K K' : List Ro}, Asc K → Asc K' → K.Perm K' → K = K'
  | [], K', _, _, hp => (hp.nil_eq)
  | x :: K, [], _, _, hp => by have := hp.length_eq; simp at this
  | x :: K, y :: K', h, h', hp => by
    have hxy : x = y := by
      have h1 : x ∈ y :: K' := hp.mem_iff.1 (by simp)
      have h2 : y ∈ x :: K := hp.mem_iff.2 (by simp)
      rcases List.mem_cons.1 h1 with e | e
      · exact e
      · rcases List.mem_cons.1 h2 with e2 | e2
        · exact e2.symm
        · have a := h.head y e2
          have b := h'.head x e
          have c := cmpN_neg x y
          omega
    subst hxy
    rw [Asc.unique (List.pairwise_cons.1 h).2 (List.pairwise_cons.1 h').2 (List.Perm.cons_inv hp)]
theorem Asc.filter {K : List Ro} (h : Asc K) (q : Ro → Bool) : Asc (K.filter q) := List.Pairwise.filter _ h
def eqRo (x y : Ro) : Bool := qB x.p y.p && (x.i == y.i && (decide (x.a.l = y.a.l) && (decide (x.id.l = y.id.l) && (x.q == y.q && (x.r == y.r && (x.m == y.m && (decide (x.h.l = y.h.l) && (x.u == y.u && (x.d == y.d && x.s == y.s)))))))))
theorem eqRo_self (x : Ro) : eqRo x x = true := by
  unfold eqRo
  simp [qB_refl]
theorem ok_parts (x : Ro) : ((ocs x).drop 0).take 34 = qcells x.p ∧ ((ocs x).drop 35).take 16 = acells x.a ∧ ((ocs x).drop 51).take 8 = icells x.id ∧ ((ocs x).drop 62).take 16 = acells x.h := by
  refine ⟨?_, ?_, ?_, ?_⟩
  · simp [ocs, qcells_len]
  · simp [ocs, qcells_len, acells_len, List.drop_append, List.drop_of_length_le]
  · simp [ocs, qcells_len, acells_len, icells_len, List.drop_append, List.drop_of_length_le]
  · simp [ocs, qcells_len, acells_len, icells_len, omd, List.drop_append, List.drop_of_length_le]
set_option maxHeartbeats 4000000 in
theorem eqR (x y : Ro) (w : World) : (Op.equalIn 10000 41 (rV x) (rV y)).run Try.prog w = .ok (eqRo x y) w := by
  have hQ : ∀ w, (Op.equalIn 9999 36 (Value.agg (qcells x.p).toArray) (Value.agg (qcells y.p).toArray)).run Try.prog w = .ok (qB x.p y.p) w := eqQ 9995 x.p y.p
  have hI : ∀ w, (Op.equalIn 9999 38 (idV x.id) (idV y.id)).run Try.prog w = .ok (decide (x.id.l = y.id.l)) w := eqI 9997 x.id y.id
  have hA : ∀ w, (Op.equalIn 9999 32 (Value.agg (acells x.a).toArray) (Value.agg (acells y.a).toArray)).run Try.prog w = .ok (decide (x.a.l = y.a.l)) w := eqA 9997 x.a y.a
  have hH : ∀ w, (Op.equalIn 9999 32 (Value.agg (acells x.h).toArray) (Value.agg (acells y.h).toArray)).run Try.prog w = .ok (decide (x.h.l = y.h.l)) w := eqA 9997 x.h y.h
  have heI : ∀ w a b, (Op.equalIn 9999 3 (.int .i64 a) (.int .i64 b)).run Try.prog w = .ok (a == b) w := fun w a b => run_equalIn_int w 9998 _ _ _ a b Try.underlying3
  have he16 : ∀ w a b, (Op.equalIn 9999 39 (.int .u16 a) (.int .u16 b)).run Try.prog w = .ok (a == b) w := fun w a b => run_equalIn_int w 9998 _ _ _ a b Try.underlying39
  have heB : ∀ w (a b : Bool), (Op.equalIn 9999 4 (.bool a) (.bool b)).run Try.prog w = .ok (a == b) w := fun w a b => run_equalIn_bool w 9998 _ a b Try.underlying4
  have hf : (Try.prog.fieldsOf 41).toList.map (fun f => (f.name, f.type, f.offset)) = [("Pair", 36, 0), ("If", 3, 34), ("From", 32, 35), ("Id", 38, 51), ("Seqno", 39, 59), ("Ref", 39, 60), ("Metric", 39, 61), ("Hop", 32, 62), ("Until", 3, 78), ("Hold", 3, 79), ("Selected", 4, 80)] := by kernel_rfl
  obtain ⟨p1, p2, p3, p4⟩ := ok_parts x
  obtain ⟨q1, q2, q3, q4⟩ := ok_parts y
  have x34 := oc34 x
  have y34 := oc34 y
  have x59 := oc59 x
  have y59 := oc59 y
  have x60 := oc60 x
  have y60 := oc60 y
  have x61 := oc61 x
  have y61 := oc61 y
  have x78 := oc78 x
  have y78 := oc78 y
  have x79 := oc79 x
  have y79 := oc79 y
  have x80 := oc80 x
  have y80 := oc80 y
  rw [run_equalIn_struct w 9999 41 _ _ (by kernel_rfl) (by kernel_rfl)]
  generalize (Try.prog.fieldsOf 41).toList = fs at hf
  have hl : fs.length = 11 := by have := congrArg List.length hf; simpa using this
  match fs, hl with
  | [f0, f1, f2, f3, f4, f5, f6, f7, f8, f9, f10], _ =>
    simp only [List.map_cons, List.map_nil, List.cons.injEq, Prod.mk.injEq, and_true] at hf
    obtain ⟨⟨n0, t0, o0⟩, ⟨n1, t1, o1⟩, ⟨n2, t2, o2⟩, ⟨n3, t3, o3⟩, ⟨n4, t4, o4⟩, ⟨n5, t5, o5⟩, ⟨n6, t6, o6⟩, ⟨n7, t7, o7⟩, ⟨n8, t8, o8⟩, ⟨n9, t9, o9⟩, n10, t10, o10⟩ := hf
    have a1 : ∀ w, (isAgg 36).run Try.prog w = .ok true w := fun w => by simp [isAgg, run_underlying Try.underlying36]
    have a2 : ∀ w, (isAgg 38).run Try.prog w = .ok true w := fun w => by simp [isAgg, run_underlying Try.underlying38]
    have a3 : ∀ w, (isAgg 32).run Try.prog w = .ok true w := fun w => by simp [isAgg, run_underlying Try.underlying32]
    have a4 : ∀ w, (isAgg 3).run Try.prog w = .ok false w := fun w => by simp [isAgg, run_underlying Try.underlying3]
    have a5 : ∀ w, (isAgg 39).run Try.prog w = .ok false w := fun w => by simp [isAgg, run_underlying Try.underlying39]
    have a6 : ∀ w, (isAgg 4).run Try.prog w = .ok false w := fun w => by simp [isAgg, run_underlying Try.underlying4]
    have s1 : ∀ w, (Go.sizeOf 36).run Try.prog w = .ok 34 w := fun w => by kernel_rfl
    have s2 : ∀ w, (Go.sizeOf 38).run Try.prog w = .ok 8 w := fun w => by kernel_rfl
    have s3 : ∀ w, (Go.sizeOf 32).run Try.prog w = .ok 16 w := fun w => by kernel_rfl
    have u0 : ¬ "Pair" = "_" := by decide
    have u1 : ¬ "If" = "_" := by decide
    have u2 : ¬ "From" = "_" := by decide
    have u3 : ¬ "Id" = "_" := by decide
    have u4 : ¬ "Seqno" = "_" := by decide
    have u5 : ¬ "Ref" = "_" := by decide
    have u6 : ¬ "Metric" = "_" := by decide
    have u7 : ¬ "Hop" = "_" := by decide
    have u8 : ¬ "Until" = "_" := by decide
    have u9 : ¬ "Hold" = "_" := by decide
    have u10 : ¬ "Selected" = "_" := by decide
    rw [List.drop_zero] at p1 q1
    simp only [ne_eq, not_false_eq_true, u0, u1, u2, u3, u4, u5, u6, u7, u8, u9, u10, Op.eqFields, n0, t0, o0, n1, t1, o1, n2, t2, o2, n3, t3, o3, n4, t4, o4, n5, t5, o5, n6, t6, o6, n7, t7, o7, n8, t8, o8, n9, t9, o9, n10, t10, o10, Sem.run_bind, Sem.run_ite, part, a1, a2, a3, a4, a5, a6, s1, s2, s3, Result.andThen_ok, if_true, Nat.zero_add, Nat.reduceAdd, Sem.run_pure, Bool.false_eq_true, if_false, List.getElem?_toArray, List.extract_toArray, List.extract_eq_take_drop, Nat.reduceSub, List.drop_zero, x34, y34, x59, y59, x60, y60, x61, y61, x78, y78, x79, y79, x80, y80, p1, p2, p3, p4, q1, q2, q3, q4, hQ, hI, hA, hH, heI, he16, heB]
    unfold eqRo
    generalize qB x.p y.p = b0
    generalize (x.i == y.i) = b1
    generalize decide (x.a.l = y.a.l) = b2
    generalize decide (x.id.l = y.id.l) = b3
    generalize (x.q == y.q) = b4
    generalize (x.r == y.r) = b5
    generalize (x.m == y.m) = b6
    generalize decide (x.h.l = y.h.l) = b7
    generalize (x.u == y.u) = b8
    generalize (x.d == y.d) = b9
    generalize (x.s == y.s) = b10
    cases b0
    · rfl
    cases b1
    · rfl
    cases b2
    · rfl
    cases b3
    · rfl
    cases b4
    · rfl
    cases b5
    · rfl
    cases b6
    · rfl
    cases b7
    · rfl
    cases b8
    · rfl
    cases b9
    · rfl
    cases b10 <;> rfl
theorem run_neqR (x y : Ro) (w : World) : (binOp .neq 41 (rV x) (rV y)).run Try.prog w = .ok (.bool (!eqRo x y)) w := by
  have h := eqR x y w
  rw [run_neq_struct w, h]; rfl
theorem guardR (op : BinOp) (a b : Operand) (x y : Ro) (w : World) : (eqGuard op 41 a b (rV x) (rV y)).run Try.prog w = .ok () w :=
  run_eqGuard_agg w op _ a b _ _ (by kernel_rfl)
end Go.Proofs.Ythofoocknmkdjaa

namespace Go.Proofs.Ythofoocknmkdjaa
open Go.RowKit Go.Maps
set_option linter.unusedSimpArgs false
set_option linter.unusedVariables false
set_option maxRecDepth 20000
open Go.RowKit Go.ChangeShapes Go.WideShapes Go.ChangeAt Go.Deep
theorem own : ownKnob Try.prog.godebug = none := by kernel_rfl
theorem laid_out : laidOutB Try.prog = true := by kernel_rfl
section
variable {H : Type} {enc : TypeId × Value → H} {w : World} {base : Nat} {spare : Nat → Bool} {held : Bool}
theorem bytes_of (m : Nat) : ∀ (cs : List Value) (xs : List (DataW H × List MemPlace)), cs.length = xs.length → (∀ i, i < xs.length → DataW.trod enc Try.prog w base spare held m 5 ((cs.drop i).take 1) = xs[i]?) → ∃ l : List UInt8, cs = bcells l
  | [], _, _, _ => ⟨[], rfl⟩
  | c :: r, [], h, _ => by simp at h
  | c :: r, x :: ys, h, k => by
    obtain ⟨l, rfl⟩ := bytes_of m r ys (by simpa using h) (fun i hi => by have := k (i + 1) (by simp; omega); simpa using this)
    obtain ⟨n, e1, _, hw⟩ := DataW.trod_int Try.underlying5 (show DataW.trod enc Try.prog w base spare held m 5 [c] = some x by simpa using k 0 (by simp))
    obtain ⟨h0, h1⟩ := bounds_u8 hw
    simp only [List.cons.injEq, and_true] at e1
    refine ⟨UInt8.ofNat n.toNat :: l, ?_⟩
    rw [e1]
    show _ = Value.int .u8 ((UInt8.ofNat n.toNat).toNat : Int) :: bcells l
    have : (UInt8.ofNat n.toNat).toNat = n.toNat := by simp; omega
    rw [this]
    congr 2
    omega
theorem cellsA : Try.prog.cellsOf 32 = 16 := by kernel_rfl
theorem cellsP : Try.prog.cellsOf 34 = 17 := by kernel_rfl
theorem cellsQ : Try.prog.cellsOf 36 = 34 := by kernel_rfl
theorem cells_u8 : Try.prog.cellsOf 5 = 1 := by kernel_rfl
theorem cells_int : Try.prog.cellsOf 3 = 1 := by kernel_rfl
theorem ad_of {fuel : Nat} {cs : List Value} {x : DataW H × List MemPlace} (h : DataW.trod enc Try.prog w base spare held fuel 32 cs = some x) : ∃ a : Ad, cs = acells a := by
  obtain ⟨xs, m, _, _, hl, hn, hel⟩ := DataW.trod_array Try.underlying32 h
  rw [cells_u8] at hel
  obtain ⟨l, rfl⟩ := bytes_of m cs xs (by rw [hl, hn, cellsA]) (fun i hi => by have := hel i (by omega); rwa [Nat.mul_one] at this)
  exact ⟨⟨l, by rw [bcells_length, cellsA] at hl; exact hl⟩, rfl⟩
theorem pf_of {fuel : Nat} {cs : List Value} {x : DataW H × List MemPlace} (h : DataW.trod enc Try.prog w base spare held fuel 34 cs = some x) : ∃ p : Pf, cs = pcells p ∧ -9223372036854775808 ≤ p.n ∧ p.n ≤ 9223372036854775807 := by
  obtain ⟨y0, y1, n, _, hl, h0, h1⟩ := trod_struct2 Try.underlying34 h
  dsimp only at h0 h1
  rw [cellsA] at h0
  rw [cells_int] at h1
  rw [cellsP] at hl
  obtain ⟨a, ha⟩ := ad_of h0
  obtain ⟨k, e1, _, hw⟩ := DataW.trod_int Try.underlying3 h1
  refine ⟨⟨a, k⟩, ?_, bounds_i64 hw⟩
  rw [pcells, ← ha, ← e1, List.drop_zero]
  have : (cs.drop 16).take 1 = cs.drop 16 := List.take_of_length_le (by simp; omega)
  rw [this, List.take_append_drop]
theorem pr_of {fuel : Nat} {cs : List Value} {x : DataW H × List MemPlace} (h : DataW.trod enc Try.prog w base spare held fuel 36 cs = some x) : ∃ q : Pr, cs = qcells q ∧ (-9223372036854775808 ≤ q.d.n ∧ q.d.n ≤ 9223372036854775807) ∧ -9223372036854775808 ≤ q.s.n ∧ q.s.n ≤ 9223372036854775807 := by
  obtain ⟨y0, y1, n, _, hl, h0, h1⟩ := trod_struct2 Try.underlying36 h
  dsimp only at h0 h1
  rw [cellsP] at h0 h1
  rw [cellsQ] at hl
  obtain ⟨d, hd, d1⟩ := pf_of h0
  obtain ⟨s, hs, s1⟩ := pf_of h1
  refine ⟨⟨d, s⟩, ?_, d1, s1⟩
  rw [qcells, ← hd, ← hs, List.drop_zero]
  have : (cs.drop 17).take 17 = cs.drop 17 := List.take_of_length_le (by simp; omega)
  rw [this, List.take_append_drop]
theorem cells_I : Try.prog.cellsOf 38 = 8 := by kernel_rfl
theorem id_of {fuel : Nat} {cs : List Value} {x : DataW H × List MemPlace} (h : DataW.trod enc Try.prog w base spare held fuel 38 cs = some x) : ∃ a : Id8, cs = icells a := by
  obtain ⟨xs, m, _, _, hl, hn, hel⟩ := DataW.trod_array Try.underlying38 h
  rw [cells_u8] at hel
  obtain ⟨l, rfl⟩ := bytes_of m cs xs (by rw [hl, hn, cells_I]) (fun i hi => by have := hel i (by omega); rwa [Nat.mul_one] at this)
  exact ⟨⟨l, by rw [bcells_length, cells_I] at hl; exact hl⟩, rfl⟩
theorem drop_split (cs : List Value) (o n m : Nat) (h : o + n = m) : cs.drop o = (cs.drop o).take n ++ cs.drop m := by
  rw [← h, ← List.drop_drop, List.take_append_drop]
theorem cells16 : Try.prog.cellsOf 39 = 1 := by kernel_rfl
theorem wfQ_of {q : Pr} (h1 : -9223372036854775808 ≤ q.d.n) (h2 : q.d.n ≤ 9223372036854775807) (h3 : -9223372036854775808 ≤ q.s.n) (h4 : q.s.n ≤ 9223372036854775807) : wfQ q := by
  constructor
  · unfold wfI
    simp [Lit.wf, IntKind.min, IntKind.max, IntKind.signed, IntKind.bits]
    omega
  · unfold wfI
    simp [Lit.wf, IntKind.min, IntKind.max, IntKind.signed, IntKind.bits]
    omega
theorem cells_bool : Try.prog.cellsOf 4 = 1 := by kernel_rfl
theorem cells_R : Try.prog.cellsOf 41 = 81 := by kernel_rfl
theorem ro_of {fuel : Nat} {cs : List Value} {x : DataW H × List MemPlace} (h : DataW.trod enc Try.prog w base spare held fuel 41 cs = some x) : ∃ n : Ro, cs = ocs n ∧ n.fit ∧ wfK n.k := by
  obtain ⟨xs, n, _, _, hl, hlen, hf⟩ := DataW.trod_struct Try.underlying41 h
  rw [cells_R] at hl
  match xs, hlen with
  | [y0, y1, y2, y3, y4, y5, y6, y7, y8, y9, y10], _ =>
    have f0 : DataW.trod enc Try.prog w base spare held n 36 ((cs.drop 0).take (Try.prog.cellsOf 36)) = some y0 := hf 0 _ rfl
    rw [cellsQ] at f0
    have f1 : DataW.trod enc Try.prog w base spare held n 3 ((cs.drop 34).take (Try.prog.cellsOf 3)) = some y1 := hf 1 _ rfl
    rw [cells_int] at f1
    have f2 : DataW.trod enc Try.prog w base spare held n 32 ((cs.drop 35).take (Try.prog.cellsOf 32)) = some y2 := hf 2 _ rfl
    rw [cellsA] at f2
    have f3 : DataW.trod enc Try.prog w base spare held n 38 ((cs.drop 51).take (Try.prog.cellsOf 38)) = some y3 := hf 3 _ rfl
    rw [cells_I] at f3
    have f4 : DataW.trod enc Try.prog w base spare held n 39 ((cs.drop 59).take (Try.prog.cellsOf 39)) = some y4 := hf 4 _ rfl
    rw [cells16] at f4
    have f5 : DataW.trod enc Try.prog w base spare held n 39 ((cs.drop 60).take (Try.prog.cellsOf 39)) = some y5 := hf 5 _ rfl
    rw [cells16] at f5
    have f6 : DataW.trod enc Try.prog w base spare held n 39 ((cs.drop 61).take (Try.prog.cellsOf 39)) = some y6 := hf 6 _ rfl
    rw [cells16] at f6
    have f7 : DataW.trod enc Try.prog w base spare held n 32 ((cs.drop 62).take (Try.prog.cellsOf 32)) = some y7 := hf 7 _ rfl
    rw [cellsA] at f7
    have f8 : DataW.trod enc Try.prog w base spare held n 3 ((cs.drop 78).take (Try.prog.cellsOf 3)) = some y8 := hf 8 _ rfl
    rw [cells_int] at f8
    have f9 : DataW.trod enc Try.prog w base spare held n 3 ((cs.drop 79).take (Try.prog.cellsOf 3)) = some y9 := hf 9 _ rfl
    rw [cells_int] at f9
    have f10 : DataW.trod enc Try.prog w base spare held n 4 ((cs.drop 80).take (Try.prog.cellsOf 4)) = some y10 := hf 10 _ rfl
    rw [cells_bool] at f10
    obtain ⟨z0, e0, b0⟩ := pr_of f0
    obtain ⟨z1, e1, _, b1⟩ := DataW.trod_int Try.underlying3 f1
    obtain ⟨z2, e2⟩ := ad_of f2
    obtain ⟨z3, e3⟩ := id_of f3
    obtain ⟨z4, e4, _, b4⟩ := DataW.trod_int Try.underlying39 f4
    replace b4 := bounds_u16 b4
    obtain ⟨z5, e5, _, b5⟩ := DataW.trod_int Try.underlying39 f5
    replace b5 := bounds_u16 b5
    obtain ⟨z6, e6, _, b6⟩ := DataW.trod_int Try.underlying39 f6
    replace b6 := bounds_u16 b6
    obtain ⟨z7, e7⟩ := ad_of f7
    obtain ⟨z8, e8, _, b8⟩ := DataW.trod_int Try.underlying3 f8
    obtain ⟨z9, e9, _, b9⟩ := DataW.trod_int Try.underlying3 f9
    obtain ⟨z10, e10, _⟩ := DataW.trod_bool Try.underlying4 f10
    replace b1 : (Lit.int .i64 z1).wf = true := b1
    refine ⟨⟨z0, z1, z2, z3, z4, z5, z6, z7, z8, z9, z10⟩, ?_, ⟨b4.1, by show z4 < 65536; omega, b5.1, by show z5 < 65536; omega, b6.1, by show z6 < 65536; omega⟩, wfQ_of b0.1.1 b0.1.2 b0.2.1 b0.2.2, b1⟩
    have g0 := drop_split cs 0 34 34 rfl
    have g1 := drop_split cs 34 1 35 rfl
    have g2 := drop_split cs 35 16 51 rfl
    have g3 := drop_split cs 51 8 59 rfl
    have g4 := drop_split cs 59 1 60 rfl
    have g5 := drop_split cs 60 1 61 rfl
    have g6 := drop_split cs 61 1 62 rfl
    have g7 := drop_split cs 62 16 78 rfl
    have g8 := drop_split cs 78 1 79 rfl
    have g9 := drop_split cs 79 1 80 rfl
    have g10 := drop_split cs 80 1 81 rfl
    have gl : cs.drop 81 = [] := List.drop_eq_nil_of_le (by omega)
    rw [gl, e10] at g10
    rw [g10, e9] at g9
    rw [g9, e8] at g8
    rw [g8, e7] at g7
    rw [g7, e6] at g6
    rw [g6, e5] at g5
    rw [g5, e4] at g4
    rw [g4, e3] at g3
    rw [g3, e2] at g2
    rw [g2, e1] at g1
    rw [g1, e0] at g0
    rw [List.drop_zero] at g0
    rw [g0]
    simp [ocs, omd, otl]
variable {r : Reach} {b0 : Nat} {v : Value} {d : DataW H} {p : List MemPlace}
set_option maxRecDepth 100000 in
theorem openG {α : Type} (E : α → List Value) (s : Nat) (z : α) (P : α → Prop) {T ST : TypeId} (hU : Try.prog.underlying ST = some (.slice T)) (hs : Try.prog.cellsOf T = s) (s0 : 0 < s) (hE : ∀ q, (E q).length = s)
    (hel : ∀ {fuel : Nat} {cs : List Value} {x : DataW H × List MemPlace}, DataW.trod enc Try.prog w base (fun _ => true) held fuel T cs = some x → ∃ q, cs = E q ∧ P q)
    (hv : Value.okWide Try.prog w r b0 ST v) (h : DataW.Trod enc Try.prog w base (fun _ => true) held ST v d p) : ∃ (ad : Option Addr) (len cap : Nat) (l : List α), v = .slice ad len cap ∧ l.length = len ∧ (∀ q ∈ l, P q) ∧ (l = [] ∨ ∃ b o, ad = some ⟨b, o, none⟩ ∧ b < w.heap.size ∧ ∀ (j : Nat) (q : α), l[j]? = some q → w.rangeAt b (o + j * s) (E q)) ∧ len ≤ cap ∧ cap ≤ maxLen := by
  obtain ⟨ad, len, cap, rfl⟩ := okWide_slice hU hv
  obtain ⟨fuel, hf⟩ := h
  rcases open_slice hU hf with ⟨hcs, _⟩ | ⟨a, len', cap', m, n, D, Pl, hcs, _, hl, hmx, hmm, _, hx⟩
  · simp [Value.cells] at hcs
    obtain ⟨rfl, rfl, rfl⟩ := hcs
    exact ⟨none, 0, 0, [], rfl, rfl, (fun _ h => by cases h), .inl rfl, Nat.le_refl _, Nat.zero_le _⟩
  · simp [Value.cells] at hcs
    obtain ⟨rfl, rfl, rfl⟩ := hcs
    by_cases h0 : len = 0
    · subst h0
      exact ⟨_, 0, cap, [], rfl, rfl, (fun _ h => by cases h), .inl rfl, Nat.zero_le _, by omega⟩
    · have hm : len ≤ m := by rw [hmm]; split <;> omega
      have each : ∀ i, i < len → ∃ q : α, P q ∧ ∀ k, k < s → w.cell? ((a.add (i * s)).add k) = (E q)[k]? := fun i hi => by
        obtain ⟨cs', k1, k2⟩ := hx i (by omega)
        obtain ⟨q, rfl, hb1⟩ := hel k2
        rw [hs] at k1
        obtain ⟨_, _, hc⟩ := World.cells?_some k1
        exact ⟨q, hb1, hc⟩
      have each' : ∀ i, ∃ q : α, i < len → P q ∧ ∀ k, k < s → w.cell? ((a.add (i * s)).add k) = (E q)[k]? := fun i => by
        by_cases hi : i < len
        · obtain ⟨q, hq⟩ := each i hi
          exact ⟨q, fun _ => hq⟩
        · exact ⟨z, fun h => absurd h hi⟩
      obtain ⟨f, hf'⟩ := Classical.axiomOfChoice each'
      obtain ⟨b, o, x⟩ := a
      have h2 : (E (f 0))[0]? = some ((E (f 0))[0]'(by rw [hE]; exact s0)) := List.getElem?_eq_getElem _
      have hx0 : x = none := by
        have h1 := (hf' 0 (by omega)).2 0 s0
        rw [h2] at h1
        have := World.cell?_spot h1
        simpa [Addr.add] using this
      subst hx0
      have hc : ∀ j, j < len → ∀ k, k < s → w.cell? ⟨b, o + j * s + k, none⟩ = (E (f j))[k]? := fun j hj k hk => by
        have := (hf' j hj).2 k hk
        rw [add_add, Go.WideShapes.add_plain] at this
        rw [Nat.add_assoc]; exact this
      refine ⟨_, len, cap, (List.range len).map f, rfl, by simp, ?_, .inr ⟨b, o, rfl, ?_, fun j q hq => ?_⟩, by omega, by omega⟩
      · intro q hq
        obtain ⟨i, hi, rfl⟩ := List.mem_map.1 hq
        exact (hf' i (List.mem_range.1 hi)).1
      · have h1 := hc 0 (by omega) 0 s0
        exact World.block_lt_of_cell? _ _ (h1.trans h2)
      · rw [List.getElem?_map] at hq
        by_cases hj : j < len
        · rw [List.getElem?_range hj] at hq
          cases hq
          intro k u hu
          rw [hc j hj k (by have := (List.getElem?_eq_some_iff.1 hu).1; rwa [hE] at this)]
          exact hu
        · rw [List.getElem?_eq_none (by simp; omega)] at hq
          cases hq
end
set_option maxRecDepth 100000 in
/-- The readings of arguments stay where nothing that was there is written. -/
theorem all_stay {H : Type} {enc : TypeId × Value → H} {P : Program} (hl : laidOutB P = true) {W W' : World} (hb : Below W.heap.size W W') : ∀ (ts : List TypeId) (vs : List Value) (ds : List (DataW H)) (p : List MemPlace), (ts.all fun t => P.readableRec t && decide (t < P.types.size)) = true → DataW.TrodAll enc P W 0 (fun _ => true) true ts vs ds p → DataW.TrodAll enc P W' 0 (fun b => decide (b < W.heap.size)) true ts vs ds p
  | [], vs, ds, p, _, h => by
    obtain ⟨rfl, rfl, rfl⟩ := trodAll_nil h
    exact trodAll_mk0
  | t :: ts, vs, ds, p, hr, h => by
    obtain ⟨v0, vs0, d0, ds0, p0, q0, rfl, rfl, rfl, h0, r0⟩ := trodAll_cons h
    simp only [List.all_cons, Bool.and_eq_true, decide_eq_true_eq] at hr
    refine trodAll_cons_mk (Below.trod hl hr.1.1 hr.1.2 h0 hb ?_) (all_stay hl hb ts vs0 ds0 q0 (by simpa using hr.2) r0)
    obtain ⟨m, hm⟩ := h0
    exact DataW.trod_lt m _ _ _ hm
end Go.Proofs.Ythofoocknmkdjaa

namespace Go.Proofs.Ythofoocknmkdjaa
open Go.RowKit Go.Maps
set_option linter.unusedSimpArgs false
set_option linter.unusedVariables false
set_option maxRecDepth 20000
/-- An act. -/
structure Ac where
  k : Int
  g : Int
  r : Ro
  o : Bool
def acs (x : Ac) : List Value := [.int .i64 x.k, .int .i64 x.g] ++ (ocs x.r ++ [.bool x.o])
theorem acs_len (x : Ac) : (acs x).length = 84 := by simp [acs, ocs_len]
def zeroAc : Ac := ⟨0, 0, zeroR, false⟩
def LC (w : World) (b o : Nat) (x : Ac) : Prop := w.rangeAt b o (acs x)
section
variable {w : World} {b o : Nat} {x : Ac}
theorem LC.k (h : LC w b o x) : w.cell? ⟨b, o, none⟩ = some (.int .i64 x.k) := by simpa using h 0 _ rfl
theorem LC.g (h : LC w b o x) : w.cell? ⟨b, o + 1, none⟩ = some (.int .i64 x.g) := h 1 _ rfl
theorem LC.t1 (h : LC w b o x) : w.rangeAt b (o + 2) (ocs x.r ++ [.bool x.o]) := rangeAt_right h rfl
theorem LC.r (h : LC w b o x) : LS w b (o + 2) x.r := rangeAt_left h.t1
theorem LC.ok (h : LC w b o x) : w.cell? ⟨b, o + 83, none⟩ = some (.bool x.o) := by
  have := rangeAt_right h.t1 (ocs_len _) 0 _ rfl
  rw [Nat.add_assoc] at this
  exact this
theorem LC.below {w' : World} {B : Nat} (h : LC w b o x) (hb : Below B w w') (hlt : b < B) : LC w' b o x := rangeAt_below h hb hlt
end
/-- Acts in memory. -/
structure AsW (w : World) (ad : Option Addr) (l : List Ac) : Prop where
  lies : l = [] ∨ ∃ g o, ad = some ⟨g, o, none⟩ ∧ g < w.heap.size ∧ ∀ (j : Nat) (p : Ac), l[j]? = some p → LC w g (o + j * 84) p
theorem AsW.below {w w' : World} {ad : Option Addr} {l : List Ac} (h : AsW w ad l) (hb : Below w.heap.size w w') : AsW w' ad l :=
  ⟨h.lies.imp id fun ⟨g, o, e, hg, hl⟩ => ⟨g, o, e, Nat.lt_of_lt_of_le hg hb.size, fun j p hp => rangeAt_below (hl j p hp) hb hg⟩⟩
/-- Acts that are right. -/
def AcOk (x : Ac) : Prop := 0 ≤ x.g ∧ x.g ≤ 1073741824
theorem all_step {α : Type} {P : α → Prop} {l : List α} {j : Nat} (h : ∀ x ∈ l.take j, P x) (hj : j < l.length) (hp : P l[j]) : ∀ x ∈ l.take (j + 1), P x := by
  intro x hx
  rw [List.take_succ_eq_append_getElem hj] at hx
  rcases List.mem_append.1 hx with hx | hx
  · exact h x hx
  · simp at hx; subst hx; exact hp
def RightP (l : List Ac) (w : World) (e : Ending) (w' : World) : Prop := ∃ b, e = .returned (.bool b) ∧ w = w' ∧ (b = true → l.length ≤ 150 ∧ ∀ x ∈ l, AcOk x)
theorem right_any (ad : Option Addr) (c : Nat) (l : List Ac) (w : World) (hl : AsW w ad l) (hn : l.length ≤ maxLen) : Calls Try.prog 9 #[.slice ad l.length c] w (RightP l w) := by
  have HN : Hid (l.length ≤ 9223372036854775807) := hn
  clear hn
  go_enter Try.func9, Try.ntmps9
  go_wp2_with fail
  go_loopw [3] (fun i wr => ∃ j : Nat, j ≤ l.length ∧ j ≤ 151 ∧ i = .int .i64 j ∧ (∀ x ∈ l.take j, AcOk x) ∧ w = wr) (fun i _ => 151 - (intOf i).toNat)
  case atStart => exact ⟨0, by omega, by omega, rfl, by simp, rfl⟩
  case round =>
    obtain ⟨j, hj, hj9, rfl, hok, rfl⟩ := hrel
    by_cases hlt : j < l.length ∧ j ≤ 150
    · obtain ⟨hlt, hj8⟩ := hlt
      rcases hl.lies with h0 | ⟨g, o, rfl, hg, hcs⟩
      · rw [h0] at hlt; simp at hlt
      have hq := (hcs j l[j] (List.getElem?_eq_getElem hlt)).g
      have HS : Hid (AcOk l[j] → ∀ x ∈ l.take (j + 1), AcOk x) := fun h => all_step hok hlt h
      have hji : (j : Int) < (l.length : Int) := by omega
      have hj8' : (j : Int) ≤ 150 := by omega
      have hw : wrap64 ((j : Int) + 1) = (j : Int) + 1 := by unfold wrap64; omega
      have HJ : Hid (j + 1 ≤ l.length ∧ j + 1 ≤ 151) := ⟨by omega, by omega⟩
      have HM : Hid (151 - ((j : Int) + 1).toNat < 151 - ((j : Int)).toNat) := by show _ < _; omega
      have HA : Hid (∀ g, l[j].g = g → 0 ≤ g → g ≤ 1073741824 → AcOk l[j]) := fun g e h1 h2 => ⟨by omega, by omega⟩
      obtain ⟨z, hz⟩ : ∃ z, l[j].g = z := ⟨_, rfl⟩
      rw [hz] at hq
      have HZ : Hid (l[j].g = z) := hz
      clear hz hcs hok hj hj9 hj8 hl
      by_cases h1 : z < 0
      · go_wp2_with fail
        go_ret
        exact ⟨false, rfl, rfl, fun h => by cases h⟩
      · by_cases h2 : 1073741824 < z
        · go_wp2_with fail
          go_ret
          exact ⟨false, rfl, rfl, fun h => by cases h⟩
        · have HO := HS.out (HA.out z HZ.out (by omega) (by omega))
          have h3 : 0 ≤ z := by omega
          have h4 : z ≤ 1073741824 := by omega
          clear h1 h2 HA HS
          go_wp2_with fail
          go_roundw
          case rel => exact ⟨j + 1, HJ.out.1, HJ.out.2, by first | rfl | go_num, HO, trivial⟩
          case measure => simp only [intOf]; exact HM.out
    · by_cases h1 : j < l.length
      · have h2 : ¬ (j : Int) ≤ 150 := by omega
        have h3 : (j : Int) < (l.length : Int) := by omega
        have h4 : ¬ (l.length : Int) ≤ 150 := by omega
        clear hlt h1 hok
        go_wp2_with fail
        go_ret
        exact ⟨false, rfl, rfl, fun h => by cases h⟩
      · have hjl : j = l.length := by omega
        subst hjl
        rw [List.take_length] at hok
        have h3 : ¬ (l.length : Int) < (l.length : Int) := by omega
        clear hlt h1
        go_wp2_with fail
        go_ret
        refine ⟨_, rfl, rfl, fun h => ⟨?_, hok⟩⟩
        have := of_decide_eq_true h
        omega
/-- What of an act is known. -/
structure AcFit (x : Ac) : Prop where
  f : x.r.fit
  w : wfK x.r.k
open Go.RowKit Go.ChangeShapes Go.WideShapes Go.ChangeAt Go.Deep
section
variable {H : Type} {enc : TypeId × Value → H} {w : World} {base : Nat} {spare : Nat → Bool} {held : Bool}
theorem cells_G : Try.prog.cellsOf 43 = 84 := by kernel_rfl
theorem ac_of {fuel : Nat} {cs : List Value} {x : DataW H × List MemPlace} (h : DataW.trod enc Try.prog w base spare held fuel 43 cs = some x) : ∃ a : Ac, cs = acs a ∧ AcFit a := by
  obtain ⟨xs, n, _, _, hl, hlen, hf⟩ := DataW.trod_struct Try.underlying43 h
  rw [cells_G] at hl
  match xs, hlen with
  | [y0, y1, y2, y3], _ =>
    have f0 : DataW.trod enc Try.prog w base spare held n 3 ((cs.drop 0).take (Try.prog.cellsOf 3)) = some y0 := hf 0 _ rfl
    have f1 : DataW.trod enc Try.prog w base spare held n 3 ((cs.drop 1).take (Try.prog.cellsOf 3)) = some y1 := hf 1 _ rfl
    have f2 : DataW.trod enc Try.prog w base spare held n 41 ((cs.drop 2).take (Try.prog.cellsOf 41)) = some y2 := hf 2 _ rfl
    have f3 : DataW.trod enc Try.prog w base spare held n 4 ((cs.drop 83).take (Try.prog.cellsOf 4)) = some y3 := hf 3 _ rfl
    rw [cells_int] at f0 f1
    rw [cells_R] at f2
    rw [cells_bool] at f3
    obtain ⟨z0, e0, _, _⟩ := DataW.trod_int Try.underlying3 f0
    obtain ⟨z1, e1, _, _⟩ := DataW.trod_int Try.underlying3 f1
    obtain ⟨z2, e2, b2, b3⟩ := ro_of f2
    obtain ⟨z3, e3, _⟩ := DataW.trod_bool Try.underlying4 f3
    refine ⟨⟨z0, z1, z2, z3⟩, ?_, b2, b3⟩
    have g0 := drop_split cs 0 1 1 rfl
    have g1 := drop_split cs 1 1 2 rfl
    have g2 := drop_split cs 2 81 83 rfl
    have g3 := drop_split cs 83 1 84 rfl
    have gl : cs.drop 84 = [] := List.drop_eq_nil_of_le (by omega)
    rw [gl, e3] at g3
    rw [g3, e2] at g2
    rw [g2, e1] at g1
    rw [g1, e0] at g0
    rw [List.drop_zero] at g0
    rw [g0]
    simp [acs]
variable {r : Reach} {b0 : Nat} {v : Value} {d : DataW H} {p : List MemPlace}
set_option maxRecDepth 100000 in
theorem openK (hv : Value.okWide Try.prog w r b0 22 v) (h : DataW.Trod enc Try.prog w base (fun _ => true) held 22 v d p) : ∃ (ad : Option Addr) (cap : Nat) (l : List Ac), v = .slice ad l.length cap ∧ AsW w ad l ∧ (∀ q ∈ l, AcFit q) ∧ l.length ≤ maxLen := by
  obtain ⟨ad, len, cap, l, rfl, e, hf, hl, h1, h2⟩ := openG acs 84 zeroAc AcFit Try.underlying22 cells_G (by decide) acs_len ac_of hv h
  subst e
  exact ⟨ad, cap, l, rfl, ⟨hl⟩, hf, by omega⟩
end
end Go.Proofs.Ythofoocknmkdjaa
