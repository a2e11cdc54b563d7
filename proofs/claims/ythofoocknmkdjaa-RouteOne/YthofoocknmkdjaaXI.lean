/-
  live: a route is told, reckoned, and forgotten.
-/
import Derived.Test.YthofoocknmkdjaaXG
namespace Go.Proofs.Ythofoocknmkdjaa
open Go.RowKit Go.Maps Go.Shelf
set_option linter.unusedSimpArgs false
set_option linter.unusedVariables false
set_option maxRecDepth 20000
def a32 : Ad := ⟨[32, 0, 0, 0, 0, 0, 0, 0, 0, 0, 0, 0, 0, 0, 0, 0], rfl⟩
def aF2 : Ad := ⟨[254, 128, 0, 0, 0, 0, 0, 0, 0, 0, 0, 0, 0, 0, 0, 2], rfl⟩
def p0 : Pr := ⟨⟨a32, 8⟩, zeroP⟩
def i0 : Id8 := ⟨[0, 0, 0, 0, 0, 0, 0, 1], rfl⟩
def n0 : Ro := ⟨p0, 0, aF2, i0, 1, 100, 0, zeroA, 0, 1000, false⟩
def n1 : Ro := ⟨p0, 0, aF2, i0, 1, 100, 65535, zeroA, 1000, 1000, false⟩
def n2 : Ro := ⟨p0, 0, aF2, i0, 1, 100, 196, zeroA, 1000, 1000, false⟩
def n3 : Ro := ⟨p0, 0, aF2, i0, 1, 65535, 196, zeroA, 2000, 1000, false⟩
theorem bdA32 (w : World) : (Instr.build 32 #[(0, .int .u8 32)]).run Try.prog w = .ok (Value.agg (acells a32).toArray) w := by kernel_rfl
theorem bdAF2 (w : World) : (Instr.build 32 #[(0, .int .u8 254), (1, .int .u8 128), (15, .int .u8 2)]).run Try.prog w = .ok (Value.agg (acells aF2).toArray) w := by kernel_rfl
theorem bdP32 (w : World) : (Instr.build 34 #[(0, (Value.agg (acells a32).toArray)), (1, .int .i64 8)]).run Try.prog w = .ok (Value.agg (pcells (⟨a32, 8⟩)).toArray) w := by kernel_rfl
theorem bdQ32 (w : World) : (Instr.build 36 #[(0, (Value.agg (pcells (⟨a32, 8⟩)).toArray))]).run Try.prog w = .ok (Value.agg (qcells p0).toArray) w := by kernel_rfl
theorem bdI01 (w : World) : (Instr.build 38 #[(7, .int .u8 1)]).run Try.prog w = .ok (idV i0) w := by kernel_rfl
theorem bdN0 (w : World) : (Instr.build 41 #[(0, (Value.agg (qcells p0).toArray)), (2, (Value.agg (acells aF2).toArray)), (3, idV i0), (4, .int .u16 1), (5, .int .u16 100), (9, .int .i64 1000)]).run Try.prog w = .ok (rV n0) w := by kernel_rfl
theorem num_any (e : Int) (w : World) : Calls Try.prog 30 #[.int .i64 e] w fun e' w' => e' = .returned (.int .i64 e) ∧ w = w' := by
  go_enter Try.func30, Try.ntmps30
  go_wp2
  go_ret
  exact ⟨rfl, rfl⟩
/-- What a way costs. -/
def plusC (n : Ro) : Int := if 65439 < n.r then 65535 else if n.r < 0 then 0 else n.r + 96
theorem plus_any (n : Ro) (w : World) (h : n.ok) : Calls Try.prog 31 #[rV n] w (Gives w (.int .u16 (plusC n))) := by
  have h0 := h.r0
  have h1 := h.r1
  have c60 := ((Row.new w 41 (ocs n)).cell 60).trans (oc60 n)
  clear h
  by_cases hr : 65439 < n.r
  · have hc : plusC n = 65535 := by unfold plusC; rw [if_pos hr]
    rw [hc]
    clear hc
    go_enter Try.func31, Try.ntmps31
    go_wp2_with fail
    go_ret
    exact ⟨rfl, ba _ _⟩
  · have hc : plusC n = n.r + 96 := by unfold plusC; rw [if_neg hr, if_neg (by omega)]
    have hw : IntKind.u16.wrap (n.r + 96) = n.r + 96 := by simp [IntKind.wrap, IntKind.signed, IntKind.bits]; omega
    rw [hc]
    clear hc
    go_enter Try.func31, Try.ntmps31
    go_wp2_with fail
    go_ret
    exact ⟨by first | rfl | exact congrArg (fun z => Ending.returned (Value.int .u16 z)) hw, ba _ _⟩
theorem plus0 (n : Ro) : 0 ≤ plusC n := by unfold plusC; split <;> (try split) <;> omega
theorem plus1 (n : Ro) (h : n.ok) : plusC n < 65536 := by have := h.r1; unfold plusC; split <;> (try split) <;> omega
theorem en_plus : ∀ args w, (callFunc 31 args).run Try.prog w = .ok (.enter 31 args) w := enters_of Try.func31 (by kernel_rfl) rfl
theorem reckonP_any {w : World} {t mb : Nat} {most : Int} {L : List Ro} (h : Tb w t mb most L) :
    Calls Try.prog 29 #[.pointer (some ⟨t, 0, none⟩), .func (.func 31) #[] #[]] w fun e w' => ∃ a c K, e = .returned (.slice a (pairsR (chgR plusC K)).length c) ∧ K.Perm L ∧ Asc K ∧ kP.Own w' w.heap.size (.slice a (pairsR (chgR plusC K)).length c) (pairsR (chgR plusC K)) ∧ Turn w w' t mb most (mapR (costF plusC) (costB plusC) L) :=
  reckon_any h plusC _ en_plus (fun n W hn => plus_any n W hn) plus0 plus1
theorem tick_one {w : World} {t mb : Nat} {most : Int} {n : Ro} (h : Tb w t mb most [n]) (now : Int) (ha : 0 ≤ now) (hb : now ≤ 17592186044416) (hl : lateB now n = true) :
    Calls Try.prog 28 #[.pointer (some ⟨t, 0, none⟩), .int .i64 now] w fun e w' => ∃ a1 c1 a2 c2, e = .returned (.tuple #[.slice a1 (expR [n]).length c1, .slice a2 (goneR now [n]).length c2]) ∧ Turn w w' t mb most (tickR now [n] [n]) := by
  refine (tick_any h now ha hb).mono ?_
  rintro e w' ⟨a1, c1, a2, c2, K, hp, _, rfl, hT, _⟩
  have e1 : [n].filter (lateB now) = [n] := by simp [hl]
  rw [e1] at hp
  obtain rfl := List.perm_singleton.1 hp
  exact ⟨a1, c1, a2, c2, rfl, hT⟩
theorem reckon_one {w : World} {t mb : Nat} {most : Int} {n : Ro} (h : Tb w t mb most [n]) :
    Calls Try.prog 29 #[.pointer (some ⟨t, 0, none⟩), .func (.func 31) #[] #[]] w fun e w' => ∃ a c, e = .returned (.slice a (pairsR (chgR plusC [n])).length c) ∧ Turn w w' t mb most (mapR (costF plusC) (costB plusC) [n]) := by
  refine (reckonP_any h).mono ?_
  rintro e w' ⟨a, c, K, rfl, hp, _, _, hT⟩
  obtain rfl := List.perm_singleton.1 hp
  exact ⟨a, c, rfl, hT⟩
theorem list_len {w : World} {t mb : Nat} {most : Int} {L : List Ro} (h : Tb w t mb most L) : Calls Try.prog 14 #[.pointer (some ⟨t, 0, none⟩)] w fun e w' => ∃ a c, e = .returned (.slice a L.length c) ∧ Below w.heap.size w w' := by
  refine (list_any h).mono ?_
  rintro e w' ⟨a, c, K, rfl, hp, _, _, hB⟩
  exact ⟨a, c, by rw [hp.length_eq], hB⟩
theorem lvT : tellR 2 [] 0 n0 true = (1, 0, [n1]) := rfl
section
variable {ops : Array Oper} {rest : List Oper} {op : Oper} {a : Act} {w : World} {Q : Exit → Act → World → Prop}
theorem bdV {T : TypeId} {v : Value} (parts : List (Nat × Operand)) (vals : List (Nat × Value)) (hw : Region.wanted op (yielded ops a.tmps) = true) (ho : op.op = .build T parts.toArray)
    (he : parts.map (fun p => (p.1, a.eval p.2)) = vals) (hv : (Instr.build T vals.toArray).run Try.prog w = .ok v w)
    (h : wpList Try.prog ops Q rest (a.put op.dst v) w) : wpList Try.prog ops Q (op :: rest) a w := bdG parts hw ho (by rw [he]; exact hv) h
end
theorem wf0 : wfK n0.k := ⟨⟨rfl, rfl⟩, rfl⟩
set_option maxHeartbeats 8000000 in
theorem live_any (w : World) : Calls Try.prog 10 #[] w (Gives w (.bool true)) := by
  have hN := new_any 2 w
  obtain ⟨t, ht⟩ : ∃ t, w.heap.size + 1 = t := ⟨_, rfl⟩
  obtain ⟨mb, hmb⟩ : ∃ mb, w.heap.size = mb := ⟨_, rfl⟩
  have HB : Hid (∀ (W W' : World) (L : List Ro), Below w.heap.size w W → Turn W W' t mb 2 L → Below w.heap.size w W') := fun W W' L hb hT => hT.below hb (by omega) hb.size
  have HM : Hid (w.heap.size = mb) := hmb
  have hN' : Calls Try.prog 11 #[.int .i64 2] w fun e w' => e = .returned (.pointer (some ⟨t, 0, none⟩)) ∧ Tb w' t mb 2 [] ∧ Below w.heap.size w w' := by rw [← hmb, ← ht]; exact hN
  clear hN ht hmb
  have HD : Hid (∃ (va vb vp vq vi : Value) (x0 x1 x2 x3 : Ro),
      (∀ w, (Instr.build 32 #[(0, .int .u8 32)]).run Try.prog w = .ok va w) ∧ (∀ w, (Instr.build 34 #[(0, va), (1, .int .i64 8)]).run Try.prog w = .ok vp w) ∧ (∀ w, (Instr.build 36 #[(0, vp)]).run Try.prog w = .ok vq w) ∧
      (∀ w, (Instr.build 32 #[(0, .int .u8 254), (1, .int .u8 128), (15, .int .u8 2)]).run Try.prog w = .ok vb w) ∧ (∀ w, (Instr.build 38 #[(7, .int .u8 1)]).run Try.prog w = .ok vi w) ∧
      (∀ w, (Instr.build 41 #[(0, vq), (2, vb), (3, vi), (4, .int .u16 1), (5, .int .u16 100), (9, .int .i64 1000)]).run Try.prog w = .ok (rV x0) w) ∧
      (∀ W, Tb W t mb 2 [] → Calls Try.prog 26 #[.pointer (some ⟨t, 0, none⟩), .int .i64 0, rV x0, .bool true] W fun e w' => e = .returned (.tuple #[.int .i64 1, .int .i64 0]) ∧ Turn W w' t mb 2 [x1]) ∧
      (∀ W, Tb W t mb 2 [x1] → Calls Try.prog 29 #[.pointer (some ⟨t, 0, none⟩), .func (.func 31) #[] #[]] W fun e w' => ∃ a c, e = .returned (.slice a 1 c) ∧ Turn W w' t mb 2 [x2]) ∧
      (∀ W, Tb W t mb 2 [x2] → Calls Try.prog 15 #[.pointer (some ⟨t, 0, none⟩), (Value.agg (qcells x0.p).toArray), .int .i64 0, (Value.agg (acells x0.a).toArray)] W (Gives W (.tuple #[rV x2, .bool true]))) ∧
      (∀ W, Tb W t mb 2 [x2] → Calls Try.prog 28 #[.pointer (some ⟨t, 0, none⟩), .int .i64 1000] W fun e w' => ∃ a1 c1 a2 c2, e = .returned (.tuple #[.slice a1 1 c1, .slice a2 0 c2]) ∧ Turn W w' t mb 2 [x3]) ∧
      (∀ W, Tb W t mb 2 [x3] → Calls Try.prog 28 #[.pointer (some ⟨t, 0, none⟩), .int .i64 2000] W fun e w' => ∃ a1 c1 a2 c2, e = .returned (.tuple #[.slice a1 0 c1, .slice a2 1 c2]) ∧ Turn W w' t mb 2 []) ∧ x2.m = 196) :=
    ⟨(Value.agg (acells a32).toArray), (Value.agg (acells aF2).toArray), (Value.agg (pcells (⟨a32, 8⟩)).toArray), (Value.agg (qcells p0).toArray), idV i0, n0, n1, n2, n3, bdA32, bdP32, bdQ32, bdAF2, bdI01, bdN0,
      fun W h => by
        have := tell_any h n0 0 true (by omega) (by omega) wf0 ⟨by decide, by decide, by decide, by decide, by decide, by decide⟩ (by simp)
        rwa [lvT] at this,
      fun W h => reckon_one h, fun W h => get_any h n0.k wf0, fun W h => tick_one h 1000 (by omega) (by omega) rfl, fun W h => tick_one h 2000 (by omega) (by omega) rfl, rfl⟩
  obtain ⟨va, vb, vp, vq, vi, x0, x1, x2, x3, dA, dP, dQ, dB, dI, dN, K1, R1, G1, T1, T2, e61⟩ := HD.out
  clear HD
  have L1 : ∀ W, Tb W t mb 2 [] → Calls Try.prog 14 #[.pointer (some ⟨t, 0, none⟩)] W fun e w' => ∃ a c, e = .returned (.slice a 0 c) ∧ Below W.heap.size W w' := fun W h => list_len h
  go_enter Try.func10, Try.ntmps10
  go_wp2_with (first
    | (have kk := s9; go_at_call 14; refine (L1 _ s9).mono ?_; rintro e w10 ⟨a10, z10, rfl, k10⟩; have bF := bt b9 k10; (try simp only [Act.put, List.setIfInBounds_toArray, List.set_cons_zero, List.set_cons_succ]))
    | (have kk := s9; go_at_call 30; refine (num_any _ _).mono ?_; rintro e w' ⟨rfl, rfl⟩; (try simp only [Act.put, List.setIfInBounds_toArray, List.set_cons_zero, List.set_cons_succ]))
    | (have kk := s8; go_at_call 28; refine (T2 _ s8).mono ?_; rintro e w9 ⟨a9, z9, a9', z9', rfl, hT9⟩; have s9 := hT9.tb; have b9 := HB.out _ _ _ b8 hT9; have c61 := ((q8.keep hT9.gr ng6).cell 61).trans (oc61 x2); rw [e61] at c61; clear s8; (try simp only [Act.put, List.setIfInBounds_toArray, List.set_cons_zero, List.set_cons_succ]))
    | (have kk := s6; go_at_call 28; refine (T1 _ s6).mono ?_; rintro e w8 ⟨a8, z8, a8', z8', rfl, hT8⟩; have s8 := hT8.tb; have b8 := HB.out _ _ _ b6 hT8; have q8 := r6.keep hT8.gr ng6; clear s6; (try simp only [Act.put, List.setIfInBounds_toArray, List.set_cons_zero, List.set_cons_succ]))
    | (have kk := r5; refine stS (.tmp 6) (.tmp 36) rfl rfl g5 x2 _ rfl rfl r5 ?_; intro W6 g6 r6; have b56 := grown_below g6 hB5 hge5 hB5.size; have s6 := s4.below b56; have b6 := bt b4 b56; clear r5; (try simp only [Act.put, List.setIfInBounds_toArray, List.set_cons_zero, List.set_cons_succ]))
    | (have kk := s4; refine alG infoRz rfl rfl ?_; intro g5 W5 hge5 hgl5 hB5 r5; have ng6 : g5 ≠ mb := (by have := s4.map.lt; omega); (try simp only [Act.put, List.setIfInBounds_toArray, List.set_cons_zero, List.set_cons_succ]))
    | (have kk := s3; go_at_call 15; refine (G1 _ s3).mono ?_; rintro e w4 ⟨rfl, k4⟩; have s4 := s3.below k4; have b4 := bt b3 k4; clear s3; (try simp only [Act.put, List.setIfInBounds_toArray, List.set_cons_zero, List.set_cons_succ]))
    | (have kk := s3; refine ldA (.tmp 33) rfl rfl _ _ x0.a rfl (by have := qn3.ro.a; simpa using this) ?_; (try simp only [Act.put, List.setIfInBounds_toArray, List.set_cons_zero, List.set_cons_succ]))
    | (have kk := s3; refine ldQ (.tmp 31) rfl rfl _ _ x0.p rfl qn3.ro.q ?_; (try simp only [Act.put, List.setIfInBounds_toArray, List.set_cons_zero, List.set_cons_succ]))
    | (have kk := s2; go_at_call 29; refine (R1 _ s2).mono ?_; rintro e w3 ⟨a3, z3, rfl, hT3⟩; have s3 := hT3.tb; have b3 := HB.out _ _ _ b2 hT3; have qn3 := qn2.keep hT3.gr nn; clear s2; (try simp only [Act.put, List.setIfInBounds_toArray, List.set_cons_zero, List.set_cons_succ]))
    | (have kk := s1; go_at_call 26; refine (K1 _ s1).mono ?_; rintro e w2 ⟨rfl, hT2⟩; have s2 := hT2.tb; have b2 := HB.out _ _ _ b1 hT2; have qn2 := qn1.keep hT2.gr nn; clear s1; (try simp only [Act.put, List.setIfInBounds_toArray, List.set_cons_zero, List.set_cons_succ]))
    | (have kk := s1; refine ldS (.tmp 2) rfl rfl _ _ x0 rfl qn1.ro ?_; (try simp only [Act.put, List.setIfInBounds_toArray, List.set_cons_zero, List.set_cons_succ]))
    | (have kk := rn; refine stS (.tmp 2) (.tmp 18) rfl rfl gn x0 _ rfl rfl rn ?_; intro Wn1 gn1 qn1; have bn0 := grown_below gn1 hBn hgen hBn.size; have s1 := s0.below bn0; have b1 := bt b0 bn0; clear rn; (try simp only [Act.put, List.setIfInBounds_toArray, List.set_cons_zero, List.set_cons_succ]))
    | (have kk := mk0; refine alG infoRz rfl rfl ?_; intro gn Wn hgen hgln hBn rn; have nn : gn ≠ mb := (by have := HM.out; have := hz0; omega); clear mk0 kk; (try simp only [Act.put, List.setIfInBounds_toArray, List.set_cons_zero, List.set_cons_succ]))
    | ((with_reducible refine bdV (T := 41) (v := rV x0) [(0, .tmp 15), (2, .tmp 16), (3, .tmp 17), (4, .const (.int .u16 1)), (5, .const (.int .u16 100)), (9, .const (.int .i64 1000))] [(0, vq), (2, vb), (3, vi), (4, .int .u16 1), (5, .int .u16 100), (9, .int .i64 1000)] ?_ ?_ ?_ ?_ ?_); (focus rfl); (focus rfl); (focus rfl); (focus exact dN _); have mk0 := True.intro; (try simp only [Act.put, List.setIfInBounds_toArray, List.set_cons_zero, List.set_cons_succ]))
    | ((with_reducible refine bdG (T := 38) (v := vi) [(7, .const (.int .u8 1))] ?_ ?_ ?_ ?_); (focus rfl); (focus rfl); (focus exact dI _); (try simp only [Act.put, List.setIfInBounds_toArray, List.set_cons_zero, List.set_cons_succ]))
    | ((with_reducible refine bdG (T := 32) (v := vb) [(0, .const (.int .u8 254)), (1, .const (.int .u8 128)), (15, .const (.int .u8 2))] ?_ ?_ ?_ ?_); (focus rfl); (focus rfl); (focus exact dB _); (try simp only [Act.put, List.setIfInBounds_toArray, List.set_cons_zero, List.set_cons_succ]))
    | ((with_reducible refine bdG (T := 36) (v := vq) [(0, .tmp 14)] ?_ ?_ ?_ ?_); (focus rfl); (focus rfl); (focus exact dQ _); (try simp only [Act.put, List.setIfInBounds_toArray, List.set_cons_zero, List.set_cons_succ]))
    | ((with_reducible refine bdG (T := 34) (v := vp) [(0, .tmp 13), (1, .const (.int .i64 8))] ?_ ?_ ?_ ?_); (focus rfl); (focus rfl); (focus exact dP _); (try simp only [Act.put, List.setIfInBounds_toArray, List.set_cons_zero, List.set_cons_succ]))
    | ((with_reducible refine bdG (T := 32) (v := va) [(0, .const (.int .u8 32))] ?_ ?_ ?_ ?_); (focus rfl); (focus rfl); (focus exact dA _); (try simp only [Act.put, List.setIfInBounds_toArray, List.set_cons_zero, List.set_cons_succ]))
    | (go_at_call 11; refine hN'.mono ?_; rintro e w0 ⟨rfl, s0, b0⟩; have hz0 : w.heap.size + 1 ≤ w0.heap.size := (by have := s0.map.lt; have := HM.out; omega); (try simp only [Act.put, List.setIfInBounds_toArray, List.set_cons_zero, List.set_cons_succ])))
  go_ret
  exact ⟨rfl, bF⟩
end Go.Proofs.Ythofoocknmkdjaa
