/-
  live, ahead: its values, what is done with them; a nil kernel.
-/
import Derived.Test.YtadnnjngflphjaaBD
namespace Go.Proofs.Ytadnnjngflphjaa
open Go.RowKit Go.Maps Go.Shelf
set_option linter.unusedSimpArgs false
set_option linter.unusedVariables false
set_option maxRecDepth 20000
/-- An address of IPv4. -/
def m4 (a b c d : UInt8) : Ad := ⟨[0, 0, 0, 0, 0, 0, 0, 0, 0, 0, 255, 255, a, b, c, d], rfl⟩
theorem bdM (a b c d : UInt8) (w : World) : (Instr.build 31 #[(10, .int .u8 255), (11, .int .u8 255), (12, .int .u8 (a.toNat : Int)), (13, .int .u8 (b.toNat : Int)), (14, .int .u8 (c.toNat : Int)), (15, .int .u8 (d.toNat : Int))]).run Try.prog w = .ok (Value.agg (acells (m4 a b c d)).toArray) w := by kernel_rfl
theorem lvA' {w : World} {b o : Nat} {a : Ad} (h : LA w b o a) : (loadVar 31 ⟨b, o, none⟩).run Try.prog w = .ok (Value.agg (acells a).toArray) w :=
  run_loadVar_mid w b o _ (acells a) _ h Try.underlying31 rfl (by rw [infoA, acells_len])
theorem infoAz : (Try.prog.info? 31).map (·.zero) = some (some (.agg (acells zeroA).toArray)) := by kernel_rfl
theorem stA0 {ops : Array Oper} {rest : List Oper} {op : Oper} {a : Act} {w : World} {Q : Exit → Act → World → Prop} (x y : Operand) (hw : Region.wanted op (yielded ops a.tmps) = true) (ho : op.op = .store 31 x y) (b : Nat) (n u : Ad) (hx : a.eval x = .pointer (some ⟨b, 0, none⟩)) (hy : a.eval y = (Value.agg (acells n).toArray)) (hr : Row w b 31 (acells u))
    (h : ∀ W, w.grownBy W (some b) → Row W b 31 (acells n) → wpList Try.prog ops Q rest (a.put op.dst undef) W) : wpList Try.prog ops Q (op :: rest) a w :=
  wpList_step fun K hK => by
    rw [if_pos hw]
    refine wp_store_mid _ x y ho b 0 _ hx hy (by simpa [acells_len] using hr.there (n := 16) (by rw [acells_len]; omega)) (by rw [infoA]; simp [acells_len]) (all_oneCell_toArray (acells_one n)) (hK _ _ (h _ (grownBy_setCells b _ _ _) ?_))
    have := Row.setCells (acells n) [] w (acells u) hr (by rw [acells_len, acells_len])
    simpa using this
theorem func4_any (a b c d : UInt8) (w : World) : Calls Try.prog 26 #[.int .u8 (a.toNat : Int), .int .u8 (b.toNat : Int), .int .u8 (c.toNat : Int), .int .u8 (d.toNat : Int)] w (Gives w (Value.agg (acells (m4 a b c d)).toArray)) := by
  go_enter Try.func26, Try.ntmps26
  go_wp2_with (first
    | (have kk := q8; (with_reducible refine stA0 (.tmp 8) (.tmp 13) ?_ ?_ g8 (m4 a b c d) zeroA ?_ ?_ ?_ ?_); (focus rfl); (focus rfl); (focus rfl); (focus rfl); (focus exact q8); intro W3 gr3 r3; have k3 := grown_below gr3 b8 h8 b8.size)
    | ((with_reducible refine bdG (T := 31) (v := (Value.agg (acells (m4 a b c d)).toArray)) [(10, .const (.int .u8 255)), (11, .const (.int .u8 255)), (12, .tmp 9), (13, .tmp 10), (14, .tmp 11), (15, .tmp 12)] ?_ ?_ ?_ ?_); (focus rfl); (focus rfl); (focus exact bdM a b c d _))
    | ((with_reducible refine alG infoAz ?_ ?_ ?_); (focus rfl); (focus rfl); intro g8 W2 h8 l8 b8 q8))
  exact bodyPost_ret (retC rfl _ g8 0 rfl (lvA' r3.range)) rfl ⟨rfl, k3⟩
def any4 : Pf := ⟨m4 0 0 0 0, 96⟩
theorem bdRA (w : World) : (Instr.build 31 #[(10, .int .u8 255), (11, .int .u8 255)]).run Try.prog w = .ok (Value.agg (acells (m4 0 0 0 0)).toArray) w := by kernel_rfl
theorem bdRP (w : World) : (Instr.build 33 #[(0, (Value.agg (acells (m4 0 0 0 0)).toArray)), (1, .int .i64 96)]).run Try.prog w = .ok (Value.agg (pcells any4).toArray) w := by kernel_rfl
theorem rany_any (w : World) : Calls Try.prog 27 #[.int .i64 4] w (Gives w (Value.agg (pcells any4).toArray)) := by
  go_enter Try.func27, Try.ntmps27
  go_wp2_with (first
    | (have kk := q2; (with_reducible refine stP0 (.tmp 2) (.tmp 6) ?_ ?_ g2 any4 zeroP ?_ ?_ ?_ ?_); (focus rfl); (focus rfl); (focus rfl); (focus rfl); (focus exact q2); intro W3 gr3 r3; have k3 := grown_below gr3 b2 h2 b2.size)
    | ((with_reducible refine bdG (T := 33) (v := (Value.agg (pcells any4).toArray)) [(0, .tmp 5), (1, .const (.int .i64 96))] ?_ ?_ ?_ ?_); (focus rfl); (focus rfl); (focus exact bdRP _))
    | ((with_reducible refine bdG (T := 31) (v := (Value.agg (acells (m4 0 0 0 0)).toArray)) [(10, .const (.int .u8 255)), (11, .const (.int .u8 255))] ?_ ?_ ?_ ?_); (focus rfl); (focus rfl); (focus exact bdRA _))
    | ((with_reducible refine alG infoPz ?_ ?_ ?_); (focus rfl); (focus rfl); intro g2 W2 h2 l2 b2 q2))
  exact bodyPost_ret (retC rfl _ g2 0 rfl (lvP r3.range)) rfl ⟨rfl, k3⟩
theorem import_nil (v : Value) (w : World) : Calls Try.prog 13 #[.pointer none, v] w fun e w' => e = .returned (.int .i64 0) ∧ w = w' := by
  go_enter Try.func13, Try.ntmps13
  go_wp2
  go_ret
  exact ⟨rfl, rfl⟩
theorem copy_nil (w : World) : Calls Try.prog 15 #[.pointer none] w fun e w' => e = .returned (.pointer none) ∧ w = w' := by
  go_enter Try.func15, Try.ntmps15
  go_wp2
  go_ret
  exact ⟨rfl, rfl⟩
/-! ### The values of live -/
def eA : En := ⟨⟨⟨m4 10 0 0 0, 104⟩, any4⟩, 1, zeroA⟩
def eB : En := ⟨⟨⟨m4 10 1 0 0, 112⟩, ⟨m4 1 0 0 0, 104⟩⟩, 2, zeroA⟩
def hA : Hd := ⟨eA, false⟩
def hB : Hd := ⟨eB, false⟩
theorem wfA : wfQ eA.p := ⟨wf_small (by decide) (by decide), wf_small (by decide) (by decide)⟩
theorem wfB : wfQ eB.p := ⟨wf_small (by decide) (by decide), wf_small (by decide) (by decide)⟩
theorem do1 : doF 0 [] ⟨1, eA⟩ = (true, 0, [hA]) := by kernel_rfl
theorem do2 : doF 0 [hA] ⟨1, eB⟩ = (true, 0, [hA, hB]) := by kernel_rfl
theorem do3 : doF 1 [hA, hB] ⟨3, eA⟩ = (false, 0, [hA, hB]) := by kernel_rfl
theorem do4 : doF 0 [hA, hB] ⟨3, eA⟩ = (true, 0, [hB]) := by kernel_rfl
theorem lk1 : lookR [hA, hB] (m4 1 1 1 1) (m4 10 1 2 3) = some hB := by kernel_rfl
theorem lk2 : lookR [hA, hB] (m4 2 2 2 2) (m4 10 1 2 3) = none := by kernel_rfl
theorem lk3 : lookR [hA, hB] (m4 2 2 2 2) (m4 10 2 2 2) = some hA := by kernel_rfl
theorem sl1 : sel false [hB] = [eB] := by kernel_rfl
theorem bdEA1 (w : World) : (Instr.build 33 #[(0, (Value.agg (acells (m4 10 0 0 0)).toArray)), (1, .int .i64 104)]).run Try.prog w = .ok (Value.agg (pcells (⟨m4 10 0 0 0, 104⟩)).toArray) w := by kernel_rfl
theorem bdEA2 (w : World) : (Instr.build 35 #[(0, (Value.agg (pcells (⟨m4 10 0 0 0, 104⟩)).toArray)), (1, (Value.agg (pcells any4).toArray))]).run Try.prog w = .ok (Value.agg (qcells eA.p).toArray) w := by kernel_rfl
theorem bdEA3 (w : World) : (Instr.build 37 #[(0, (Value.agg (qcells eA.p).toArray)), (1, .int .i64 1)]).run Try.prog w = .ok (eV eA) w := by kernel_rfl
theorem bdEB1 (w : World) : (Instr.build 33 #[(0, (Value.agg (acells (m4 10 1 0 0)).toArray)), (1, .int .i64 112)]).run Try.prog w = .ok (Value.agg (pcells (⟨m4 10 1 0 0, 112⟩)).toArray) w := by kernel_rfl
theorem bdEB0 (w : World) : (Instr.build 33 #[(0, (Value.agg (acells (m4 1 0 0 0)).toArray)), (1, .int .i64 104)]).run Try.prog w = .ok (Value.agg (pcells (⟨m4 1 0 0 0, 104⟩)).toArray) w := by kernel_rfl
theorem bdEB2 (w : World) : (Instr.build 35 #[(0, (Value.agg (pcells (⟨m4 10 1 0 0, 112⟩)).toArray)), (1, (Value.agg (pcells (⟨m4 1 0 0 0, 104⟩)).toArray))]).run Try.prog w = .ok (Value.agg (qcells eB.p).toArray) w := by kernel_rfl
theorem bdEB3 (w : World) : (Instr.build 37 #[(0, (Value.agg (qcells eB.p).toArray)), (1, .int .i64 2)]).run Try.prog w = .ok (eV eB) w := by kernel_rfl
/-! ### The acts of live -/
section
variable {w : World} {b k : Nat}
theorem lv_do {n : Int} {F : List Hd} (h : Kn w b k n F) (o : Oq) (hi : wfQ o.e.p) (n0 : 0 ≤ n) (n1 : n ≤ 10) (hF : F.length ≤ 10) {r : Bool} {m : Int} {G : List Hd} (e : doF n F o = (r, m, G)) : Calls Try.prog 10 #[.pointer (some ⟨k, 0, none⟩), oV o] w fun e w' => e = .returned (.bool r) ∧ Kn w' b k m G ∧ KT w w' b k := by
  refine (do_any h o hi n0 (by omega) (by omega)).mono ?_
  rintro e' w' ⟨h1, h2, h3⟩
  rw [e] at h1 h2
  exact ⟨h1, h2, h3⟩
theorem lv_look {n : Int} {F : List Hd} (h : Kn w b k n F) (src dst : Ad) {o : Option Hd} (e : lookR F src dst = o) : Calls Try.prog 19 #[.pointer (some ⟨k, 0, none⟩), (Value.agg (acells src).toArray), (Value.agg (acells dst).toArray)] w (Gives w (.tuple #[eV (o.getD zeroH).e, .bool o.isSome])) := by
  subst e
  exact lookup_any h src dst
theorem lv_list {n : Int} {F : List Hd} (h : Kn w b k n F) {x : En} (e : sel false F = [x]) (hF : F.length ≤ 10 := by decide) : Calls Try.prog 17 #[.pointer (some ⟨k, 0, none⟩)] w fun e w' => ∃ a c, e = .returned (.slice a 1 c) ∧ Below w.heap.size w w' := by
  refine (List_any h (by omega)).mono ?_
  rintro e' w' ⟨a, c, K, rfl, h1, _, _, h4⟩
  have hl := h1.length_eq
  rw [e] at hl
  exact ⟨a, c, by rw [hl]; rfl, h4⟩
end
end Go.Proofs.Ytadnnjngflphjaa
