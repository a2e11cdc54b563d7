/-
  A new kernel; how many calls are to fail; Do.
-/
import Derived.Test.YtadnnjngflphjaaB7
namespace Go.Proofs.Ytadnnjngflphjaa
open Go.RowKit Go.Maps
set_option linter.unusedSimpArgs false
set_option linter.unusedVariables false
set_option maxRecDepth 20000
section
variable {ops : Array Oper} {rest : List Oper} {op : Oper} {a : Act} {w w' : World} {Q : Exit → Act → World → Prop} {K : Act → World → Prop} {E : Prop} {S : World → Prop}
theorem st64g (x y : Operand) (hw : Region.wanted op (yielded ops a.tmps) = true) (ho : op.op = .store 3 x y) (b c : Nat) {U : TypeId} (cs : List Value) (n : Int) (hx : a.eval x = .pointer (some ⟨b, c, none⟩)) (hy : a.eval y = .int .i64 n) (hr : Row w b U cs) (hc : c < cs.length)
    (h : ∀ W, w.grownBy W (some b) → Row W b U (cs.set c (.int .i64 n)) → wpList Try.prog ops Q rest (a.put op.dst undef) W) : wpList Try.prog ops Q (op :: rest) a w :=
  wpList_step fun K hK => by
    rw [if_pos hw]
    have c1 : w.cell? ⟨b, c, none⟩ = some cs[c] := by rw [hr.cell]; exact List.getElem?_eq_getElem hc
    have c2 := hr.frozen c
    have h1 := h _ (grownBy_setCell w b c (.int .i64 n)) (hr.set c (.int .i64 n))
    unfold Oper.wp execOp
    simp only [ho, hx, hy]
    go_simp
    exact hK _ _ h1
end
theorem run_mkO (w : World) : (Instr.makeMap 61 none).run Try.prog w = .ok (.map (some w.heap.size)) (w.alloc (.map #[] 0)) := by kernel_rfl
theorem bdK (r : Nat) (w : World) : (Instr.build 63 #[(1, .map (some r))]).run Try.prog w = .ok (.agg #[.int .i64 0, .map (some r)]) w := by kernel_rfl
theorem run_boxK (r : Nat) (w : World) : (Instr.box 63 (.agg #[.int .i64 0, .map (some r)])).run Try.prog w = .ok (.pointer (some ⟨w.heap.size, 0, none⟩)) (w.alloc (.cells #[.int .i64 0, .map (some r)] 63)) := by
  simp [Instr.box, newVar, newRow, newObj, Value.cells]; rfl
theorem new_kn (w : World) : Kn ((w.alloc (.map #[] 0)).alloc (.cells #[.int .i64 0, .map (some w.heap.size)] 63)) w.heap.size (w.heap.size + 1) 0 [] ∧ Below w.heap.size w ((w.alloc (.map #[] 0)).alloc (.cells #[.int .i64 0, .map (some w.heap.size)] 63)) := by
  have hr := Row.new (w.alloc (.map #[] 0)) 63 [.int .i64 0, .map (some w.heap.size)]
  rw [World.size_alloc] at hr
  have hM := (Mp.new mO w).below (ba (w.alloc (.map #[] 0)) (.cells #[.int .i64 0, .map (some w.heap.size)] 63)) (by simp)
  exact ⟨⟨w.heap.size, [], ⟨hr, ⟨hM, by simp, by simp, by simp, Nat.le_refl _⟩, by omega⟩, by simp, .refl _⟩, bt (ba _ _) (ba _ _)⟩
theorem new_any (w : World) : Calls Try.prog 9 #[] w fun e w' => e = .returned (.pointer (some ⟨w.heap.size + 1, 0, none⟩)) ∧ Kn w' w.heap.size (w.heap.size + 1) 0 [] ∧ Below w.heap.size w w' := by
  have hmk := run_mkO
  have hbd := bdK
  have hbx := run_boxK
  have hN := new_kn w
  go_enter Try.func9, Try.ntmps9
  go_wp2_with fail
  go_ret
  exact ⟨rfl, hN.1, hN.2⟩
/-- The number is another. -/
theorem Kn.number {w w' : World} {b k : Nat} {n m : Int} {F : List Hd} {mb : Nat} {L : List Ob} (T : Tk w b k n mb L) (hg : w.grownBy w' (some k)) (hr : Row w' k 63 [.int .i64 m, .map (some mb)]) (hne : ∀ o ∈ L, o.S ≠ []) (hp : F.Perm (flat L)) : Kn w' b k m F ∧ KT w w' b k :=
  ⟨⟨mb, L, ⟨hr, T.tw.keep T.row hg, T.lk⟩, hne, hp⟩, grown_below hg (Below.refl' b w) T.lk T.lb, Kp.self hg⟩
def lessN (n : Int) : Int := if n = 0 then 0 else n - 1
def mx (m : Int) : Int := max m 0
theorem failing_any {w : World} {b k : Nat} {n : Int} {F : List Hd} (h : Kn w b k n F) (n0 : 0 ≤ n) (n1 : n ≤ 9223372036854775807) : Calls Try.prog 28 #[.pointer (some ⟨k, 0, none⟩)] w fun e w' => e = .returned (.bool (!(n == 0))) ∧ Kn w' b k (lessN n) F ∧ KT w w' b k := by
  obtain ⟨mb, L, T, hne, hpm⟩ := h
  have c0 := T.row.c0
  have hr : Row w k 63 [.int .i64 n, .map (some mb)] := T.row
  have HT : Hid (Tk w b k n mb L) := T
  by_cases hn : n = 0
  · subst hn
    clear hr T
    go_enter Try.func28, Try.ntmps28
    go_wp2_with fail
    go_ret
    exact ⟨rfl, ⟨mb, L, HT.out, hne, hpm⟩, Below.refl' b w, fun g T cs hr _ => hr⟩
  · have hz : (n == 0) = false := by simpa using hn
    have hw : wrap64 (n - 1) = n - 1 := by unfold wrap64; omega
    have HS : Hid (lessN n = n - 1) := if_neg hn
    clear T hn
    go_enter Try.func28, Try.ntmps28
    have f0 : w.frozen? ⟨k, 0, none⟩ = false := hr.frozen 0
    have g1 : ∀ v, w.grownBy (w.setCell ⟨k, 0, none⟩ v) (some k) := fun v => grownBy_setCell w k 0 v
    have r1 : ∀ v, Row (w.setCell ⟨k, 0, none⟩ v) k 63 [v, .map (some mb)] := fun v => hr.set 0 v
    go_wp2_with fail
    go_ret
    obtain ⟨q1, q2⟩ := Kn.number HT.out (g1 _) (r1 _) hne hpm
    exact ⟨by rw [hz]; rfl, by rw [HS.out]; exact q1, q2⟩
theorem fail_any {w : World} {b k : Nat} {n : Int} {F : List Hd} (h : Kn w b k n F) (m : Int) : Calls Try.prog 12 #[.pointer (some ⟨k, 0, none⟩), .int .i64 m] w fun e w' => e = .returned (.tuple #[]) ∧ Kn w' b k (mx m) F ∧ KT w w' b k := by
  obtain ⟨mb, L, T, hne, hpm⟩ := h
  have hr : Row w k 63 [.int .i64 n, .map (some mb)] := T.row
  have HT : Hid (Tk w b k n mb L) := T
  clear T
  go_enter Try.func12, Try.ntmps12
  have f0 : w.frozen? ⟨k, 0, none⟩ = false := hr.frozen 0
  have c0 : w.cell? ⟨k, 0, none⟩ = some (.int .i64 n) := hr.cell 0
  have g1 : ∀ v, w.grownBy (w.setCell ⟨k, 0, none⟩ v) (some k) := fun v => grownBy_setCell w k 0 v
  have r1 : ∀ v, Row (w.setCell ⟨k, 0, none⟩ v) k 63 [v, .map (some mb)] := fun v => hr.set 0 v
  have hx : ∀ v, mx m = v → Kn (w.setCell ⟨k, 0, none⟩ (.int .i64 v)) b k (mx m) F ∧ KT w (w.setCell ⟨k, 0, none⟩ (.int .i64 v)) b k := fun v e => by
    rw [e]
    exact Kn.number HT.out (g1 _) (r1 _) hne hpm
  clear g1 r1
  by_cases hm : 0 ≤ m
  · have hx' := hx m (by unfold mx; omega)
    have e : max m 0 = m := by omega
    clear hx
    go_wp2_with fail
    go_end0
    exact ⟨rfl, hx'⟩
  · have hx' := hx 0 (by unfold mx; omega)
    have e : max m 0 = 0 := by omega
    clear hx
    go_wp2_with fail
    go_end0
    exact ⟨rfl, hx'⟩
theorem fail_nil (m : Int) (w : World) : Calls Try.prog 12 #[.pointer none, .int .i64 m] w fun e w' => e = .returned (.tuple #[]) ∧ w = w' := by
  go_enter Try.func12, Try.ntmps12
  go_wp2_with fail
  go_end0
  exact ⟨rfl, rfl⟩
end Go.Proofs.Ytadnnjngflphjaa
