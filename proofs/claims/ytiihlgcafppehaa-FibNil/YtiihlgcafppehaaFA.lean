/-
  What an act on a Fib turns; Has, Wanted, Reply.
-/
import Derived.Test.YtiihlgcafppehaaF9
namespace Go.Proofs.Ytiihlgcafppehaa
open Go.RowKit Go.Maps Go.Shelf
set_option linter.unusedSimpArgs false
set_option linter.unusedVariables false
set_option maxRecDepth 20000
section
variable {ops : Array Oper} {rest : List Oper} {op : Oper} {a : Act} {w w' : World} {Q : Exit → Act → World → Prop} {K : Act → World → Prop} {E : Prop} {S : World → Prop}
theorem gb_set (w : World) (g j : Nat) (v : Value) : w.grownBy (w.setCell ⟨g, j, none⟩ v) (some g) := grownBy_setCell w g j v
theorem wp_st64 (x y : Operand) (ho : op.op = .store 3 x y) (b c : Nat) {U : TypeId} (cs : List Value) (n : Int) (hx : a.eval x = .pointer (some ⟨b, c, none⟩)) (hy : a.eval y = .int .i64 n) (hr : Row w b U cs) (hc : c < cs.length)
    (h : ∀ W, w.grownBy W (some b) → Row W b U (cs.set c (.int .i64 n)) → K (a.put op.dst undef) W) : Oper.wp Try.prog op a w K Q := by
  have c1 : w.cell? ⟨b, c, none⟩ = some cs[c] := by rw [hr.cell]; exact List.getElem?_eq_getElem hc
  have c2 := hr.frozen c
  have h1 := h _ (gb_set w b c (.int .i64 n)) (hr.set c (.int .i64 n))
  unfold Oper.wp execOp
  simp only [ho, hx, hy]
  go_simp
  exact h1
/-- Till when: it is written. -/
theorem stTi (x y : Operand) (hw : Region.wanted op (yielded ops a.tmps) = true) (ho : op.op = .store 3 x y) (b : Nat) (n : Int) (v : Fv) {U : TypeId} (hx : a.eval x = .pointer (some ⟨b, 56, none⟩)) (hy : a.eval y = .int .i64 n) (hr : Row w b U (fcs v))
    (h : ∀ W, w.grownBy W (some b) → Row W b U (fcs ⟨v.mW, v.mH, v.mA, v.d, v.pl, n⟩) → wpList Try.prog ops Q rest (a.put op.dst undef) W) : wpList Try.prog ops Q (op :: rest) a w :=
  wpList_step fun K hK => by
    rw [if_pos hw]
    exact wp_st64 x y ho b 56 _ n hx hy hr (by rw [fcs_len]; omega) fun W h1 h2 => hK _ _ (h W h1 (by rwa [fcs_ti] at h2))
theorem sStTi (x y : Operand) (hw : Region.wanted op (yielded ops a.tmps) = true) (ho : op.op = .store 3 x y) (b : Nat) (n : Int) (v : Fv) {U : TypeId} (hx : a.eval x = .pointer (some ⟨b, 56, none⟩)) (hy : a.eval y = .int .i64 n) (hr : Row w b U (fcs v))
    (h : ∀ W, w.grownBy W (some b) → Row W b U (fcs ⟨v.mW, v.mH, v.mA, v.d, v.pl, n⟩) → K (a.put op.dst undef) W) : if Region.wanted op (yielded ops a.tmps) = true then Oper.wp Try.prog op a w K Q else E := by
  rw [if_pos hw]
  exact wp_st64 x y ho b 56 _ n hx hy hr (by rw [fcs_len]; omega) fun W h1 h2 => h W h1 (by rwa [fcs_ti] at h2)
theorem sMu {T : TypeId} (m k v : Operand) {mv kv vv : Value} (hw : Region.wanted op (yielded ops a.tmps) = true) (ho : op.op = .mapUpdate T m k v) (hm : a.eval m = mv) (hk : a.eval k = kv) (hv : a.eval v = vv)
    (hr : (Instr.mapUpdate T mv kv vv).run Try.prog w = .ok () w') (h : K (a.put op.dst undef) w') : if Region.wanted op (yielded ops a.tmps) = true then Oper.wp Try.prog op a w K Q else E := by
  rw [if_pos hw]
  unfold Oper.wp
  simp [execOp, ho, hm, hk, hv, hr, Result.andThen]
  exact h
theorem sDel {T U : TypeId} (m k : Operand) {mv kv : Value} (hw : Region.wanted op (yielded ops a.tmps) = true) (ho : op.op = .call { callee := .builtin .delete, args := #[m, k], argTypes := #[T, U] }) (hm : a.eval m = mv) (hk : a.eval k = kv)
    (hr : (Builtin.delete_ #[T, U] op.type #[mv, kv]).run Try.prog w = .ok (.tuple #[]) w') (h : K (a.put op.dst (.tuple #[])) w') : if Region.wanted op (yielded ops a.tmps) = true then Oper.wp Try.prog op a w K Q else E := by
  rw [if_pos hw]
  unfold Oper.wp
  simp [execOp, ho, resolve, invoke, builtin, hm, hk, hr, Result.andThen]
  exact h
end
/-- What an act on the Fib may turn: its own block, what the kernel has, what failed; and memory of the act's own. -/
structure FTurn (w w' : World) (f : Nat) (x : Fv) : Prop where
  os : w'.os = w.os
  tape : w'.tape = w.tape
  out : w'.output = w.output
  size : w.heap.size ≤ w'.heap.size
  block : ∀ i, i < w.heap.size → i ≠ f → i ≠ x.mH → i ≠ x.mA → w'.heap[i]? = w.heap[i]?
section
variable {w w1 w' : World} {f : Nat} {x y : Fv} {W H : List En} {A : List (Pr × Int)}
theorem FTurn.of (h : Below w.heap.size w w') : FTurn w w' f x := ⟨h.os, h.tape, h.output, h.size, fun i hi _ _ _ => h.block i hi⟩
theorem FTurn.self (h : w.grownBy w' (some f)) : FTurn w w' f x := ⟨h.os, h.tape, h.output, h.size, fun i hi h1 _ _ => h.block i hi (fun e => h1 (by cases e; rfl))⟩
theorem FTurn.has (h : w.grownBy w' (some x.mH)) : FTurn w w' f x := ⟨h.os, h.tape, h.output, h.size, fun i hi _ h1 _ => h.block i hi (fun e => h1 (by cases e; rfl))⟩
theorem FTurn.again (h : w.grownBy w' (some x.mA)) : FTurn w w' f x := ⟨h.os, h.tape, h.output, h.size, fun i hi _ _ h1 => h.block i hi (fun e => h1 (by cases e; rfl))⟩
theorem FTurn.trans (h : FTurn w w1 f x) (k : FTurn w1 w' f y) (e1 : y.mH = x.mH) (e2 : y.mA = x.mA) : FTurn w w' f x :=
  ⟨k.os.trans h.os, k.tape.trans h.tape, k.out.trans h.out, Nat.le_trans h.size k.size, fun i hi h1 h2 h3 => (k.block i (Nat.lt_of_lt_of_le hi h.size) h1 (by rw [e1]; exact h2) (by rw [e2]; exact h3)).trans (h.block i hi h1 h2 h3)⟩
theorem FTurn.below {w0 : World} {B : Nat} (h : FTurn w w' f x) (hb : Below B w0 w) (h1 : B ≤ f) (h2 : B ≤ x.mH) (h3 : B ≤ x.mA) (hs : B ≤ w.heap.size) : Below B w0 w' :=
  ⟨h.os.trans hb.os, h.tape.trans hb.tape, h.out.trans hb.output, Nat.le_trans hb.size h.size, fun i hi => (h.block i (by omega) (by omega) (by omega) (by omega)).trans (hb.block i hi)⟩
theorem FTurn.row {g : Nat} {T : TypeId} {cs : List Value} (h : FTurn w w' f x) (hf : Fb w f x W H A) (hr : Row w g T cs) (hne : g ≠ f) : Row w' g T cs :=
  (h.block g hr.lt hne (hf.mh.ne_row hr) (hf.ma.ne_row hr)).trans hr
theorem row_ne {g h : Nat} {T U : TypeId} {cs ds : List Value} (a : Row w g T cs) (b : Row w h U ds) (hT : T ≠ U) : g ≠ h := by
  rintro rfl
  unfold Row at a b
  rw [a] at b
  cases b
  exact hT rfl
theorem PlW.turn {B : Nat} {pl : Value} {P : List Oq} (p : PlW w B pl P) (h : FTurn w w' f x) (hf : Fb w f x W H A) : PlW w' B pl P := by
  obtain ⟨ad, c, e, h1⟩ := p
  refine ⟨ad, c, e, ?_⟩
  rcases h1 with h1 | ⟨g, o, cs, e2, hB, hr, hl⟩
  · exact .inl h1
  · have hr' := h.row hf hr (row_ne hr hf.row (by decide))
    refine .inr ⟨g, o, cs, e2, hB, hr', fun j q hq => ?_⟩
    have h2 := hl j q hq
    intro i v hv
    have h3 := h2 i v hv
    rw [hr.cell] at h3
    rw [hr'.cell]
    exact h3
end
theorem has_any {w : World} {f : Nat} {x : Fv} {W H : List En} {A : List (Pr × Int)} (h : Fb w f x W H A) : Calls Try.prog 20 #[.pointer (some ⟨f, 0, none⟩)] w fun e w' => ∃ a c K, e = .returned (.slice a K.length c) ∧ K.Perm H ∧ Asc K ∧ kE.Own w' w.heap.size (.slice a K.length c) K ∧ Below w.heap.size w w' := by
  have c1 := h.row.f1
  have hs := sorted_fib h.mh h.lh
  clear h
  go_enter Try.func20, Try.ntmps20
  go_wp2_with (go_at_call 30; refine hs.mono ?_; rintro e w1 ⟨a, c, K, rfl, h1, h2, h3, h4⟩)
  go_ret
  exact ⟨a, c, K, rfl, h1, h2, h3, h4⟩
theorem wanted_any {w : World} {f : Nat} {x : Fv} {W H : List En} {A : List (Pr × Int)} (h : Fb w f x W H A) : Calls Try.prog 21 #[.pointer (some ⟨f, 0, none⟩)] w fun e w' => ∃ a c K, e = .returned (.slice a K.length c) ∧ K.Perm W ∧ Asc K ∧ kE.Own w' w.heap.size (.slice a K.length c) K ∧ Below w.heap.size w w' := by
  have c1 := h.row.f0
  have hs := sorted_fib h.mw h.lw
  clear h
  go_enter Try.func21, Try.ntmps21
  go_wp2_with (go_at_call 30; refine hs.mono ?_; rintro e w1 ⟨a, c, K, rfl, h1, h2, h3, h4⟩)
  go_ret
  exact ⟨a, c, K, rfl, h1, h2, h3, h4⟩
theorem reply_none {w : World} {f : Nat} {x : Fv} {W H : List En} {A : List (Pr × Int)} (h : Fb w f x W H A) (now : Int) (ok : Bool) (hk : x.d.k = 0) : Calls Try.prog 19 #[.pointer (some ⟨f, 0, none⟩), .int .i64 now, .bool ok] w fun e w' => e = .returned (.int .i64 7) ∧ w = w' := by
  have hb := busy_any h
  rw [show (x.d.k != 0) = false by rw [hk]; rfl] at hb
  go_enter Try.func19, Try.ntmps19
  go_wp2_with (go_at_call 38; refine hb.mono ?_; rintro e w1 ⟨rfl, rfl⟩)
  go_ret
  exact ⟨rfl, rfl⟩
/-- The answer to what is under way. -/
def replF (x : Fv) (now : Int) (ok : Bool) : Fv := ⟨x.mW, x.mH, x.mA, zeroO, x.pl, if ok = true then x.ti else min x.ti (now + 1000)⟩
def replA (A : List (Pr × Int)) (d : Oq) (now : Int) (ok : Bool) : List (Pr × Int) := if ok = true then delN mT A d.e.p else putN mT A (d.e.p, now + 1000)
def replH (H : List En) (d : Oq) (ok : Bool) : List En := if ok = true then (if d.k = 3 then delN mE H d.e.p else putN mE H d.e) else H
end Go.Proofs.Ytiihlgcafppehaa
