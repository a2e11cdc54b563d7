/-
  Padding and types that nobody knows say nothing; making, building and reading slices of bytes in a region that draws its order.
-/
import Derived.Test.YtaleclmccmeglaaGp
import Derived.Laws.OwnMore
namespace Go.Proofs.Ytaleclmccmeglaa
open Go.RowKit
set_option linter.unusedSimpArgs false
set_option maxRecDepth 20000

theorem spl_zeros (l : List UInt8) : ∀ k : Nat, splL (List.replicate k 0 ++ l) = (List.replicate k (0, []) ++ (splL l).1, (splL l).2)
  | 0 => rfl
  | k + 1 => by
    rw [List.replicate_succ, List.cons_append, splL_cons, if_pos (by decide), spl_zeros l k]
    rfl
theorem spl_piece (t : UInt8) (b l : List UInt8) (ht : t.toNat ≠ 0) (hb : b.length ≤ 255) : splL (t :: UInt8.ofNat b.length :: (b ++ l)) = ((t, b) :: (splL l).1, (splL l).2) := by
  have e : (UInt8.ofNat b.length).toNat = b.length := by simp; omega
  rw [splL_cons, if_neg ht]
  simp only
  rw [e, if_neg (by simp), List.take_left, List.drop_left]
theorem say_none (s : St) (t : Nat) (l : List UInt8) (ht : t = 0 ∨ t = 1 ∨ 10 < t) : sayB s t l = false ∧ sayS s t l = s := by
  unfold sayB sayS
  refine ⟨?_, ?_⟩
  · rw [if_neg (by omega), if_neg (by omega), if_neg (by omega), if_neg (by omega), if_neg (by omega), if_neg (by omega), if_neg (by omega)]
  · rw [if_neg (by omega), if_neg (by omega), if_neg (by omega)]
theorem tell_skip (s : St) (k : UInt8 × List UInt8) (ks : List (UInt8 × List UInt8)) (hk : k.1.toNat = 0 ∨ k.1.toNat = 1 ∨ 10 < k.1.toNat) : tellL s (k :: ks) = tellL s ks := by
  obtain ⟨h1, h2⟩ := say_none s k.1.toNat k.2 hk
  rw [tellL, h1, h2]
  rfl
theorem tell_zeros (s : St) (ks : List (UInt8 × List UInt8)) : ∀ k : Nat, tellL s (List.replicate k (0, []) ++ ks) = tellL s ks
  | 0 => rfl
  | k + 1 => by rw [List.replicate_succ, List.cons_append, tell_skip s _ _ (.inl rfl), tell_zeros s ks k]
/-- A body with padding and a piece of a type that nobody knows before it. -/
def padL (k : Nat) (t : UInt8) (b l : List UInt8) : List UInt8 := List.replicate k 0 ++ (t :: UInt8.ofNat b.length :: (b ++ l))
theorem pad_spl (s : St) (k : Nat) (t : UInt8) (b l : List UInt8) (ht : t.toNat = 1 ∨ 10 < t.toNat) (hb : b.length ≤ 255) : (splL (padL k t b l)).2 = (splL l).2 ∧ tellL s (splL (padL k t b l)).1 = tellL s (splL l).1 := by
  unfold padL
  rw [spl_zeros, spl_piece t b l (by omega) hb]
  refine ⟨rfl, ?_⟩
  show tellL s (List.replicate k (0, []) ++ ((t, b) :: (splL l).1)) = _
  rw [tell_zeros, tell_skip s (t, b) _ (.inr ht)]
theorem padL_len (k : Nat) (t : UInt8) (b l : List UInt8) : (padL k t b l).length = k + 2 + b.length + l.length := by
  simp [padL]; omega

theorem own_srcP {w : World} {B : Nat} {a : Option Addr} {n c : Nat} {xs : List Value} (h : w.ownsRow B 5 1 (.slice a n c) n xs) : Src w a n c xs := by
  obtain ⟨_, _, hv, hs, _⟩ := Src.ofOwn h
  cases hv
  exact hs
theorem run_mk (w : World) (k : Nat) (hk : k ≤ 50) : ∃ w', (Instr.makeSlice 24 (.int .i64 (k : Int)) (.int .i64 (k : Int))).run Try.prog w = .ok (.slice (some ⟨w.heap.size, 0, none⟩) k k) w' ∧ Src w' (some ⟨w.heap.size, 0, none⟩) k k (bcells (List.replicate k 0)) ∧ Below w.heap.size w w' := by
  obtain ⟨i0, hi, hz0, hz1, hz2⟩ := info_parts info5
  obtain ⟨w', hr, ho, hg⟩ := run_makeSlice_full w w.heap.size 24 5 i0 (.int .u8 0) 1 Try.underlying24 hi hz0 hz1 .i64 .i64 k (by omega) (by rw [hz2]; omega) (by unfold maxLen; omega) (Nat.le_refl _)
  have e : (madeCells (Value.int .u8 0).cells (k * 1)).toList = bcells (List.replicate k 0) := by
    rw [show (Value.int .u8 0).cells = #[.int .u8 0] from rfl, toList_madeCells_one, Nat.mul_one]
    simp [bcells]
  rw [e] at ho
  exact ⟨w', hr, own_srcP ho, (Below.refl _ _).grown hg (Nat.le_refl _) (fun k hk => by cases hk)⟩
theorem run_bs2 (x y : Int) (w : World) : (Instr.buildSlice 24 2 #[(0, .int .u8 x), (1, .int .u8 y)]).run Try.prog w = .ok (.slice (some ⟨w.heap.size, 0, none⟩) 2 2) (w.alloc (.cells #[.int .u8 x, .int .u8 y] 5)) := by kernel_rfl
section
variable {ops : Array Oper} {op : Oper} {a : Act} {w : World} {K : Act → World → Prop} {Q : Exit → Act → World → Prop} {E : Prop}
theorem sMk (x : Operand) (hw : Region.wanted op (yielded ops a.tmps) = true) (ho : op.op = .makeSlice 24 x x) (k : Nat) (hk : k ≤ 50) (hx : a.eval x = .int .i64 (k : Int))
    (h : ∀ g W, Src W (some ⟨g, 0, none⟩) k k (bcells (List.replicate k 0)) → Below w.heap.size w W → K (a.put op.dst (.slice (some ⟨g, 0, none⟩) k k)) W) : if Region.wanted op (yielded ops a.tmps) = true then Oper.wp Try.prog op a w K Q else E := by
  rw [if_pos hw]
  obtain ⟨w', hr, hs, hb⟩ := run_mk w k hk
  unfold Oper.wp execOp
  simp only [ho, hx, Sem.run_bind, hr, Result.andThen_ok, Sem.run_pure]
  exact h _ _ hs hb
theorem sBs (x y : Operand) (hw : Region.wanted op (yielded ops a.tmps) = true) (ho : op.op = .buildSlice 24 2 #[(0, x), (1, y)]) (l : List UInt8) (m n : Int) (hx : a.eval x = .int .u8 m) (hy : a.eval y = .int .u8 n) (hl : bcells l = [.int .u8 m, .int .u8 n])
    (h : ∀ g W, Src W (some ⟨g, 0, none⟩) 2 2 (bcells l) → Below w.heap.size w W → K (a.put op.dst (.slice (some ⟨g, 0, none⟩) 2 2)) W) : if Region.wanted op (yielded ops a.tmps) = true then Oper.wp Try.prog op a w K Q else E := by
  rw [if_pos hw]
  unfold Oper.wp execOp
  simp only [ho, List.map_toArray, List.map_cons, List.map_nil, hx, hy, Sem.run_bind, run_bs2, Result.andThen_ok, Sem.run_pure]
  exact h _ _ (by rw [hl]; exact new_src w _) (ba _ _)
theorem sCv (x : Operand) (hw : Region.wanted op (yielded ops a.tmps) = true) (ho : op.op = .convert 24 9 x) (b : Option Addr) (n c : Nat) (l : List UInt8) (st : ByteArray) (hx : a.eval x = .slice b n c) (hs : Src w b n c (bcells l)) (hst : (⟨l.toArray⟩ : ByteArray) = st)
    (h : K (a.put op.dst (.string st)) w) : if Region.wanted op (yielded ops a.tmps) = true then Oper.wp Try.prog op a w K Q else E := by
  rw [if_pos hw]
  subst hst
  unfold Oper.wp execOp
  simp only [ho, hx, Sem.run_bind, hs.str, Result.andThen_ok, Sem.run_pure]
  exact h
end
end Go.Proofs.Ytaleclmccmeglaa
