/-
  The contract of the reference function Put for every row that the caller owns.
-/
import Derived.Test.YtelopplkdlbgbaaDrawn
import Derived.Maps.AppendAt
namespace Go.Proofs.Ytelopplkdlbgbaa
open Go.RowKit

/-- A row that was appended to: nothing turned but that row; it lies where it lay, or in new memory. -/
structure Went (w w' : World) (v v' : Value) : Prop where
  grown : w.grownBy w' v.ownBlock
  at' : v'.ownBlock = v.ownBlock ∨ ∃ k, v'.ownBlock = some k ∧ w.heap.size ≤ k
theorem Went.refl (w : World) (v : Value) : Went w w v v := ⟨World.grownBy.refl _ _, .inl rfl⟩
theorem Went.trans {a b c : World} {u v x : Value} (h : Went a b u v) (k : Went b c v x) : Went a c u x := by
  refine ⟨⟨k.grown.os.trans h.grown.os, k.grown.tape.trans h.grown.tape, k.grown.output.trans h.grown.output, Nat.le_trans h.grown.size k.grown.size, fun i hi hne => ?_⟩, ?_⟩
  · refine (k.grown.block i (Nat.lt_of_lt_of_le hi h.grown.size) ?_).trans (h.grown.block i hi hne)
    rcases h.at' with e | ⟨j, e, hj⟩
    · rw [e]; exact hne
    · rw [e]
      intro e2
      have := Option.some.inj e2
      omega
  · rcases k.at' with e | ⟨j, e, hj⟩
    · rcases h.at' with e2 | ⟨j, e2, hj⟩
      · exact .inl (e.trans e2)
      · exact .inr ⟨j, e.trans e2, hj⟩
    · exact .inr ⟨j, e, Nat.le_trans h.grown.size hj⟩
theorem Went.below {w w' : World} {B n : Nat} {v v' : Value} {xs : List Value} (h : Went w w' v v') (hv : w.ownsRow B 5 1 v n xs) {a : World} (hb : Below B a w) (hB : B ≤ w.heap.size) : Below B a w' :=
  hb.grown h.grown hB (fun k hk => (hv.lt k hk).1)

/-- Append to a row of one's own, whatever the source, and where it lies then. -/
theorem append_went {w : World} {ops : Array Oper} {rest : List Oper} {o : Oper} {a : Act} {Q : Exit → Act → World → Prop} (hgd : o.guard = none) (s x : Operand)
    (ho : o.op = .call { callee := .builtin .append, args := #[s, x], argTypes := #[22, 22] })
    (base : Nat) (v : Value) (n : Nat) (xs : List Value) (hs : a.eval s = v) (hown : w.ownsRow base 5 1 v n xs)
    (ad : Option Addr) (m c : Nat) (news : List Value) (hx : a.eval x = .slice ad m c) (hsrc : Src w ad m c news) (h1 : ∀ u ∈ news, u.oneCell' = true)
    (hbytes : n + m ≤ 140737488355328) (hbase : base ≤ w.heap.size)
    (h : ∀ v' w', w'.ownsRow base 5 1 v' (n + m) (xs ++ news) → Went w w' v v' → wpList Try.prog ops Q rest (a.put o.dst v') w') : wpList Try.prog ops Q (o :: rest) a w := by
  obtain ⟨i0, hi, hz0, hz1, hz2⟩ := info_parts info5
  cases ad with
  | some ad =>
    refine wpList_append_own_at w hgd s x 22 ho base 5 i0 (.int .u8 0) 1 1 Try.underlying22 hi hz0 hz1 hz2 rfl (by decide) v n xs hs hown ad m c news hx (by simp [hsrc.len]) (hsrc.cell ad rfl) h1 (by unfold maxLen; omega) (by omega) hbase ?_
    intro v' w' k1 k2 _ k4
    refine h v' w' k1 ⟨k2, ?_⟩
    rcases k4 with e | e
    · exact .inl e
    · exact .inr ⟨_, e, Nat.le_refl _⟩
  | none =>
    obtain ⟨rfl, rfl⟩ := hsrc.bare rfl
    have hn : news = [] := List.eq_nil_of_length_eq_zero hsrc.len
    subst hn
    refine wpList_append_own_none hgd s x 22 ho base 5 i0 1 Try.underlying22 hi v n xs hs hown hx ?_
    exact h v w (by simpa using hown) (Went.refl _ _)

/-- A number in so many bytes, the highest first. -/
def beN (N wide : Nat) : List UInt8 := (List.range wide).map fun t => UInt8.ofNat (N / 2 ^ (8 * (wide - 1 - t)))
theorem beN_len (N wide : Nat) : (beN N wide).length = wide := by simp [beN]
theorem beN_take (N wide t : Nat) (h : t < wide) : (beN N wide).take (t + 1) = (beN N wide).take t ++ [UInt8.ofNat (N / 2 ^ (8 * (wide - 1 - t)))] := by
  rw [List.take_succ_eq_append_getElem (by rw [beN_len]; exact h)]
  simp [beN]
theorem beN1 (b : UInt8) : beN b.toNat 1 = [b] := by simp [beN, List.range, List.range.loop]
theorem beN2 (b : UInt16) : beN b.toNat 2 = be16 b := by simp [beN, be16, List.range, List.range.loop]
theorem beN4 (b : UInt32) : beN b.toNat 4 = be32 b := by simp [beN, be32, List.range, List.range.loop]

/-- culvertref01.Put. -/
theorem refput_any (N wide : Nat) (v : Value) (n : Nat) (l : List UInt8) (B : Nat) (w : World) (hv : w.ownsRow B 5 1 v n (bcells l)) (hB : B ≤ w.heap.size) (hn : n ≤ 100000) (_hN : N < 4294967296) (hw : wide ≤ 4) :
    Calls Try.prog 10 #[v, .int .u32 N, .int .i64 wide] w fun e w' => ∃ a c, e = .returned (.slice a (n + wide) c) ∧ w'.ownsRow B 5 1 (.slice a (n + wide) c) (n + wide) (bcells (l ++ beN N wide)) ∧ Went w w' v (.slice a (n + wide) c) := by
  go_enter Try.func10, Try.ntmps10
  go_wp2
  go_loopw [0, 7] (fun b i wr => ∃ t : Nat, t ≤ wide ∧ i = .int .i64 ((wide : Int) - 1 - t) ∧ wr.ownsRow B 5 1 b (n + t) (bcells (l ++ (beN N wide).take t)) ∧ Went w wr v b) (fun _ i _ => (intOf i + 1).toNat)
  case atStart => exact ⟨0, Nat.zero_le _, by simp, by simpa using hv, Went.refl _ _⟩
  case round =>
    obtain ⟨t, ht, rfl, hown, hwent⟩ := hrel
    by_cases hlt : t < wide
    · obtain ⟨s, hs⟩ : ∃ s : Nat, (wide : Int) - 1 - t = s := ⟨((wide : Int) - 1 - t).toNat, by omega⟩
      rw [hs]
      have HS : Hid ((wide : Int) - 1 - t = s) := hs
      clear hs
      have hs3 : s ≤ 3 := by have := HS.out; omega
      have hst : Hid (s = wide - 1 - t) := by have := HS.out; show _ = _; omega
      have HC : Hid ([Value.int .u8 ((N : Int) / 2 ^ (8 * s) % 256)] = bcells [UInt8.ofNat (N / 2 ^ (8 * s))]) := by
        show _ = _
        have e : ((N : Int) / 2 ^ (8 * s) % 256) = (((N / 2 ^ (8 * s)) % 256 : Nat) : Int) := by simp
        rw [e]
        simp [bcells]
      go_wp2_with (at_builtin; refine append_went rfl (.tmp 14) (.tmp 21) rfl B _ (n + t) _ rfl (hown.alloc _) (some ⟨wr.heap.size, 0, none⟩) 1 1 [Value.int .u8 ((N : Int) / 2 ^ (8 * s) % 256)] rfl (new_src wr #[Value.int .u8 ((N : Int) / 2 ^ (8 * s) % 256)]) (by intro u hu; simp at hu; subst hu; rfl) (by omega) (by have := hwent.grown.size; simp; omega) ?_; intro v' w1 hown1 hw1)
      go_roundw
      case rel =>
        refine ⟨t + 1, by omega, ?_, ?_, hwent.trans ((⟨World.grownBy_alloc _ _ _, .inl rfl⟩ : Went _ _ _ _).trans hw1)⟩
        · have := HS.out
          go_num
        · rw [beN_take _ _ _ hlt, ← List.append_assoc, bcells_append _ [_], ← hst.out, ← HC.out]
          exact hown1
      case measure => simp [intOf]
    · obtain rfl : wide = t := by omega
      go_wp2
      go_ret
      obtain ⟨a, c, hv'⟩ := own_shape hown
      rw [List.take_of_length_le (by rw [beN_len]; omega)] at hown
      subst hv'
      exact ⟨a, c, rfl, hown, hwent⟩
end Go.Proofs.Ytelopplkdlbgbaa
