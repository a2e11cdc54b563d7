/-
  The contracts of the document's own Packet and Open for every bytes within memory.
-/
import Derived.Test.YtgkonglkfjbmnaaLive
import Derived.Deep.RegionHeld3
import Derived.BigRegion
namespace Go.Proofs.Ytgkonglkfjbmnaa
open Go.RowKit
set_option linter.unusedSimpArgs false

theorem rpacket_ok (a : Option Addr) (n c : Nat) (l : List UInt8) (w : World) (hs : Src w a n c (bcells l)) (hn : n ≤ 65535) :
    Calls Try.prog 10 #[.slice a n c] w (Packed w l) := by
  have HL : Hid (n = l.length) := hs.blen
  have hq : n / 256 < 256 := by omega
  go_enter Try.func10, Try.ntmps10
  go_wp2_with (at_builtin; go_loud (refine append_src rfl (.tmp 14) (.tmp 15) rfl w.heap.size _ 4 _ rfl (World.ownsRow_lit w _ 4 (Nat.le_refl _) (by unfold maxLen; omega) rfl) a n c (bcells l) rfl (hs.alloc _) (bcells_one l) (by omega) (by simp) ?_; intro v' w1 hown hg _))
  go_ret2
  have e : [Value.int .u8 42, .int .u8 2, .int .u8 ((n : Int) / 256), .int .u8 ((n : Int) % 256)] ++ bcells l = bcells (pkL l) := by
    rw [HL.out] at hn ⊢
    have e0 : (UInt16.ofNat l.length).toNat = l.length := by simp; omega
    simp [pkL, be16, bcells, e0]
    omega
  have e2 : 4 + n = (pkL l).length := by rw [pkL_len, HL.out]; omega
  rw [e, e2] at hown
  obtain ⟨a1, c1, rfl⟩ := own_shape hown
  exact ⟨a1, c1, rfl, hown, ((Below.refl _ _).alloc (Nat.le_refl _) _).grown hg (by simp) (fun k hk => by cases hk; exact Nat.le_refl _)⟩
theorem rpacket_long (a : Option Addr) (n c : Nat) (w : World) (hn : 65535 < n) :
    Calls Try.prog 10 #[.slice a n c] w fun e w' => e = .returned (.tuple #[.slice none 0 0, .int .i64 1]) ∧ w = w' := by
  go_enter Try.func10, Try.ntmps10
  go_wp2
  go_ret2
  exact ⟨rfl, rfl⟩
theorem Addr.add_zero' (a : Addr) : a.add 0 = a := by unfold Addr.add; simp
theorem ropen_short (a : Option Addr) (n c : Nat) (w : World) (hn : n < 4) :
    Calls Try.prog 12 #[.slice a n c] w fun e w' => e = .returned (.tuple #[.slice none 0 0, .slice none 0 0, .int .i64 3]) ∧ w = w' := by
  go_enter Try.func12, Try.ntmps12
  go_wp2
  go_ret3
  exact ⟨rfl, rfl⟩
theorem or_low64 (X Y : Nat) (hx : X < 256) (hy : Y < 256) : bits BinOp.or IntKind.i64 ((X : Int) * 256) (Y : Int) = ((X * 256 + Y : Nat) : Int) := by
  have e : ((X : Int) * 256) = ((X * 256 : Nat) : Int) := by omega
  rw [e]
  have h := Nat.two_pow_add_eq_or_of_lt (i := 8) (b := Y) (by omega) X
  have e2 : X * 256 = 2 ^ 8 * X := by omega
  show IntKind.i64.wrap ((BitVec.ofInt 64 ((X * 256 : Nat) : Int) ||| BitVec.ofInt 64 (Y : Int)).toNat : Int) = _
  rw [BitVec.toNat_or, ofInt_u64 _ (by omega), ofInt_u64 _ (by omega), e2, ← h]
  simp [IntKind.wrap, IntKind.bits, IntKind.signed]
  omega
/-- The first four bytes in memory. -/
structure Hm (w : World) (ad : Addr) (m v X Y : Nat) : Prop where
  c0 : w.cell? ad = some (.int .u8 (m : Int))
  c1 : w.cell? { block := ad.block, off := ad.off + 1 } = some (.int .u8 (v : Int))
  c2 : w.cell? { block := ad.block, off := ad.off + 2 } = some (.int .u8 (X : Int))
  c3 : w.cell? { block := ad.block, off := ad.off + 3 } = some (.int .u8 (Y : Int))
theorem Hm.of {w : World} {ad : Addr} {n c : Nat} {m v x y : UInt8} {r : List UInt8} (hs : Src w (some ad) n c (bcells (m :: v :: x :: y :: r))) : Hm w ad m.toNat v.toNat x.toNat y.toNat := by
  have c0 := hs.byteAt 0 (by simp)
  have c1 := hs.byteAt 1 (by simp)
  have c2 := hs.byteAt 2 (by simp)
  have c3 := hs.byteAt 3 (by simp)
  simp at c0 c1 c2 c3
  simp [Addr.add] at c0 c1 c2 c3
  exact ⟨c0, c1, c2, c3⟩
theorem ropen_50 (ad : Addr) (n c : Nat) (w : World) (m v X Y : Nat) (H : Hm w ad m v X Y) (hn : ¬ n < 4) (h1 : m ≠ 42) :
    Calls Try.prog 12 #[.slice (some ad) n c] w fun e w' => e = .returned (.tuple #[.slice none 0 0, .slice none 0 0, .int .i64 50]) ∧ Below w.heap.size w w' := by
  obtain ⟨c0, c1, c2, c3⟩ := H
  go_enter Try.func12, Try.ntmps12
  go_wp2
  go_ret3
  exact ⟨rfl, Below.refl _ _⟩
theorem ropen_51 (ad : Addr) (n c : Nat) (w : World) (m v X Y : Nat) (H : Hm w ad m v X Y) (hn : ¬ n < 4) (h1 : m = 42) (h2 : v ≠ 2) :
    Calls Try.prog 12 #[.slice (some ad) n c] w fun e w' => e = .returned (.tuple #[.slice none 0 0, .slice none 0 0, .int .i64 51]) ∧ Below w.heap.size w w' := by
  obtain ⟨c0, c1, c2, c3⟩ := H
  subst h1
  go_enter Try.func12, Try.ntmps12
  go_wp2
  go_ret3
  exact ⟨rfl, Below.refl _ _⟩
theorem ropen_52 (ad : Addr) (n c : Nat) (w : World) (m v X Y : Nat) (H : Hm w ad m v X Y) (hn : ¬ n < 4) (hb : n ≤ 140737488355328) (h1 : m = 42) (h2 : v = 2) (hx : X < 256) (hy : Y < 256) (h3 : n < 4 + (X * 256 + Y)) :
    Calls Try.prog 12 #[.slice (some ad) n c] w fun e w' => e = .returned (.tuple #[.slice none 0 0, .slice none 0 0, .int .i64 52]) ∧ Below w.heap.size w w' := by
  obtain ⟨c0, c1, c2, c3⟩ := H
  subst h1 h2
  have ho := or_low64 X Y hx hy
  obtain ⟨N, hN⟩ : ∃ N, N = X * 256 + Y := ⟨_, rfl⟩
  rw [← hN] at ho h3
  have hNl : N < 65536 := by omega
  have HN : Hid (N = X * 256 + Y) := hN
  have hd : (n : Int) - 4 < (N : Int) := by omega
  clear hN
  go_enter Try.func12, Try.ntmps12
  go_wp2
  go_quiet (fail)
  go_wp2
  go_ret3
  exact ⟨rfl, below_drewN (Below.refl _ _) _⟩
/-- append([]byte{}, b...) at a step of a region that draws its order. -/
theorem step_copy {ops : Array Oper} {o : Oper} {a : Act} {w : World} {K : Act → World → Prop} {Q : Exit → Act → World → Prop} {E : Prop} (hw : Region.wanted o (yielded ops a.tmps) = true) (s x : Operand)
    (ho : o.op = .call { callee := .builtin .append, args := #[s, x], argTypes := #[22, 22] }) (h : Nat) (hs : a.eval s = .slice (some ⟨h, 0, none⟩) 0 0) (hh : w.heap[h]? = some (.cells #[] 5 (0, 0)))
    (ad : Option Addr) (m c : Nat) (l : List UInt8) (hx : a.eval x = .slice ad m c) (hsrc : Src w ad m c (bcells l)) (hb : m ≤ 140737488355328)
    (hK : ∀ a' c' w', w'.ownsRow h 5 1 (.slice a' m c') m (bcells l) → w.grownBy w' (some h) → K (a.put o.dst (.slice a' m c')) w') :
    if Region.wanted o (yielded ops a.tmps) = true then Oper.wp Try.prog o a w K Q else E := by
  rw [if_pos hw]
  obtain ⟨i0, hi, hz0, hz1, hz2⟩ := info_parts info5
  have hown : w.ownsRow h 5 1 (.slice (some ⟨h, 0, none⟩) 0 0) 0 [] := ⟨by simp, .inr ⟨h, 0, #[], rfl, Nat.le_refl _, hh, Nat.le_refl _, by unfold maxLen; omega, by simp, by simp⟩⟩
  have fin : ∀ v' w', w'.ownsRow h 5 1 v' m (bcells l) → w.grownBy w' (some h) → K (a.put o.dst v') w' := by
    intro v' w' h1 h2
    obtain ⟨a', c', hv⟩ := own_shape h1
    subst hv
    exact hK a' c' w' h1 h2
  cases ad with
  | some ad =>
    refine wp_append_own w s x 22 ho h 5 i0 (.int .u8 0) 1 1 Try.underlying22 hi hz0 hz1 hz2 rfl (by decide) _ 0 [] hs hown ad m c (bcells l) hx (by simp [hsrc.len]) (hsrc.cell ad rfl) (bcells_one l) (by unfold maxLen; omega) (by omega) (Nat.le_of_lt (lt_of_block hh)) ?_
    intro v' w' h1 h2 _
    exact fin v' w' (by simpa using h1) h2
  | none =>
    obtain ⟨rfl, rfl⟩ := hsrc.bare rfl
    have hn : bcells l = [] := List.eq_nil_of_length_eq_zero hsrc.len
    have hrun := run_append_owned_none (P := Try.prog) (w := w) h 22 o.type 5 i0 1 Try.underlying22 hi _ 0 [] hown
    unfold Oper.wp
    simp [execOp, ho, resolve, invoke, builtin, hs, hx, hrun, Result.andThen]
    exact fin _ w (by rw [hn]; exact hown) (World.grownBy.refl _ _)
/-- A part of a slice of bytes: what the run makes of it. -/
theorem slice_mid (ad : Addr) (n c p k : Nat) (hn : p + k ≤ n) (hc : n ≤ c) : ∃ a' c', (∀ w, (Instr.slice 22 (.slice (some ad) n c) (some (.int .i64 (p : Int))) (some (.int .i64 ((p : Int) + (k : Int)))) none).run Try.prog w = .ok (.slice a' k c') w) ∧
    ∀ (w : World) (l : List UInt8), Src w (some ad) n c (bcells l) → Src w a' k c' (bcells ((l.drop p).take k)) := by
  have h1 : (0 : Int) ≤ (p : Int) := by omega
  have h2 : (p : Int) ≤ (p : Int) + (k : Int) := by omega
  have h3 : (p : Int) + (k : Int) ≤ (c : Int) := by omega
  have e1 : ((p : Int) + (k : Int)).toNat - p = k := by omega
  by_cases hcp : c = p
  · obtain rfl : k = 0 := by omega
    refine ⟨some ad, 0, fun w => ?_, fun w l h => ⟨by simp [bcells], (fun h => by cases h), fun _ _ j u hu => by simp [bcells] at hu⟩⟩
    subst hcp
    go_simp
  · refine ⟨some (ad.add p), c - p, fun w => ?_, fun w l h => ?_⟩
    · go_simp
    · have h3 := h.part (p := p) (k := k) (c - p)
      rw [bcells_part] at h3
      have el : (bcells ((l.drop p).take k)).length = k := by have := h.blen; simp [bcells]; omega
      rw [el] at h3
      exact h3
theorem slice_to (ad : Addr) (n c p : Nat) (hn : p ≤ n) (hc : n ≤ c) : ∃ a' c', (∀ w, (Instr.slice 22 (.slice (some ad) n c) (some (.int .i64 (p : Int))) none none).run Try.prog w = .ok (.slice a' (n - p) c') w) ∧
    ∀ (w : World) (l : List UInt8), Src w (some ad) n c (bcells l) → Src w a' (n - p) c' (bcells (l.drop p)) := by
  have h1 : (0 : Int) ≤ (p : Int) := by omega
  have h2 : (p : Int) ≤ (n : Int) := by omega
  have h3 : (n : Int) ≤ (c : Int) := by omega
  by_cases hcp : c = p
  · obtain rfl : n = p := by omega
    refine ⟨some ad, 0, fun w => ?_, fun w l h => ?_⟩
    · subst hcp
      go_simp
    · have e : l.drop n = [] := List.drop_of_length_le (by have := h.blen; omega)
      rw [e]
      exact ⟨by simp [bcells], (fun h => by cases h), fun _ _ j u hu => by simp [bcells] at hu⟩
  · refine ⟨some (ad.add p), c - p, fun w => ?_, fun w l h => ?_⟩
    · go_simp
    · have h3 := h.part (p := p) (k := n - p) (c - p)
      rw [bcells_part] at h3
      have e : (l.drop p).take (n - p) = l.drop p := List.take_of_length_le (by have := h.blen; simp; omega)
      rw [e] at h3
      have el : (bcells (l.drop p)).length = n - p := by have := h.blen; simp [bcells]; omega
      rw [el] at h3
      exact h3
end Go.Proofs.Ytgkonglkfjbmnaa
