/-
  addr.Parse, for every text.
-/
import Derived.Test.YtimpopolkofdgaaGreatDoorSix
namespace Go.Proofs.YtimpopolkofdgaaGreatDoor
open Go.RowKit Go.Shelf
set_option linter.unusedSimpArgs false
set_option maxRecDepth 20000
section
variable {ops : Array Oper} {rest : List Oper} {op : Oper} {a : Act} {w : World} {Q : Exit → Act → World → Prop}
theorem stAq (x y : Operand) (hw : Region.wanted op (yielded ops a.tmps) = true) (ho : op.op = .store 23 x y) (b o : Nat) (c : Ad) (hx : a.eval x = .pointer (some ⟨b, o, none⟩)) (hy : a.eval y = (Value.agg (acells c).toArray)) (ht : w.there b o 16)
    (h : ∀ W, Hid (W = w.setCells b o (acells c)) → wpList Tryz.prog ops Q rest (a.put op.dst undef) W) : wpList Tryz.prog ops Q (op :: rest) a w := stA x y hw ho b o c hx hy ht (h _ rfl)
theorem stPq (x y : Operand) (hw : Region.wanted op (yielded ops a.tmps) = true) (ho : op.op = .store 35 x y) (b o : Nat) (c : Pf) (hx : a.eval x = .pointer (some ⟨b, o, none⟩)) (hy : a.eval y = (Value.agg (pcells c).toArray)) (ht : w.there b o 17)
    (h : ∀ W, Hid (W = w.setCells b o (pcells c)) → wpList Tryz.prog ops Q rest (a.put op.dst undef) W) : wpList Tryz.prog ops Q (op :: rest) a w := stP x y hw ho b o c hx hy ht (h _ rfl)
theorem stQq (x y : Operand) (hw : Region.wanted op (yielded ops a.tmps) = true) (ho : op.op = .store 53 x y) (b o : Nat) (c : Pr) (hx : a.eval x = .pointer (some ⟨b, o, none⟩)) (hy : a.eval y = (Value.agg (qcells c).toArray)) (ht : w.there b o 34)
    (h : ∀ W, Hid (W = w.setCells b o (qcells c)) → wpList Tryz.prog ops Q rest (a.put op.dst undef) W) : wpList Tryz.prog ops Q (op :: rest) a w := stQ x y hw ho b o c hx hy ht (h _ rfl)
end
/-- Is there a colon? -/
def inG (s : List UInt8) : Bool := decide (0 ≤ Lib.indexByte s 58)
theorem inGroups_any (s : List UInt8) (w : World) : Calls Tryz.prog 49 #[.string (str s)] w fun e w' => e = .returned (.bool (inG s)) ∧ w' = w := by
  have hC := Tryz.strings_Contains_one (str s) 58 w
  rw [show (str s).data.toList = s from rfl] at hC
  have hC' : Calls Tryz.prog 74 #[.string (str s), .string ⟨#[58]⟩] w fun e w' => e = .returned (.bool (inG s)) ∧ w' = w := hC
  clear hC
  generalize inG s = b at *
  go_enter Tryz.func49, Tryz.ntmps49
  go_wp2_with (go_at_call 74; refine hC'.mono ?_; rintro e w' ⟨rfl, rfl⟩)
  go_ret
  exact ⟨rfl, rfl⟩
/-- A text as an address. -/
def prs (s : List UInt8) : Option Ad := if inG s = true then six s else pts s
def prsV (s : List UInt8) : Value := match prs s with
  | some a => .tuple #[(Value.agg (acells a).toArray), .int .i64 0]
  | none => .tuple #[(Value.agg (acells zeroA).toArray), .int .i64 20]
theorem parse_any (s : List UInt8) (w : World) (hG : Glob w) (hs8 : 8 ≤ w.heap.size) (hl : s.length ≤ 1000000) :
    Calls Tryz.prog 7 #[.string (str s)] w (Gives w (prsV s)) := by
  have hI := inGroups_any s
  obtain ⟨g, hg⟩ : ∃ g, inG s = g := ⟨_, rfl⟩
  rw [hg] at hI
  have hRow := Row.new w 23 (acells zeroA)
  have hG1 : Glob (w.alloc (.cells (acells zeroA).toArray 23)) := hG.keep (ba w _) hs8
  have hE : ∀ a : Ad, prs s = some a → prsV s = .tuple #[(Value.agg (acells a).toArray), .int .i64 0] := fun a h => by rw [prsV, h]
  have hE0 : prs s = none → prsV s = .tuple #[(Value.agg (acells zeroA).toArray), .int .i64 20] := fun h => by rw [prsV, h]
  have HE : Hid (∀ a : Ad, prs s = some a → prsV s = .tuple #[(Value.agg (acells a).toArray), .int .i64 0]) := hE
  have HE0 : Hid (prs s = none → prsV s = .tuple #[(Value.agg (acells zeroA).toArray), .int .i64 20]) := hE0
  clear hE hE0
  cases g with
  | true =>
    have hP := six_any s (w.alloc (.cells (acells zeroA).toArray 23)) hG1 (by simp; omega) hl
    rw [show six s = prs s by rw [prs, if_pos hg]] at hP
    clear hg
    go_enter Tryz.func7, Tryz.ntmps7
    go_wp2_with (first
      | (refine stAq (.tmp 5) (.tmp 13) rfl rfl _ _ a1 rfl rfl (Row.there (Row.new _ _ _) (by simp)) ?_; intro w3 hw3; have hst := hw3.out ▸ storedRow w2 _ _ a1 (by simp); clear hw3; obtain ⟨hB3, hR3, hs3⟩ := hst; have q2 := (hRow.below hB2 (by simp)).below hB3 (by have := hB2.size; simp at this; omega))
      | (refine stA (.tmp 2) (.tmp 17) rfl rfl _ _ zeroA rfl rfl (q2.there (by rw [acells_len]; omega)) ?_)
      | (refine ldA (.tmp 5) rfl rfl _ _ a1 rfl hR3.range ?_)
      | (refine stA (.tmp 2) (.tmp 18) rfl rfl _ _ a1 rfl rfl (q2.there (by rw [acells_len]; omega)) ?_)
      | (go_at_call 49; refine (hI _).mono ?_; rintro e w1 ⟨rfl, rfl⟩)
      | (go_at_call 50; refine hP.mono ?_; rintro e w2 ⟨(⟨a1, hpr, rfl⟩ | ⟨hpr, a1, rfl⟩), hB2⟩))
    · refine bodyPost_ret (retCT rfl _ _ 0 rfl (lvA (LA.stored (q2.there (by rw [acells_len]; omega))))) rfl ⟨by rw [HE.out _ hpr]; rfl, below_setCells _ (Nat.le_refl _) _ _ _ (bt (bt (ba _ _) hB2) hB3)⟩
    · refine bodyPost_ret (retCT rfl _ _ 0 rfl (lvA (LA.stored (q2.there (by rw [acells_len]; omega))))) rfl ⟨by rw [HE0.out hpr]; rfl, below_setCells _ (Nat.le_refl _) _ _ _ (bt (bt (ba _ _) hB2) hB3)⟩
  | false =>
    have hP := points_any s (w.alloc (.cells (acells zeroA).toArray 23)) hG1 (by simp; omega) hl
    rw [show pts s = prs s by rw [prs, if_neg (by rw [hg]; simp)]] at hP
    clear hg
    go_enter Tryz.func7, Tryz.ntmps7
    go_wp2_with (first
      | (refine stAq (.tmp 5) (.tmp 13) rfl rfl _ _ a1 rfl rfl (Row.there (Row.new _ _ _) (by simp)) ?_; intro w3 hw3; have hst := hw3.out ▸ storedRow w2 _ _ a1 (by simp); clear hw3; obtain ⟨hB3, hR3, hs3⟩ := hst; have q2 := (hRow.below hB2 (by simp)).below hB3 (by have := hB2.size; simp at this; omega))
      | (refine stA (.tmp 2) (.tmp 17) rfl rfl _ _ zeroA rfl rfl (q2.there (by rw [acells_len]; omega)) ?_)
      | (refine ldA (.tmp 5) rfl rfl _ _ a1 rfl hR3.range ?_)
      | (refine stA (.tmp 2) (.tmp 18) rfl rfl _ _ a1 rfl rfl (q2.there (by rw [acells_len]; omega)) ?_)
      | (go_at_call 49; refine (hI _).mono ?_; rintro e w1 ⟨rfl, rfl⟩)
      | (go_at_call 48; refine hP.mono ?_; rintro e w2 ⟨(⟨a1, hpr, rfl⟩ | ⟨hpr, a1, rfl⟩), hB2⟩))
    · refine bodyPost_ret (retCT rfl _ _ 0 rfl (lvA (LA.stored (q2.there (by rw [acells_len]; omega))))) rfl ⟨by rw [HE.out _ hpr]; rfl, below_setCells _ (Nat.le_refl _) _ _ _ (bt (bt (ba _ _) hB2) hB3)⟩
    · refine bodyPost_ret (retCT rfl _ _ 0 rfl (lvA (LA.stored (q2.there (by rw [acells_len]; omega))))) rfl ⟨by rw [HE0.out hpr]; rfl, below_setCells _ (Nat.le_refl _) _ _ _ (bt (bt (ba _ _) hB2) hB3)⟩
end Go.Proofs.YtimpopolkofdgaaGreatDoor
