/-
  The pieces of a text between its marks, as addr.parts hands them over one by one: for every text and every body of a loop.
-/
import Derived.RangeFuncNested
import Derived.RangeFuncBound
import Derived.RangeFuncCalls
import Derived.RangeFuncLeaves
import Derived.Shelf.Abstract
import Derived.Shelf.RegionOpen
import Derived.OwnWalkIn
import Derived.TacticsInMore
import Derived.LoopNIn
import Derived.LoopIn
import Derived.Test.YtimpopolkofdgaaGreatDoorNum
namespace Go.Proofs.YtimpopolkofdgaaGreatDoor
open Go.RowKit Go.Shelf
set_option linter.unusedSimpArgs false
attribute [local go_sem] Oper.semAt_some

/-- What stands between the marks of a text. -/
def pieces (c : UInt8) : List UInt8 → List (List UInt8)
  | [] => [[]]
  | x :: r => if x = c then [] :: pieces c r else match pieces c r with
    | [] => [[x]]
    | p :: ps => (x :: p) :: ps
theorem pieces_cut (c : UInt8) (l : List UInt8) : (Lib.indexByte l c = -1 ∧ pieces c l = [l]) ∨ ∃ i : Nat, Lib.indexByte l c = i ∧ i < l.length ∧ pieces c l = l.take i :: pieces c (l.drop (i + 1)) := by
  induction l with
  | nil => exact .inl ⟨rfl, rfl⟩
  | cons x l ih =>
    by_cases hx : x = c
    · subst hx
      exact .inr ⟨0, by simp [Lib.indexByte], by simp, by simp [pieces]⟩
    · have hx' : (x == c) = false := by simpa using hx
      rcases ih with ⟨h1, h2⟩ | ⟨i, h1, h2, h3⟩
      · exact .inl ⟨by simp [Lib.indexByte, hx', h1], by simp [pieces, hx, h2]⟩
      · refine .inr ⟨i + 1, ?_, by simp; omega, ?_⟩
        · have h4 : ((i : Int) == -1) = false := by simp
          simp only [Lib.indexByte, hx', h1, h4]
          simp
        · simp [pieces, hx, h3]
theorem cut_one (c : UInt8) (l : List UInt8) : (Lib.cut l [c] = (l, [], false) ∧ pieces c l = [l]) ∨ ∃ p r, Lib.cut l [c] = (p, r, true) ∧ pieces c l = p :: pieces c r ∧ r.length < l.length ∧ p.length ≤ l.length := by
  unfold Lib.cut
  rw [Lib.index_one]
  rcases pieces_cut c l with ⟨h1, h2⟩ | ⟨i, h1, h2, h3⟩
  · rw [h1]; exact .inl ⟨by simp, h2⟩
  · rw [h1]
    refine .inr ⟨l.take i, l.drop (i + 1), ?_, h3, by simp; omega, by rw [List.length_take]; omega⟩
    rw [if_pos (by omega)]
    simp
/-- How much is left to cut. -/
def leftOf (r m : Value) : Nat := match m with
  | .bool true => (match r with | .string s => s.size + 1 | _ => 0)
  | _ => 0
abbrev str (l : List UInt8) : ByteArray := ⟨l.toArray⟩
/-- A text that is not too long. -/
def tr (l : List UInt8) : List UInt8 := l.take 1000000
theorem tr_of {l : List UInt8} (h : l.length ≤ 1000000) : tr l = l := List.take_of_length_le h
theorem tr_len (l : List UInt8) : (tr l).length ≤ 1000000 := by simp [tr]; omega
theorem pieces_len (c : UInt8) : ∀ (l : List UInt8), ∀ p ∈ pieces c l, p.length ≤ l.length
  | [], p, h => by simp [pieces] at h; simp [h]
  | x :: r, p, h => by
    have ih := pieces_len c r
    unfold pieces at h
    split at h
    · rcases List.mem_cons.1 h with rfl | h
      · simp
      · have := ih p h; simp; omega
    · revert h ih
      cases pieces c r with
      | nil => intro _ h; simp at h; simp [h]
      | cons q qs =>
        intro ih h
        rcases List.mem_cons.1 h with rfl | h
        · have := ih q (by simp); simp; omega
        · have := ih p (by simp [h]); simp; omega
theorem pieces_tr (c : UInt8) (l : List UInt8) (h : l.length ≤ 1000000) : (pieces c l).map tr = pieces c l := by
  conv => rhs; rw [← List.map_id (pieces c l)]
  exact List.map_congr_left fun p hp => tr_of (Nat.le_trans (pieces_len c l p hp) h)
abbrev encS (l : List UInt8) : Array Value := #[.string (str (tr l))]

theorem cell_same {A B : World} {b : Nat} (h : B.heap[b]? = A.heap[b]?) (o : Nat) : B.cell? ⟨b, o, none⟩ = A.cell? ⟨b, o, none⟩ := by simp [World.cell?, h]
/-- What a round keeps: all that lay at the beginning, and the mark. -/
def Kept (m0 Bm : Nat) (A B : World) : Prop := Below m0 A B ∧ B.heap[Bm]? = A.heap[Bm]?
theorem kept_t {m0 Bm : Nat} {A B C : World} (h : Kept m0 Bm A B) (k : Kept m0 Bm B C) : Kept m0 Bm A C := ⟨h.1.trans k.1, k.2.trans h.2⟩
theorem kept_b {m0 Bm : Nat} {w : World} (hn : m0 ≤ w.heap.size) (hm : Bm < w.heap.size) (W : World) (l : Nat) (o o' : Obj) (hl : w.heap.size ≤ l) (h : W.heap[l]? = some o) (h1 : o.isCells = false) (h2 : o.isWalk = false) : Kept m0 Bm W (W.putObj l o') :=
  ⟨belowK_b hn W l o o' hl h h1 h2, (grownBy_putObj' W l o').block Bm (by have := (Array.getElem?_eq_some_iff.1 h).1; omega) (fun e => by cases e; omega)⟩

set_option maxRecDepth 100000 in
set_option maxHeartbeats 2000000 in
theorem parts_stops (n : Nat) (hn : 1 ≤ n) (Bs Bm n0 : Nat) (s : List UInt8) (c : UInt8) (w : World) (hs : s.length ≤ 1000000) (hg : 8 ≤ n0) (h1 : Bs < w.heap.size) (h2 : Bm < w.heap.size) (hw : n0 ≤ w.heap.size) (hG : Glob w)
    (c1 : w.cell? ⟨Bs, 0, none⟩ = some (.string (str s))) (c2 : w.cell? ⟨Bm, 0, none⟩ = some (.string ⟨#[c]⟩)) :
    SeqStopsK Fence.wide n Tryz.prog 87 #[.pointer (some ⟨Bs, 0, none⟩), .pointer (some ⟨Bm, 0, none⟩)] encS (Kept n0 Bm) (fun xs => xs = pieces c s) (fun pre => pre <+: pieces c s) (pieces c s).length w := fun l J Jx W hbw hJ hJx hY h0 => by
  have hG' : Glob W := hG.keep (hbw.mono hw) hg
  have k1 : W.cell? ⟨Bs, 0, none⟩ = some (.string (str s)) := (hbw.cell (p := ⟨Bs, 0, none⟩) (by show Bs < _; omega)).trans c1
  have k2 : W.cell? ⟨Bm, 0, none⟩ = some (.string ⟨#[c]⟩) := (hbw.cell (p := ⟨Bm, 0, none⟩) (by show Bm < _; omega)).trans c2
  clear hG c1 c2 hbw
  obtain ⟨m, hm⟩ := hG'.m
  refine callsIn_of_wp Tryz.func87 rfl trivial ?_ rfl
  simp only [Tryz.ntmps87, List.size_toArray, List.length_cons, List.length_nil, Nat.reduceAdd, Nat.reduceSub, Array.replicate_succ, Array.replicate_zero, List.push_toArray, List.append_toArray, List.nil_append, List.cons_append]
  gi_wp2
  gi_loopw [4, 5] (fun r b wr => Kept n0 Bm W wr ∧ ((∃ (pre : List (List UInt8)) (rest : List UInt8), b = .bool true ∧ r = .string (str rest) ∧ rest.length ≤ 1000000 ∧ pieces c s = pre ++ pieces c rest ∧ J pre wr) ∨ (∃ rest, b = .bool false ∧ r = .string rest ∧ J (pieces c s) wr)))
    (fun r b _ => leftOf r b)
  case atStart => exact ⟨⟨Below.refl _ _, rfl⟩, .inl ⟨[], s, rfl, rfl, hs, rfl, h0⟩⟩
  case round =>
    obtain ⟨hB, (⟨pre, rest, rfl, rfl, hl, hx, hj⟩ | ⟨rest, rfl, rfl, hj⟩)⟩ := hrel
    · rcases cut_one c rest with ⟨e1, e2⟩ | ⟨p, r, e1, e2, e3, e4⟩
      · have hC := Tryz.strings_Cut (str rest) ⟨#[c]⟩ m wr (by show rest.length < _; omega) ((hB.1.cell (p := ⟨0, 0, none⟩) (by show 0 < n0; omega)).trans hm)
        rw [show (str rest).data.toList = rest from rfl, show (⟨#[c]⟩ : ByteArray).data.toList = [c] from rfl, e1] at hC
        dsimp only at hC
        have hk2 : wr.cell? ⟨Bm, 0, none⟩ = some (.string ⟨#[c]⟩) := (cell_same hB.2 0).trans k2
        have hAb : ∀ k, J pre (wr.drewN k) := fun k => hJ pre wr _ none hj ⟨rfl, rfl, rfl, Nat.le_refl _, fun _ _ _ => rfl⟩ (fun r e => by cases e)
        have hlen : pre.length < (pieces c s).length := by rw [hx, e2]; simp
        gi_wp2_with (refine ⟨trivial, ?_⟩; gi_at_call 58; refine (callsIn_wide.2 hC).mono ?_; rintro e w1 ⟨rfl, k, rfl⟩; obtain ⟨fn, tmps, assign, body, hy, hR⟩ := hY pre rest (wr.drewN k) (hAb k) hlen; rw [encS, tr_of hl] at hy)
        refine hR.mono ?_
        rintro e W3 (⟨rfl, hJ3, hk3⟩ | ⟨rfl, hJx3⟩)
        · gi_wp2
          go_roundw
          case rel => exact ⟨kept_t hB (kept_t ⟨below_drewN (Below.refl _ _) k, rfl⟩ hk3), .inr ⟨_, rfl, rfl, by rw [hx, e2]; exact hJ3⟩⟩
          case measure => simp [leftOf]
        · gi_wp2
          refine bodyPost_ret (results_none rfl _ _ _) rfl ?_
          refine ⟨⟨_, rfl⟩, .inr ⟨pre ++ [rest], ?_, hJx3⟩⟩
          rw [hx, e2]
          exact ⟨[], by simp⟩
      · have hC := Tryz.strings_Cut (str rest) ⟨#[c]⟩ m wr (by show rest.length < _; omega) ((hB.1.cell (p := ⟨0, 0, none⟩) (by show 0 < n0; omega)).trans hm)
        rw [show (str rest).data.toList = rest from rfl, show (⟨#[c]⟩ : ByteArray).data.toList = [c] from rfl, e1] at hC
        dsimp only at hC
        have hk2 : wr.cell? ⟨Bm, 0, none⟩ = some (.string ⟨#[c]⟩) := (cell_same hB.2 0).trans k2
        have hAb : ∀ k, J pre (wr.drewN k) := fun k => hJ pre wr _ none hj ⟨rfl, rfl, rfl, Nat.le_refl _, fun _ _ _ => rfl⟩ (fun r e => by cases e)
        have hlen : pre.length < (pieces c s).length := by rw [hx, e2]; simp
        gi_wp2_with (refine ⟨trivial, ?_⟩; gi_at_call 58; refine (callsIn_wide.2 hC).mono ?_; rintro e w1 ⟨rfl, k, rfl⟩; obtain ⟨fn, tmps, assign, body, hy, hR⟩ := hY pre p (wr.drewN k) (hAb k) hlen; rw [encS, tr_of (Nat.le_trans e4 hl)] at hy)
        refine hR.mono ?_
        rintro e W3 (⟨rfl, hJ3, hk3⟩ | ⟨rfl, hJx3⟩)
        · gi_wp2
          go_roundw
          case rel => exact ⟨kept_t hB (kept_t ⟨below_drewN (Below.refl _ _) k, rfl⟩ hk3), .inl ⟨pre ++ [p], r, rfl, rfl, by omega, by rw [hx, e2]; simp, hJ3⟩⟩
          case measure => simp [leftOf, ByteArray.size]; omega
        · gi_wp2
          refine bodyPost_ret (results_none rfl _ _ _) rfl ?_
          refine ⟨⟨_, rfl⟩, .inr ⟨pre ++ [p], ?_, hJx3⟩⟩
          rw [hx, e2]
          exact ⟨pieces c r, by simp⟩
    · gi_wp2
      go_end0
      exact ⟨⟨_, rfl⟩, .inl ⟨_, rfl, hj⟩⟩
end Go.Proofs.YtimpopolkofdgaaGreatDoor
