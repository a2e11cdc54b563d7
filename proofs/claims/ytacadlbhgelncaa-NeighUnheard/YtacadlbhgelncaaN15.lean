/-
  List of the table, where there is one neighbour at most.
-/
import Derived.Test.YtacadlbhgelncaaN14
namespace Go.Proofs.Ytacadlbhgelncaa
open Lk (Hi hcs hcs_one)
open Rk (Rt rcs rtV)
open Go.RowKit Go.Maps Go.Shelf
set_option linter.unusedSimpArgs false
set_option linter.unusedVariables false
set_option maxRecDepth 20000
theorem collect_any (Bm mb : Nat) (L : List Ng) (w : World) (hL : L.length ≤ 1000000) (h1 : Bm < w.heap.size) (c1 : w.cell? ⟨Bm, 0, none⟩ = some (.map (some mb))) (hm : Mp w mb L) :
    Calls Try.prog 50 #[.func (.func 52) #[] #[.pointer (some ⟨Bm, 0, none⟩)]] w fun e w' => ∃ r xs, e = .returned r ∧ xs.Perm L ∧ kN.Own w' (w.heap.size + 1) r xs ∧ Below w.heap.size w w' := by
  have hA := appseq_any Bm mb L w hL h1 c1 hm
  clear hm c1 h1
  go_enter Try.func50, Try.ntmps50
  go_wp2_with (go_at_call 69; refine hA.mono ?_; rintro e w1 ⟨r, xs, rfl, hp, hO, hB⟩; obtain ⟨va, vc, rfl, _⟩ := Kd.own_at hO)
  go_ret
  exact ⟨_, _, rfl, hp, hO, hB⟩
theorem perm_one {α : Type} {l m : List α} (h : l.Perm m) (hm : m.length ≤ 1) : l = m := by
  match m, hm with
  | [], _ => exact h.eq_nil
  | [x], _ => exact List.perm_singleton.1 h
theorem insert_one (ad : Option Addr) (n c : Nat) (fv : Value) (w : World) (hn : n ≤ 1) : Calls Try.prog 76 #[.slice ad n c, .int .i64 0, .int .i64 (n : Int), fv] w fun e w' => e = .returned (.tuple #[]) ∧ w = w' := by
  go_enter Try.func76, Try.ntmps76
  go_wp2_with fail
  go_loopw [8] (fun i wr => i = .int .i64 1 ∧ w = wr) (fun _ _ => 0)
  case atStart => exact ⟨rfl, rfl⟩
  case round =>
    obtain ⟨rfl, rfl⟩ := hrel
    have hn' : ¬ (1 : Int) < (n : Int) := by omega
    go_wp2_with fail
    go_end0
    exact ⟨rfl, rfl⟩
theorem pdq_one (ad : Option Addr) (n c : Nat) (l : Int) (fv : Value) (w : World) (hn : n ≤ 1) : Calls Try.prog 70 #[.slice ad n c, .int .i64 0, .int .i64 (n : Int), .int .i64 l, fv] w fun e w' => e = .returned (.tuple #[]) ∧ w = w' := by
  have hI := insert_one ad n c fv
  have hn' : (n : Int) ≤ 12 := by omega
  go_enter Try.func70, Try.ntmps70
  go_wp2_with fail
  go_loopw [1, 2] (fun i b wr => i = .int .i64 0 ∧ b = .int .i64 (n : Int) ∧ w = wr) (fun _ _ _ => 0)
  case atStart => exact ⟨rfl, rfl, rfl⟩
  case round =>
    obtain ⟨rfl, rfl, rfl⟩ := hrel
    go_wp2_with (go_at_call 76; refine (hI _ hn).mono ?_; rintro e w1 ⟨rfl, rfl⟩)
    refine bodyPost_ret (results_none rfl _ _ _) rfl ?_
    exact ⟨rfl, rfl⟩
theorem len_one (n : Nat) (w : World) (hn : n ≤ 1) : Calls Try.prog 71 #[.int .u64 (n : Int)] w fun e w' => ∃ l, e = .returned (.int .i64 l) ∧ Below w.heap.size w w' := by
  match n, hn with
  | 0, _ =>
    go_enter Try.func71, Try.ntmps71
    go_wp2
    go_ret
    exact ⟨_, rfl, Below.refl _ _⟩
  | 1, _ =>
    go_enter Try.func71, Try.ntmps71
    go_wp2
    go_ret
    exact ⟨_, rfl, Below.refl _ _⟩
theorem sort_one (ad : Option Addr) (n c : Nat) (fv : Value) (w : World) (hn : n ≤ 1) : Calls Try.prog 51 #[.slice ad n c, fv] w fun e w' => e = .returned (.tuple #[]) ∧ Below w.heap.size w w' := by
  have hP := fun l W => pdq_one ad n c l fv W hn
  have hL := fun W => len_one n W hn
  have hc : IntKind.u64.wrap (n : Int) = n := by simp [IntKind.wrap, IntKind.signed, IntKind.bits]; omega
  go_enter Try.func51, Try.ntmps51
  go_wp2_with (first
    | (go_at_call 71; refine (hL _).mono ?_; rintro e w1 ⟨l, rfl, b1⟩)
    | (go_at_call 70; refine (hP _ _).mono ?_; rintro e w2 ⟨rfl, rfl⟩))
  go_end0
  exact ⟨rfl, b1⟩
theorem sorted_one (Bm mb : Nat) (L : List Ng) (fv : Value) (w : World) (hL : L.length ≤ 1) (h1 : Bm < w.heap.size) (c1 : w.cell? ⟨Bm, 0, none⟩ = some (.map (some mb))) (hm : Mp w mb L) :
    Calls Try.prog 29 #[.func (.func 52) #[] #[.pointer (some ⟨Bm, 0, none⟩)], fv] w fun e w' => ∃ r, e = .returned r ∧ kN.Own w' (w.heap.size + 1) r L ∧ Below w.heap.size w w' := by
  have hA := collect_any Bm mb L w (by omega) h1 c1 hm
  have hS := fun (ad : Option Addr) (n c : Nat) (W : World) (hn : n ≤ 1) => sort_one ad n c fv W hn
  clear hm c1 h1
  go_enter Try.func29, Try.ntmps29
  go_wp2_with (first
    | (go_at_call 50; refine hA.mono ?_; rintro e w1 ⟨r, xs, rfl, hp, hO, hB⟩; obtain rfl : xs = L := (perm_one hp hL); obtain ⟨va, vc, rfl, _⟩ := Kd.own_at hO)
    | (go_at_call 51; refine (hS _ _ _ _ hL).mono ?_; rintro e w2 ⟨rfl, b2⟩))
  go_ret
  exact ⟨_, rfl, own_below hO b2, bt hB b2⟩
theorem list_one {w : World} {t mb : Nat} {most : Int} {F : List Fc} {L : List Ng} (h : Tb w t mb most F L) (hL : L.length ≤ 1) : Calls Try.prog 13 #[.pointer (some ⟨t, 0, none⟩)] w fun e w' => ∃ r, e = .returned r ∧ kN.Own w' w.heap.size r L ∧ Below w.heap.size w w' := by
  obtain ⟨fa, fc, hr, _⟩ := h.ex
  have c2 : w.cell? ⟨t, 2, none⟩ = some (.map (some mb)) := hr.cell 2
  have hV := vals_any mb
  have hS : ∀ fv, Calls Try.prog 29 #[.func (.func 52) #[] #[.pointer (some ⟨w.heap.size, 0, none⟩)], fv] (w.alloc (.cells #[.map (some mb)] 74)) fun e w' => ∃ r, e = .returned r ∧ kN.Own w' w.heap.size r L ∧ Below w.heap.size w w' := fun fv => by
    have r0 := Row.new w 74 [.map (some mb)]
    refine (sorted_one w.heap.size mb L fv _ hL (by simp) (r0.cell 0) (h.map.below (ba _ _) h.map.lt)).mono ?_
    rintro e w' ⟨r, rfl, hO, hB⟩
    refine ⟨r, rfl, ?_, bt (ba _ _) hB⟩
    rcases hO.2 with ⟨e, h1⟩ | ⟨g, cap, cur, e, hb, h2⟩
    · exact ⟨hO.1, .inl ⟨e, h1⟩⟩
    · exact ⟨hO.1, .inr ⟨g, cap, cur, e, by simp at hb; omega, h2⟩⟩
  clear h hr
  go_enter Try.func13, Try.ntmps13
  go_wp2_with (first
    | (go_at_call 29; refine (hS _).mono ?_; rintro e w2 ⟨r, rfl, hO, hB⟩; obtain ⟨va, vc, rfl, _⟩ := Kd.own_at hO)
    | (refine (hV _).mono ?_; rintro e w1 ⟨rfl, rfl⟩))
  go_ret
  exact ⟨_, rfl, hO, hB⟩
theorem list_nil (w : World) : Calls Try.prog 13 #[.pointer none] w fun e w' => e = .returned (.slice none 0 0) ∧ w = w' := by
  go_enter Try.func13, Try.ntmps13
  go_wp2
  go_ret
  exact ⟨rfl, rfl⟩
end Go.Proofs.Ytacadlbhgelncaa
