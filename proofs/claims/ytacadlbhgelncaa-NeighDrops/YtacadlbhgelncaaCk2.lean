/-
  The document's Check of a configuration with one interface: where it is OK, the interface may be.
-/
import Derived.Test.YtacadlbhgelncaaCk1
namespace Go.Proofs.Ytacadlbhgelncaa
open Lk (Hi hcs hcs_one)
open Rk (Rt rcs rtV)
open Go.RowKit
set_option linter.unusedSimpArgs false
set_option linter.unusedVariables false
set_option maxRecDepth 20000
def oneI : Id8 := ⟨[0, 0, 0, 0, 0, 0, 0, 1], rfl⟩
/-- The cells of a configuration with one interface. -/
def gtl (ad : Option Addr) (k : Nat) : List Value := [.slice ad 1 k, .slice none 0 0, .slice none 0 0, .int .i64 1, .int .i64 1, .int .i64 1, .int .i64 1]
def gcs (ad : Option Addr) (k : Nat) : List Value := icells oneI ++ gtl ad k
theorem gcs_len (ad : Option Addr) (k : Nat) : (gcs ad k).length = 15 := rfl
theorem gcs_one (ad : Option Addr) (k : Nat) : ∀ u ∈ gcs ad k, u.oneCell' = true := by
  intro u hu
  simp only [gcs, List.mem_append] at hu
  rcases hu with h | h
  · exact icells_one _ u h
  · simp [gtl] at h
    rcases h with rfl | rfl | rfl <;> rfl
def gzs : List Value := icells zeroI ++ [.slice none 0 0, .slice none 0 0, .slice none 0 0, .int .i64 0, .int .i64 0, .int .i64 0, .int .i64 0]
theorem infoGs : (Try.prog.info? 71).map (·.size) = some 15 := by kernel_rfl
theorem infoGz : (Try.prog.info? 71).map (·.zero) = some (some (.agg gzs.toArray)) := by kernel_rfl
theorem bdI1 (w : World) : (Instr.build 32 #[(7, .int .u8 1)]).run Try.prog w = .ok (.agg (icells oneI).toArray) w := by kernel_rfl
theorem bdG1 (ad : Option Addr) (k : Nat) (w : World) : (Instr.build 71 #[(0, .agg (icells oneI).toArray), (1, .slice ad 1 k), (4, .int .i64 1), (5, .int .i64 1), (6, .int .i64 1), (7, .int .i64 1)]).run Try.prog w = .ok (.agg (gcs ad k).toArray) w := by kernel_rfl
section
variable {ops : Array Oper} {rest : List Oper} {op : Oper} {a : Act} {w : World} {Q : Exit → Act → World → Prop}
theorem ldG (x : Operand) (hw : Region.wanted op (yielded ops a.tmps) = true) (ho : op.op = .load 71 x) (b : Nat) (ad : Option Addr) (k : Nat) (hx : a.eval x = .pointer (some ⟨b, 0, none⟩)) (hc : Row w b 71 (gcs ad k))
    (h : wpList Try.prog ops Q rest (a.put op.dst (.agg (gcs ad k).toArray)) w) : wpList Try.prog ops Q (op :: rest) a w :=
  wpList_step fun K hK => by
    rw [if_pos hw]
    exact wp_load_mid _ x ho b 0 hx (gcs ad k) _ hc.range Try.underlying71 rfl (by rw [infoGs, gcs_len]) (hK _ _ h)
theorem stG1 (x y : Operand) (hw : Region.wanted op (yielded ops a.tmps) = true) (ho : op.op = .store 71 x y) (b : Nat) (ad : Option Addr) (k : Nat) (hx : a.eval x = .pointer (some ⟨b, 0, none⟩)) (hy : a.eval y = .agg (gcs ad k).toArray) (hr : Row w b 71 gzs)
    (h : ∀ W, w.grownBy W (some b) → Row W b 71 (gcs ad k) → wpList Try.prog ops Q rest (a.put op.dst undef) W) : wpList Try.prog ops Q (op :: rest) a w :=
  wpList_step fun K hK => by
    rw [if_pos hw]
    refine wp_store_mid _ x y ho b 0 _ hx hy (by simpa [gcs_len] using hr.there (n := 15) (by decide)) (by rw [infoGs]; simp [gcs_len]) (all_oneCell_toArray (gcs_one ad k)) (hK _ _ (h _ (grownBy_setCells b _ _ _) ?_))
    have := Row.setCells (gcs ad k) [] w gzs hr rfl
    simpa using this
end
/-- What Check tells of an interface. -/
def ChkP (c : Ic) (w : World) (e : Ending) (w' : World) : Prop := ∃ z : Int, e = .returned (.int .i64 z) ∧ (z = 0 → IfOk c) ∧ Below w.heap.size w w'
set_option maxHeartbeats 16000000 in
theorem rcheck_one (c : Ic) (g o k : Nat) (w : World) (hg : g < w.heap.size) (hc : w.rangeAt g o (ics c)) : Calls Try.prog 22 #[.agg (gcs (some ⟨g, o, none⟩) k).toArray] w (ChkP c w) := by
  have hEq : ∀ w, (Op.equalIn 10000 32 (.agg (icells oneI).toArray) (.agg (icells zeroI).toArray)).run Try.prog w = .ok false w := fun w => eqI 9998 oneI zeroI w
  have hF := fun W => rfull_some oneI.l oneI.len W
  have hI := fun W => riface_is c W
  have r0 := Row.new w 71 (gcs (some ⟨g, o, none⟩) k)
  go_enter Try.func22, Try.ntmps22
  go_upto_region 1 with fail
  refine name_world (R := fun W => Code.wp _ _ _ _ W) (P := fun W => Below w.heap.size w W ∧ Row W w.heap.size 71 (gcs (some ⟨g, o, none⟩) k)) _ ⟨ba _ _, r0⟩ ?_
  clear r0
  rintro X ⟨hB, r0⟩
  have hs := r0.lt
  have hid : X.rangeAt w.heap.size 0 (icells oneI) := rangeAt_left (ds := gtl (some ⟨g, o, none⟩) k) r0.range
  have HK : Hid (∀ W, Below X.heap.size X W → W.cell? ⟨w.heap.size, 8, none⟩ = some (.slice (some ⟨g, o, none⟩) 1 k) ∧ W.cell? ⟨w.heap.size, 9, none⟩ = some (.slice none 0 0) ∧ W.cell? ⟨w.heap.size, 10, none⟩ = some (.slice none 0 0) ∧ W.cell? ⟨w.heap.size, 11, none⟩ = some (.int .i64 1) ∧ W.cell? ⟨w.heap.size, 12, none⟩ = some (.int .i64 1) ∧ W.cell? ⟨w.heap.size, 13, none⟩ = some (.int .i64 1) ∧ W.cell? ⟨w.heap.size, 14, none⟩ = some (.int .i64 1)) := fun W h => by
    have hr := r0.below h hs
    exact ⟨hr.cell 8, hr.cell 9, hr.cell 10, hr.cell 11, hr.cell 12, hr.cell 13, hr.cell 14⟩
  have HC : Hid (∀ W, Below X.heap.size X W → W.rangeAt g o (ics c)) := fun W h => rangeAt_below hc (bt hB h) hg
  clear r0 hc
  go_upto_region 3 with (first
    | (go_at_call 43; refine (hF _).mono ?_; rintro e w1 ⟨b, rfl, hb⟩; cases b)
    | (refine ldI (.tmp 9) rfl rfl _ _ oneI rfl hid ?_)
    | (refine ldI (.tmp 14) rfl rfl _ _ oneI rfl hid ?_)
    | ((with_reducible refine bdG (T := 32) (v := .agg (icells zeroI).toArray) [] ?_ ?_ ?_ ?_); (focus rfl); (focus rfl); (focus exact bdI0 _)))
  rotate_left
  · go_wp2_with fail
    go_ret
    exact ⟨91, rfl, fun h => absurd h (by decide), bt hB hb⟩
  obtain ⟨c8, c9, c10, c11, c12, c13, c14⟩ := HK.out _ hb
  go_upto_region 7 with fail
  go_wp2_with fail
  go_loopw [3] (fun i wr => Below X.heap.size X wr ∧ (i = .int .i64 0 ∨ (i = .int .i64 1 ∧ IfOk c))) (fun i _ => 1 - (intOf i).toNat)
  case atStart => exact ⟨hb, .inl rfl⟩
  case round =>
    clear c8 c9 c10 c11 c12 c13 c14 hb
    obtain ⟨hb, rfl | ⟨rfl, hok⟩⟩ := hrel
    · obtain ⟨c8, c9, c10, c11, c12, c13, c14⟩ := HK.out _ hb
      have hq := HC.out _ hb
      go_upto_region 12 with (first
        | (go_at_call 44; refine (hI _).mono ?_; rintro e w2 ⟨b, rfl, hok, hn⟩; cases b)
        | (refine ldC (.tmp 48) rfl rfl _ _ c rfl hq ?_))
      · go_wp2_with fail
        go_ret
        exact ⟨91, rfl, fun h => absurd h (by decide), bt hB (bt hb hn)⟩
      · replace hok := hok (by simp)
        have hb2 := bt hb hn
        go_wp2_with fail
        go_loopw [4] (fun i wr => i = .int .i64 0 ∧ w2 = wr) (fun _ _ => 0)
        case atStart => exact ⟨rfl, rfl⟩
        case round =>
          obtain ⟨rfl, rfl⟩ := hrel
          go_wp2_with fail
          go_roundw
          case rel => exact ⟨hb2, .inr ⟨rfl, hok⟩⟩
          case measure => simp [intOf]
    · obtain ⟨c8, c9, c10, c11, c12, c13, c14⟩ := HK.out _ hb
      go_wp2_with fail
      go_loopw [5] (fun i wr2 => i = .int .i64 0 ∧ wr = wr2) (fun _ _ => 0)
      case atStart => exact ⟨rfl, rfl⟩
      case round =>
        obtain ⟨rfl, rfl⟩ := hrel
        go_wp2_with fail
        go_loopw [7] (fun i wr2 => i = .int .i64 0 ∧ wr = wr2) (fun _ _ => 0)
        case atStart => exact ⟨rfl, rfl⟩
        case round =>
          obtain ⟨rfl, rfl⟩ := hrel
          have HO : Hid (IfOk c) := hok
          clear hok
          go_wp2_with (go_at_call 47; refine (rin_is _ _ _ _).mono ?_; rintro e wn ⟨bn, rfl, hin, rfl⟩; clear hin; cases bn)
          all_goals
            go_ret
            first
              | exact ⟨91, rfl, fun h => absurd h (by decide), bt hB hb⟩
              | exact ⟨0, rfl, fun _ => HO.out, bt hB hb⟩
end Go.Proofs.Ytacadlbhgelncaa
