/-
  Drop of the table.
-/
import Derived.Test.YtacadlbhgelncaaN27
namespace Go.Proofs.Ytacadlbhgelncaa
open Lk (Hi hcs hcs_one)
open Rk (Rt rcs rtV)
open Go.RowKit Go.Maps Go.Shelf
set_option linter.unusedSimpArgs false
set_option linter.unusedVariables false
set_option maxRecDepth 20000
theorem run_mkB (k : Nat) (hk : k ≤ 8) (w : World) : (Instr.makeSlice 101 (.int .i64 (k : Int)) (.int .i64 (k : Int))).run Try.prog w = .ok (.slice (some ⟨w.heap.size, 0, none⟩) k k) (w.alloc (.cells ((List.replicate k false).map Value.bool).toArray 4)) := by
  match k, hk with
  | 0, _ => show _ = _; kernel_rfl
  | 1, _ => show _ = _; kernel_rfl
  | 2, _ => show _ = _; kernel_rfl
  | 3, _ => show _ = _; kernel_rfl
  | 4, _ => show _ = _; kernel_rfl
  | 5, _ => show _ = _; kernel_rfl
  | 6, _ => show _ = _; kernel_rfl
  | 7, _ => show _ = _; kernel_rfl
  | 8, _ => show _ = _; kernel_rfl
/-- Which interfaces are named. -/
def dropB (n : Nat) (l : List Int) : List Bool := (List.range n).map fun (j : Nat) => l.any (fun i => decide (i = (j : Int)))
theorem dropB_len (n : Nat) (l : List Int) : (dropB n l).length = n := by simp [dropB]
theorem dropB_nil (n : Nat) : dropB n [] = List.replicate n false := by
  unfold dropB
  apply List.ext_getElem
  · simp
  · intro i h1 h2
    simp
theorem dropB_out {n : Nat} {l : List Int} {i : Int} (h : ¬ (0 ≤ i ∧ i < n)) : dropB n (l ++ [i]) = dropB n l := by
  unfold dropB
  apply List.map_congr_left
  intro j hj
  rw [List.mem_range] at hj
  have : decide (i = (j : Int)) = false := by simp; omega
  simp [this]
theorem dropB_in {n j : Nat} {l : List Int} (h : j < n) : dropB n (l ++ [(j : Int)]) = (dropB n l).set j true := by
  unfold dropB
  apply List.ext_getElem
  · simp
  · intro i h1 h2
    rw [List.getElem_set]
    simp only [List.getElem_map, List.getElem_range, List.any_append, List.any_cons, List.any_nil, Bool.or_false]
    by_cases e : j = i
    · subst e; simp
    · rw [if_neg e]
      have : decide ((j : Int) = (i : Int)) = false := by simp; omega
      simp [this]
theorem dropB_get {n : Nat} {l : List Int} {i : Int} (h0 : 0 ≤ i) (h1 : i < n) : (dropB n l).getD i.toNat false = l.any (fun x => decide (x = i)) := by
  have h2 : i.toNat < n := by omega
  unfold dropB
  simp only [List.getD, List.getElem?_map, List.getElem?_range h2, Option.map_some, Option.getD_some]
  congr 1
  funext x
  congr 1
  exact propext ⟨fun e => by omega, fun e => by omega⟩
/-- Who is left. -/
def keptL (L : List Ng) (l : List Int) : List Ng := L.filter fun n => !l.any (fun x => decide (x = n.i))
/-- Numbers in memory. -/
structure IlW (w : World) (ad : Option Addr) (l : List Int) : Prop where
  lies : l = [] ∨ ∃ g o, ad = some ⟨g, o, none⟩ ∧ g < w.heap.size ∧ ∀ (j : Nat) (v : Int), l[j]? = some v → w.cell? ⟨g, o + j, none⟩ = some (.int .i64 v)
theorem IlW.below {w w' : World} {ad : Option Addr} {l : List Int} (h : IlW w ad l) (hb : Below w.heap.size w w') : IlW w' ad l :=
  ⟨h.lies.imp id fun ⟨g, o, e, hg, hl⟩ => ⟨g, o, e, Nat.lt_of_lt_of_le hg hb.size, fun j v hv => (hb.cell (p := ⟨g, o + j, none⟩) hg).trans (hl j v hv)⟩⟩
section
variable {ops : Array Oper} {rest : List Oper} {op : Oper} {a : Act} {w : World} {Q : Exit → Act → World → Prop}
theorem stBr (x y : Operand) (hw : Region.wanted op (yielded ops a.tmps) = true) (ho : op.op = .store 4 x y) (b c : Nat) (bs : List Bool) (v : Bool) (hx : a.eval x = .pointer (some ⟨b, c, none⟩)) (hy : a.eval y = .bool v) (hr : Row w b 4 (bs.map Value.bool)) (hc : c < bs.length)
    (h : ∀ W, w.grownBy W (some b) → Row W b 4 ((bs.set c v).map Value.bool) → wpList Try.prog ops Q rest (a.put op.dst undef) W) : wpList Try.prog ops Q (op :: rest) a w := by
  refine stBo x y hw ho b c (bs.map Value.bool) v hx hy hr (by simpa using hc) fun W g r => h W g ?_
  rw [List.map_set]
  exact r
end
set_option maxHeartbeats 8000000 in
theorem drop_any {w : World} {t mb : Nat} {most : Int} {F : List Fc} {L : List Ng} (h : Tb w t mb most F L) (hF : F.length ≤ 8) (ad : Option Addr) (c : Nat) (l : List Int) (hl : IlW w ad l) (hn : l.length ≤ 1000000) :
    Calls Try.prog 21 #[.pointer (some ⟨t, 0, none⟩), .slice ad l.length c] w fun e w' => e = .returned (.int .i64 ((L.length : Int) - ((keptL L l).length : Int))) ∧ Turn w w' t mb most F (keptL L l) := by
  have hmk := run_mkB F.length hF
  obtain ⟨fa, fc, hr, hfs⟩ := h.ex
  have c1 : w.cell? ⟨t, 1, none⟩ = some (.slice fa F.length fc) := hr.cell 1
  go_enter Try.func21, Try.ntmps21
  go_upto_region 4 with fail
  have ea : Array.replicate F.length (Value.bool false) = ((List.replicate F.length false).map Value.bool).toArray := by simp
  rw [ea]
  have hlow := low_rows w ((List.replicate F.length false).map Value.bool) [.slice (some ⟨w.heap.size, 0, none⟩) F.length F.length] 4 101
  refine name_world (R := fun W => Code.wp _ _ _ _ W) (P := fun W => Below w.heap.size w W ∧ BlW W (w.heap.size + 1) w.heap.size (dropB F.length [])) _ ⟨hlow.1, ⟨by rw [dropB_len]; exact hlow.2.2, by rw [dropB_nil]; exact hlow.2.1⟩⟩ ?_
  clear hlow hmk c1
  rintro X ⟨hX, hbl⟩
  have HT : Hid (∀ W, Below w.heap.size w W → Tb W t mb most F L) := fun W hW => h.below hW
  have HI : Hid (∀ W, Below w.heap.size w W → IlW W ad l) := fun W hW => hl.below hW
  clear hr hfs hl
  go_wp2_with fail
  go_loopw [7, 19] (fun _ i wr => ∃ j : Nat, j ≤ l.length ∧ i = .int .i64 j ∧ BlW wr (w.heap.size + 1) w.heap.size (dropB F.length (l.take j)) ∧ Below w.heap.size w wr) (fun _ i _ => l.length - (intOf i).toNat)
  case atStart => exact ⟨0, Nat.zero_le _, rfl, hbl, hX⟩
  case round =>
    clear hbl hX
    obtain ⟨j, hj, rfl, hbl, hb⟩ := hrel
    by_cases hlt : j < l.length
    · rcases (HI.out _ hb).lies with h0 | ⟨lg, lo, rfl, hlg, hcs⟩
      · rw [h0] at hlt; simp at hlt
      have hx := hcs j l[j] (List.getElem?_eq_getElem hlt)
      have hHas := hasIf_any (HT.out _ hb) l[j]
      have hji : (j : Int) < (l.length : Int) := by omega
      have hw64 : wrap64 ((j : Int) + 1) = (j : Int) + 1 := by unfold wrap64; omega
      have HJ : Hid (j + 1 ≤ l.length) := hlt
      have HM : Hid (l.length - ((j : Int) + 1).toNat < l.length - ((j : Int)).toNat) := meas hlt
      have HS : Hid (l.take (j + 1) = l.take j ++ [l[j]]) := List.take_succ_eq_append_getElem hlt
      generalize l[j] = z at *
      by_cases hin : 0 ≤ z ∧ z < F.length
      · obtain ⟨q, rfl⟩ : ∃ q : Nat, z = q := ⟨z.toNat, by omega⟩
        have hq : q < F.length := by omega
        have hqi : (q : Int) < ((dropB F.length (l.take j)).length : Int) := by rw [dropB_len]; omega
        have hqn : q < (dropB F.length (l.take j)).length := by rw [dropB_len]; exact hq
        have HD : Hid (dropB F.length (l.take (j + 1)) = (dropB F.length (l.take j)).set q true) := by show _ = _; rw [HS.out]; exact dropB_in hq
        have hhb : (decide (0 ≤ (q : Int)) && decide ((q : Int) < (F.length : Int))) = true := by simp; omega
        rw [hhb] at hHas
        have c1 := hbl.var.cell 0
        simp only [List.getElem?_cons_zero] at c1
        have hrow := hbl.row
        have hvar := hbl.var
        have HV : Hid (∀ W bs', wr.grownBy W (some w.heap.size) → bs'.length = (dropB F.length (l.take j)).length → Row W w.heap.size 4 (bs'.map Value.bool) → BlW W (w.heap.size + 1) w.heap.size bs' ∧ Below w.heap.size w W) := fun W bs' hg he hr => by
          refine ⟨⟨?_, hr⟩, grown_below hg hb (Nat.le_refl _) hb.size⟩
          rw [he]
          exact hvar.keep hg (by omega)
        generalize dropB F.length (l.take j) = bs at *
        clear hcs HS hhb hin hj hlt hq hbl hvar HI HT
        go_wp2_with (first
          | (refine stBr (.tmp 28) (.const (.bool true)) rfl rfl w.heap.size q bs true rfl rfl hrow hqn ?_; intro W5 g5 r5)
          | (go_at_call 24; refine hHas.mono ?_; rintro e w4 ⟨rfl, rfl⟩))
        obtain ⟨k1, k2⟩ := HV.out _ _ g5 (by simp) r5
        rw [← HD.out] at k1
        go_roundw
        case rel => exact ⟨j + 1, HJ.out, by first | rfl | go_num, k1, k2⟩
        case measure => (try rw [hw64]); simp only [intOf]; exact HM.out
      · have hhb : (decide (0 ≤ z) && decide (z < (F.length : Int))) = false := by simp; omega
        rw [hhb] at hHas
        have HD : Hid (dropB F.length (l.take (j + 1)) = dropB F.length (l.take j)) := by show _ = _; rw [HS.out]; exact dropB_out hin
        have HB2 : Hid (BlW wr (w.heap.size + 1) w.heap.size (dropB F.length (l.take j))) := hbl
        clear hcs HS hhb hin hj hlt HI HT hbl
        go_wp2_with (first
          | (go_at_call 24; refine hHas.mono ?_; rintro e w4 ⟨rfl, rfl⟩))
        go_roundw
        case rel => exact ⟨j + 1, HJ.out, by first | rfl | go_num, by rw [HD.out]; exact HB2.out, hb⟩
        case measure => (try rw [hw64]); simp only [intOf]; exact HM.out
    · have hjl : j = l.length := by omega
      rw [hjl, List.take_length] at hbl
      have hji : ¬ (j : Int) < (l.length : Int) := by omega
      have tb := HT.out _ hb
      obtain ⟨fa2, fc2, hr2, _⟩ := tb.ex
      have c2 : wr.cell? ⟨t, 2, none⟩ = some (.map (some mb)) := hr2.cell 2
      have hln := fun ty => tb.map.len ty
      have hDF := deleteF_any mb (w.heap.size + 1) w.heap.size (dropB F.length l) L wr tb.map hbl (fun n hn => by
        have := tb.nok n hn
        rw [dropB_len]
        exact ⟨this.2.1, by omega⟩)
      have hkeep : L.filter (fun n => !(dropB F.length l).getD n.i.toNat false) = keptL L l := by
        unfold keptL
        apply List.filter_congr
        intro n hn
        have := tb.nok n hn
        rw [dropB_get this.2.1 this.2.2.1]
      rw [hkeep] at hDF
      have hkl : (keptL L l).length ≤ L.length := List.length_filter_le _ _
      have hll := tb.ll
      have hsub : wrap64 ((L.length : Int) - ((keptL L l).length : Int)) = (L.length : Int) - ((keptL L l).length : Int) := by unfold wrap64; omega
      have HE : Hid (∀ W L', wr.grownBy W (some mb) → L'.Perm (keptL L l) → Mp W mb L' → Turn w W t mb most F (keptL L l) ∧ W.cell? ⟨t, 2, none⟩ = some (.map (some mb)) ∧ ∀ ty, (Builtin.len_ #[74] ty #[.map (some mb)]).run Try.prog W = .ok (.int .i64 ((keptL L l).length : Nat)) W) := fun W L' hg hp hm => by
        have hm' := hm.perm hp.symm
        have tb' := tb.turn hm' hg (fun n hn => tb.nok n (List.mem_filter.1 hn).1) (by omega)
        refine ⟨⟨tb', hg.os.trans hb.os, hg.tape.trans hb.tape, hg.output.trans hb.output, Nat.le_trans hb.size hg.size, fun i hi hne => (hg.block i (Nat.lt_of_lt_of_le hi hb.size) (fun e => hne (by cases e; rfl))).trans (hb.block i hi)⟩, ?_, fun ty => hm'.len ty⟩
        obtain ⟨_, _, hr3, _⟩ := tb'.ex
        exact hr3.cell 2
      clear hkeep hbl tb hr2 HI HT hkl hll hjl hlt hj
      go_wp2_with (first
        | (have kk := hDF; go_at_call 41; refine hDF.mono ?_; rintro e w5 ⟨rfl, hg5, L', hp5, hm5⟩; obtain ⟨hT5, c5, hln5⟩ := HE.out _ _ hg5 hp5 hm5; clear hDF kk hg5 hp5 hm5))
      go_ret
      exact ⟨by show Ending.returned (Value.int .i64 (wrap64 ((L.length : Int) - ((keptL L l).length : Int)))) = _; rw [hsub], hT5⟩
end Go.Proofs.Ytacadlbhgelncaa
