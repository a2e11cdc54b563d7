/-
  Forget on a nil table.
-/
import Derived.Test.YtbjclphgabpgoaaRG
namespace Go.Proofs.Ytbjclphgabpgoaa
open Go.RowKit Go.Maps Go.Shelf
set_option linter.unusedSimpArgs false
set_option linter.unusedVariables false
set_option maxRecDepth 20000
set_option maxHeartbeats 16000000 in
theorem forget_nil {w : World} (ad : Option Addr) (c : Nat) (l : List Pr) (hq : QsW w ad l) (hi : ∀ p ∈ l, wfQ p) (hl : l.length ≤ 1000000) :
    Calls Try.prog 18 #[.pointer none, .slice ad l.length c] w (Gives w (.int .i64 0)) := by
  have hmf : ∀ (fn : Fn) (first cap : Array Value) (w : World), (Instr.makeFunc fn first cap).run Try.prog w = .ok (.func fn first cap) w := fun _ _ _ _ => rfl
  have hmk := run_mkQ w
  have hzm := map_zero
  have HI0 : FgI w (w.heap.size + 1) w.heap.size ad l 0 ((w.alloc (.map #[] 0)).alloc (.cells #[.map (some w.heap.size)] 83)) := by
    have hb : Below w.heap.size w ((w.alloc (.map #[] 0)).alloc (.cells #[.map (some w.heap.size)] 83)) := bt (ba _ _) (ba _ _)
    refine ⟨?_, ?_, hq.below hb, hb⟩
    · have := Row.new (w.alloc (.map #[] 0)) 83 [.map (some w.heap.size)]
      simpa using this
    · rw [List.take_zero]
      exact (Mq.new w).below (ba _ _) (by simp)
  clear hq
  go_enter Try.func18, Try.ntmps18
  go_upto_region 2 with fail
  refine name_world (R := fun W => Code.wp _ _ _ _ W) (P := fun W => FgI w (w.heap.size + 1) w.heap.size ad l 0 W) _ HI0 ?_
  clear HI0 hmk
  intro X HI0
  go_wp2_with fail
  go_loopw [14] (fun u wr => ∃ (j : Nat), u = .int .i64 j ∧ j ≤ l.length ∧ FgI w (w.heap.size + 1) w.heap.size ad l j wr) (fun u _ => l.length - (intOf u).toNat)
  case atStart => exact ⟨0, rfl, Nat.zero_le _, HI0⟩
  case round =>
    clear HI0
    obtain ⟨j, rfl, hj, hI⟩ := hrel
    by_cases hlt : j < l.length
    · rcases hI.qs.lies with h0 | ⟨g, o, rfl, ⟨cs, T, f, hg⟩, hc⟩
      · rw [h0] at hlt; simp at hlt
      have hq : LQ wr g (o + j * 34) l[j] := hc j l[j] (List.getElem?_eq_getElem hlt)
      have hji : (j : Int) < (l.length : Int) := by omega
      have hw64 : wrap64 ((j : Int) + 1) = (j : Int) + 1 := by unfold wrap64; omega
      have HM : Hid (l.length - ((j : Int) + 1).toNat < l.length - ((j : Int)).toNat) := meas hlt
      have HJ : Hid (j + 1 ≤ l.length) := hlt
      have HP : Hid (∀ W, Below wr.heap.size wr W → ∃ w', (Instr.mapUpdate 83 (.map (some w.heap.size)) (Value.agg (qcells (l[j])).toArray) eV).run Try.prog W = .ok () w' ∧ FgI w (w.heap.size + 1) w.heap.size (some ⟨g, o, none⟩) l (j + 1) w') := fun W hW => (hI.below hW).put hlt (hi _ (List.getElem_mem hlt)) hl (Nat.le_refl _)
      have HR : Hid (∀ W, Below wr.heap.size wr W → W.cell? ⟨w.heap.size + 1, 0, none⟩ = some (.map (some w.heap.size))) := fun W hW => (hI.below hW).row.cell 0
      clear hI hc hg hj
      generalize l[j] = p at *
      clear hlt
      go_wp2_with (first
        | (have kk := hrun; refine lMu (.tmp 18) (.tmp 19) (.tmp 20) rfl rfl rfl rfl rfl hrun ?_; clear hrun)
        | ((with_reducible refine bdG (T := 84) (v := eV) [] ?_ ?_ ?_ ?_); (focus rfl); (focus rfl); (focus exact bdE _))
        | (have kk := r3; obtain ⟨W4, hrun, hI4⟩ := HP.out _ b3; refine ldQ (.tmp 7) rfl rfl _ _ p rfl r3.range ?_; clear r3)
        | (have kk := r2; refine stQp (.tmp 7) (.tmp 17) rfl rfl g2 p _ rfl rfl r2 ?_; intro W3 g3 r3; have b3 := grown_below g3 hB2 hge2 hB2.size; have c0 := HR.out _ b3; clear r2)
        | (refine alG infoQz rfl rfl ?_; intro g2 W2 hge2 hgl2 hB2 r2)
        | (refine ldQ (.tmp 16) rfl rfl _ _ p rfl hq ?_))
      go_roundw
      case rel => exact ⟨j + 1, by first | rfl | go_num, HJ.out, hI4⟩
      case measure => (try rw [hw64]); simp only [intOf]; exact HM.out
    · have hBe := hI.be
      have hje : j = l.length := by omega
      subst hje
      clear hI hlt hj
      go_upto_region 8 with (go_at_call 37; refine (where_nil _ _).mono ?_; rintro e w1 ⟨rfl, rfl⟩)
      go_wp2_with fail
      go_loopw [27] (fun u V => u = .int .i64 0 ∧ wr = V) (fun _ _ => 0)
      case atStart => exact ⟨rfl, rfl⟩
      case round =>
        obtain ⟨rfl, rfl⟩ := hrel
        go_wp2_with fail
        go_ret
        exact ⟨rfl, hBe⟩
end Go.Proofs.Ytbjclphgabpgoaa
