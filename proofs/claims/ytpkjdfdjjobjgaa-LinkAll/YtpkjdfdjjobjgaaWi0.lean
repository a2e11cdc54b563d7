/-
  Plain facts of LinkWired; a slice of one history in a region that draws its order.
-/
import Derived.Test.YtpkjdfdjjobjgaaG7
namespace Go.Proofs.Ytpkjdfdjjobjgaa
open Go.RowKit
set_option linter.unusedSimpArgs false
theorem bit_or (b m i : Nat) : b / 2 ^ i % 2 ≤ (b ||| m) / 2 ^ i % 2 := by
  have h : ∀ x, x / 2 ^ i % 2 = (x.testBit i).toNat := fun x => (Nat.toNat_testBit x i).symm
  rw [h, h, Nat.testBit_or]
  cases b.testBit i <;> simp
theorem lowc_or (b m : Nat) : ∀ i, lowc b i ≤ lowc (b ||| m) i
  | 0 => Nat.le_refl _
  | i + 1 => by
    have := lowc_or b m i
    have := bit_or b m i
    simp only [lowc]; omega
theorem top_or (b m : Nat) : lowc (b / 8192) 16 ≤ lowc ((b ||| m) / 8192) 16 := by
  have : (b ||| m) / 8192 = b / 8192 ||| m / 8192 := by
    have := Nat.shiftRight_or_distrib (a := b) (b := m) (i := 13)
    simpa [Nat.shiftRight_eq_div_pow] using this
  rw [this]
  exact lowc_or _ _ 16
theorem wired_one (cost : Int) (b : Nat) : rxZ 0 cost b = cost ∨ rxZ 0 cost b = 65535 := by
  unfold rxZ
  rw [if_pos rfl]
  split
  · exact .inl rfl
  · exact .inr rfl
theorem wired_two (cost : Int) (b m : Nat) (h : rxZ 0 cost b = cost) : rxZ 0 cost (b ||| m) = cost := by
  have t := top_or b m
  unfold rxZ at *
  rw [if_pos rfl] at *
  split at h
  · rw [if_pos (by omega)]
  · split
    · rfl
    · exact h
theorem wless_mono (cost : Int) (b m : Nat) (hc : 0 ≤ cost) : rxZ 1 cost (b ||| m) ≤ rxZ 1 cost b := by
  have t := lowc_or b m 16
  have r : ∀ x, rxZ 1 cost x = if 0 < lowc x 16 then min (cost * 16 / (lowc x 16 : Nat)) 65534 else 65535 := fun x => by
    unfold rxZ
    rw [if_neg (by decide), if_pos rfl]
  rw [r, r]
  generalize lowc b 16 = n at *
  generalize lowc (b ||| m) 16 = k at *
  by_cases h : 0 < n
  · rw [if_pos h, if_pos (by omega)]
    have p : cost * 16 / (k : Int) ≤ cost * 16 / (n : Int) := by
      obtain ⟨c, rfl⟩ := Int.eq_ofNat_of_zero_le hc
      have := Nat.div_le_div_left (a := c * 16) t h
      have e : ∀ x : Nat, ((c : Int) * 16 / (x : Int)) = ((c * 16 / x : Nat) : Int) := fun x => by simp
      rw [e, e]
      exact Int.ofNat_le.2 this
    omega
  · rw [if_neg h]
    split <;> omega
theorem cost_wired (a tx : Int) : costZ 0 a tx = tx ∨ costZ 0 a tx = 65535 := by
  unfold costZ
  split
  · exact .inr rfl
  · rw [if_pos rfl]; exact .inl rfl
theorem cost_mono (d e tx : Int) (h : e ≤ d) (d1 : d < 65536) : costZ 1 e tx ≤ costZ 1 d tx := by
  unfold costZ
  by_cases h1 : d = 65535 ∨ tx = 65535
  · rw [if_pos h1]
    split
    · omega
    · rw [if_neg (by decide), if_pos rfl]; omega
  · rw [if_neg h1, if_neg (by omega : ¬ (e = 65535 ∨ tx = 65535)), if_neg (by decide), if_pos rfl, if_neg (by decide), if_pos rfl]
    have m : 0 ≤ max tx 256 := by omega
    have := Int.mul_le_mul_of_nonneg_left h m
    omega
theorem rx_at (kind cost : Int) (h : Hi) (g c : Nat) (t : TypeId) (W : World) (hc : 0 ≤ cost) (hc' : cost < 65536) (o : h.ok) (r : Row W g t (hcs h)) :
    Calls Try.prog 13 #[.int .i64 kind, .int .u16 cost, .slice (some ⟨g, 0, none⟩) 1 c] W (Gives W (.int .u16 (rxZ kind cost h.b.toNat))) := by
  have hs : Hs W (some ⟨g, 0, none⟩) 1 [h] := by
    refine ⟨rfl, ?_, .inr ⟨_, _, rfl, r.lt, ?_⟩⟩
    · intro x hh
      simp at hh
      subst hh
      exact o
    · intro j x hj
      match j, hj with
      | 0, rfl => exact r.range
  have k := rx_any kind cost _ 1 c _ _ hc hc' (by decide) hs
  have := rxZ_ok kind cost h.b.toNat hc hc'
  rwa [show rxL kind cost [h] = rxZ kind cost h.b.toNat by show min _ _ = _; omega] at k
theorem rx_both (kind cost : Int) (h q : Hi) (g c : Nat) (t : TypeId) (W : World) (hc : 0 ≤ cost) (hc' : cost < 65536) (o : h.ok) (o' : q.ok) (r : Row W g t (hcs h ++ hcs q)) :
    Calls Try.prog 13 #[.int .i64 kind, .int .u16 cost, .slice (some ⟨g, 0, none⟩) 2 c] W (Gives W (.int .u16 (min (rxZ kind cost h.b.toNat) (rxZ kind cost q.b.toNat)))) := by
  have hs : Hs W (some ⟨g, 0, none⟩) 2 [h, q] := by
    refine ⟨rfl, ?_, .inr ⟨_, _, rfl, r.lt, ?_⟩⟩
    · intro x hh
      simp at hh
      rcases hh with rfl | rfl
      · exact o
      · exact o'
    · intro j x hj
      have R := r.range
      match j, hj with
      | 0, rfl => exact fun i v hv => R i v (by rw [List.getElem?_append_left (List.getElem?_eq_some_iff.1 hv).1]; exact hv)
      | 1, rfl =>
        intro i v hv
        have := R (3 + i) v (by rw [List.getElem?_append_right (by simp [hcs])]; simpa [hcs] using hv)
        rw [← Nat.add_assoc] at this
        simpa using this
  have k := rx_any kind cost _ 2 c _ _ hc hc' (by decide) hs
  have := rxZ_ok kind cost h.b.toNat hc hc'
  rwa [show rxL kind cost [h, q] = min (rxZ kind cost h.b.toNat) (rxZ kind cost q.b.toNat) by show min (min _ _) _ = _; omega] at k
theorem bsH1 (b n : Int) (k : Bool) (w : World) : (Instr.buildSlice 33 1 #[(0, .agg #[.int .u16 b, .int .u16 n, .bool k])]).run Try.prog w = .ok (.slice (some ⟨w.heap.size, 0, none⟩) 1 1) (w.alloc (.cells (hcs ⟨b, n, k⟩).toArray 24)) := by
  show _ = _
  kernel_rfl
section
variable {w : World} {ops : Array Oper} {o : Oper} {a : Act} {Q : Exit → Act → World → Prop} {K : Act → World → Prop} {E : Prop}
theorem sBsH (x : Operand) (h : Hi) (hw : Region.wanted o (yielded ops a.tmps) = true) (ho : o.op = .buildSlice 33 1 #[(0, x)]) (hx : a.eval x = .agg #[.int .u16 h.b, .int .u16 h.n, .bool h.k])
    (hh : ∀ g W, w.heap.size ≤ g → g < W.heap.size → Row W g 24 (hcs h) → Below w.heap.size w W → K (a.put o.dst (.slice (some ⟨g, 0, none⟩) 1 1)) W) : if Region.wanted o (yielded ops a.tmps) = true then Oper.wp Try.prog o a w K Q else E := by
  rw [if_pos hw]
  have h1 := hh _ _ (Nat.le_refl _) (by simp) (Row.new w 24 (hcs h)) ((Below.refl _ _).alloc (Nat.le_refl _) _)
  unfold Oper.wp execOp
  simp only [ho, List.map_toArray, List.map_cons, List.map_nil, hx, Sem.run_bind, bsH1, Result.andThen_ok, Sem.run_pure]
  exact h1
end
/-- At the end this frame for some x and y, and a world of which PP is known; no panic. -/
def MeetsE2 {α β : Type} (F : α → β → Act) (PP : World → Prop) : Exit → Act → World → Prop
  | .normal, a, w => ∃ x y, a = F x y ∧ PP w
  | _, _, _ => False
theorem region_ex {α β : Type} {P : Program} {c : Code} {Q : Exit → Act → World → Prop} {a : Act} {w : World} {PP : World → Prop} (F : α → β → Act) (h1 : Code.wp P c (MeetsE2 F PP) a w) (h2 : ∀ x y W, PP W → Q .normal (F x y) W) : Code.wp P c Q a w :=
  Code.wp_mono (fun e b v h => by
    cases e with
    | normal => obtain ⟨x, y, rfl, h⟩ := h; exact h2 x y v h
    | _ => exact (h : False).elim) h1
end Go.Proofs.Ytpkjdfdjjobjgaa
