/-
  addr.Matches: what it answers for every pair and packet.
-/
import Derived.Test.YtadnnjngflphjaaOfP
namespace Go.Proofs.Ytadnnjngflphjaa.Fa
open Go.RowKit
set_option linter.unusedSimpArgs false
set_option maxRecDepth 20000
theorem orI_21 {x y : Int} (hx : x = 0 ∨ x = 21) (hy : y = 0 ∨ y = 21) : orI x y = 0 ∨ orI x y = 21 := by
  rcases hx with rfl | rfl <;> rcases hy with rfl | rfl <;> simp [orI]
theorem chkQ_or (p : Pr) : chkQ p = 0 ∨ chkQ p = 21 := by
  have h1 : chk p.d = 0 ∨ chk p.d = 21 := (chk_or p.d).imp (·.1) id
  have h2 : chk p.s = 0 ∨ chk p.s = 21 := (chk_or p.s).imp (·.1) id
  unfold chkQ
  split
  · exact orI_21 h1 h2
  · split <;> simp
/-- What Matches answers. -/
def mat (p : Pr) (src dst : Ad) : Bool := decide (chkQ p = 0) && (con p.d dst && con p.s src)
theorem matches_any (p : Pr) (src dst : Ad) (w : World) : Calls Try.prog 24 #[(Value.agg (qcells p).toArray), (Value.agg (acells src).toArray), (Value.agg (acells dst).toArray)] w (Gives w (.bool (mat p src dst))) := by
  have hChk := checkQ_any p
  have hC1 := contains_any p.d dst
  have hC2 := contains_any p.s src
  have h0 := chkQ_or p
  obtain ⟨z, hz⟩ : ∃ z, chkQ p = z := ⟨_, rfl⟩
  obtain ⟨b, hb⟩ : ∃ b, con p.d dst = b := ⟨_, rfl⟩
  obtain ⟨d, hd⟩ : ∃ b, con p.s src = b := ⟨_, rfl⟩
  rw [hz] at hChk h0
  rw [hb] at hC1
  rw [hd] at hC2
  have HF : Hid (mat p src dst = (decide (z = 0) && (b && d))) := by show _ = _; simp only [mat, hz, hb, hd]
  have hQ := ((LQ.new w p 35).alloc (.cells (acells src).toArray 31)).alloc (.cells (acells dst).toArray 31)
  have hS : LA (((w.alloc (.cells (qcells p).toArray 35)).alloc (.cells (acells src).toArray 31)).alloc (.cells (acells dst).toArray 31)) (w.heap.size + 1) 0 src := by
    have := (LA.new (w.alloc (.cells (qcells p).toArray 35)) src 31).alloc (.cells (acells dst).toArray 31)
    simpa using this
  have hD : LA (((w.alloc (.cells (qcells p).toArray 35)).alloc (.cells (acells src).toArray 31)).alloc (.cells (acells dst).toArray 31)) (w.heap.size + 1 + 1) 0 dst := by
    have := LA.new ((w.alloc (.cells (qcells p).toArray 35)).alloc (.cells (acells src).toArray 31)) dst 31
    simpa using this
  clear hz hb hd
  rcases h0 with rfl | rfl
  · cases b with
    | true =>
      go_enter Try.func24, Try.ntmps24
      go_wp2_with (first
        | (refine ldQ (.tmp 3) rfl rfl _ _ p rfl hQ ?_)
        | (refine ldP (.tmp 11) (by rfl) rfl _ _ p.d rfl hQ1.d ?_)
        | (refine ldA (.tmp 5) (by rfl) rfl _ _ dst rfl hD1 ?_)
        | (refine ldP (.tmp 17) (by rfl) rfl _ _ p.s rfl hQ2.s ?_)
        | (refine ldA (.tmp 4) (by rfl) rfl _ _ src rfl hS2 ?_)
        | (go_at_call 29; refine (hChk _).mono ?_; rintro e w1 ⟨rfl, hB1⟩; have hQ1 : LQ w1 w.heap.size 0 p := hQ.below hB1 (by simp; omega); have hS1 : LA w1 (w.heap.size + 1) 0 src := hS.below hB1 (by simp); have hD1 : LA w1 (w.heap.size + 1 + 1) 0 dst := hD.below hB1 (by simp))
        | (go_at_call 23; refine (hC1 _).mono ?_; clear hC1; rintro e w2 ⟨rfl, hB2⟩; have hQ2 : LQ w2 w.heap.size 0 p := hQ1.below hB2 (by have := hB1.size; simp at this; omega); have hS2 : LA w2 (w.heap.size + 1) 0 src := hS1.below hB2 (by have := hB1.size; simp at this; omega))
        | (go_at_call 23; refine (hC2 _).mono ?_; rintro e w3 ⟨rfl, hB3⟩))
      go_ret
      exact ⟨by rw [HF.out]; rfl, bt (bt (bt (bt (bt (ba _ _) (ba _ _)) (ba _ _)) hB1) hB2) hB3⟩
    | false =>
      go_enter Try.func24, Try.ntmps24
      go_wp2_with (first
        | (refine ldQ (.tmp 3) rfl rfl _ _ p rfl hQ ?_)
        | (refine ldP (.tmp 11) (by rfl) rfl _ _ p.d rfl hQ1.d ?_)
        | (refine ldA (.tmp 5) (by rfl) rfl _ _ dst rfl hD1 ?_)
        | (go_at_call 29; refine (hChk _).mono ?_; rintro e w1 ⟨rfl, hB1⟩; have hQ1 : LQ w1 w.heap.size 0 p := hQ.below hB1 (by simp; omega); have hS1 : LA w1 (w.heap.size + 1) 0 src := hS.below hB1 (by simp); have hD1 : LA w1 (w.heap.size + 1 + 1) 0 dst := hD.below hB1 (by simp))
        | (go_at_call 23; refine (hC1 _).mono ?_; clear hC1; rintro e w2 ⟨rfl, hB2⟩))
      go_ret
      exact ⟨by rw [HF.out]; rfl, bt (bt (bt (bt (ba _ _) (ba _ _)) (ba _ _)) hB1) hB2⟩
  · go_enter Try.func24, Try.ntmps24
    go_wp2_with (first
      | (refine ldQ (.tmp 3) rfl rfl _ _ p rfl hQ ?_)
      | (go_at_call 29; refine (hChk _).mono ?_; rintro e w1 ⟨rfl, hB1⟩))
    go_ret
    exact ⟨by rw [HF.out]; rfl, bt (bt (bt (ba _ _) (ba _ _)) (ba _ _)) hB1⟩
end Go.Proofs.Ytadnnjngflphjaa.Fa
