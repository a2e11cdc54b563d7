/-
  Stores in a region that draws its order.
-/
import Derived.Test.YtimpopolkofdgaaGreatDoorFen
import Derived.ControlIn
namespace Go.Proofs.YtimpopolkofdgaaGreatDoor
open Go.RowKit Go.Shelf
set_option linter.unusedSimpArgs false
section
variable {ops : Array Oper} {o : Oper} {a : Act} {w : World} {K : Act → World → Prop} {Q : Exit → Act → World → Prop} {E : Prop}
theorem stepA (x y : Operand) (ho : o.op = .store 23 x y) (hw : Region.wanted o (yielded ops a.tmps) = true) (b : Nat) (c : Ad) (ht : w.there b 0 16) (hx : a.eval x = .pointer (some ⟨b, 0, none⟩)) (hy : a.eval y = (Value.agg (acells c).toArray))
    (h : ∀ W, Hid (W = w.setCells b 0 (acells c)) → K (a.put o.dst undef) W) : if Region.wanted o (yielded ops a.tmps) = true then Oper.wp Tryz.prog o a w K Q else E := by
  rw [if_pos hw]
  exact wp_store_mid _ x y ho b 0 _ hx hy (by simpa [acells_len] using ht) (by rw [infoA]; simp [acells_len]) (all_oneCell_toArray (acells_one c)) (by simpa using h _ rfl)
theorem stepB (x y : Operand) (ho : o.op = .store 4 x y) (hw : Region.wanted o (yielded ops a.tmps) = true) (b : Nat) (c : Bool) (u : Value) (hc : w.cell? ⟨b, 0, none⟩ = some u) (hf : w.frozen? ⟨b, 0, none⟩ = false) (hx : a.eval x = .pointer (some ⟨b, 0, none⟩)) (hy : a.eval y = .bool c)
    (h : ∀ W, Hid (W = w.setCell ⟨b, 0, none⟩ (.bool c)) → K (a.put o.dst undef) W) : if Region.wanted o (yielded ops a.tmps) = true then Oper.wp Tryz.prog o a w K Q else E := by
  rw [if_pos hw]
  have hr : (Instr.storeAt 4 (.pointer (some ⟨b, 0, none⟩)) (.bool c)).run Tryz.prog w = .ok () (w.setCell ⟨b, 0, none⟩ (.bool c)) := by go_simp
  unfold Oper.wp execOp
  simp only [ho, hx, hy, Sem.run_bind, hr, Result.andThen_ok]
  exact h _ rfl
end
theorem keeps_below {W W' : World} (hb : Below W.heap.size W W') : KeepsOthers W W' :=
  KeepsOthers.of_grownBy (row := none) ⟨hb.os, hb.tape, hb.output, hb.size, fun i hi _ => hb.block i hi⟩ (fun _ _ h => by cases h)
theorem keeps_setCells (g : Nat) : ∀ (vs : List Value) (o : Nat) (W : World), KeepsOthers W (W.setCells g o vs)
  | [], _, W => KeepsOthers.refl _
  | v :: r, o, W => by
    rw [World.setCells]
    exact (KeepsOthers.setCell W ⟨g, o, none⟩ v).trans (keeps_setCells g r (o + 1) _)
end Go.Proofs.YtimpopolkofdgaaGreatDoor
