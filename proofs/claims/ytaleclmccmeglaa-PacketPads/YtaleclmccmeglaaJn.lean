/-
  The contract of tlv.Join for every list of pieces within memory.
-/
import Derived.Test.YtaleclmccmeglaaRaw
namespace Go.Proofs.Ytaleclmccmeglaa
open Go.RowKit
set_option linter.unusedSimpArgs false

/-- The bytes of a piece, of pieces. -/
def encP (p : Pc) : List UInt8 := if p.t = 0 then [0] else p.t :: UInt8.ofNat p.n :: p.l
def joinL (ps : List Pc) : List UInt8 := ps.flatMap encP
theorem joinL_take (ps : List Pc) (j : Nat) (hj : j < ps.length) : joinL (ps.take (j + 1)) = joinL (ps.take j) ++ encP ps[j] := by
  unfold joinL
  rw [List.take_succ_eq_append_getElem hj, List.flatMap_append]; simp
theorem joinL_le (ps : List Pc) (j : Nat) : (joinL (ps.take j)).length ≤ (joinL ps).length := by
  have h : joinL ps = joinL (ps.take j) ++ joinL (ps.drop j) := by
    unfold joinL
    rw [← List.flatMap_append, List.take_append_drop]
  rw [h]
  simp
/-- What Join answers where all may be. -/
def Joined (w : World) (l : List UInt8) (e : Ending) (w' : World) : Prop :=
  ∃ a c, e = .returned (.tuple #[.slice a l.length c, .int .i64 0]) ∧ w'.ownsRow w.heap.size 5 1 (.slice a l.length c) l.length (bcells l) ∧ Below w.heap.size w w'

theorem chk_short {ps : List Pc} (h : chkE ps = 0) {j : Nat} (hj : j < ps.length) : ps[j].n ≤ 255 := by
  by_cases h1 : 255 < ps[j].n
  · have := any_at longP ps j hj (by simp [longP, h1])
    unfold chkE at h
    rw [this] at h
    split at h <;> simp at h
  · omega
theorem own_ne {w : World} {B : Nat} {e : TypeId} {s : Nat} {v : Value} {n : Nat} {xs : List Value} (h : w.ownsRow B e s v n xs) {g : Nat} {t : TypeId} {cs : List Value} (hr : Row w g t cs) (ht : t ≠ e) : some g ≠ v.ownBlock := by
  intro hv
  rcases h.2 with ⟨rfl, _⟩ | ⟨g', cap, cur, rfl, _, hh, _⟩
  · simp [Value.ownBlock] at hv
  · cases hv
    unfold Row at hr
    rw [hh] at hr
    cases hr
    exact ht rfl
theorem row_ap {w : World} {B : Nat} {e : TypeId} {s : Nat} {v : Value} {n : Nat} {xs : List Value} (hown : w.ownsRow B e s v n xs) {g : Nat} {t : TypeId} {cs : List Value} (o : Obj) (hr : Row w g t cs) (ht : t ≠ e) {w1 : World} (hg : (w.alloc o).grownBy w1 v.ownBlock) : Row w1 g t cs := (hr.alloc o).grown hg (own_ne (hown.alloc o) (hr.alloc o) ht)
theorem ne51 : (60 : TypeId) ≠ 5 := by decide
/-- Behind an append: the row, and what lies elsewhere. -/
theorem ap_keep {w wr w1 : World} {v : Value} {n : Nat} {xs : List Value} {B : Nat} {u : Value} {k : Nat} (hown : wr.ownsRow w.heap.size 5 1 v n xs) (hB : wr.heap.size ≤ B) {W : World} (hc : W.cell? ⟨B, k, none⟩ = some u) (hg : W.grownBy w1 v.ownBlock) : w1.cell? ⟨B, k, none⟩ = some u :=
  hg.cell hc (fun e => by have := hown.lt _ e.symm; simp at this; omega)

end Go.Proofs.Ytaleclmccmeglaa
