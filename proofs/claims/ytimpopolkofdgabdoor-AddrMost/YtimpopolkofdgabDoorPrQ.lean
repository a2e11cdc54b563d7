/-
  addr.PrintPair: what it answers for every pair.
-/
import Derived.Test.YtimpopolkofdgabDoorPrint
namespace Go.Proofs.YtimpopolkofdgabDoor
open Go.RowKit Go.Shelf
set_option linter.unusedSimpArgs false
set_option maxRecDepth 20000
/-- A pair as a text. -/
def prtQ (q : Pr) : List UInt8 := if chkQ q ≠ 0 then [] else if spec q = true then prtP q.d ++ [32] ++ [102, 114, 111, 109] ++ [32] ++ prtP q.s else prtP q.d
theorem prtP_len (p : Pf) : (prtP p).length ≤ 104 := by
  unfold prtP
  split
  · simp
  · rename_i h
    have hr := chk_range (p := p) (by simpa using h)
    split
    · rename_i h4
      have h4' := famP_range h4
      have h1 := prtA_len p.a
      have h2 := itoa_128 (p.n - 96) (by omega) (by omega)
      simp only [List.length_append, List.length_cons, List.length_nil]; omega
    · have h1 := pgS_len p.a
      have h2 := itoa_128 p.n hr.1 hr.2
      simp only [List.length_append, List.length_cons, List.length_nil]; omega
end Go.Proofs.YtimpopolkofdgabDoor
