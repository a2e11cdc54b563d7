/-
  No cell of these rows narrows 'for every input' (looked for: loops, veiled, ifaces, maps, wideKeys, modest, calm, conditions, laid).
  DERIVED. THE GIVEN ROWS OF THIS SEAT. 4 by the template 'for every input the law returns true; each argument reads behind the call as it read before'; 0 by the template 'total and deterministic' (their statements: YtjjfijbjnkgfbaaTotals.lean).
  GIVEN WITH THE SEED: the statements are not yours to turn. If you find one false, say at which input.
  Laid BY PROGRAM, IN A SANDBOX (cutbox-rows.mjs): the forced cells as the released guide's own fill.sh prints them over the translation fcf977b7873177e4… (all of the seat's roots in one cut). By AI agents, Wed Nov 11 2026. No macro, syntax, notation, axiom, sorry.
-/
import Derived.Test.YtjjfijbjnkgfbaaChecked
import GoSem.Claim
import GoSem.ClaimJoined
import GoSem.ClaimMapViews
import Derived.JoinedTies
import Derived.KernelRfl
namespace Go.Proofs.Ytjjfijbjnkgfbaa
/- THE CELL 'sum', in the pinned program and in every row, IS THE sha256 OF THE DUMP (.gsa) THAT YtjjfijbjnkgfbaaProg.lean LOADS. Nothing in Lean hashes anything: it is a label: what it is worth is what the hold of that sum in a sandbox is worth. -/
noncomputable def Try.pinned : Pinned := { name := "ytjjfijbjnkgfbaa", sum := "fcf977b7873177e430a13a7fa613247d3a95b96772d269c6ecbc50dc6ce8de06", checked := Try.checked }
namespace Rows
def none {H : Type} : Left H := { results := [], args := [] }

/-- 'culvertlaw17.PickTells': WHATEVER THE INPUT: true; the input reads as it did. -/
def pickTellsSpec : ChangeSpec := { name := "pickTells", fn := fun _ => fun
  | [d1, d2] => { results := [.lit (.bool true)], args := [d1, d2] }
  | _ => none }
def pickTellsRow : OpenClaim := { program := "ytjjfijbjnkgfbaa", sum := "fcf977b7873177e430a13a7fa613247d3a95b96772d269c6ecbc50dc6ce8de06", func := "culvert/culvertlaw17.PickTells", spec := "pickTells", unfollowed := true, recurses := true, apart := false }
def PickTellsSaid : Prop := pickTellsRow.holds Try.pinned (OpenSpec.ofChange pickTellsSpec)

/-- ITS FALSE NEIGHBOUR: 'it returns false'. Refute it at one input. -/
def pickTellsWrong : ChangeSpec := { name := "pickTells", fn := fun _ => fun
  | [d1, d2] => { results := [.lit (.bool false)], args := [d1, d2] }
  | _ => none }
def PickTellsWrongFalsely : Prop := pickTellsRow.holds Try.pinned (OpenSpec.ofChange pickTellsWrong)

/-- 'culvertlaw17.PickStays': WHATEVER THE INPUT: true; the input reads as it did. -/
def pickStaysSpec : ChangeSpec := { name := "pickStays", fn := fun _ => fun
  | [d1, d2] => { results := [.lit (.bool true)], args := [d1, d2] }
  | _ => none }
def pickStaysRow : OpenClaim := { program := "ytjjfijbjnkgfbaa", sum := "fcf977b7873177e430a13a7fa613247d3a95b96772d269c6ecbc50dc6ce8de06", func := "culvert/culvertlaw17.PickStays", spec := "pickStays", unfollowed := true, recurses := true, apart := false }
def PickStaysSaid : Prop := pickStaysRow.holds Try.pinned (OpenSpec.ofChange pickStaysSpec)

/-- ITS FALSE NEIGHBOUR: 'it returns false'. Refute it at one input. -/
def pickStaysWrong : ChangeSpec := { name := "pickStays", fn := fun _ => fun
  | [d1, d2] => { results := [.lit (.bool false)], args := [d1, d2] }
  | _ => none }
def PickStaysWrongFalsely : Prop := pickStaysRow.holds Try.pinned (OpenSpec.ofChange pickStaysWrong)

/-- 'culvertlaw17.PickNone': WHATEVER THE INPUT: true; the input reads as it did. -/
def pickNoneSpec : ChangeSpec := { name := "pickNone", fn := fun _ => fun
  | [d1, d2] => { results := [.lit (.bool true)], args := [d1, d2] }
  | _ => none }
def pickNoneRow : OpenClaim := { program := "ytjjfijbjnkgfbaa", sum := "fcf977b7873177e430a13a7fa613247d3a95b96772d269c6ecbc50dc6ce8de06", func := "culvert/culvertlaw17.PickNone", spec := "pickNone", unfollowed := true, recurses := true, apart := false }
def PickNoneSaid : Prop := pickNoneRow.holds Try.pinned (OpenSpec.ofChange pickNoneSpec)

/-- ITS FALSE NEIGHBOUR: 'it returns false'. Refute it at one input. -/
def pickNoneWrong : ChangeSpec := { name := "pickNone", fn := fun _ => fun
  | [d1, d2] => { results := [.lit (.bool false)], args := [d1, d2] }
  | _ => none }
def PickNoneWrongFalsely : Prop := pickNoneRow.holds Try.pinned (OpenSpec.ofChange pickNoneWrong)

/-- 'culvertlaw17.PickGreedy': WHATEVER THE INPUT: true; the input reads as it did. -/
def pickGreedySpec : ChangeSpec := { name := "pickGreedy", fn := fun _ => fun
  | [d] => { results := [.lit (.bool true)], args := [d] }
  | _ => none }
def pickGreedyRow : OpenClaim := { program := "ytjjfijbjnkgfbaa", sum := "fcf977b7873177e430a13a7fa613247d3a95b96772d269c6ecbc50dc6ce8de06", func := "culvert/culvertlaw17.PickGreedy", spec := "pickGreedy", unfollowed := true, recurses := true, apart := false }
def PickGreedySaid : Prop := pickGreedyRow.holds Try.pinned (OpenSpec.ofChange pickGreedySpec)

/-- ITS FALSE NEIGHBOUR: 'it returns false'. Refute it at one input. -/
def pickGreedyWrong : ChangeSpec := { name := "pickGreedy", fn := fun _ => fun
  | [d] => { results := [.lit (.bool false)], args := [d] }
  | _ => none }
def PickGreedyWrongFalsely : Prop := pickGreedyRow.holds Try.pinned (OpenSpec.ofChange pickGreedyWrong)

/- THE SECOND FORM. 'bulk': how many values and letters a reading holds, each counted each time it is reached (what is shared counts as often as it is met; a slice's spare places count too). A statement '..UptoSaid' is the law's where the arguments, and the package variables that the reading takes, are together of bulk at most 1048576: NARROWER than '..Said'. Prove '..Said' where nothing that the law and all that it calls make is longer than what came in: it says more and counts as full. Else prove '..UptoSaid'. A law counts once. -/
mutual
def uptoBulk {H : Type} : DataW H → Nat
  | .lit (.string bytes) => bytes.length + 1
  | .lit _ => 1
  | .nil => 1
  | .ptr d => uptoBulk d + 1
  | .slice elems spare => uptoBulkAll elems + uptoBulkAll spare + 1
  | .agg parts => uptoBulkAll parts + 1
  | .iface _ d => uptoBulk d + 1
  | .map entries => uptoBulkEntries entries + 1
  | .held _ => 1
def uptoBulkAll {H : Type} : List (DataW H) → Nat
  | [] => 0
  | d :: r => uptoBulk d + uptoBulkAll r
def uptoBulkEntries {H : Type} : List (Lit × DataW H) → Nat
  | [] => 0
  | x :: r => uptoBulkEntry x + uptoBulkEntries r
def uptoBulkEntry {H : Type} : Lit × DataW H → Nat
  | (.string bytes, d) => bytes.length + uptoBulk d + 1
  | (_, d) => uptoBulk d + 1
 end
def uptoSmall : (H : Type) → List (DataW H) → Bool := fun _ ds => decide (uptoBulkAll ds ≤ 1048576)
def OpenSpec.upto (s : _root_.Go.ChangeSpec) : _root_.Go.OpenSpec := { _root_.Go.OpenSpec.ofChange s with cond := some uptoSmall }

/-- 'culvertlaw17.PickTells', WHERE WHAT IT READS IS OF BULK AT MOST 1048576: true; the input reads as it did. -/
def pickTellsUptoRow : OpenClaim := { program := "ytjjfijbjnkgfbaa", sum := "fcf977b7873177e430a13a7fa613247d3a95b96772d269c6ecbc50dc6ce8de06", func := "culvert/culvertlaw17.PickTells", spec := "pickTells", unfollowed := true, recurses := true, apart := false, narrowed := true }
def PickTellsUptoSaid : Prop := pickTellsUptoRow.holds Try.pinned (OpenSpec.upto pickTellsSpec)

/-- 'culvertlaw17.PickStays', WHERE WHAT IT READS IS OF BULK AT MOST 1048576: true; the input reads as it did. -/
def pickStaysUptoRow : OpenClaim := { program := "ytjjfijbjnkgfbaa", sum := "fcf977b7873177e430a13a7fa613247d3a95b96772d269c6ecbc50dc6ce8de06", func := "culvert/culvertlaw17.PickStays", spec := "pickStays", unfollowed := true, recurses := true, apart := false, narrowed := true }
def PickStaysUptoSaid : Prop := pickStaysUptoRow.holds Try.pinned (OpenSpec.upto pickStaysSpec)

/-- 'culvertlaw17.PickNone', WHERE WHAT IT READS IS OF BULK AT MOST 1048576: true; the input reads as it did. -/
def pickNoneUptoRow : OpenClaim := { program := "ytjjfijbjnkgfbaa", sum := "fcf977b7873177e430a13a7fa613247d3a95b96772d269c6ecbc50dc6ce8de06", func := "culvert/culvertlaw17.PickNone", spec := "pickNone", unfollowed := true, recurses := true, apart := false, narrowed := true }
def PickNoneUptoSaid : Prop := pickNoneUptoRow.holds Try.pinned (OpenSpec.upto pickNoneSpec)

/-- 'culvertlaw17.PickGreedy', WHERE WHAT IT READS IS OF BULK AT MOST 1048576: true; the input reads as it did. -/
def pickGreedyUptoRow : OpenClaim := { program := "ytjjfijbjnkgfbaa", sum := "fcf977b7873177e430a13a7fa613247d3a95b96772d269c6ecbc50dc6ce8de06", func := "culvert/culvertlaw17.PickGreedy", spec := "pickGreedy", unfollowed := true, recurses := true, apart := false, narrowed := true }
def PickGreedyUptoSaid : Prop := pickGreedyUptoRow.holds Try.pinned (OpenSpec.upto pickGreedySpec)

end Rows
end Go.Proofs.Ytjjfijbjnkgfbaa
