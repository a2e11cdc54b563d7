/-
  No cell of these rows narrows 'for every input' (looked for: loops, veiled, ifaces, maps, wideKeys, modest, calm, conditions, laid).
  DERIVED. THE GIVEN ROWS OF THIS SEAT. 4 by the template 'for every input the law returns true; each argument reads behind the call as it read before'; 0 by the template 'total and deterministic' (their statements: YthcjhglddedjhaaTotals.lean).
  GIVEN WITH THE SEED: the statements are not yours to turn. If you find one false, say at which input.
  Laid BY PROGRAM, IN A SANDBOX (cutbox-rows.mjs): the forced cells as the released guide's own fill.sh prints them over the translation 3fc765415171bfd8… (all of the seat's roots in one cut). By AI agents, Wed Nov 11 2026. No macro, syntax, notation, axiom, sorry.
-/
import Derived.Test.YthcjhglddedjhaaChecked
import GoSem.Claim
import GoSem.ClaimJoined
import GoSem.ClaimMapViews
import Derived.JoinedTies
import Derived.KernelRfl
namespace Go.Proofs.Ythcjhglddedjhaa
/- THE CELL 'sum', in the pinned program and in every row, IS THE sha256 OF THE DUMP (.gsa) THAT YthcjhglddedjhaaProg.lean LOADS. Nothing in Lean hashes anything: it is a label: what it is worth is what the hold of that sum in a sandbox is worth. -/
noncomputable def Try.pinned : Pinned := { name := "ythcjhglddedjhaa", sum := "3fc765415171bfd880c429abc14f67266dfe448c6f68577ee2afbe520e048442", checked := Try.checked }
namespace Rows
def none {H : Type} : Left H := { results := [], args := [] }

/-- 'culvertlaw12.RttTells': WHATEVER THE INPUT: true; the input reads as it did. -/
def rttTellsSpec : ChangeSpec := { name := "rttTells", fn := fun _ => fun
  | [d1, d2, d3, d4, d5, d6, d7, d8] => { results := [.lit (.bool true)], args := [d1, d2, d3, d4, d5, d6, d7, d8] }
  | _ => none }
def rttTellsRow : OpenClaim := { program := "ythcjhglddedjhaa", sum := "3fc765415171bfd880c429abc14f67266dfe448c6f68577ee2afbe520e048442", func := "culvert/culvertlaw12.RttTells", spec := "rttTells", apart := false }
def RttTellsSaid : Prop := rttTellsRow.holds Try.pinned (OpenSpec.ofChange rttTellsSpec)

/-- ITS FALSE NEIGHBOUR: 'it returns false'. Refute it at one input. -/
def rttTellsWrong : ChangeSpec := { name := "rttTells", fn := fun _ => fun
  | [d1, d2, d3, d4, d5, d6, d7, d8] => { results := [.lit (.bool false)], args := [d1, d2, d3, d4, d5, d6, d7, d8] }
  | _ => none }
def RttTellsWrongFalsely : Prop := rttTellsRow.holds Try.pinned (OpenSpec.ofChange rttTellsWrong)

/-- 'culvertlaw12.RttBetween': WHATEVER THE INPUT: true; the input reads as it did. -/
def rttBetweenSpec : ChangeSpec := { name := "rttBetween", fn := fun _ => fun
  | [d1, d2, d3, d4] => { results := [.lit (.bool true)], args := [d1, d2, d3, d4] }
  | _ => none }
def rttBetweenRow : OpenClaim := { program := "ythcjhglddedjhaa", sum := "3fc765415171bfd880c429abc14f67266dfe448c6f68577ee2afbe520e048442", func := "culvert/culvertlaw12.RttBetween", spec := "rttBetween", apart := false }
def RttBetweenSaid : Prop := rttBetweenRow.holds Try.pinned (OpenSpec.ofChange rttBetweenSpec)

/-- ITS FALSE NEIGHBOUR: 'it returns false'. Refute it at one input. -/
def rttBetweenWrong : ChangeSpec := { name := "rttBetween", fn := fun _ => fun
  | [d1, d2, d3, d4] => { results := [.lit (.bool false)], args := [d1, d2, d3, d4] }
  | _ => none }
def RttBetweenWrongFalsely : Prop := rttBetweenRow.holds Try.pinned (OpenSpec.ofChange rttBetweenWrong)

/-- 'culvertlaw12.RttShifts': WHATEVER THE INPUT: true; the input reads as it did. -/
def rttShiftsSpec : ChangeSpec := { name := "rttShifts", fn := fun _ => fun
  | [d1, d2, d3, d4, d5, d6] => { results := [.lit (.bool true)], args := [d1, d2, d3, d4, d5, d6] }
  | _ => none }
def rttShiftsRow : OpenClaim := { program := "ythcjhglddedjhaa", sum := "3fc765415171bfd880c429abc14f67266dfe448c6f68577ee2afbe520e048442", func := "culvert/culvertlaw12.RttShifts", spec := "rttShifts", apart := false }
def RttShiftsSaid : Prop := rttShiftsRow.holds Try.pinned (OpenSpec.ofChange rttShiftsSpec)

/-- ITS FALSE NEIGHBOUR: 'it returns false'. Refute it at one input. -/
def rttShiftsWrong : ChangeSpec := { name := "rttShifts", fn := fun _ => fun
  | [d1, d2, d3, d4, d5, d6] => { results := [.lit (.bool false)], args := [d1, d2, d3, d4, d5, d6] }
  | _ => none }
def RttShiftsWrongFalsely : Prop := rttShiftsRow.holds Try.pinned (OpenSpec.ofChange rttShiftsWrong)

/-- 'culvertlaw12.RttOff': WHATEVER THE INPUT: true; the input reads as it did. -/
def rttOffSpec : ChangeSpec := { name := "rttOff", fn := fun _ => fun
  | [d1, d2, d3, d4] => { results := [.lit (.bool true)], args := [d1, d2, d3, d4] }
  | _ => none }
def rttOffRow : OpenClaim := { program := "ythcjhglddedjhaa", sum := "3fc765415171bfd880c429abc14f67266dfe448c6f68577ee2afbe520e048442", func := "culvert/culvertlaw12.RttOff", spec := "rttOff", apart := false }
def RttOffSaid : Prop := rttOffRow.holds Try.pinned (OpenSpec.ofChange rttOffSpec)

/-- ITS FALSE NEIGHBOUR: 'it returns false'. Refute it at one input. -/
def rttOffWrong : ChangeSpec := { name := "rttOff", fn := fun _ => fun
  | [d1, d2, d3, d4] => { results := [.lit (.bool false)], args := [d1, d2, d3, d4] }
  | _ => none }
def RttOffWrongFalsely : Prop := rttOffRow.holds Try.pinned (OpenSpec.ofChange rttOffWrong)

/- THE SECOND FORM. 'bulk': how many values and letters a reading holds, each counted each time it is reached (what is shared counts as often as it is met; a slice's spare places count too). A statement '..UptoSaid' is the law's where the arguments, and the package variables that the reading takes, are together of bulk at most 1048576: NARROWER than '..Said'. Prove '..Said' where nothing that the law and all that it calls make is longer than what came in: it says more and counts as full. Else prove '..UptoSaid'. A law counts once. -/
mutual
def uptoBulk {H : Type} : DataW H → Nat
  | .lit (.string bytes) => bytes.length + 1
  | .lit _ => 1
  | .nil => 1
  | .ptr d => uptoBulk d + 1
  | .slice elems spare => uptoBulkAll elems + uptoBulkAll spare + 1
  | .agg parts => uptoBulkAll parts + 1
  | .iface _ d => uptoBulk d + 1
  | .map entries => uptoBulkEntries entries + 1
  | .held _ => 1
def uptoBulkAll {H : Type} : List (DataW H) → Nat
  | [] => 0
  | d :: r => uptoBulk d + uptoBulkAll r
def uptoBulkEntries {H : Type} : List (Lit × DataW H) → Nat
  | [] => 0
  | x :: r => uptoBulkEntry x + uptoBulkEntries r
def uptoBulkEntry {H : Type} : Lit × DataW H → Nat
  | (.string bytes, d) => bytes.length + uptoBulk d + 1
  | (_, d) => uptoBulk d + 1
 end
def uptoSmall : (H : Type) → List (DataW H) → Bool := fun _ ds => decide (uptoBulkAll ds ≤ 1048576)
def OpenSpec.upto (s : _root_.Go.ChangeSpec) : _root_.Go.OpenSpec := { _root_.Go.OpenSpec.ofChange s with cond := some uptoSmall }

/-- 'culvertlaw12.RttTells', WHERE WHAT IT READS IS OF BULK AT MOST 1048576: true; the input reads as it did. -/
def rttTellsUptoRow : OpenClaim := { program := "ythcjhglddedjhaa", sum := "3fc765415171bfd880c429abc14f67266dfe448c6f68577ee2afbe520e048442", func := "culvert/culvertlaw12.RttTells", spec := "rttTells", apart := false, narrowed := true }
def RttTellsUptoSaid : Prop := rttTellsUptoRow.holds Try.pinned (OpenSpec.upto rttTellsSpec)

/-- 'culvertlaw12.RttBetween', WHERE WHAT IT READS IS OF BULK AT MOST 1048576: true; the input reads as it did. -/
def rttBetweenUptoRow : OpenClaim := { program := "ythcjhglddedjhaa", sum := "3fc765415171bfd880c429abc14f67266dfe448c6f68577ee2afbe520e048442", func := "culvert/culvertlaw12.RttBetween", spec := "rttBetween", apart := false, narrowed := true }
def RttBetweenUptoSaid : Prop := rttBetweenUptoRow.holds Try.pinned (OpenSpec.upto rttBetweenSpec)

/-- 'culvertlaw12.RttShifts', WHERE WHAT IT READS IS OF BULK AT MOST 1048576: true; the input reads as it did. -/
def rttShiftsUptoRow : OpenClaim := { program := "ythcjhglddedjhaa", sum := "3fc765415171bfd880c429abc14f67266dfe448c6f68577ee2afbe520e048442", func := "culvert/culvertlaw12.RttShifts", spec := "rttShifts", apart := false, narrowed := true }
def RttShiftsUptoSaid : Prop := rttShiftsUptoRow.holds Try.pinned (OpenSpec.upto rttShiftsSpec)

/-- 'culvertlaw12.RttOff', WHERE WHAT IT READS IS OF BULK AT MOST 1048576: true; the input reads as it did. -/
def rttOffUptoRow : OpenClaim := { program := "ythcjhglddedjhaa", sum := "3fc765415171bfd880c429abc14f67266dfe448c6f68577ee2afbe520e048442", func := "culvert/culvertlaw12.RttOff", spec := "rttOff", apart := false, narrowed := true }
def RttOffUptoSaid : Prop := rttOffUptoRow.holds Try.pinned (OpenSpec.upto rttOffSpec)

end Rows
end Go.Proofs.Ythcjhglddedjhaa
