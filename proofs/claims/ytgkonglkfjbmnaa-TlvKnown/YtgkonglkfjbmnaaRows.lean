/-
  No cell of these rows narrows 'for every input' (looked for: loops, veiled, ifaces, maps, wideKeys, modest, calm, conditions, laid).
  DERIVED. THE GIVEN ROWS OF THIS SEAT. 5 by the template 'for every input the law returns true; each argument reads behind the call as it read before'; 0 by the template 'total and deterministic' (their statements: YtgkonglkfjbmnaaTotals.lean).
  GIVEN WITH THE SEED: the statements are not yours to turn. If you find one false, say at which input.
  Laid BY PROGRAM, IN A SANDBOX (cutbox-rows.mjs): the forced cells as the released guide's own fill.sh prints them over the translation d42334c61340689e… (all of the seat's roots in one cut). By AI agents, Wed Nov 11 2026. No macro, syntax, notation, axiom, sorry.
-/
import Derived.Test.YtgkonglkfjbmnaaChecked
import GoSem.Claim
import GoSem.ClaimJoined
import GoSem.ClaimMapViews
import Derived.JoinedTies
import Derived.KernelRfl
namespace Go.Proofs.Ytgkonglkfjbmnaa
/- THE CELL 'sum', in the pinned program and in every row, IS THE sha256 OF THE DUMP (.gsa) THAT YtgkonglkfjbmnaaProg.lean LOADS. Nothing in Lean hashes anything: it is a label: what it is worth is what the hold of that sum in a sandbox is worth. -/
noncomputable def Try.pinned : Pinned := { name := "ytgkonglkfjbmnaa", sum := "d42334c61340689ee2b4460fff595d4ba13815499e95d5889f9b8ae696722953", checked := Try.checked }
namespace Rows
def none {H : Type} : Left H := { results := [], args := [] }

/-- 'culvertlaw05.TlvPackets': WHATEVER THE INPUT: true; the input reads as it did. -/
def tlvPacketsSpec : ChangeSpec := { name := "tlvPackets", fn := fun _ => fun
  | [d1, d2] => { results := [.lit (.bool true)], args := [d1, d2] }
  | _ => none }
def tlvPacketsRow : OpenClaim := { program := "ytgkonglkfjbmnaa", sum := "d42334c61340689ee2b4460fff595d4ba13815499e95d5889f9b8ae696722953", func := "culvert/culvertlaw05.TlvPackets", spec := "tlvPackets", apart := false }
def TlvPacketsSaid : Prop := tlvPacketsRow.holds Try.pinned (OpenSpec.ofChange tlvPacketsSpec)

/-- ITS FALSE NEIGHBOUR: 'it returns false'. Refute it at one input. -/
def tlvPacketsWrong : ChangeSpec := { name := "tlvPackets", fn := fun _ => fun
  | [d1, d2] => { results := [.lit (.bool false)], args := [d1, d2] }
  | _ => none }
def TlvPacketsWrongFalsely : Prop := tlvPacketsRow.holds Try.pinned (OpenSpec.ofChange tlvPacketsWrong)

/-- 'culvertlaw05.TlvPieces': WHATEVER THE INPUT: true; the input reads as it did. -/
def tlvPiecesSpec : ChangeSpec := { name := "tlvPieces", fn := fun _ => fun
  | [d1, d2, d3] => { results := [.lit (.bool true)], args := [d1, d2, d3] }
  | _ => none }
def tlvPiecesRow : OpenClaim := { program := "ytgkonglkfjbmnaa", sum := "d42334c61340689ee2b4460fff595d4ba13815499e95d5889f9b8ae696722953", func := "culvert/culvertlaw05.TlvPieces", spec := "tlvPieces", apart := false }
def TlvPiecesSaid : Prop := tlvPiecesRow.holds Try.pinned (OpenSpec.ofChange tlvPiecesSpec)

/-- ITS FALSE NEIGHBOUR: 'it returns false'. Refute it at one input. -/
def tlvPiecesWrong : ChangeSpec := { name := "tlvPieces", fn := fun _ => fun
  | [d1, d2, d3] => { results := [.lit (.bool false)], args := [d1, d2, d3] }
  | _ => none }
def TlvPiecesWrongFalsely : Prop := tlvPiecesRow.holds Try.pinned (OpenSpec.ofChange tlvPiecesWrong)

/-- 'culvertlaw05.TlvBack': WHATEVER THE INPUT: true; the input reads as it did. -/
def tlvBackSpec : ChangeSpec := { name := "tlvBack", fn := fun _ => fun
  | [d1, d2] => { results := [.lit (.bool true)], args := [d1, d2] }
  | _ => none }
def tlvBackRow : OpenClaim := { program := "ytgkonglkfjbmnaa", sum := "d42334c61340689ee2b4460fff595d4ba13815499e95d5889f9b8ae696722953", func := "culvert/culvertlaw05.TlvBack", spec := "tlvBack", apart := false }
def TlvBackSaid : Prop := tlvBackRow.holds Try.pinned (OpenSpec.ofChange tlvBackSpec)

/-- ITS FALSE NEIGHBOUR: 'it returns false'. Refute it at one input. -/
def tlvBackWrong : ChangeSpec := { name := "tlvBack", fn := fun _ => fun
  | [d1, d2] => { results := [.lit (.bool false)], args := [d1, d2] }
  | _ => none }
def TlvBackWrongFalsely : Prop := tlvBackRow.holds Try.pinned (OpenSpec.ofChange tlvBackWrong)

/-- 'culvertlaw05.TlvTrailers': WHATEVER THE INPUT: true; the input reads as it did. -/
def tlvTrailersSpec : ChangeSpec := { name := "tlvTrailers", fn := fun _ => fun
  | [d1, d2] => { results := [.lit (.bool true)], args := [d1, d2] }
  | _ => none }
def tlvTrailersRow : OpenClaim := { program := "ytgkonglkfjbmnaa", sum := "d42334c61340689ee2b4460fff595d4ba13815499e95d5889f9b8ae696722953", func := "culvert/culvertlaw05.TlvTrailers", spec := "tlvTrailers", apart := false }
def TlvTrailersSaid : Prop := tlvTrailersRow.holds Try.pinned (OpenSpec.ofChange tlvTrailersSpec)

/-- ITS FALSE NEIGHBOUR: 'it returns false'. Refute it at one input. -/
def tlvTrailersWrong : ChangeSpec := { name := "tlvTrailers", fn := fun _ => fun
  | [d1, d2] => { results := [.lit (.bool false)], args := [d1, d2] }
  | _ => none }
def TlvTrailersWrongFalsely : Prop := tlvTrailersRow.holds Try.pinned (OpenSpec.ofChange tlvTrailersWrong)

/-- 'culvertlaw05.TlvKnown': WHATEVER THE INPUT: true; the input reads as it did. -/
def tlvKnownSpec : ChangeSpec := { name := "tlvKnown", fn := fun _ => fun
  | [d1, d2] => { results := [.lit (.bool true)], args := [d1, d2] }
  | _ => none }
def tlvKnownRow : OpenClaim := { program := "ytgkonglkfjbmnaa", sum := "d42334c61340689ee2b4460fff595d4ba13815499e95d5889f9b8ae696722953", func := "culvert/culvertlaw05.TlvKnown", spec := "tlvKnown", apart := false }
def TlvKnownSaid : Prop := tlvKnownRow.holds Try.pinned (OpenSpec.ofChange tlvKnownSpec)

/-- ITS FALSE NEIGHBOUR: 'it returns false'. Refute it at one input. -/
def tlvKnownWrong : ChangeSpec := { name := "tlvKnown", fn := fun _ => fun
  | [d1, d2] => { results := [.lit (.bool false)], args := [d1, d2] }
  | _ => none }
def TlvKnownWrongFalsely : Prop := tlvKnownRow.holds Try.pinned (OpenSpec.ofChange tlvKnownWrong)

/- THE SECOND FORM. 'bulk': how many values and letters a reading holds, each counted each time it is reached (what is shared counts as often as it is met; a slice's spare places count too). A statement '..UptoSaid' is the law's where the arguments, and the package variables that the reading takes, are together of bulk at most 1048576: NARROWER than '..Said'. Prove '..Said' where nothing that the law and all that it calls make is longer than what came in: it says more and counts as full. Else prove '..UptoSaid'. A law counts once. -/
mutual
def uptoBulk {H : Type} : DataW H → Nat
  | .lit (.string bytes) => bytes.length + 1
  | .lit _ => 1
  | .nil => 1
  | .ptr d => uptoBulk d + 1
  | .slice elems spare => uptoBulkAll elems + uptoBulkAll spare + 1
  | .agg parts => uptoBulkAll parts + 1
  | .iface _ d => uptoBulk d + 1
  | .map entries => uptoBulkEntries entries + 1
  | .held _ => 1
def uptoBulkAll {H : Type} : List (DataW H) → Nat
  | [] => 0
  | d :: r => uptoBulk d + uptoBulkAll r
def uptoBulkEntries {H : Type} : List (Lit × DataW H) → Nat
  | [] => 0
  | x :: r => uptoBulkEntry x + uptoBulkEntries r
def uptoBulkEntry {H : Type} : Lit × DataW H → Nat
  | (.string bytes, d) => bytes.length + uptoBulk d + 1
  | (_, d) => uptoBulk d + 1
 end
def uptoSmall : (H : Type) → List (DataW H) → Bool := fun _ ds => decide (uptoBulkAll ds ≤ 1048576)
def OpenSpec.upto (s : _root_.Go.ChangeSpec) : _root_.Go.OpenSpec := { _root_.Go.OpenSpec.ofChange s with cond := some uptoSmall }

/-- 'culvertlaw05.TlvPackets', WHERE WHAT IT READS IS OF BULK AT MOST 1048576: true; the input reads as it did. -/
def tlvPacketsUptoRow : OpenClaim := { program := "ytgkonglkfjbmnaa", sum := "d42334c61340689ee2b4460fff595d4ba13815499e95d5889f9b8ae696722953", func := "culvert/culvertlaw05.TlvPackets", spec := "tlvPackets", apart := false, narrowed := true }
def TlvPacketsUptoSaid : Prop := tlvPacketsUptoRow.holds Try.pinned (OpenSpec.upto tlvPacketsSpec)

/-- 'culvertlaw05.TlvPieces', WHERE WHAT IT READS IS OF BULK AT MOST 1048576: true; the input reads as it did. -/
def tlvPiecesUptoRow : OpenClaim := { program := "ytgkonglkfjbmnaa", sum := "d42334c61340689ee2b4460fff595d4ba13815499e95d5889f9b8ae696722953", func := "culvert/culvertlaw05.TlvPieces", spec := "tlvPieces", apart := false, narrowed := true }
def TlvPiecesUptoSaid : Prop := tlvPiecesUptoRow.holds Try.pinned (OpenSpec.upto tlvPiecesSpec)

/-- 'culvertlaw05.TlvBack', WHERE WHAT IT READS IS OF BULK AT MOST 1048576: true; the input reads as it did. -/
def tlvBackUptoRow : OpenClaim := { program := "ytgkonglkfjbmnaa", sum := "d42334c61340689ee2b4460fff595d4ba13815499e95d5889f9b8ae696722953", func := "culvert/culvertlaw05.TlvBack", spec := "tlvBack", apart := false, narrowed := true }
def TlvBackUptoSaid : Prop := tlvBackUptoRow.holds Try.pinned (OpenSpec.upto tlvBackSpec)

/-- 'culvertlaw05.TlvTrailers', WHERE WHAT IT READS IS OF BULK AT MOST 1048576: true; the input reads as it did. -/
def tlvTrailersUptoRow : OpenClaim := { program := "ytgkonglkfjbmnaa", sum := "d42334c61340689ee2b4460fff595d4ba13815499e95d5889f9b8ae696722953", func := "culvert/culvertlaw05.TlvTrailers", spec := "tlvTrailers", apart := false, narrowed := true }
def TlvTrailersUptoSaid : Prop := tlvTrailersUptoRow.holds Try.pinned (OpenSpec.upto tlvTrailersSpec)

/-- 'culvertlaw05.TlvKnown', WHERE WHAT IT READS IS OF BULK AT MOST 1048576: true; the input reads as it did. -/
def tlvKnownUptoRow : OpenClaim := { program := "ytgkonglkfjbmnaa", sum := "d42334c61340689ee2b4460fff595d4ba13815499e95d5889f9b8ae696722953", func := "culvert/culvertlaw05.TlvKnown", spec := "tlvKnown", apart := false, narrowed := true }
def TlvKnownUptoSaid : Prop := tlvKnownUptoRow.holds Try.pinned (OpenSpec.upto tlvKnownSpec)

end Rows
end Go.Proofs.Ytgkonglkfjbmnaa
