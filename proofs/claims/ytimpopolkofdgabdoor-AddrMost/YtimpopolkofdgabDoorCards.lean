/-
  DERIVED. GIVEN WITH THE SEED: THE CARDS: each row of YtimpopolkofdgabDoorRows.lean that lists a variable, with what it lists TIED to the program's text (the seventh form; the later family's looks); each row that meets fmt, with fmt's text TOLD by the authors' own Lean function (tested against real Go, not proved from fmt's source: count such statements apart). THE CARD IS WHAT COUNTS. Prove the row's statement (the work); the ties are given (YtimpopolkofdgabDoorTie.lean); close each card by the builder's one call (the guide's Derived/Test/ToyasCard.lean, 'card_holds'). Laid BY PROGRAM, IN A SANDBOX (cutbox-door.mjs). By AI agents, Wed Nov 11 2026. No macro, syntax, notation, axiom, sorry.
-/
import Derived.Test.YtimpopolkofdgabDoorRows
import GoSem.ClaimSeven
namespace Go.Proofs.YtimpopolkofdgabDoor
namespace Rows

/-- THE TIED CARD OF 'culvertlaw02.AddrFirst'. -/
def addrFirstCard : Claim7 := { stood := { row := addrFirstRow, standIns := [], harness := (true, "3b3e0bbcc223bc6edf9c102029f7b0304cea9cb0a3887e2981227907c6772324"), looks := true }, kinds := [], alts := [], laidByText := true, laidKinds := [.data, .data, .data, .data, .sentinel, .sentinel, .pinned], laidTests := true, laidLooks := .later }
def AddrFirstCardSaid : Prop := Claim7.holds Tryd.pinned (.plain (OpenSpec.ofChange addrFirstSpec)) addrFirstCard

/-- THE TIED CARD OF 'culvertlaw02.AddrMost'. -/
def addrMostCard : Claim7 := { stood := { row := addrMostRow, standIns := [], harness := (true, "3b3e0bbcc223bc6edf9c102029f7b0304cea9cb0a3887e2981227907c6772324"), looks := true }, kinds := [], alts := [], laidByText := true, laidKinds := [.data, .data, .data, .data, .sentinel, .sentinel, .pinned], laidTests := true, laidLooks := .later }
def AddrMostCardSaid : Prop := Claim7.holds Tryd.pinned (.plain (OpenSpec.ofChange addrMostSpec)) addrMostCard

/-- THE SECOND FORM's CARD OF 'culvertlaw02.AddrFirst'. -/
def addrFirstUptoCard : Claim7 := { stood := { row := addrFirstUptoRow, standIns := [], harness := (true, "3b3e0bbcc223bc6edf9c102029f7b0304cea9cb0a3887e2981227907c6772324"), looks := true }, kinds := [], alts := [], laidByText := true, laidKinds := [.data, .data, .data, .data, .sentinel, .sentinel, .pinned], laidTests := true, laidLooks := .later }
def AddrFirstUptoCardSaid : Prop := Claim7.holds Tryd.pinned (.plain (OpenSpec.upto addrFirstSpec)) addrFirstUptoCard

/-- THE SECOND FORM's CARD OF 'culvertlaw02.AddrMost'. -/
def addrMostUptoCard : Claim7 := { stood := { row := addrMostUptoRow, standIns := [], harness := (true, "3b3e0bbcc223bc6edf9c102029f7b0304cea9cb0a3887e2981227907c6772324"), looks := true }, kinds := [], alts := [], laidByText := true, laidKinds := [.data, .data, .data, .data, .sentinel, .sentinel, .pinned], laidTests := true, laidLooks := .later }
def AddrMostUptoCardSaid : Prop := Claim7.holds Tryd.pinned (.plain (OpenSpec.upto addrMostSpec)) addrMostUptoCard
end Rows
end Go.Proofs.YtimpopolkofdgabDoor
