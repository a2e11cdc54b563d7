/-
  DERIVED. GIVEN WITH THE SEED: THE CARDS: each row of YtimpopolkofdgaaDoorRows.lean that lists a variable, with what it lists TIED to the program's text (the seventh form; the later family's looks); each row that meets fmt, with fmt's text TOLD by the authors' own Lean function (tested against real Go, not proved from fmt's source: count such statements apart). THE CARD IS WHAT COUNTS. Prove the row's statement (the work); the ties are given (YtimpopolkofdgaaDoorTie.lean); close each card by the builder's one call (the guide's Derived/Test/ToyasCard.lean, 'card_holds'). Laid BY PROGRAM, IN A SANDBOX (cutbox-door.mjs). By AI agents, Wed Nov 11 2026. No macro, syntax, notation, axiom, sorry.
-/
import Derived.Test.YtimpopolkofdgaaDoorRows
import GoSem.ClaimSeven
namespace Go.Proofs.YtimpopolkofdgaaDoor
namespace Rows

/-- THE TIED CARD OF 'culvertlaw02.AddrBack'. -/
def addrBackCard : Claim7 := { stood := { row := addrBackRow, standIns := [], harness := (true, "0e8bc2af0f9592fbd2bdea98598f8398dcb5d7fe1c89717d2be24136bc83214c"), looks := true }, kinds := [], alts := [], laidByText := true, laidKinds := [.data, .data, .data, .data, .sentinel, .sentinel, .pinned], laidTests := true, laidLooks := .later }
def AddrBackCardSaid : Prop := Claim7.holds Tryd.pinned (.plain (OpenSpec.ofChange addrBackSpec)) addrBackCard

/-- THE TIED CARD OF 'culvertlaw02.AddrTree'. -/
def addrTreeCard : Claim7 := { stood := { row := addrTreeRow, standIns := [], harness := (true, "0e8bc2af0f9592fbd2bdea98598f8398dcb5d7fe1c89717d2be24136bc83214c"), looks := true }, kinds := [], alts := [], laidByText := true, laidKinds := [.data, .data, .data, .data, .sentinel, .sentinel, .pinned], laidTests := true, laidLooks := .later }
def AddrTreeCardSaid : Prop := Claim7.holds Tryd.pinned (.plain (OpenSpec.ofChange addrTreeSpec)) addrTreeCard

/-- THE TIED CARD OF 'culvertlaw02.AddrOrder'. -/
def addrOrderCard : Claim7 := { stood := { row := addrOrderRow, standIns := [], harness := (true, "0e8bc2af0f9592fbd2bdea98598f8398dcb5d7fe1c89717d2be24136bc83214c"), looks := true }, kinds := [], alts := [], laidByText := true, laidKinds := [.data, .data, .data, .data, .sentinel, .sentinel, .pinned], laidTests := true, laidLooks := .later }
def AddrOrderCardSaid : Prop := Claim7.holds Tryd.pinned (.plain (OpenSpec.ofChange addrOrderSpec)) addrOrderCard

/-- THE SECOND FORM's CARD OF 'culvertlaw02.AddrBack'. -/
def addrBackUptoCard : Claim7 := { stood := { row := addrBackUptoRow, standIns := [], harness := (true, "0e8bc2af0f9592fbd2bdea98598f8398dcb5d7fe1c89717d2be24136bc83214c"), looks := true }, kinds := [], alts := [], laidByText := true, laidKinds := [.data, .data, .data, .data, .sentinel, .sentinel, .pinned], laidTests := true, laidLooks := .later }
def AddrBackUptoCardSaid : Prop := Claim7.holds Tryd.pinned (.plain (OpenSpec.upto addrBackSpec)) addrBackUptoCard

/-- THE SECOND FORM's CARD OF 'culvertlaw02.AddrTree'. -/
def addrTreeUptoCard : Claim7 := { stood := { row := addrTreeUptoRow, standIns := [], harness := (true, "0e8bc2af0f9592fbd2bdea98598f8398dcb5d7fe1c89717d2be24136bc83214c"), looks := true }, kinds := [], alts := [], laidByText := true, laidKinds := [.data, .data, .data, .data, .sentinel, .sentinel, .pinned], laidTests := true, laidLooks := .later }
def AddrTreeUptoCardSaid : Prop := Claim7.holds Tryd.pinned (.plain (OpenSpec.upto addrTreeSpec)) addrTreeUptoCard

/-- THE SECOND FORM's CARD OF 'culvertlaw02.AddrOrder'. -/
def addrOrderUptoCard : Claim7 := { stood := { row := addrOrderUptoRow, standIns := [], harness := (true, "0e8bc2af0f9592fbd2bdea98598f8398dcb5d7fe1c89717d2be24136bc83214c"), looks := true }, kinds := [], alts := [], laidByText := true, laidKinds := [.data, .data, .data, .data, .sentinel, .sentinel, .pinned], laidTests := true, laidLooks := .later }
def AddrOrderUptoCardSaid : Prop := Claim7.holds Tryd.pinned (.plain (OpenSpec.upto addrOrderSpec)) addrOrderUptoCard
end Rows
end Go.Proofs.YtimpopolkofdgaaDoor
