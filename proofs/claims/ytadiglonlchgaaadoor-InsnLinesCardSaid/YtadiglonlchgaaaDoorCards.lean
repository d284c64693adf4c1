/-
  DERIVED. GIVEN WITH THE SEED: THE CARDS: each row of YtadiglonlchgaaaDoorRows.lean that lists a variable, with what it lists TIED to the program's text (the seventh form; the later family's looks); each row that meets fmt, with fmt's text TOLD by the authors' own Lean function (tested against real Go, not proved from fmt's source: count such statements apart). THE CARD IS WHAT COUNTS. Prove the row's statement (the work); the ties are given (YtadiglonlchgaaaDoorTie.lean); close each card by the builder's one call (the guide's Derived/Test/ToyasCard.lean, 'card_holds'). Laid BY PROGRAM, IN A SANDBOX (cutbox-door.mjs). By AI agents, Wed Nov 11 2026. No macro, syntax, notation, axiom, sorry.
-/
import Derived.Test.YtadiglonlchgaaaDoorRows
import GoSem.ClaimSeven
namespace Go.Proofs.YtadiglonlchgaaaDoor
namespace Rows

/-- THE TIED CARD OF 'taplinelaw02.InsnBack'. -/
def insnBackCard : Claim7 := { stood := { row := insnBackRow, standIns := [], harness := (true, "0594be4a249bb14c1c21e1035641139fbf6858602ce47b591c46fdcf9808a437"), looks := true }, kinds := [], alts := [], laidByText := true, laidKinds := [.data, .data, .data, .data, .data, .data, .pinned], laidTests := true, laidLooks := .later }
def InsnBackCardSaid : Prop := Claim7.holds Tryd.pinned (.plain (OpenSpec.ofChange insnBackSpec)) insnBackCard

/-- THE TIED CARD OF 'taplinelaw02.InsnApart'. -/
def insnApartCard : Claim7 := { stood := { row := insnApartRow, standIns := [], harness := (true, "0594be4a249bb14c1c21e1035641139fbf6858602ce47b591c46fdcf9808a437"), looks := true }, kinds := [], alts := [], laidByText := true, laidKinds := [.data, .data, .data, .data, .data, .data, .pinned], laidTests := true, laidLooks := .later }
def InsnApartCardSaid : Prop := Claim7.holds Tryd.pinned (.plain (OpenSpec.ofChange insnApartSpec)) insnApartCard

/-- THE TIED CARD OF 'taplinelaw02.InsnPatched'. -/
def insnPatchedCard : Claim7 := { stood := { row := insnPatchedRow, standIns := [], harness := (true, "0594be4a249bb14c1c21e1035641139fbf6858602ce47b591c46fdcf9808a437"), looks := true }, kinds := [], alts := [], laidByText := true, laidKinds := [.data, .data, .data, .data, .data, .data, .pinned], laidTests := true, laidLooks := .later }
def InsnPatchedCardSaid : Prop := Claim7.holds Tryd.pinned (.plain (OpenSpec.ofChange insnPatchedSpec)) insnPatchedCard

/-- THE TIED CARD OF 'taplinelaw02.InsnLines'. -/
def insnLinesCard : Claim7 := { stood := { row := insnLinesRow, standIns := [], harness := (true, "0594be4a249bb14c1c21e1035641139fbf6858602ce47b591c46fdcf9808a437"), looks := true }, kinds := [], alts := [], laidByText := true, laidKinds := [.data, .data, .data, .data, .data, .data, .pinned], laidTests := true, laidLooks := .later }
def InsnLinesCardSaid : Prop := Claim7.holds Tryd.pinned (.plain (OpenSpec.ofChange insnLinesSpec)) insnLinesCard

/-- THE SECOND FORM's CARD OF 'taplinelaw02.InsnBack'. -/
def insnBackUptoCard : Claim7 := { stood := { row := insnBackUptoRow, standIns := [], harness := (true, "0594be4a249bb14c1c21e1035641139fbf6858602ce47b591c46fdcf9808a437"), looks := true }, kinds := [], alts := [], laidByText := true, laidKinds := [.data, .data, .data, .data, .data, .data, .pinned], laidTests := true, laidLooks := .later }
def InsnBackUptoCardSaid : Prop := Claim7.holds Tryd.pinned (.plain (OpenSpec.upto insnBackSpec)) insnBackUptoCard

/-- THE SECOND FORM's CARD OF 'taplinelaw02.InsnApart'. -/
def insnApartUptoCard : Claim7 := { stood := { row := insnApartUptoRow, standIns := [], harness := (true, "0594be4a249bb14c1c21e1035641139fbf6858602ce47b591c46fdcf9808a437"), looks := true }, kinds := [], alts := [], laidByText := true, laidKinds := [.data, .data, .data, .data, .data, .data, .pinned], laidTests := true, laidLooks := .later }
def InsnApartUptoCardSaid : Prop := Claim7.holds Tryd.pinned (.plain (OpenSpec.upto insnApartSpec)) insnApartUptoCard

/-- THE SECOND FORM's CARD OF 'taplinelaw02.InsnPatched'. -/
def insnPatchedUptoCard : Claim7 := { stood := { row := insnPatchedUptoRow, standIns := [], harness := (true, "0594be4a249bb14c1c21e1035641139fbf6858602ce47b591c46fdcf9808a437"), looks := true }, kinds := [], alts := [], laidByText := true, laidKinds := [.data, .data, .data, .data, .data, .data, .pinned], laidTests := true, laidLooks := .later }
def InsnPatchedUptoCardSaid : Prop := Claim7.holds Tryd.pinned (.plain (OpenSpec.upto insnPatchedSpec)) insnPatchedUptoCard

/-- THE SECOND FORM's CARD OF 'taplinelaw02.InsnLines'. -/
def insnLinesUptoCard : Claim7 := { stood := { row := insnLinesUptoRow, standIns := [], harness := (true, "0594be4a249bb14c1c21e1035641139fbf6858602ce47b591c46fdcf9808a437"), looks := true }, kinds := [], alts := [], laidByText := true, laidKinds := [.data, .data, .data, .data, .data, .data, .pinned], laidTests := true, laidLooks := .later }
def InsnLinesUptoCardSaid : Prop := Claim7.holds Tryd.pinned (.plain (OpenSpec.upto insnLinesSpec)) insnLinesUptoCard
end Rows
end Go.Proofs.YtadiglonlchgaaaDoor
