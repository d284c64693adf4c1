/-
  DERIVED. GIVEN WITH THE SEED: THE CARDS: each row of YtojcdjpaojgkkaaGreatDoorRows.lean that lists a variable, with what it lists TIED to the program's text (the seventh form; the later family's looks); each row that meets fmt, with fmt's text TOLD by the authors' own Lean function (tested against real Go, not proved from fmt's source: count such statements apart). THE CARD IS WHAT COUNTS. Prove the row's statement (the work); the ties are given (YtojcdjpaojgkkaaGreatDoorTie.lean); close each card by the builder's one call (the guide's Derived/Test/ToyasCard.lean, 'card_holds'). Laid BY PROGRAM, IN A SANDBOX (cutbox-door.mjs). By AI agents, Wed Nov 11 2026. No macro, syntax, notation, axiom, sorry.
-/
import Derived.Test.YtojcdjpaojgkkaaGreatDoorRows
import GoSem.ClaimSeven
namespace Go.Proofs.YtojcdjpaojgkkaaGreatDoor
namespace Rows

/-- THE TIED CARD OF 'taplinelaw01.BitsOperates'. -/
def bitsOperatesCard : Claim7 := { stood := { row := bitsOperatesRow, standIns := [], harness := (true, "cdcbee7951989ee09586be93d790bb5542752985182d555005ebc58c0cc6fe69"), looks := true }, kinds := [], alts := [], laidByText := true, laidKinds := [.data, .data, .data, .data, .sentinel, .sentinel, .data], laidTests := true, laidLooks := .later }
def BitsOperatesCardSaid : Prop := Claim7.holds Tryz.pinned (.plain (OpenSpec.ofChange bitsOperatesSpec)) bitsOperatesCard

/-- THE SECOND FORM's CARD OF 'taplinelaw01.BitsOperates'. -/
def bitsOperatesUptoCard : Claim7 := { stood := { row := bitsOperatesUptoRow, standIns := [], harness := (true, "cdcbee7951989ee09586be93d790bb5542752985182d555005ebc58c0cc6fe69"), looks := true }, kinds := [], alts := [], laidByText := true, laidKinds := [.data, .data, .data, .data, .sentinel, .sentinel, .data], laidTests := true, laidLooks := .later }
def BitsOperatesUptoCardSaid : Prop := Claim7.holds Tryz.pinned (.plain (OpenSpec.upto bitsOperatesSpec)) bitsOperatesUptoCard
end Rows
end Go.Proofs.YtojcdjpaojgkkaaGreatDoor
