/-
  DERIVED. GIVEN WITH THE SEED: THE CARDS: each row of YtjlbcpmfbokinaaGreatDoorRows.lean that lists a variable, with what it lists TIED to the program's text (the seventh form; the later family's looks); each row that meets fmt, with fmt's text TOLD by the authors' own Lean function (tested against real Go, not proved from fmt's source: count such statements apart). THE CARD IS WHAT COUNTS. Prove the row's statement (the work); the ties are given (YtjlbcpmfbokinaaGreatDoorTie.lean); close each card by the builder's one call (the guide's Derived/Test/ToyasCard.lean, 'card_holds'). Laid BY PROGRAM, IN A SANDBOX (cutbox-door.mjs). By AI agents, Wed Nov 11 2026. No macro, syntax, notation, axiom, sorry.
-/
import Derived.Test.YtjlbcpmfbokinaaGreatDoorRows
import GoSem.ClaimSeven
namespace Go.Proofs.YtjlbcpmfbokinaaGreatDoor
namespace Rows

/-- THE TIED CARD OF 'taplinelaw02.InsnChecks'. -/
def insnChecksCard : Claim7 := { stood := { row := insnChecksRow, standIns := [], harness := (true, "ab6db9d97549d7aa5d1865ed8982d224598092bc5ac259af6d4d5b1f4442d0d1"), looks := true }, kinds := [], alts := [], laidByText := true, laidKinds := [.data, .data, .data, .data, .data, .data, .pinned], laidTests := true, laidLooks := .later }
def InsnChecksCardSaid : Prop := Claim7.holds Tryz.pinned (.plain (OpenSpec.ofChange insnChecksSpec)) insnChecksCard

/-- THE TIED CARD OF 'taplinelaw02.InsnEncodes'. -/
def insnEncodesCard : Claim7 := { stood := { row := insnEncodesRow, standIns := [], harness := (true, "ab6db9d97549d7aa5d1865ed8982d224598092bc5ac259af6d4d5b1f4442d0d1"), looks := true }, kinds := [], alts := [], laidByText := true, laidKinds := [.data, .data, .data, .data, .data, .data, .pinned], laidTests := true, laidLooks := .later }
def InsnEncodesCardSaid : Prop := Claim7.holds Tryz.pinned (.plain (OpenSpec.ofChange insnEncodesSpec)) insnEncodesCard

/-- THE TIED CARD OF 'taplinelaw02.InsnSweeps'. -/
def insnSweepsCard : Claim7 := { stood := { row := insnSweepsRow, standIns := [], harness := (true, "ab6db9d97549d7aa5d1865ed8982d224598092bc5ac259af6d4d5b1f4442d0d1"), looks := true }, kinds := [], alts := [], laidByText := true, laidKinds := [.data, .data, .data, .data, .data, .data, .pinned], laidTests := true, laidLooks := .later }
def InsnSweepsCardSaid : Prop := Claim7.holds Tryz.pinned (.plain (OpenSpec.ofChange insnSweepsSpec)) insnSweepsCard

/-- THE SECOND FORM's CARD OF 'taplinelaw02.InsnChecks'. -/
def insnChecksUptoCard : Claim7 := { stood := { row := insnChecksUptoRow, standIns := [], harness := (true, "ab6db9d97549d7aa5d1865ed8982d224598092bc5ac259af6d4d5b1f4442d0d1"), looks := true }, kinds := [], alts := [], laidByText := true, laidKinds := [.data, .data, .data, .data, .data, .data, .pinned], laidTests := true, laidLooks := .later }
def InsnChecksUptoCardSaid : Prop := Claim7.holds Tryz.pinned (.plain (OpenSpec.upto insnChecksSpec)) insnChecksUptoCard

/-- THE SECOND FORM's CARD OF 'taplinelaw02.InsnEncodes'. -/
def insnEncodesUptoCard : Claim7 := { stood := { row := insnEncodesUptoRow, standIns := [], harness := (true, "ab6db9d97549d7aa5d1865ed8982d224598092bc5ac259af6d4d5b1f4442d0d1"), looks := true }, kinds := [], alts := [], laidByText := true, laidKinds := [.data, .data, .data, .data, .data, .data, .pinned], laidTests := true, laidLooks := .later }
def InsnEncodesUptoCardSaid : Prop := Claim7.holds Tryz.pinned (.plain (OpenSpec.upto insnEncodesSpec)) insnEncodesUptoCard

/-- THE SECOND FORM's CARD OF 'taplinelaw02.InsnSweeps'. -/
def insnSweepsUptoCard : Claim7 := { stood := { row := insnSweepsUptoRow, standIns := [], harness := (true, "ab6db9d97549d7aa5d1865ed8982d224598092bc5ac259af6d4d5b1f4442d0d1"), looks := true }, kinds := [], alts := [], laidByText := true, laidKinds := [.data, .data, .data, .data, .data, .data, .pinned], laidTests := true, laidLooks := .later }
def InsnSweepsUptoCardSaid : Prop := Claim7.holds Tryz.pinned (.plain (OpenSpec.upto insnSweepsSpec)) insnSweepsUptoCard
end Rows
end Go.Proofs.YtjlbcpmfbokinaaGreatDoor
