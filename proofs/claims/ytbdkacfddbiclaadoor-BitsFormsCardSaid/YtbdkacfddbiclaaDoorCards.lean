/-
  DERIVED. GIVEN WITH THE SEED: THE CARDS: each row of YtbdkacfddbiclaaDoorRows.lean that lists a variable, with what it lists TIED to the program's text (the seventh form; the later family's looks); each row that meets fmt, with fmt's text TOLD by the authors' own Lean function (tested against real Go, not proved from fmt's source: count such statements apart). THE CARD IS WHAT COUNTS. Prove the row's statement (the work); the ties are given (YtbdkacfddbiclaaDoorTie.lean); close each card by the builder's one call (the guide's Derived/Test/ToyasCard.lean, 'card_holds'). Laid BY PROGRAM, IN A SANDBOX (cutbox-door.mjs). By AI agents, Wed Nov 11 2026. No macro, syntax, notation, axiom, sorry.
-/
import Derived.Test.YtbdkacfddbiclaaDoorRows
import GoSem.ClaimSeven
namespace Go.Proofs.YtbdkacfddbiclaaDoor
namespace Rows

/-- THE TIED CARD OF 'taplinelaw01.BitsTypes'. -/
def bitsTypesCard : Claim7 := { stood := { row := bitsTypesRow, standIns := [], harness := (true, "0dbe7b7097ae7e016f858fb3d3f536cc13a49f8b15d9d5370fd68dded30f927a"), looks := true }, kinds := [], alts := [], laidByText := true, laidKinds := [.data, .data, .data, .data, .sentinel, .sentinel, .data], laidTests := true, laidLooks := .later }
def BitsTypesCardSaid : Prop := Claim7.holds Tryd.pinned (.plain (OpenSpec.ofChange bitsTypesSpec)) bitsTypesCard

/-- THE TIED CARD OF 'taplinelaw01.BitsForms'. -/
def bitsFormsCard : Claim7 := { stood := { row := bitsFormsRow, standIns := [], harness := (true, "0dbe7b7097ae7e016f858fb3d3f536cc13a49f8b15d9d5370fd68dded30f927a"), looks := true }, kinds := [], alts := [], laidByText := true, laidKinds := [.data, .data, .data, .sentinel, .sentinel, .data], laidTests := true, laidLooks := .later }
def BitsFormsCardSaid : Prop := Claim7.holds Tryd.pinned (.plain (OpenSpec.ofChange bitsFormsSpec)) bitsFormsCard

/-- THE TIED CARD OF 'taplinelaw01.BitsRing'. -/
def bitsRingCard : Claim7 := { stood := { row := bitsRingRow, standIns := [], harness := (true, "0dbe7b7097ae7e016f858fb3d3f536cc13a49f8b15d9d5370fd68dded30f927a"), looks := true }, kinds := [], alts := [], laidByText := true, laidKinds := [.data, .data, .data, .sentinel, .sentinel, .data], laidTests := true, laidLooks := .later }
def BitsRingCardSaid : Prop := Claim7.holds Tryd.pinned (.plain (OpenSpec.ofChange bitsRingSpec)) bitsRingCard

/-- THE TIED CARD OF 'taplinelaw01.BitsDivides'. -/
def bitsDividesCard : Claim7 := { stood := { row := bitsDividesRow, standIns := [], harness := (true, "0dbe7b7097ae7e016f858fb3d3f536cc13a49f8b15d9d5370fd68dded30f927a"), looks := true }, kinds := [], alts := [], laidByText := true, laidKinds := [.data, .data, .data, .sentinel, .sentinel, .data], laidTests := true, laidLooks := .later }
def BitsDividesCardSaid : Prop := Claim7.holds Tryd.pinned (.plain (OpenSpec.ofChange bitsDividesSpec)) bitsDividesCard

/-- THE TIED CARD OF 'taplinelaw01.BitsCommon'. -/
def bitsCommonCard : Claim7 := { stood := { row := bitsCommonRow, standIns := [], harness := (true, "0dbe7b7097ae7e016f858fb3d3f536cc13a49f8b15d9d5370fd68dded30f927a"), looks := true }, kinds := [], alts := [], laidByText := true, laidKinds := [.data, .data, .data, .sentinel, .sentinel, .data], laidTests := true, laidLooks := .later }
def BitsCommonCardSaid : Prop := Claim7.holds Tryd.pinned (.plain (OpenSpec.ofChange bitsCommonSpec)) bitsCommonCard

/-- THE TIED CARD OF 'taplinelaw01.BitsBack'. -/
def bitsBackCard : Claim7 := { stood := { row := bitsBackRow, standIns := [], harness := (true, "0dbe7b7097ae7e016f858fb3d3f536cc13a49f8b15d9d5370fd68dded30f927a"), looks := true }, kinds := [], alts := [], laidByText := true, laidKinds := [.data, .data, .data, .sentinel, .sentinel, .data], laidTests := true, laidLooks := .later }
def BitsBackCardSaid : Prop := Claim7.holds Tryd.pinned (.plain (OpenSpec.ofChange bitsBackSpec)) bitsBackCard

/-- THE TIED CARD OF 'taplinelaw01.BitsOrders'. -/
def bitsOrdersCard : Claim7 := { stood := { row := bitsOrdersRow, standIns := [], harness := (true, "0dbe7b7097ae7e016f858fb3d3f536cc13a49f8b15d9d5370fd68dded30f927a"), looks := true }, kinds := [], alts := [], laidByText := true, laidKinds := [.data, .data, .data, .data, .sentinel, .sentinel, .data], laidTests := true, laidLooks := .later }
def BitsOrdersCardSaid : Prop := Claim7.holds Tryd.pinned (.plain (OpenSpec.ofChange bitsOrdersSpec)) bitsOrdersCard

/-- THE TIED CARD OF 'taplinelaw01.BitsShifts'. -/
def bitsShiftsCard : Claim7 := { stood := { row := bitsShiftsRow, standIns := [], harness := (true, "0dbe7b7097ae7e016f858fb3d3f536cc13a49f8b15d9d5370fd68dded30f927a"), looks := true }, kinds := [], alts := [], laidByText := true, laidKinds := [.data, .data, .data, .data, .sentinel, .sentinel, .data], laidTests := true, laidLooks := .later }
def BitsShiftsCardSaid : Prop := Claim7.holds Tryd.pinned (.plain (OpenSpec.ofChange bitsShiftsSpec)) bitsShiftsCard

/-- THE TIED CARD OF 'taplinelaw01.BitsConverts'. -/
def bitsConvertsCard : Claim7 := { stood := { row := bitsConvertsRow, standIns := [], harness := (true, "0dbe7b7097ae7e016f858fb3d3f536cc13a49f8b15d9d5370fd68dded30f927a"), looks := true }, kinds := [], alts := [], laidByText := true, laidKinds := [.data, .data, .data, .sentinel, .sentinel, .data], laidTests := true, laidLooks := .later }
def BitsConvertsCardSaid : Prop := Claim7.holds Tryd.pinned (.plain (OpenSpec.ofChange bitsConvertsSpec)) bitsConvertsCard

/-- THE SECOND FORM's CARD OF 'taplinelaw01.BitsTypes'. -/
def bitsTypesUptoCard : Claim7 := { stood := { row := bitsTypesUptoRow, standIns := [], harness := (true, "0dbe7b7097ae7e016f858fb3d3f536cc13a49f8b15d9d5370fd68dded30f927a"), looks := true }, kinds := [], alts := [], laidByText := true, laidKinds := [.data, .data, .data, .data, .sentinel, .sentinel, .data], laidTests := true, laidLooks := .later }
def BitsTypesUptoCardSaid : Prop := Claim7.holds Tryd.pinned (.plain (OpenSpec.upto bitsTypesSpec)) bitsTypesUptoCard

/-- THE SECOND FORM's CARD OF 'taplinelaw01.BitsForms'. -/
def bitsFormsUptoCard : Claim7 := { stood := { row := bitsFormsUptoRow, standIns := [], harness := (true, "0dbe7b7097ae7e016f858fb3d3f536cc13a49f8b15d9d5370fd68dded30f927a"), looks := true }, kinds := [], alts := [], laidByText := true, laidKinds := [.data, .data, .data, .sentinel, .sentinel, .data], laidTests := true, laidLooks := .later }
def BitsFormsUptoCardSaid : Prop := Claim7.holds Tryd.pinned (.plain (OpenSpec.upto bitsFormsSpec)) bitsFormsUptoCard

/-- THE SECOND FORM's CARD OF 'taplinelaw01.BitsRing'. -/
def bitsRingUptoCard : Claim7 := { stood := { row := bitsRingUptoRow, standIns := [], harness := (true, "0dbe7b7097ae7e016f858fb3d3f536cc13a49f8b15d9d5370fd68dded30f927a"), looks := true }, kinds := [], alts := [], laidByText := true, laidKinds := [.data, .data, .data, .sentinel, .sentinel, .data], laidTests := true, laidLooks := .later }
def BitsRingUptoCardSaid : Prop := Claim7.holds Tryd.pinned (.plain (OpenSpec.upto bitsRingSpec)) bitsRingUptoCard

/-- THE SECOND FORM's CARD OF 'taplinelaw01.BitsDivides'. -/
def bitsDividesUptoCard : Claim7 := { stood := { row := bitsDividesUptoRow, standIns := [], harness := (true, "0dbe7b7097ae7e016f858fb3d3f536cc13a49f8b15d9d5370fd68dded30f927a"), looks := true }, kinds := [], alts := [], laidByText := true, laidKinds := [.data, .data, .data, .sentinel, .sentinel, .data], laidTests := true, laidLooks := .later }
def BitsDividesUptoCardSaid : Prop := Claim7.holds Tryd.pinned (.plain (OpenSpec.upto bitsDividesSpec)) bitsDividesUptoCard

/-- THE SECOND FORM's CARD OF 'taplinelaw01.BitsCommon'. -/
def bitsCommonUptoCard : Claim7 := { stood := { row := bitsCommonUptoRow, standIns := [], harness := (true, "0dbe7b7097ae7e016f858fb3d3f536cc13a49f8b15d9d5370fd68dded30f927a"), looks := true }, kinds := [], alts := [], laidByText := true, laidKinds := [.data, .data, .data, .sentinel, .sentinel, .data], laidTests := true, laidLooks := .later }
def BitsCommonUptoCardSaid : Prop := Claim7.holds Tryd.pinned (.plain (OpenSpec.upto bitsCommonSpec)) bitsCommonUptoCard

/-- THE SECOND FORM's CARD OF 'taplinelaw01.BitsBack'. -/
def bitsBackUptoCard : Claim7 := { stood := { row := bitsBackUptoRow, standIns := [], harness := (true, "0dbe7b7097ae7e016f858fb3d3f536cc13a49f8b15d9d5370fd68dded30f927a"), looks := true }, kinds := [], alts := [], laidByText := true, laidKinds := [.data, .data, .data, .sentinel, .sentinel, .data], laidTests := true, laidLooks := .later }
def BitsBackUptoCardSaid : Prop := Claim7.holds Tryd.pinned (.plain (OpenSpec.upto bitsBackSpec)) bitsBackUptoCard

/-- THE SECOND FORM's CARD OF 'taplinelaw01.BitsOrders'. -/
def bitsOrdersUptoCard : Claim7 := { stood := { row := bitsOrdersUptoRow, standIns := [], harness := (true, "0dbe7b7097ae7e016f858fb3d3f536cc13a49f8b15d9d5370fd68dded30f927a"), looks := true }, kinds := [], alts := [], laidByText := true, laidKinds := [.data, .data, .data, .data, .sentinel, .sentinel, .data], laidTests := true, laidLooks := .later }
def BitsOrdersUptoCardSaid : Prop := Claim7.holds Tryd.pinned (.plain (OpenSpec.upto bitsOrdersSpec)) bitsOrdersUptoCard

/-- THE SECOND FORM's CARD OF 'taplinelaw01.BitsShifts'. -/
def bitsShiftsUptoCard : Claim7 := { stood := { row := bitsShiftsUptoRow, standIns := [], harness := (true, "0dbe7b7097ae7e016f858fb3d3f536cc13a49f8b15d9d5370fd68dded30f927a"), looks := true }, kinds := [], alts := [], laidByText := true, laidKinds := [.data, .data, .data, .data, .sentinel, .sentinel, .data], laidTests := true, laidLooks := .later }
def BitsShiftsUptoCardSaid : Prop := Claim7.holds Tryd.pinned (.plain (OpenSpec.upto bitsShiftsSpec)) bitsShiftsUptoCard

/-- THE SECOND FORM's CARD OF 'taplinelaw01.BitsConverts'. -/
def bitsConvertsUptoCard : Claim7 := { stood := { row := bitsConvertsUptoRow, standIns := [], harness := (true, "0dbe7b7097ae7e016f858fb3d3f536cc13a49f8b15d9d5370fd68dded30f927a"), looks := true }, kinds := [], alts := [], laidByText := true, laidKinds := [.data, .data, .data, .sentinel, .sentinel, .data], laidTests := true, laidLooks := .later }
def BitsConvertsUptoCardSaid : Prop := Claim7.holds Tryd.pinned (.plain (OpenSpec.upto bitsConvertsSpec)) bitsConvertsUptoCard
end Rows
end Go.Proofs.YtbdkacfddbiclaaDoor
