/-
  DERIVED. GIVEN WITH THE SEED: THE CARDS: each row of YtggfaalodojjkaaGreatDoorRows.lean that lists a variable, with what it lists TIED to the program's text (the seventh form; the later family's looks); each row that meets fmt, with fmt's text TOLD by the authors' own Lean function (tested against real Go, not proved from fmt's source: count such statements apart). THE CARD IS WHAT COUNTS. Prove the row's statement (the work); the ties are given (YtggfaalodojjkaaGreatDoorTie.lean); close each card by the builder's one call (the guide's Derived/Test/ToyasCard.lean, 'card_holds'). Laid BY PROGRAM, IN A SANDBOX (cutbox-door.mjs). By AI agents, Wed Nov 11 2026. No macro, syntax, notation, axiom, sorry.
-/
import Derived.Test.YtggfaalodojjkaaGreatDoorRows
import GoSem.ClaimSeven
namespace Go.Proofs.YtggfaalodojjkaaGreatDoor
namespace Rows

/-- THE TIED CARD OF 'grommetlaw11.InstrCodes'. -/
def instrCodesCard : Claim7 := { stood := { row := instrCodesRow, standIns := [], harness := (true, "9e84181ca5fe7e9a966fbe0f25dea79e93dc0767dbd2579a8a99642c00156c6c"), looks := true }, kinds := [], alts := [], laidByText := true, laidKinds := [.data, .data, .data, .data, .sentinel, .sentinel, .listed, .data, .data, .pinned], laidTests := true, laidLooks := .later }
def InstrCodesCardSaid : Prop := Claim7.holds Tryz.pinned (.plain (OpenSpec.ofChange instrCodesSpec)) instrCodesCard

/-- THE TIED CARD OF 'grommetlaw11.InstrDecodes'. -/
def instrDecodesCard : Claim7 := { stood := { row := instrDecodesRow, standIns := [], harness := (true, "9e84181ca5fe7e9a966fbe0f25dea79e93dc0767dbd2579a8a99642c00156c6c"), looks := true }, kinds := [], alts := [], laidByText := true, laidKinds := [.data, .data, .data, .data, .sentinel, .sentinel, .listed, .data, .data, .pinned], laidTests := true, laidLooks := .later }
def InstrDecodesCardSaid : Prop := Claim7.holds Tryz.pinned (.plain (OpenSpec.ofChange instrDecodesSpec)) instrDecodesCard

/-- THE TIED CARD OF 'grommetlaw11.InstrPrints'. -/
def instrPrintsCard : Claim7 := { stood := { row := instrPrintsRow, standIns := [], harness := (true, "9e84181ca5fe7e9a966fbe0f25dea79e93dc0767dbd2579a8a99642c00156c6c"), looks := true }, kinds := [], alts := [], laidByText := true, laidKinds := [.data, .data, .data, .data, .sentinel, .sentinel, .listed, .data, .pinned], laidTests := true, laidLooks := .later }
def InstrPrintsCardSaid : Prop := Claim7.holds Tryz.pinned (.plain (OpenSpec.ofChange instrPrintsSpec)) instrPrintsCard

/-- THE TIED CARD OF 'grommetlaw11.InstrFails'. -/
def instrFailsCard : Claim7 := { stood := { row := instrFailsRow, standIns := [], harness := (true, "9e84181ca5fe7e9a966fbe0f25dea79e93dc0767dbd2579a8a99642c00156c6c"), looks := true }, kinds := [], alts := [], laidByText := true, laidKinds := [.data, .data, .data, .data, .sentinel, .sentinel, .listed, .data, .data, .pinned], laidTests := true, laidLooks := .later }
def InstrFailsCardSaid : Prop := Claim7.holds Tryz.pinned (.plain (OpenSpec.ofChange instrFailsSpec)) instrFailsCard

/-- THE TIED CARD OF 'grommetlaw11.InstrApart'. -/
def instrApartCard : Claim7 := { stood := { row := instrApartRow, standIns := [], harness := (true, "9e84181ca5fe7e9a966fbe0f25dea79e93dc0767dbd2579a8a99642c00156c6c"), looks := true }, kinds := [], alts := [], laidByText := true, laidKinds := [.data, .data, .data, .data, .sentinel, .sentinel, .listed, .data, .pinned], laidTests := true, laidLooks := .later }
def InstrApartCardSaid : Prop := Claim7.holds Tryz.pinned (.plain (OpenSpec.ofChange instrApartSpec)) instrApartCard

/-- THE SECOND FORM's CARD OF 'grommetlaw11.InstrCodes'. -/
def instrCodesUptoCard : Claim7 := { stood := { row := instrCodesUptoRow, standIns := [], harness := (true, "9e84181ca5fe7e9a966fbe0f25dea79e93dc0767dbd2579a8a99642c00156c6c"), looks := true }, kinds := [], alts := [], laidByText := true, laidKinds := [.data, .data, .data, .data, .sentinel, .sentinel, .listed, .data, .data, .pinned], laidTests := true, laidLooks := .later }
def InstrCodesUptoCardSaid : Prop := Claim7.holds Tryz.pinned (.plain (OpenSpec.upto instrCodesSpec)) instrCodesUptoCard

/-- THE SECOND FORM's CARD OF 'grommetlaw11.InstrDecodes'. -/
def instrDecodesUptoCard : Claim7 := { stood := { row := instrDecodesUptoRow, standIns := [], harness := (true, "9e84181ca5fe7e9a966fbe0f25dea79e93dc0767dbd2579a8a99642c00156c6c"), looks := true }, kinds := [], alts := [], laidByText := true, laidKinds := [.data, .data, .data, .data, .sentinel, .sentinel, .listed, .data, .data, .pinned], laidTests := true, laidLooks := .later }
def InstrDecodesUptoCardSaid : Prop := Claim7.holds Tryz.pinned (.plain (OpenSpec.upto instrDecodesSpec)) instrDecodesUptoCard

/-- THE SECOND FORM's CARD OF 'grommetlaw11.InstrPrints'. -/
def instrPrintsUptoCard : Claim7 := { stood := { row := instrPrintsUptoRow, standIns := [], harness := (true, "9e84181ca5fe7e9a966fbe0f25dea79e93dc0767dbd2579a8a99642c00156c6c"), looks := true }, kinds := [], alts := [], laidByText := true, laidKinds := [.data, .data, .data, .data, .sentinel, .sentinel, .listed, .data, .pinned], laidTests := true, laidLooks := .later }
def InstrPrintsUptoCardSaid : Prop := Claim7.holds Tryz.pinned (.plain (OpenSpec.upto instrPrintsSpec)) instrPrintsUptoCard

/-- THE SECOND FORM's CARD OF 'grommetlaw11.InstrFails'. -/
def instrFailsUptoCard : Claim7 := { stood := { row := instrFailsUptoRow, standIns := [], harness := (true, "9e84181ca5fe7e9a966fbe0f25dea79e93dc0767dbd2579a8a99642c00156c6c"), looks := true }, kinds := [], alts := [], laidByText := true, laidKinds := [.data, .data, .data, .data, .sentinel, .sentinel, .listed, .data, .data, .pinned], laidTests := true, laidLooks := .later }
def InstrFailsUptoCardSaid : Prop := Claim7.holds Tryz.pinned (.plain (OpenSpec.upto instrFailsSpec)) instrFailsUptoCard

/-- THE SECOND FORM's CARD OF 'grommetlaw11.InstrApart'. -/
def instrApartUptoCard : Claim7 := { stood := { row := instrApartUptoRow, standIns := [], harness := (true, "9e84181ca5fe7e9a966fbe0f25dea79e93dc0767dbd2579a8a99642c00156c6c"), looks := true }, kinds := [], alts := [], laidByText := true, laidKinds := [.data, .data, .data, .data, .sentinel, .sentinel, .listed, .data, .pinned], laidTests := true, laidLooks := .later }
def InstrApartUptoCardSaid : Prop := Claim7.holds Tryz.pinned (.plain (OpenSpec.upto instrApartSpec)) instrApartUptoCard
end Rows
end Go.Proofs.YtggfaalodojjkaaGreatDoor
