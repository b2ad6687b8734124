/-
  DERIVED. GIVEN WITH THE SEED: THE CARDS: each row of YtalpkdnnclghaaaDoorRows.lean that lists a variable, with what it lists TIED to the program's text (the seventh form; the later family's looks); each row that meets fmt, with fmt's text TOLD by the authors' own Lean function (tested against real Go, not proved from fmt's source: count such statements apart). THE CARD IS WHAT COUNTS. Prove the row's statement (the work); the ties are given (YtalpkdnnclghaaaDoorTie.lean); close each card by the builder's one call (the guide's Derived/Test/ToyasCard.lean, 'card_holds'). Laid BY PROGRAM, IN A SANDBOX (cutbox-door.mjs). By AI agents, Wed Nov 11 2026. No macro, syntax, notation, axiom, sorry.
-/
import Derived.Test.YtalpkdnnclghaaaDoorRows
import GoSem.ClaimSeven
namespace Go.Proofs.YtalpkdnnclghaaaDoor
namespace Rows

/-- THE TIED CARD OF 'grommetlaw09.TypesPrint'. -/
def typesPrintCard : Claim7 := { stood := { row := typesPrintRow, standIns := [], harness := (true, "4363a9f1bcaa13f3b457e37f1a1b0955e8ef81f2314578975e89844add95430d"), looks := true }, kinds := [], alts := [], laidByText := true, laidKinds := [.data, .pinned], laidTests := true, laidLooks := .later }
def TypesPrintCardSaid : Prop := Claim7.holds Tryd.pinned (.plain (OpenSpec.ofChange typesPrintSpec)) typesPrintCard

/-- THE TIED CARD OF 'grommetlaw09.TypesParse'. -/
def typesParseCard : Claim7 := { stood := { row := typesParseRow, standIns := [], harness := (true, "4363a9f1bcaa13f3b457e37f1a1b0955e8ef81f2314578975e89844add95430d"), looks := true }, kinds := [], alts := [], laidByText := true, laidKinds := [.data, .pinned], laidTests := true, laidLooks := .later }
def TypesParseCardSaid : Prop := Claim7.holds Tryd.pinned (.plain (OpenSpec.ofChange typesParseSpec)) typesParseCard

/-- THE TIED CARD OF 'grommetlaw09.TypesLimits'. -/
def typesLimitsCard : Claim7 := { stood := { row := typesLimitsRow, standIns := [], harness := (true, "4363a9f1bcaa13f3b457e37f1a1b0955e8ef81f2314578975e89844add95430d"), looks := true }, kinds := [], alts := [], laidByText := true, laidKinds := [.data, .data, .data, .data, .sentinel, .sentinel, .pinned], laidTests := true, laidLooks := .later }
def TypesLimitsCardSaid : Prop := Claim7.holds Tryd.pinned (.plain (OpenSpec.ofChange typesLimitsSpec)) typesLimitsCard

/-- THE TIED CARD OF 'grommetlaw09.TypesNames'. -/
def typesNamesCard : Claim7 := { stood := { row := typesNamesRow, standIns := [], harness := (true, "4363a9f1bcaa13f3b457e37f1a1b0955e8ef81f2314578975e89844add95430d"), looks := true }, kinds := [], alts := [], laidByText := true, laidKinds := [.data, .pinned], laidTests := true, laidLooks := .later }
def TypesNamesCardSaid : Prop := Claim7.holds Tryd.pinned (.plain (OpenSpec.ofChange typesNamesSpec)) typesNamesCard

/-- THE TIED CARD OF 'grommetlaw09.TypesApart'. -/
def typesApartCard : Claim7 := { stood := { row := typesApartRow, standIns := [], harness := (true, "4363a9f1bcaa13f3b457e37f1a1b0955e8ef81f2314578975e89844add95430d"), looks := true }, kinds := [], alts := [], laidByText := true, laidKinds := [.data, .pinned], laidTests := true, laidLooks := .later }
def TypesApartCardSaid : Prop := Claim7.holds Tryd.pinned (.plain (OpenSpec.ofChange typesApartSpec)) typesApartCard

/-- THE TIED CARD OF 'grommetlaw10.OpFinds'. -/
def opFindsCard : Claim7 := { stood := { row := opFindsRow, standIns := [], harness := (true, "4363a9f1bcaa13f3b457e37f1a1b0955e8ef81f2314578975e89844add95430d"), looks := true }, kinds := [], alts := [], laidByText := true, laidKinds := [.listed, .data, .data, .data], laidTests := true, laidLooks := .later }
def OpFindsCardSaid : Prop := Claim7.holds Tryd.pinned (.plain (OpenSpec.ofChange opFindsSpec)) opFindsCard

/-- THE TIED CARD OF 'grommetlaw10.OpNames'. -/
def opNamesCard : Claim7 := { stood := { row := opNamesRow, standIns := [], harness := (true, "4363a9f1bcaa13f3b457e37f1a1b0955e8ef81f2314578975e89844add95430d"), looks := true }, kinds := [], alts := [], laidByText := true, laidKinds := [.listed, .data], laidTests := true, laidLooks := .later }
def OpNamesCardSaid : Prop := Claim7.holds Tryd.pinned (.plain (OpenSpec.ofChange opNamesSpec)) opNamesCard

/-- THE TIED CARD OF 'grommetlaw10.OpNumeric'. -/
def opNumericCard : Claim7 := { stood := { row := opNumericRow, standIns := [], harness := (true, "4363a9f1bcaa13f3b457e37f1a1b0955e8ef81f2314578975e89844add95430d"), looks := true }, kinds := [], alts := [], laidByText := true, laidKinds := [.listed, .data, .data], laidTests := true, laidLooks := .later }
def OpNumericCardSaid : Prop := Claim7.holds Tryd.pinned (.plain (OpenSpec.ofChange opNumericSpec)) opNumericCard

/-- THE TIED CARD OF 'grommetlaw10.OpOwn'. -/
def opOwnCard : Claim7 := { stood := { row := opOwnRow, standIns := [], harness := (true, "4363a9f1bcaa13f3b457e37f1a1b0955e8ef81f2314578975e89844add95430d"), looks := true }, kinds := [], alts := [], laidByText := true, laidKinds := [.listed, .data], laidTests := true, laidLooks := .later }
def OpOwnCardSaid : Prop := Claim7.holds Tryd.pinned (.plain (OpenSpec.ofChange opOwnSpec)) opOwnCard

/-- THE TIED CARD OF 'grommetlaw10.OpApart'. -/
def opApartCard : Claim7 := { stood := { row := opApartRow, standIns := [], harness := (true, "4363a9f1bcaa13f3b457e37f1a1b0955e8ef81f2314578975e89844add95430d"), looks := true }, kinds := [], alts := [], laidByText := true, laidKinds := [.listed, .data], laidTests := true, laidLooks := .later }
def OpApartCardSaid : Prop := Claim7.holds Tryd.pinned (.plain (OpenSpec.ofChange opApartSpec)) opApartCard

/-- THE SECOND FORM's CARD OF 'grommetlaw09.TypesPrint'. -/
def typesPrintUptoCard : Claim7 := { stood := { row := typesPrintUptoRow, standIns := [], harness := (true, "4363a9f1bcaa13f3b457e37f1a1b0955e8ef81f2314578975e89844add95430d"), looks := true }, kinds := [], alts := [], laidByText := true, laidKinds := [.data, .pinned], laidTests := true, laidLooks := .later }
def TypesPrintUptoCardSaid : Prop := Claim7.holds Tryd.pinned (.plain (OpenSpec.upto typesPrintSpec)) typesPrintUptoCard

/-- THE SECOND FORM's CARD OF 'grommetlaw09.TypesParse'. -/
def typesParseUptoCard : Claim7 := { stood := { row := typesParseUptoRow, standIns := [], harness := (true, "4363a9f1bcaa13f3b457e37f1a1b0955e8ef81f2314578975e89844add95430d"), looks := true }, kinds := [], alts := [], laidByText := true, laidKinds := [.data, .pinned], laidTests := true, laidLooks := .later }
def TypesParseUptoCardSaid : Prop := Claim7.holds Tryd.pinned (.plain (OpenSpec.upto typesParseSpec)) typesParseUptoCard

/-- THE SECOND FORM's CARD OF 'grommetlaw09.TypesLimits'. -/
def typesLimitsUptoCard : Claim7 := { stood := { row := typesLimitsUptoRow, standIns := [], harness := (true, "4363a9f1bcaa13f3b457e37f1a1b0955e8ef81f2314578975e89844add95430d"), looks := true }, kinds := [], alts := [], laidByText := true, laidKinds := [.data, .data, .data, .data, .sentinel, .sentinel, .pinned], laidTests := true, laidLooks := .later }
def TypesLimitsUptoCardSaid : Prop := Claim7.holds Tryd.pinned (.plain (OpenSpec.upto typesLimitsSpec)) typesLimitsUptoCard

/-- THE SECOND FORM's CARD OF 'grommetlaw09.TypesNames'. -/
def typesNamesUptoCard : Claim7 := { stood := { row := typesNamesUptoRow, standIns := [], harness := (true, "4363a9f1bcaa13f3b457e37f1a1b0955e8ef81f2314578975e89844add95430d"), looks := true }, kinds := [], alts := [], laidByText := true, laidKinds := [.data, .pinned], laidTests := true, laidLooks := .later }
def TypesNamesUptoCardSaid : Prop := Claim7.holds Tryd.pinned (.plain (OpenSpec.upto typesNamesSpec)) typesNamesUptoCard

/-- THE SECOND FORM's CARD OF 'grommetlaw09.TypesApart'. -/
def typesApartUptoCard : Claim7 := { stood := { row := typesApartUptoRow, standIns := [], harness := (true, "4363a9f1bcaa13f3b457e37f1a1b0955e8ef81f2314578975e89844add95430d"), looks := true }, kinds := [], alts := [], laidByText := true, laidKinds := [.data, .pinned], laidTests := true, laidLooks := .later }
def TypesApartUptoCardSaid : Prop := Claim7.holds Tryd.pinned (.plain (OpenSpec.upto typesApartSpec)) typesApartUptoCard

/-- THE SECOND FORM's CARD OF 'grommetlaw10.OpFinds'. -/
def opFindsUptoCard : Claim7 := { stood := { row := opFindsUptoRow, standIns := [], harness := (true, "4363a9f1bcaa13f3b457e37f1a1b0955e8ef81f2314578975e89844add95430d"), looks := true }, kinds := [], alts := [], laidByText := true, laidKinds := [.listed, .data, .data, .data], laidTests := true, laidLooks := .later }
def OpFindsUptoCardSaid : Prop := Claim7.holds Tryd.pinned (.plain (OpenSpec.upto opFindsSpec)) opFindsUptoCard

/-- THE SECOND FORM's CARD OF 'grommetlaw10.OpNames'. -/
def opNamesUptoCard : Claim7 := { stood := { row := opNamesUptoRow, standIns := [], harness := (true, "4363a9f1bcaa13f3b457e37f1a1b0955e8ef81f2314578975e89844add95430d"), looks := true }, kinds := [], alts := [], laidByText := true, laidKinds := [.listed, .data], laidTests := true, laidLooks := .later }
def OpNamesUptoCardSaid : Prop := Claim7.holds Tryd.pinned (.plain (OpenSpec.upto opNamesSpec)) opNamesUptoCard

/-- THE SECOND FORM's CARD OF 'grommetlaw10.OpNumeric'. -/
def opNumericUptoCard : Claim7 := { stood := { row := opNumericUptoRow, standIns := [], harness := (true, "4363a9f1bcaa13f3b457e37f1a1b0955e8ef81f2314578975e89844add95430d"), looks := true }, kinds := [], alts := [], laidByText := true, laidKinds := [.listed, .data, .data], laidTests := true, laidLooks := .later }
def OpNumericUptoCardSaid : Prop := Claim7.holds Tryd.pinned (.plain (OpenSpec.upto opNumericSpec)) opNumericUptoCard

/-- THE SECOND FORM's CARD OF 'grommetlaw10.OpOwn'. -/
def opOwnUptoCard : Claim7 := { stood := { row := opOwnUptoRow, standIns := [], harness := (true, "4363a9f1bcaa13f3b457e37f1a1b0955e8ef81f2314578975e89844add95430d"), looks := true }, kinds := [], alts := [], laidByText := true, laidKinds := [.listed, .data], laidTests := true, laidLooks := .later }
def OpOwnUptoCardSaid : Prop := Claim7.holds Tryd.pinned (.plain (OpenSpec.upto opOwnSpec)) opOwnUptoCard

/-- THE SECOND FORM's CARD OF 'grommetlaw10.OpApart'. -/
def opApartUptoCard : Claim7 := { stood := { row := opApartUptoRow, standIns := [], harness := (true, "4363a9f1bcaa13f3b457e37f1a1b0955e8ef81f2314578975e89844add95430d"), looks := true }, kinds := [], alts := [], laidByText := true, laidKinds := [.listed, .data], laidTests := true, laidLooks := .later }
def OpApartUptoCardSaid : Prop := Claim7.holds Tryd.pinned (.plain (OpenSpec.upto opApartSpec)) opApartUptoCard
end Rows
end Go.Proofs.YtalpkdnnclghaaaDoor
