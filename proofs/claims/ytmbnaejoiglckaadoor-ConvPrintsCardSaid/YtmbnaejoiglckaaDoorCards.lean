/-
  DERIVED. GIVEN WITH THE SEED: THE CARDS: each row of YtmbnaejoiglckaaDoorRows.lean that lists a variable, with what it lists TIED to the program's text (the seventh form; the later family's looks); each row that meets fmt, with fmt's text TOLD by the authors' own Lean function (tested against real Go, not proved from fmt's source: count such statements apart). THE CARD IS WHAT COUNTS. Prove the row's statement (the work); the ties are given (YtmbnaejoiglckaaDoorTie.lean); close each card by the builder's one call (the guide's Derived/Test/ToyasCard.lean, 'card_holds'). Laid BY PROGRAM, IN A SANDBOX (cutbox-door.mjs). By AI agents, Wed Nov 11 2026. No macro, syntax, notation, axiom, sorry.
-/
import Derived.Test.YtmbnaejoiglckaaDoorRows
import GoSem.ClaimSeven
namespace Go.Proofs.YtmbnaejoiglckaaDoor
namespace Rows

/-- THE TIED CARD OF 'grommetlaw05.WordUnary'. -/
def wordUnaryCard : Claim7 := { stood := { row := wordUnaryRow, standIns := [], harness := (true, "397b09112119fa734b71d0dfbaa52ad10e3cfe198ad17a9f7798ec029590703f"), looks := true }, kinds := [], alts := [], laidByText := true, laidKinds := [.data], laidTests := true, laidLooks := .later }
def WordUnaryCardSaid : Prop := Claim7.holds Tryd.pinned (.plain (OpenSpec.ofChange wordUnarySpec)) wordUnaryCard

/-- THE TIED CARD OF 'grommetlaw05.WordTurns'. -/
def wordTurnsCard : Claim7 := { stood := { row := wordTurnsRow, standIns := [], harness := (true, "397b09112119fa734b71d0dfbaa52ad10e3cfe198ad17a9f7798ec029590703f"), looks := true }, kinds := [], alts := [], laidByText := true, laidKinds := [.data], laidTests := true, laidLooks := .later }
def WordTurnsCardSaid : Prop := Claim7.holds Tryd.pinned (.plain (OpenSpec.ofChange wordTurnsSpec)) wordTurnsCard

/-- THE TIED CARD OF 'grommetlaw05.WordCounts'. -/
def wordCountsCard : Claim7 := { stood := { row := wordCountsRow, standIns := [], harness := (true, "397b09112119fa734b71d0dfbaa52ad10e3cfe198ad17a9f7798ec029590703f"), looks := true }, kinds := [], alts := [], laidByText := true, laidKinds := [.data], laidTests := true, laidLooks := .later }
def WordCountsCardSaid : Prop := Claim7.holds Tryd.pinned (.plain (OpenSpec.ofChange wordCountsSpec)) wordCountsCard

/-- THE TIED CARD OF 'grommetlaw06.ConvExtends'. -/
def convExtendsCard : Claim7 := { stood := { row := convExtendsRow, standIns := [], harness := (true, "397b09112119fa734b71d0dfbaa52ad10e3cfe198ad17a9f7798ec029590703f"), looks := true }, kinds := [], alts := [], laidByText := true, laidKinds := [.data, .data, .data], laidTests := true, laidLooks := .later }
def ConvExtendsCardSaid : Prop := Claim7.holds Tryd.pinned (.plain (OpenSpec.ofChange convExtendsSpec)) convExtendsCard

/-- THE TIED CARD OF 'grommetlaw06.ConvBytes'. -/
def convBytesCard : Claim7 := { stood := { row := convBytesRow, standIns := [], harness := (true, "397b09112119fa734b71d0dfbaa52ad10e3cfe198ad17a9f7798ec029590703f"), looks := true }, kinds := [], alts := [], laidByText := true, laidKinds := [.data, .data, .data], laidTests := true, laidLooks := .later }
def ConvBytesCardSaid : Prop := Claim7.holds Tryd.pinned (.plain (OpenSpec.ofChange convBytesSpec)) convBytesCard

/-- THE TIED CARD OF 'grommetlaw06.ConvPrints'. -/
def convPrintsCard : Claim7 := { stood := { row := convPrintsRow, standIns := [], harness := (true, "397b09112119fa734b71d0dfbaa52ad10e3cfe198ad17a9f7798ec029590703f"), looks := true }, kinds := [], alts := [], laidByText := true, laidKinds := [.data, .data, .data, .sentinel, .sentinel], laidTests := true, laidLooks := .later }
def ConvPrintsCardSaid : Prop := Claim7.holds Tryd.pinned (.plain (OpenSpec.ofChange convPrintsSpec)) convPrintsCard

/-- THE TIED CARD OF 'grommetlaw06.ConvParses'. -/
def convParsesCard : Claim7 := { stood := { row := convParsesRow, standIns := [], harness := (true, "397b09112119fa734b71d0dfbaa52ad10e3cfe198ad17a9f7798ec029590703f"), looks := true }, kinds := [], alts := [], laidByText := true, laidKinds := [.data, .data, .data, .sentinel, .sentinel], laidTests := true, laidLooks := .later }
def ConvParsesCardSaid : Prop := Claim7.holds Tryd.pinned (.plain (OpenSpec.ofChange convParsesSpec)) convParsesCard

/-- THE TIED CARD OF 'grommetlaw06.ConvRounds'. -/
def convRoundsCard : Claim7 := { stood := { row := convRoundsRow, standIns := [], harness := (true, "397b09112119fa734b71d0dfbaa52ad10e3cfe198ad17a9f7798ec029590703f"), looks := true }, kinds := [], alts := [], laidByText := true, laidKinds := [.data, .data, .data], laidTests := true, laidLooks := .later }
def ConvRoundsCardSaid : Prop := Claim7.holds Tryd.pinned (.plain (OpenSpec.ofChange convRoundsSpec)) convRoundsCard

/-- THE SECOND FORM's CARD OF 'grommetlaw05.WordUnary'. -/
def wordUnaryUptoCard : Claim7 := { stood := { row := wordUnaryUptoRow, standIns := [], harness := (true, "397b09112119fa734b71d0dfbaa52ad10e3cfe198ad17a9f7798ec029590703f"), looks := true }, kinds := [], alts := [], laidByText := true, laidKinds := [.data], laidTests := true, laidLooks := .later }
def WordUnaryUptoCardSaid : Prop := Claim7.holds Tryd.pinned (.plain (OpenSpec.upto wordUnarySpec)) wordUnaryUptoCard

/-- THE SECOND FORM's CARD OF 'grommetlaw05.WordTurns'. -/
def wordTurnsUptoCard : Claim7 := { stood := { row := wordTurnsUptoRow, standIns := [], harness := (true, "397b09112119fa734b71d0dfbaa52ad10e3cfe198ad17a9f7798ec029590703f"), looks := true }, kinds := [], alts := [], laidByText := true, laidKinds := [.data], laidTests := true, laidLooks := .later }
def WordTurnsUptoCardSaid : Prop := Claim7.holds Tryd.pinned (.plain (OpenSpec.upto wordTurnsSpec)) wordTurnsUptoCard

/-- THE SECOND FORM's CARD OF 'grommetlaw05.WordCounts'. -/
def wordCountsUptoCard : Claim7 := { stood := { row := wordCountsUptoRow, standIns := [], harness := (true, "397b09112119fa734b71d0dfbaa52ad10e3cfe198ad17a9f7798ec029590703f"), looks := true }, kinds := [], alts := [], laidByText := true, laidKinds := [.data], laidTests := true, laidLooks := .later }
def WordCountsUptoCardSaid : Prop := Claim7.holds Tryd.pinned (.plain (OpenSpec.upto wordCountsSpec)) wordCountsUptoCard

/-- THE SECOND FORM's CARD OF 'grommetlaw06.ConvExtends'. -/
def convExtendsUptoCard : Claim7 := { stood := { row := convExtendsUptoRow, standIns := [], harness := (true, "397b09112119fa734b71d0dfbaa52ad10e3cfe198ad17a9f7798ec029590703f"), looks := true }, kinds := [], alts := [], laidByText := true, laidKinds := [.data, .data, .data], laidTests := true, laidLooks := .later }
def ConvExtendsUptoCardSaid : Prop := Claim7.holds Tryd.pinned (.plain (OpenSpec.upto convExtendsSpec)) convExtendsUptoCard

/-- THE SECOND FORM's CARD OF 'grommetlaw06.ConvBytes'. -/
def convBytesUptoCard : Claim7 := { stood := { row := convBytesUptoRow, standIns := [], harness := (true, "397b09112119fa734b71d0dfbaa52ad10e3cfe198ad17a9f7798ec029590703f"), looks := true }, kinds := [], alts := [], laidByText := true, laidKinds := [.data, .data, .data], laidTests := true, laidLooks := .later }
def ConvBytesUptoCardSaid : Prop := Claim7.holds Tryd.pinned (.plain (OpenSpec.upto convBytesSpec)) convBytesUptoCard

/-- THE SECOND FORM's CARD OF 'grommetlaw06.ConvPrints'. -/
def convPrintsUptoCard : Claim7 := { stood := { row := convPrintsUptoRow, standIns := [], harness := (true, "397b09112119fa734b71d0dfbaa52ad10e3cfe198ad17a9f7798ec029590703f"), looks := true }, kinds := [], alts := [], laidByText := true, laidKinds := [.data, .data, .data, .sentinel, .sentinel], laidTests := true, laidLooks := .later }
def ConvPrintsUptoCardSaid : Prop := Claim7.holds Tryd.pinned (.plain (OpenSpec.upto convPrintsSpec)) convPrintsUptoCard

/-- THE SECOND FORM's CARD OF 'grommetlaw06.ConvParses'. -/
def convParsesUptoCard : Claim7 := { stood := { row := convParsesUptoRow, standIns := [], harness := (true, "397b09112119fa734b71d0dfbaa52ad10e3cfe198ad17a9f7798ec029590703f"), looks := true }, kinds := [], alts := [], laidByText := true, laidKinds := [.data, .data, .data, .sentinel, .sentinel], laidTests := true, laidLooks := .later }
def ConvParsesUptoCardSaid : Prop := Claim7.holds Tryd.pinned (.plain (OpenSpec.upto convParsesSpec)) convParsesUptoCard

/-- THE SECOND FORM's CARD OF 'grommetlaw06.ConvRounds'. -/
def convRoundsUptoCard : Claim7 := { stood := { row := convRoundsUptoRow, standIns := [], harness := (true, "397b09112119fa734b71d0dfbaa52ad10e3cfe198ad17a9f7798ec029590703f"), looks := true }, kinds := [], alts := [], laidByText := true, laidKinds := [.data, .data, .data], laidTests := true, laidLooks := .later }
def ConvRoundsUptoCardSaid : Prop := Claim7.holds Tryd.pinned (.plain (OpenSpec.upto convRoundsSpec)) convRoundsUptoCard
end Rows
end Go.Proofs.YtmbnaejoiglckaaDoor
