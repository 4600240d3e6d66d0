/-
  DERIVED. GIVEN WITH THE SEED: THE CARDS: each row of YtdifegcpfpdngaaDoorRows.lean that lists a variable, with what it lists TIED to the program's text (the seventh form; the later family's looks); each row that meets fmt, with fmt's text TOLD by the authors' own Lean function (tested against real Go, not proved from fmt's source: count such statements apart). THE CARD IS WHAT COUNTS. Prove the row's statement (the work); the ties are given (YtdifegcpfpdngaaDoorTie.lean); close each card by the builder's one call (the guide's Derived/Test/ToyasCard.lean, 'card_holds'). Laid BY PROGRAM, IN A SANDBOX (cutbox-door.mjs). By AI agents, Wed Nov 11 2026. No macro, syntax, notation, axiom, sorry.
-/
import Derived.Test.YtdifegcpfpdngaaDoorRows
import GoSem.ClaimSeven
namespace Go.Proofs.YtdifegcpfpdngaaDoor
namespace Rows

/-- THE TIED CARD OF 'soughlaw01.GaussTexts'. -/
def gaussTextsCard : Claim7 := { stood := { row := gaussTextsRow, standIns := [], harness := (true, "3c54a7809e49aacaba9f2002ba8b99969e693e89b65882f3537e17e8148bcd00"), looks := false }, kinds := [], alts := [], laidByText := true, laidKinds := [.data, .data, .data], laidTests := true, laidLooks := .later }
def GaussTextsCardSaid : Prop := Claim7.holds Tryd.pinned (.plain (OpenSpec.ofChange gaussTextsSpec)) gaussTextsCard

/-- THE TIED CARD OF 'soughlaw05.PrinterParts'. -/
def printerPartsCard : Claim7 := { stood := { row := printerPartsRow, standIns := [], harness := (true, "3c54a7809e49aacaba9f2002ba8b99969e693e89b65882f3537e17e8148bcd00"), looks := false }, kinds := [], alts := [], laidByText := true, laidKinds := [.data, .data, .data], laidTests := true, laidLooks := .later }
def PrinterPartsCardSaid : Prop := Claim7.holds Tryd.pinned (.plain (OpenSpec.ofChange printerPartsSpec)) printerPartsCard

/-- THE TIED CARD OF 'soughlaw10.WordsetMakes'. -/
def wordsetMakesCard : Claim7 := { stood := { row := wordsetMakesRow, standIns := [], harness := (true, "3c54a7809e49aacaba9f2002ba8b99969e693e89b65882f3537e17e8148bcd00"), looks := false }, kinds := [], alts := [], laidByText := true, laidKinds := [.data], laidTests := true, laidLooks := .later }
def WordsetMakesCardSaid : Prop := Claim7.holds Tryd.pinned (.plain (OpenSpec.ofChange wordsetMakesSpec)) wordsetMakesCard

/-- THE TIED CARD OF 'soughlaw10.WordsetAsks'. -/
def wordsetAsksCard : Claim7 := { stood := { row := wordsetAsksRow, standIns := [], harness := (true, "3c54a7809e49aacaba9f2002ba8b99969e693e89b65882f3537e17e8148bcd00"), looks := false }, kinds := [], alts := [], laidByText := true, laidKinds := [.data], laidTests := true, laidLooks := .later }
def WordsetAsksCardSaid : Prop := Claim7.holds Tryd.pinned (.plain (OpenSpec.ofChange wordsetAsksSpec)) wordsetAsksCard

/-- THE TIED CARD OF 'soughlaw10.WordsetLaws'. -/
def wordsetLawsCard : Claim7 := { stood := { row := wordsetLawsRow, standIns := [], harness := (true, "3c54a7809e49aacaba9f2002ba8b99969e693e89b65882f3537e17e8148bcd00"), looks := false }, kinds := [], alts := [], laidByText := true, laidKinds := [.data], laidTests := true, laidLooks := .later }
def WordsetLawsCardSaid : Prop := Claim7.holds Tryd.pinned (.plain (OpenSpec.ofChange wordsetLawsSpec)) wordsetLawsCard

/-- THE SECOND FORM's CARD OF 'soughlaw01.GaussTexts'. -/
def gaussTextsUptoCard : Claim7 := { stood := { row := gaussTextsUptoRow, standIns := [], harness := (true, "3c54a7809e49aacaba9f2002ba8b99969e693e89b65882f3537e17e8148bcd00"), looks := false }, kinds := [], alts := [], laidByText := true, laidKinds := [.data, .data, .data], laidTests := true, laidLooks := .later }
def GaussTextsUptoCardSaid : Prop := Claim7.holds Tryd.pinned (.plain (OpenSpec.upto gaussTextsSpec)) gaussTextsUptoCard

/-- THE SECOND FORM's CARD OF 'soughlaw05.PrinterParts'. -/
def printerPartsUptoCard : Claim7 := { stood := { row := printerPartsUptoRow, standIns := [], harness := (true, "3c54a7809e49aacaba9f2002ba8b99969e693e89b65882f3537e17e8148bcd00"), looks := false }, kinds := [], alts := [], laidByText := true, laidKinds := [.data, .data, .data], laidTests := true, laidLooks := .later }
def PrinterPartsUptoCardSaid : Prop := Claim7.holds Tryd.pinned (.plain (OpenSpec.upto printerPartsSpec)) printerPartsUptoCard

/-- THE SECOND FORM's CARD OF 'soughlaw10.WordsetMakes'. -/
def wordsetMakesUptoCard : Claim7 := { stood := { row := wordsetMakesUptoRow, standIns := [], harness := (true, "3c54a7809e49aacaba9f2002ba8b99969e693e89b65882f3537e17e8148bcd00"), looks := false }, kinds := [], alts := [], laidByText := true, laidKinds := [.data], laidTests := true, laidLooks := .later }
def WordsetMakesUptoCardSaid : Prop := Claim7.holds Tryd.pinned (.plain (OpenSpec.upto wordsetMakesSpec)) wordsetMakesUptoCard

/-- THE SECOND FORM's CARD OF 'soughlaw10.WordsetAsks'. -/
def wordsetAsksUptoCard : Claim7 := { stood := { row := wordsetAsksUptoRow, standIns := [], harness := (true, "3c54a7809e49aacaba9f2002ba8b99969e693e89b65882f3537e17e8148bcd00"), looks := false }, kinds := [], alts := [], laidByText := true, laidKinds := [.data], laidTests := true, laidLooks := .later }
def WordsetAsksUptoCardSaid : Prop := Claim7.holds Tryd.pinned (.plain (OpenSpec.upto wordsetAsksSpec)) wordsetAsksUptoCard

/-- THE SECOND FORM's CARD OF 'soughlaw10.WordsetLaws'. -/
def wordsetLawsUptoCard : Claim7 := { stood := { row := wordsetLawsUptoRow, standIns := [], harness := (true, "3c54a7809e49aacaba9f2002ba8b99969e693e89b65882f3537e17e8148bcd00"), looks := false }, kinds := [], alts := [], laidByText := true, laidKinds := [.data], laidTests := true, laidLooks := .later }
def WordsetLawsUptoCardSaid : Prop := Claim7.holds Tryd.pinned (.plain (OpenSpec.upto wordsetLawsSpec)) wordsetLawsUptoCard
end Rows
end Go.Proofs.YtdifegcpfpdngaaDoor
