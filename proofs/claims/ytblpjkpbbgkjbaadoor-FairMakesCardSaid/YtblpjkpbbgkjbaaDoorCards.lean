/-
  DERIVED. GIVEN WITH THE SEED: THE CARDS: each row of YtblpjkpbbgkjbaaDoorRows.lean that lists a variable, with what it lists TIED to the program's text (the seventh form; the later family's looks); each row that meets fmt, with fmt's text TOLD by the authors' own Lean function (tested against real Go, not proved from fmt's source: count such statements apart). THE CARD IS WHAT COUNTS. Prove the row's statement (the work); the ties are given (YtblpjkpbbgkjbaaDoorTie.lean); close each card by the builder's one call (the guide's Derived/Test/ToyasCard.lean, 'card_holds'). Laid BY PROGRAM, IN A SANDBOX (cutbox-door.mjs). By AI agents, Wed Nov 11 2026. No macro, syntax, notation, axiom, sorry.
-/
import Derived.Test.YtblpjkpbbgkjbaaDoorRows
import GoSem.ClaimSeven
namespace Go.Proofs.YtblpjkpbbgkjbaaDoor
namespace Rows

/-- THE TIED CARD OF 'soughlaw10.WordsetMakes'. -/
def wordsetMakesCard : Claim7 := { stood := { row := wordsetMakesRow, standIns := [], harness := (true, "a9514fb29b9007ccdeaa56f9b131204d156bed259f04f880106f4372cc6da1f2"), looks := true }, kinds := [], alts := [], laidByText := true, laidKinds := [.data], laidTests := true, laidLooks := .later }
def WordsetMakesCardSaid : Prop := Claim7.holds Tryd.pinned (.plain (OpenSpec.ofChange wordsetMakesSpec)) wordsetMakesCard

/-- THE TIED CARD OF 'soughlaw10.WordsetAsks'. -/
def wordsetAsksCard : Claim7 := { stood := { row := wordsetAsksRow, standIns := [], harness := (true, "a9514fb29b9007ccdeaa56f9b131204d156bed259f04f880106f4372cc6da1f2"), looks := true }, kinds := [], alts := [], laidByText := true, laidKinds := [.data], laidTests := true, laidLooks := .later }
def WordsetAsksCardSaid : Prop := Claim7.holds Tryd.pinned (.plain (OpenSpec.ofChange wordsetAsksSpec)) wordsetAsksCard

/-- THE TIED CARD OF 'soughlaw10.WordsetLaws'. -/
def wordsetLawsCard : Claim7 := { stood := { row := wordsetLawsRow, standIns := [], harness := (true, "a9514fb29b9007ccdeaa56f9b131204d156bed259f04f880106f4372cc6da1f2"), looks := true }, kinds := [], alts := [], laidByText := true, laidKinds := [.data], laidTests := true, laidLooks := .later }
def WordsetLawsCardSaid : Prop := Claim7.holds Tryd.pinned (.plain (OpenSpec.ofChange wordsetLawsSpec)) wordsetLawsCard

/-- THE TIED CARD OF 'soughlaw26.FairMakes'. -/
def fairMakesCard : Claim7 := { stood := { row := fairMakesRow, standIns := [], harness := (true, "a9514fb29b9007ccdeaa56f9b131204d156bed259f04f880106f4372cc6da1f2"), looks := true }, kinds := [], alts := [], laidByText := true, laidKinds := [.data, .data, .data], laidTests := true, laidLooks := .later }
def FairMakesCardSaid : Prop := Claim7.holds Tryd.pinned (.plain (OpenSpec.ofChange fairMakesSpec)) fairMakesCard

/-- THE TIED CARD OF 'soughlaw26.FairTexts'. -/
def fairTextsCard : Claim7 := { stood := { row := fairTextsRow, standIns := [], harness := (true, "a9514fb29b9007ccdeaa56f9b131204d156bed259f04f880106f4372cc6da1f2"), looks := true }, kinds := [], alts := [], laidByText := true, laidKinds := [.data, .data, .data, .sentinel, .sentinel], laidTests := true, laidLooks := .later }
def FairTextsCardSaid : Prop := Claim7.holds Tryd.pinned (.plain (OpenSpec.ofChange fairTextsSpec)) fairTextsCard

/-- THE TIED CARD OF 'soughlaw26.FairRounds'. -/
def fairRoundsCard : Claim7 := { stood := { row := fairRoundsRow, standIns := [], harness := (true, "a9514fb29b9007ccdeaa56f9b131204d156bed259f04f880106f4372cc6da1f2"), looks := true }, kinds := [], alts := [], laidByText := true, laidKinds := [.data, .data, .data], laidTests := true, laidLooks := .later }
def FairRoundsCardSaid : Prop := Claim7.holds Tryd.pinned (.plain (OpenSpec.ofChange fairRoundsSpec)) fairRoundsCard

/-- THE TIED CARD OF 'soughlaw42.ClientNames'. -/
def clientNamesCard : Claim7 := { stood := { row := clientNamesRow, standIns := [], harness := (true, "a9514fb29b9007ccdeaa56f9b131204d156bed259f04f880106f4372cc6da1f2"), looks := true }, kinds := [], alts := [], laidByText := true, laidKinds := [.data], laidTests := true, laidLooks := .later }
def ClientNamesCardSaid : Prop := Claim7.holds Tryd.pinned (.plain (OpenSpec.ofChange clientNamesSpec)) clientNamesCard

/-- THE SECOND FORM's CARD OF 'soughlaw10.WordsetMakes'. -/
def wordsetMakesUptoCard : Claim7 := { stood := { row := wordsetMakesUptoRow, standIns := [], harness := (true, "a9514fb29b9007ccdeaa56f9b131204d156bed259f04f880106f4372cc6da1f2"), looks := true }, kinds := [], alts := [], laidByText := true, laidKinds := [.data], laidTests := true, laidLooks := .later }
def WordsetMakesUptoCardSaid : Prop := Claim7.holds Tryd.pinned (.plain (OpenSpec.upto wordsetMakesSpec)) wordsetMakesUptoCard

/-- THE SECOND FORM's CARD OF 'soughlaw10.WordsetAsks'. -/
def wordsetAsksUptoCard : Claim7 := { stood := { row := wordsetAsksUptoRow, standIns := [], harness := (true, "a9514fb29b9007ccdeaa56f9b131204d156bed259f04f880106f4372cc6da1f2"), looks := true }, kinds := [], alts := [], laidByText := true, laidKinds := [.data], laidTests := true, laidLooks := .later }
def WordsetAsksUptoCardSaid : Prop := Claim7.holds Tryd.pinned (.plain (OpenSpec.upto wordsetAsksSpec)) wordsetAsksUptoCard

/-- THE SECOND FORM's CARD OF 'soughlaw10.WordsetLaws'. -/
def wordsetLawsUptoCard : Claim7 := { stood := { row := wordsetLawsUptoRow, standIns := [], harness := (true, "a9514fb29b9007ccdeaa56f9b131204d156bed259f04f880106f4372cc6da1f2"), looks := true }, kinds := [], alts := [], laidByText := true, laidKinds := [.data], laidTests := true, laidLooks := .later }
def WordsetLawsUptoCardSaid : Prop := Claim7.holds Tryd.pinned (.plain (OpenSpec.upto wordsetLawsSpec)) wordsetLawsUptoCard

/-- THE SECOND FORM's CARD OF 'soughlaw26.FairMakes'. -/
def fairMakesUptoCard : Claim7 := { stood := { row := fairMakesUptoRow, standIns := [], harness := (true, "a9514fb29b9007ccdeaa56f9b131204d156bed259f04f880106f4372cc6da1f2"), looks := true }, kinds := [], alts := [], laidByText := true, laidKinds := [.data, .data, .data], laidTests := true, laidLooks := .later }
def FairMakesUptoCardSaid : Prop := Claim7.holds Tryd.pinned (.plain (OpenSpec.upto fairMakesSpec)) fairMakesUptoCard

/-- THE SECOND FORM's CARD OF 'soughlaw26.FairTexts'. -/
def fairTextsUptoCard : Claim7 := { stood := { row := fairTextsUptoRow, standIns := [], harness := (true, "a9514fb29b9007ccdeaa56f9b131204d156bed259f04f880106f4372cc6da1f2"), looks := true }, kinds := [], alts := [], laidByText := true, laidKinds := [.data, .data, .data, .sentinel, .sentinel], laidTests := true, laidLooks := .later }
def FairTextsUptoCardSaid : Prop := Claim7.holds Tryd.pinned (.plain (OpenSpec.upto fairTextsSpec)) fairTextsUptoCard

/-- THE SECOND FORM's CARD OF 'soughlaw26.FairRounds'. -/
def fairRoundsUptoCard : Claim7 := { stood := { row := fairRoundsUptoRow, standIns := [], harness := (true, "a9514fb29b9007ccdeaa56f9b131204d156bed259f04f880106f4372cc6da1f2"), looks := true }, kinds := [], alts := [], laidByText := true, laidKinds := [.data, .data, .data], laidTests := true, laidLooks := .later }
def FairRoundsUptoCardSaid : Prop := Claim7.holds Tryd.pinned (.plain (OpenSpec.upto fairRoundsSpec)) fairRoundsUptoCard

/-- THE SECOND FORM's CARD OF 'soughlaw42.ClientNames'. -/
def clientNamesUptoCard : Claim7 := { stood := { row := clientNamesUptoRow, standIns := [], harness := (true, "a9514fb29b9007ccdeaa56f9b131204d156bed259f04f880106f4372cc6da1f2"), looks := true }, kinds := [], alts := [], laidByText := true, laidKinds := [.data], laidTests := true, laidLooks := .later }
def ClientNamesUptoCardSaid : Prop := Claim7.holds Tryd.pinned (.plain (OpenSpec.upto clientNamesSpec)) clientNamesUptoCard
end Rows
end Go.Proofs.YtblpjkpbbgkjbaaDoor
