/-
  DERIVED. GIVEN WITH THE SEED: THE CARDS: each row of YtgjcfmkaeffffaaDoorRows.lean that lists a variable, with what it lists TIED to the program's text (the seventh form; the later family's looks); each row that meets fmt, with fmt's text TOLD by the authors' own Lean function (tested against real Go, not proved from fmt's source: count such statements apart). THE CARD IS WHAT COUNTS. Prove the row's statement (the work); the ties are given (YtgjcfmkaeffffaaDoorTie.lean); close each card by the builder's one call (the guide's Derived/Test/ToyasCard.lean, 'card_holds'). Laid BY PROGRAM, IN A SANDBOX (cutbox-door.mjs). By AI agents, Wed Nov 11 2026. No macro, syntax, notation, axiom, sorry.
-/
import Derived.Test.YtgjcfmkaeffffaaDoorRows
import GoSem.ClaimSeven
namespace Go.Proofs.YtgjcfmkaeffffaaDoor
namespace Rows

/-- THE TIED CARD OF 'soughlaw01.GaussOps'. -/
def gaussOpsCard : Claim7 := { stood := { row := gaussOpsRow, standIns := [], harness := (true, "db16333acec24164932e26b7372d6e09f00486161b02b7d388a6c63b59d54f41"), looks := false }, kinds := [], alts := [], laidByText := true, laidKinds := [.data, .data, .data], laidTests := true, laidLooks := .later }
def GaussOpsCardSaid : Prop := Claim7.holds Tryd.pinned (.plain (OpenSpec.ofChange gaussOpsSpec)) gaussOpsCard

/-- THE TIED CARD OF 'soughlaw01.GaussLaws'. -/
def gaussLawsCard : Claim7 := { stood := { row := gaussLawsRow, standIns := [], harness := (true, "db16333acec24164932e26b7372d6e09f00486161b02b7d388a6c63b59d54f41"), looks := false }, kinds := [], alts := [], laidByText := true, laidKinds := [.data, .data, .data], laidTests := true, laidLooks := .later }
def GaussLawsCardSaid : Prop := Claim7.holds Tryd.pinned (.plain (OpenSpec.ofChange gaussLawsSpec)) gaussLawsCard

/-- THE TIED CARD OF 'soughlaw01.GaussTexts'. -/
def gaussTextsCard : Claim7 := { stood := { row := gaussTextsRow, standIns := [], harness := (true, "db16333acec24164932e26b7372d6e09f00486161b02b7d388a6c63b59d54f41"), looks := false }, kinds := [], alts := [], laidByText := true, laidKinds := [.data, .data, .data], laidTests := true, laidLooks := .later }
def GaussTextsCardSaid : Prop := Claim7.holds Tryd.pinned (.plain (OpenSpec.ofChange gaussTextsSpec)) gaussTextsCard

/-- THE TIED CARD OF 'soughlaw10.WordsetMakes'. -/
def wordsetMakesCard : Claim7 := { stood := { row := wordsetMakesRow, standIns := [], harness := (true, "db16333acec24164932e26b7372d6e09f00486161b02b7d388a6c63b59d54f41"), looks := false }, kinds := [], alts := [], laidByText := true, laidKinds := [.data], laidTests := true, laidLooks := .later }
def WordsetMakesCardSaid : Prop := Claim7.holds Tryd.pinned (.plain (OpenSpec.ofChange wordsetMakesSpec)) wordsetMakesCard

/-- THE TIED CARD OF 'soughlaw10.WordsetAsks'. -/
def wordsetAsksCard : Claim7 := { stood := { row := wordsetAsksRow, standIns := [], harness := (true, "db16333acec24164932e26b7372d6e09f00486161b02b7d388a6c63b59d54f41"), looks := false }, kinds := [], alts := [], laidByText := true, laidKinds := [.data], laidTests := true, laidLooks := .later }
def WordsetAsksCardSaid : Prop := Claim7.holds Tryd.pinned (.plain (OpenSpec.ofChange wordsetAsksSpec)) wordsetAsksCard

/-- THE TIED CARD OF 'soughlaw10.WordsetLaws'. -/
def wordsetLawsCard : Claim7 := { stood := { row := wordsetLawsRow, standIns := [], harness := (true, "db16333acec24164932e26b7372d6e09f00486161b02b7d388a6c63b59d54f41"), looks := false }, kinds := [], alts := [], laidByText := true, laidKinds := [.data], laidTests := true, laidLooks := .later }
def WordsetLawsCardSaid : Prop := Claim7.holds Tryd.pinned (.plain (OpenSpec.ofChange wordsetLawsSpec)) wordsetLawsCard

/-- THE TIED CARD OF 'soughlaw11.ConstantWords'. -/
def constantWordsCard : Claim7 := { stood := { row := constantWordsRow, standIns := [], harness := (true, "db16333acec24164932e26b7372d6e09f00486161b02b7d388a6c63b59d54f41"), looks := false }, kinds := [], alts := [], laidByText := true, laidKinds := [.data, .data, .data], laidTests := true, laidLooks := .later }
def ConstantWordsCardSaid : Prop := Claim7.holds Tryd.pinned (.plain (OpenSpec.ofChange constantWordsSpec)) constantWordsCard

/-- THE TIED CARD OF 'soughlaw42.ClientNames'. -/
def clientNamesCard : Claim7 := { stood := { row := clientNamesRow, standIns := [], harness := (true, "db16333acec24164932e26b7372d6e09f00486161b02b7d388a6c63b59d54f41"), looks := false }, kinds := [], alts := [], laidByText := true, laidKinds := [.data], laidTests := true, laidLooks := .later }
def ClientNamesCardSaid : Prop := Claim7.holds Tryd.pinned (.plain (OpenSpec.ofChange clientNamesSpec)) clientNamesCard

/-- THE SECOND FORM's CARD OF 'soughlaw01.GaussOps'. -/
def gaussOpsUptoCard : Claim7 := { stood := { row := gaussOpsUptoRow, standIns := [], harness := (true, "db16333acec24164932e26b7372d6e09f00486161b02b7d388a6c63b59d54f41"), looks := false }, kinds := [], alts := [], laidByText := true, laidKinds := [.data, .data, .data], laidTests := true, laidLooks := .later }
def GaussOpsUptoCardSaid : Prop := Claim7.holds Tryd.pinned (.plain (OpenSpec.upto gaussOpsSpec)) gaussOpsUptoCard

/-- THE SECOND FORM's CARD OF 'soughlaw01.GaussLaws'. -/
def gaussLawsUptoCard : Claim7 := { stood := { row := gaussLawsUptoRow, standIns := [], harness := (true, "db16333acec24164932e26b7372d6e09f00486161b02b7d388a6c63b59d54f41"), looks := false }, kinds := [], alts := [], laidByText := true, laidKinds := [.data, .data, .data], laidTests := true, laidLooks := .later }
def GaussLawsUptoCardSaid : Prop := Claim7.holds Tryd.pinned (.plain (OpenSpec.upto gaussLawsSpec)) gaussLawsUptoCard

/-- THE SECOND FORM's CARD OF 'soughlaw01.GaussTexts'. -/
def gaussTextsUptoCard : Claim7 := { stood := { row := gaussTextsUptoRow, standIns := [], harness := (true, "db16333acec24164932e26b7372d6e09f00486161b02b7d388a6c63b59d54f41"), looks := false }, kinds := [], alts := [], laidByText := true, laidKinds := [.data, .data, .data], laidTests := true, laidLooks := .later }
def GaussTextsUptoCardSaid : Prop := Claim7.holds Tryd.pinned (.plain (OpenSpec.upto gaussTextsSpec)) gaussTextsUptoCard

/-- THE SECOND FORM's CARD OF 'soughlaw10.WordsetMakes'. -/
def wordsetMakesUptoCard : Claim7 := { stood := { row := wordsetMakesUptoRow, standIns := [], harness := (true, "db16333acec24164932e26b7372d6e09f00486161b02b7d388a6c63b59d54f41"), looks := false }, kinds := [], alts := [], laidByText := true, laidKinds := [.data], laidTests := true, laidLooks := .later }
def WordsetMakesUptoCardSaid : Prop := Claim7.holds Tryd.pinned (.plain (OpenSpec.upto wordsetMakesSpec)) wordsetMakesUptoCard

/-- THE SECOND FORM's CARD OF 'soughlaw10.WordsetAsks'. -/
def wordsetAsksUptoCard : Claim7 := { stood := { row := wordsetAsksUptoRow, standIns := [], harness := (true, "db16333acec24164932e26b7372d6e09f00486161b02b7d388a6c63b59d54f41"), looks := false }, kinds := [], alts := [], laidByText := true, laidKinds := [.data], laidTests := true, laidLooks := .later }
def WordsetAsksUptoCardSaid : Prop := Claim7.holds Tryd.pinned (.plain (OpenSpec.upto wordsetAsksSpec)) wordsetAsksUptoCard

/-- THE SECOND FORM's CARD OF 'soughlaw10.WordsetLaws'. -/
def wordsetLawsUptoCard : Claim7 := { stood := { row := wordsetLawsUptoRow, standIns := [], harness := (true, "db16333acec24164932e26b7372d6e09f00486161b02b7d388a6c63b59d54f41"), looks := false }, kinds := [], alts := [], laidByText := true, laidKinds := [.data], laidTests := true, laidLooks := .later }
def WordsetLawsUptoCardSaid : Prop := Claim7.holds Tryd.pinned (.plain (OpenSpec.upto wordsetLawsSpec)) wordsetLawsUptoCard

/-- THE SECOND FORM's CARD OF 'soughlaw11.ConstantWords'. -/
def constantWordsUptoCard : Claim7 := { stood := { row := constantWordsUptoRow, standIns := [], harness := (true, "db16333acec24164932e26b7372d6e09f00486161b02b7d388a6c63b59d54f41"), looks := false }, kinds := [], alts := [], laidByText := true, laidKinds := [.data, .data, .data], laidTests := true, laidLooks := .later }
def ConstantWordsUptoCardSaid : Prop := Claim7.holds Tryd.pinned (.plain (OpenSpec.upto constantWordsSpec)) constantWordsUptoCard

/-- THE SECOND FORM's CARD OF 'soughlaw42.ClientNames'. -/
def clientNamesUptoCard : Claim7 := { stood := { row := clientNamesUptoRow, standIns := [], harness := (true, "db16333acec24164932e26b7372d6e09f00486161b02b7d388a6c63b59d54f41"), looks := false }, kinds := [], alts := [], laidByText := true, laidKinds := [.data], laidTests := true, laidLooks := .later }
def ClientNamesUptoCardSaid : Prop := Claim7.holds Tryd.pinned (.plain (OpenSpec.upto clientNamesSpec)) clientNamesUptoCard
end Rows
end Go.Proofs.YtgjcfmkaeffffaaDoor
