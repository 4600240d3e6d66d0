/-
  DERIVED. GIVEN WITH THE SEED: THE CARDS: each row of YtannfkibahinhaaDoorRows.lean that lists a variable, with what it lists TIED to the program's text (the seventh form; the later family's looks); each row that meets fmt, with fmt's text TOLD by the authors' own Lean function (tested against real Go, not proved from fmt's source: count such statements apart). THE CARD IS WHAT COUNTS. Prove the row's statement (the work); the ties are given (YtannfkibahinhaaDoorTie.lean); close each card by the builder's one call (the guide's Derived/Test/ToyasCard.lean, 'card_holds'). Laid BY PROGRAM, IN A SANDBOX (cutbox-door.mjs). By AI agents, Wed Nov 11 2026. No macro, syntax, notation, axiom, sorry.
-/
import Derived.Test.YtannfkibahinhaaDoorRows
import GoSem.ClaimSeven
namespace Go.Proofs.YtannfkibahinhaaDoor
namespace Rows

/-- THE TIED CARD OF 'soughlaw26.FairTexts'. -/
def fairTextsCard : Claim7 := { stood := { row := fairTextsRow, standIns := [], harness := (true, "0ee8a4d295ea9a33190bc733cdedd04568eba3de7fc84f8f526062ef5a6bdcfc"), looks := true }, kinds := [], alts := [], laidByText := true, laidKinds := [.data, .data, .data, .sentinel, .sentinel], laidTests := true, laidLooks := .later }
def FairTextsCardSaid : Prop := Claim7.holds Tryd.pinned (.plain (OpenSpec.ofChange fairTextsSpec)) fairTextsCard

/-- THE TIED CARD OF 'soughlaw42.ClientNames'. -/
def clientNamesCard : Claim7 := { stood := { row := clientNamesRow, standIns := [], harness := (true, "0ee8a4d295ea9a33190bc733cdedd04568eba3de7fc84f8f526062ef5a6bdcfc"), looks := true }, kinds := [], alts := [], laidByText := true, laidKinds := [.data], laidTests := true, laidLooks := .later }
def ClientNamesCardSaid : Prop := Claim7.holds Tryd.pinned (.plain (OpenSpec.ofChange clientNamesSpec)) clientNamesCard

/-- THE SECOND FORM's CARD OF 'soughlaw26.FairTexts'. -/
def fairTextsUptoCard : Claim7 := { stood := { row := fairTextsUptoRow, standIns := [], harness := (true, "0ee8a4d295ea9a33190bc733cdedd04568eba3de7fc84f8f526062ef5a6bdcfc"), looks := true }, kinds := [], alts := [], laidByText := true, laidKinds := [.data, .data, .data, .sentinel, .sentinel], laidTests := true, laidLooks := .later }
def FairTextsUptoCardSaid : Prop := Claim7.holds Tryd.pinned (.plain (OpenSpec.upto fairTextsSpec)) fairTextsUptoCard

/-- THE SECOND FORM's CARD OF 'soughlaw42.ClientNames'. -/
def clientNamesUptoCard : Claim7 := { stood := { row := clientNamesUptoRow, standIns := [], harness := (true, "0ee8a4d295ea9a33190bc733cdedd04568eba3de7fc84f8f526062ef5a6bdcfc"), looks := true }, kinds := [], alts := [], laidByText := true, laidKinds := [.data], laidTests := true, laidLooks := .later }
def ClientNamesUptoCardSaid : Prop := Claim7.holds Tryd.pinned (.plain (OpenSpec.upto clientNamesSpec)) clientNamesUptoCard
end Rows
end Go.Proofs.YtannfkibahinhaaDoor
