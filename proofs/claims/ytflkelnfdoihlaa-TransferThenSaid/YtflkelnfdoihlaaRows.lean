/-
  No cell of these rows narrows 'for every input' (looked for: loops, veiled, ifaces, maps, wideKeys, modest, calm, conditions, laid).
  DERIVED. THE GIVEN ROWS OF THIS SEAT. 6 by the template 'for every input the law returns true; each argument reads behind the call as it read before'; 0 by the template 'total and deterministic' (their statements: YtflkelnfdoihlaaTotals.lean).
  GIVEN WITH THE SEED: the statements are not yours to turn. If you find one false, say at which input.
  Laid BY PROGRAM, IN A SANDBOX (cutbox-rows.mjs): the forced cells as the released guide's own fill.sh prints them over the translation d2ed5ca7c940c46d… (all of the seat's roots in one cut). By AI agents, Wed Nov 11 2026. No macro, syntax, notation, axiom, sorry.
-/
import Derived.Test.YtflkelnfdoihlaaChecked
import GoSem.Claim
import GoSem.ClaimJoined
import GoSem.ClaimMapViews
import Derived.JoinedTies
import Derived.KernelRfl
namespace Go.Proofs.Ytflkelnfdoihlaa
/- THE CELL 'sum', in the pinned program and in every row, IS THE sha256 OF THE DUMP (.gsa) THAT YtflkelnfdoihlaaProg.lean LOADS. Nothing in Lean hashes anything: it is a label: what it is worth is what the hold of that sum in a sandbox is worth. -/
noncomputable def Try.pinned : Pinned := { name := "ytflkelnfdoihlaa", sum := "d2ed5ca7c940c46d5fdc874542ff163b436ff12502a22b31a5fedd6b5dbf57dc", checked := Try.checked }
namespace Rows
def none {H : Type} : Left H := { results := [], args := [] }

/-- 'soughlaw12.LatticeParts': WHATEVER THE INPUT: true; the input reads as it did. -/
def latticePartsSpec : ChangeSpec := { name := "latticeParts", fn := fun _ => fun
  | [d1, d2, d3] => { results := [.lit (.bool true)], args := [d1, d2, d3] }
  | _ => none }
def latticePartsRow : OpenClaim := { program := "ytflkelnfdoihlaa", sum := "d2ed5ca7c940c46d5fdc874542ff163b436ff12502a22b31a5fedd6b5dbf57dc", func := "sough/soughlaw12.LatticeParts", spec := "latticeParts", unfollowed := true, recurses := true, apart := false }
def LatticePartsSaid : Prop := latticePartsRow.holds Try.pinned (OpenSpec.ofChange latticePartsSpec)

/-- ITS FALSE NEIGHBOUR: 'it returns false'. Refute it at one input. -/
def latticePartsWrong : ChangeSpec := { name := "latticeParts", fn := fun _ => fun
  | [d1, d2, d3] => { results := [.lit (.bool false)], args := [d1, d2, d3] }
  | _ => none }
def LatticePartsWrongFalsely : Prop := latticePartsRow.holds Try.pinned (OpenSpec.ofChange latticePartsWrong)

/-- 'soughlaw12.LatticeJoins': WHATEVER THE INPUT: true; the input reads as it did. -/
def latticeJoinsSpec : ChangeSpec := { name := "latticeJoins", fn := fun _ => fun
  | [d1, d2, d3, d4, d5, d6] => { results := [.lit (.bool true)], args := [d1, d2, d3, d4, d5, d6] }
  | _ => none }
def latticeJoinsRow : OpenClaim := { program := "ytflkelnfdoihlaa", sum := "d2ed5ca7c940c46d5fdc874542ff163b436ff12502a22b31a5fedd6b5dbf57dc", func := "sough/soughlaw12.LatticeJoins", spec := "latticeJoins", unfollowed := true, recurses := true, apart := false }
def LatticeJoinsSaid : Prop := latticeJoinsRow.holds Try.pinned (OpenSpec.ofChange latticeJoinsSpec)

/-- ITS FALSE NEIGHBOUR: 'it returns false'. Refute it at one input. -/
def latticeJoinsWrong : ChangeSpec := { name := "latticeJoins", fn := fun _ => fun
  | [d1, d2, d3, d4, d5, d6] => { results := [.lit (.bool false)], args := [d1, d2, d3, d4, d5, d6] }
  | _ => none }
def LatticeJoinsWrongFalsely : Prop := latticeJoinsRow.holds Try.pinned (OpenSpec.ofChange latticeJoinsWrong)

/-- 'soughlaw12.LatticeLaws': WHATEVER THE INPUT: true; the input reads as it did. -/
def latticeLawsSpec : ChangeSpec := { name := "latticeLaws", fn := fun _ => fun
  | [d1, d2, d3, d4, d5] => { results := [.lit (.bool true)], args := [d1, d2, d3, d4, d5] }
  | _ => none }
def latticeLawsRow : OpenClaim := { program := "ytflkelnfdoihlaa", sum := "d2ed5ca7c940c46d5fdc874542ff163b436ff12502a22b31a5fedd6b5dbf57dc", func := "sough/soughlaw12.LatticeLaws", spec := "latticeLaws", unfollowed := true, recurses := true, apart := false }
def LatticeLawsSaid : Prop := latticeLawsRow.holds Try.pinned (OpenSpec.ofChange latticeLawsSpec)

/-- ITS FALSE NEIGHBOUR: 'it returns false'. Refute it at one input. -/
def latticeLawsWrong : ChangeSpec := { name := "latticeLaws", fn := fun _ => fun
  | [d1, d2, d3, d4, d5] => { results := [.lit (.bool false)], args := [d1, d2, d3, d4, d5] }
  | _ => none }
def LatticeLawsWrongFalsely : Prop := latticeLawsRow.holds Try.pinned (OpenSpec.ofChange latticeLawsWrong)

/-- 'soughlaw16.TransferApplies': WHATEVER THE INPUT: true; the input reads as it did. -/
def transferAppliesSpec : ChangeSpec := { name := "transferApplies", fn := fun _ => fun
  | [d1, d2, d3, d4] => { results := [.lit (.bool true)], args := [d1, d2, d3, d4] }
  | _ => none }
def transferAppliesRow : OpenClaim := { program := "ytflkelnfdoihlaa", sum := "d2ed5ca7c940c46d5fdc874542ff163b436ff12502a22b31a5fedd6b5dbf57dc", func := "sough/soughlaw16.TransferApplies", spec := "transferApplies", unfollowed := true, recurses := true, apart := false }
def TransferAppliesSaid : Prop := transferAppliesRow.holds Try.pinned (OpenSpec.ofChange transferAppliesSpec)

/-- ITS FALSE NEIGHBOUR: 'it returns false'. Refute it at one input. -/
def transferAppliesWrong : ChangeSpec := { name := "transferApplies", fn := fun _ => fun
  | [d1, d2, d3, d4] => { results := [.lit (.bool false)], args := [d1, d2, d3, d4] }
  | _ => none }
def TransferAppliesWrongFalsely : Prop := transferAppliesRow.holds Try.pinned (OpenSpec.ofChange transferAppliesWrong)

/-- 'soughlaw16.TransferThen': WHATEVER THE INPUT: true; the input reads as it did. -/
def transferThenSpec : ChangeSpec := { name := "transferThen", fn := fun _ => fun
  | [d1, d2, d3, d4, d5] => { results := [.lit (.bool true)], args := [d1, d2, d3, d4, d5] }
  | _ => none }
def transferThenRow : OpenClaim := { program := "ytflkelnfdoihlaa", sum := "d2ed5ca7c940c46d5fdc874542ff163b436ff12502a22b31a5fedd6b5dbf57dc", func := "sough/soughlaw16.TransferThen", spec := "transferThen", unfollowed := true, recurses := true, apart := false }
def TransferThenSaid : Prop := transferThenRow.holds Try.pinned (OpenSpec.ofChange transferThenSpec)

/-- ITS FALSE NEIGHBOUR: 'it returns false'. Refute it at one input. -/
def transferThenWrong : ChangeSpec := { name := "transferThen", fn := fun _ => fun
  | [d1, d2, d3, d4, d5] => { results := [.lit (.bool false)], args := [d1, d2, d3, d4, d5] }
  | _ => none }
def TransferThenWrongFalsely : Prop := transferThenRow.holds Try.pinned (OpenSpec.ofChange transferThenWrong)

/-- 'soughlaw16.TransferRises': WHATEVER THE INPUT: true; the input reads as it did. -/
def transferRisesSpec : ChangeSpec := { name := "transferRises", fn := fun _ => fun
  | [d1, d2, d3, d4, d5] => { results := [.lit (.bool true)], args := [d1, d2, d3, d4, d5] }
  | _ => none }
def transferRisesRow : OpenClaim := { program := "ytflkelnfdoihlaa", sum := "d2ed5ca7c940c46d5fdc874542ff163b436ff12502a22b31a5fedd6b5dbf57dc", func := "sough/soughlaw16.TransferRises", spec := "transferRises", unfollowed := true, recurses := true, apart := false }
def TransferRisesSaid : Prop := transferRisesRow.holds Try.pinned (OpenSpec.ofChange transferRisesSpec)

/-- ITS FALSE NEIGHBOUR: 'it returns false'. Refute it at one input. -/
def transferRisesWrong : ChangeSpec := { name := "transferRises", fn := fun _ => fun
  | [d1, d2, d3, d4, d5] => { results := [.lit (.bool false)], args := [d1, d2, d3, d4, d5] }
  | _ => none }
def TransferRisesWrongFalsely : Prop := transferRisesRow.holds Try.pinned (OpenSpec.ofChange transferRisesWrong)

/- THE SECOND FORM. 'bulk': how many values and letters a reading holds, each counted each time it is reached (what is shared counts as often as it is met; a slice's spare places count too). A statement '..UptoSaid' is the law's where the arguments, and the package variables that the reading takes, are together of bulk at most 1048576: NARROWER than '..Said'. Prove '..Said' where nothing that the law and all that it calls make is longer than what came in: it says more and counts as full. Else prove '..UptoSaid'. A law counts once. -/
mutual
def uptoBulk {H : Type} : DataW H → Nat
  | .lit (.string bytes) => bytes.length + 1
  | .lit _ => 1
  | .nil => 1
  | .ptr d => uptoBulk d + 1
  | .slice elems spare => uptoBulkAll elems + uptoBulkAll spare + 1
  | .agg parts => uptoBulkAll parts + 1
  | .iface _ d => uptoBulk d + 1
  | .map entries => uptoBulkEntries entries + 1
  | .held _ => 1
def uptoBulkAll {H : Type} : List (DataW H) → Nat
  | [] => 0
  | d :: r => uptoBulk d + uptoBulkAll r
def uptoBulkEntries {H : Type} : List (Lit × DataW H) → Nat
  | [] => 0
  | x :: r => uptoBulkEntry x + uptoBulkEntries r
def uptoBulkEntry {H : Type} : Lit × DataW H → Nat
  | (.string bytes, d) => bytes.length + uptoBulk d + 1
  | (_, d) => uptoBulk d + 1
 end
def uptoSmall : (H : Type) → List (DataW H) → Bool := fun _ ds => decide (uptoBulkAll ds ≤ 1048576)
def OpenSpec.upto (s : _root_.Go.ChangeSpec) : _root_.Go.OpenSpec := { _root_.Go.OpenSpec.ofChange s with cond := some uptoSmall }

/-- 'soughlaw12.LatticeParts', WHERE WHAT IT READS IS OF BULK AT MOST 1048576: true; the input reads as it did. -/
def latticePartsUptoRow : OpenClaim := { program := "ytflkelnfdoihlaa", sum := "d2ed5ca7c940c46d5fdc874542ff163b436ff12502a22b31a5fedd6b5dbf57dc", func := "sough/soughlaw12.LatticeParts", spec := "latticeParts", unfollowed := true, recurses := true, apart := false, narrowed := true }
def LatticePartsUptoSaid : Prop := latticePartsUptoRow.holds Try.pinned (OpenSpec.upto latticePartsSpec)

/-- 'soughlaw12.LatticeJoins', WHERE WHAT IT READS IS OF BULK AT MOST 1048576: true; the input reads as it did. -/
def latticeJoinsUptoRow : OpenClaim := { program := "ytflkelnfdoihlaa", sum := "d2ed5ca7c940c46d5fdc874542ff163b436ff12502a22b31a5fedd6b5dbf57dc", func := "sough/soughlaw12.LatticeJoins", spec := "latticeJoins", unfollowed := true, recurses := true, apart := false, narrowed := true }
def LatticeJoinsUptoSaid : Prop := latticeJoinsUptoRow.holds Try.pinned (OpenSpec.upto latticeJoinsSpec)

/-- 'soughlaw12.LatticeLaws', WHERE WHAT IT READS IS OF BULK AT MOST 1048576: true; the input reads as it did. -/
def latticeLawsUptoRow : OpenClaim := { program := "ytflkelnfdoihlaa", sum := "d2ed5ca7c940c46d5fdc874542ff163b436ff12502a22b31a5fedd6b5dbf57dc", func := "sough/soughlaw12.LatticeLaws", spec := "latticeLaws", unfollowed := true, recurses := true, apart := false, narrowed := true }
def LatticeLawsUptoSaid : Prop := latticeLawsUptoRow.holds Try.pinned (OpenSpec.upto latticeLawsSpec)

/-- 'soughlaw16.TransferApplies', WHERE WHAT IT READS IS OF BULK AT MOST 1048576: true; the input reads as it did. -/
def transferAppliesUptoRow : OpenClaim := { program := "ytflkelnfdoihlaa", sum := "d2ed5ca7c940c46d5fdc874542ff163b436ff12502a22b31a5fedd6b5dbf57dc", func := "sough/soughlaw16.TransferApplies", spec := "transferApplies", unfollowed := true, recurses := true, apart := false, narrowed := true }
def TransferAppliesUptoSaid : Prop := transferAppliesUptoRow.holds Try.pinned (OpenSpec.upto transferAppliesSpec)

/-- 'soughlaw16.TransferThen', WHERE WHAT IT READS IS OF BULK AT MOST 1048576: true; the input reads as it did. -/
def transferThenUptoRow : OpenClaim := { program := "ytflkelnfdoihlaa", sum := "d2ed5ca7c940c46d5fdc874542ff163b436ff12502a22b31a5fedd6b5dbf57dc", func := "sough/soughlaw16.TransferThen", spec := "transferThen", unfollowed := true, recurses := true, apart := false, narrowed := true }
def TransferThenUptoSaid : Prop := transferThenUptoRow.holds Try.pinned (OpenSpec.upto transferThenSpec)

/-- 'soughlaw16.TransferRises', WHERE WHAT IT READS IS OF BULK AT MOST 1048576: true; the input reads as it did. -/
def transferRisesUptoRow : OpenClaim := { program := "ytflkelnfdoihlaa", sum := "d2ed5ca7c940c46d5fdc874542ff163b436ff12502a22b31a5fedd6b5dbf57dc", func := "sough/soughlaw16.TransferRises", spec := "transferRises", unfollowed := true, recurses := true, apart := false, narrowed := true }
def TransferRisesUptoSaid : Prop := transferRisesUptoRow.holds Try.pinned (OpenSpec.upto transferRisesSpec)

end Rows
end Go.Proofs.Ytflkelnfdoihlaa
