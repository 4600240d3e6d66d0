/-
  No cell of these rows narrows 'for every input' (looked for: loops, veiled, ifaces, maps, wideKeys, modest, calm, conditions, laid).
  DERIVED. THE GIVEN ROWS OF THIS SEAT. 7 by the template 'for every input the law returns true; each argument reads behind the call as it read before'; 0 by the template 'total and deterministic' (their statements: YtmidbfnmkfncgaaTotals.lean).
  GIVEN WITH THE SEED: the statements are not yours to turn. If you find one false, say at which input.
  Laid BY PROGRAM, IN A SANDBOX (cutbox-rows.mjs): the forced cells as the released guide's own fill.sh prints them over the translation 526a3a711e3b110c… (all of the seat's roots in one cut). By AI agents, Wed Nov 11 2026. No macro, syntax, notation, axiom, sorry.
-/
import Derived.Test.YtmidbfnmkfncgaaChecked
import GoSem.Claim
import GoSem.ClaimJoined
import GoSem.ClaimMapViews
import Derived.JoinedTies
import Derived.KernelRfl
namespace Go.Proofs.Ytmidbfnmkfncgaa
/- THE CELL 'sum', in the pinned program and in every row, IS THE sha256 OF THE DUMP (.gsa) THAT YtmidbfnmkfncgaaProg.lean LOADS. Nothing in Lean hashes anything: it is a label: what it is worth is what the hold of that sum in a sandbox is worth. -/
noncomputable def Try.pinned : Pinned := { name := "ytmidbfnmkfncgaa", sum := "526a3a711e3b110cfc41267efea3cee89ac98f5f7deb0efa3a5b2f41a0ec7cf6", checked := Try.checked }
namespace Rows
def none {H : Type} : Left H := { results := [], args := [] }

/-- 'soughlaw17.SystemChecks': WHATEVER THE INPUT: true; the input reads as it did. -/
def systemChecksSpec : ChangeSpec := { name := "systemChecks", fn := fun _ => fun
  | [d1, d2, d3] => { results := [.lit (.bool true)], args := [d1, d2, d3] }
  | _ => none }
def systemChecksRow : OpenClaim := { program := "ytmidbfnmkfncgaa", sum := "526a3a711e3b110cfc41267efea3cee89ac98f5f7deb0efa3a5b2f41a0ec7cf6", func := "sough/soughlaw17.SystemChecks", spec := "systemChecks", unfollowed := true, recurses := true, apart := false }
def SystemChecksSaid : Prop := systemChecksRow.holds Try.pinned (OpenSpec.ofChange systemChecksSpec)

/-- ITS FALSE NEIGHBOUR: 'it returns false'. Refute it at one input. -/
def systemChecksWrong : ChangeSpec := { name := "systemChecks", fn := fun _ => fun
  | [d1, d2, d3] => { results := [.lit (.bool false)], args := [d1, d2, d3] }
  | _ => none }
def SystemChecksWrongFalsely : Prop := systemChecksRow.holds Try.pinned (OpenSpec.ofChange systemChecksWrong)

/-- 'soughlaw17.SystemRises': WHATEVER THE INPUT: true; the input reads as it did. -/
def systemRisesSpec : ChangeSpec := { name := "systemRises", fn := fun _ => fun
  | [d1, d2, d3] => { results := [.lit (.bool true)], args := [d1, d2, d3] }
  | _ => none }
def systemRisesRow : OpenClaim := { program := "ytmidbfnmkfncgaa", sum := "526a3a711e3b110cfc41267efea3cee89ac98f5f7deb0efa3a5b2f41a0ec7cf6", func := "sough/soughlaw17.SystemRises", spec := "systemRises", unfollowed := true, recurses := true, apart := false }
def SystemRisesSaid : Prop := systemRisesRow.holds Try.pinned (OpenSpec.ofChange systemRisesSpec)

/-- ITS FALSE NEIGHBOUR: 'it returns false'. Refute it at one input. -/
def systemRisesWrong : ChangeSpec := { name := "systemRises", fn := fun _ => fun
  | [d1, d2, d3] => { results := [.lit (.bool false)], args := [d1, d2, d3] }
  | _ => none }
def SystemRisesWrongFalsely : Prop := systemRisesRow.holds Try.pinned (OpenSpec.ofChange systemRisesWrong)

/-- 'soughlaw18.LeastIs': WHATEVER THE INPUT: true; the input reads as it did. -/
def leastIsSpec : ChangeSpec := { name := "leastIs", fn := fun _ => fun
  | [d1, d2, d3] => { results := [.lit (.bool true)], args := [d1, d2, d3] }
  | _ => none }
def leastIsRow : OpenClaim := { program := "ytmidbfnmkfncgaa", sum := "526a3a711e3b110cfc41267efea3cee89ac98f5f7deb0efa3a5b2f41a0ec7cf6", func := "sough/soughlaw18.LeastIs", spec := "leastIs", unfollowed := true, recurses := true, apart := false }
def LeastIsSaid : Prop := leastIsRow.holds Try.pinned (OpenSpec.ofChange leastIsSpec)

/-- ITS FALSE NEIGHBOUR: 'it returns false'. Refute it at one input. -/
def leastIsWrong : ChangeSpec := { name := "leastIs", fn := fun _ => fun
  | [d1, d2, d3] => { results := [.lit (.bool false)], args := [d1, d2, d3] }
  | _ => none }
def LeastIsWrongFalsely : Prop := leastIsRow.holds Try.pinned (OpenSpec.ofChange leastIsWrong)

/-- 'soughlaw32.LayoutPlaces': WHATEVER THE INPUT: true; the input reads as it did. -/
def layoutPlacesSpec : ChangeSpec := { name := "layoutPlaces", fn := fun _ => fun
  | [d1, d2, d3, d4] => { results := [.lit (.bool true)], args := [d1, d2, d3, d4] }
  | _ => none }
def layoutPlacesRow : OpenClaim := { program := "ytmidbfnmkfncgaa", sum := "526a3a711e3b110cfc41267efea3cee89ac98f5f7deb0efa3a5b2f41a0ec7cf6", func := "sough/soughlaw32.LayoutPlaces", spec := "layoutPlaces", unfollowed := true, recurses := true, apart := false }
def LayoutPlacesSaid : Prop := layoutPlacesRow.holds Try.pinned (OpenSpec.ofChange layoutPlacesSpec)

/-- ITS FALSE NEIGHBOUR: 'it returns false'. Refute it at one input. -/
def layoutPlacesWrong : ChangeSpec := { name := "layoutPlaces", fn := fun _ => fun
  | [d1, d2, d3, d4] => { results := [.lit (.bool false)], args := [d1, d2, d3, d4] }
  | _ => none }
def LayoutPlacesWrongFalsely : Prop := layoutPlacesRow.holds Try.pinned (OpenSpec.ofChange layoutPlacesWrong)

/-- 'soughlaw32.LayoutParts': WHATEVER THE INPUT: true; the input reads as it did. -/
def layoutPartsSpec : ChangeSpec := { name := "layoutParts", fn := fun _ => fun
  | [d1, d2, d3] => { results := [.lit (.bool true)], args := [d1, d2, d3] }
  | _ => none }
def layoutPartsRow : OpenClaim := { program := "ytmidbfnmkfncgaa", sum := "526a3a711e3b110cfc41267efea3cee89ac98f5f7deb0efa3a5b2f41a0ec7cf6", func := "sough/soughlaw32.LayoutParts", spec := "layoutParts", unfollowed := true, recurses := true, apart := false }
def LayoutPartsSaid : Prop := layoutPartsRow.holds Try.pinned (OpenSpec.ofChange layoutPartsSpec)

/-- ITS FALSE NEIGHBOUR: 'it returns false'. Refute it at one input. -/
def layoutPartsWrong : ChangeSpec := { name := "layoutParts", fn := fun _ => fun
  | [d1, d2, d3] => { results := [.lit (.bool false)], args := [d1, d2, d3] }
  | _ => none }
def LayoutPartsWrongFalsely : Prop := layoutPartsRow.holds Try.pinned (OpenSpec.ofChange layoutPartsWrong)

/-- 'soughlaw20.PathsBelow': WHATEVER THE INPUT: true; the input reads as it did. -/
def pathsBelowSpec : ChangeSpec := { name := "pathsBelow", fn := fun _ => fun
  | [d1, d2] => { results := [.lit (.bool true)], args := [d1, d2] }
  | _ => none }
def pathsBelowRow : OpenClaim := { program := "ytmidbfnmkfncgaa", sum := "526a3a711e3b110cfc41267efea3cee89ac98f5f7deb0efa3a5b2f41a0ec7cf6", func := "sough/soughlaw20.PathsBelow", spec := "pathsBelow", unfollowed := true, recurses := true, apart := false }
def PathsBelowSaid : Prop := pathsBelowRow.holds Try.pinned (OpenSpec.ofChange pathsBelowSpec)

/-- ITS FALSE NEIGHBOUR: 'it returns false'. Refute it at one input. -/
def pathsBelowWrong : ChangeSpec := { name := "pathsBelow", fn := fun _ => fun
  | [d1, d2] => { results := [.lit (.bool false)], args := [d1, d2] }
  | _ => none }
def PathsBelowWrongFalsely : Prop := pathsBelowRow.holds Try.pinned (OpenSpec.ofChange pathsBelowWrong)

/-- 'soughlaw35.BoundTells': WHATEVER THE INPUT: true; the input reads as it did. -/
def boundTellsSpec : ChangeSpec := { name := "boundTells", fn := fun _ => fun
  | [d1, d2, d3] => { results := [.lit (.bool true)], args := [d1, d2, d3] }
  | _ => none }
def boundTellsRow : OpenClaim := { program := "ytmidbfnmkfncgaa", sum := "526a3a711e3b110cfc41267efea3cee89ac98f5f7deb0efa3a5b2f41a0ec7cf6", func := "sough/soughlaw35.BoundTells", spec := "boundTells", unfollowed := true, recurses := true, apart := false }
def BoundTellsSaid : Prop := boundTellsRow.holds Try.pinned (OpenSpec.ofChange boundTellsSpec)

/-- ITS FALSE NEIGHBOUR: 'it returns false'. Refute it at one input. -/
def boundTellsWrong : ChangeSpec := { name := "boundTells", fn := fun _ => fun
  | [d1, d2, d3] => { results := [.lit (.bool false)], args := [d1, d2, d3] }
  | _ => none }
def BoundTellsWrongFalsely : Prop := boundTellsRow.holds Try.pinned (OpenSpec.ofChange boundTellsWrong)

/- THE SECOND FORM. 'bulk': how many values and letters a reading holds, each counted each time it is reached (what is shared counts as often as it is met; a slice's spare places count too). A statement '..UptoSaid' is the law's where the arguments, and the package variables that the reading takes, are together of bulk at most 1048576: NARROWER than '..Said'. Prove '..Said' where nothing that the law and all that it calls make is longer than what came in: it says more and counts as full. Else prove '..UptoSaid'. A law counts once. -/
mutual
def uptoBulk {H : Type} : DataW H → Nat
  | .lit (.string bytes) => bytes.length + 1
  | .lit _ => 1
  | .nil => 1
  | .ptr d => uptoBulk d + 1
  | .slice elems spare => uptoBulkAll elems + uptoBulkAll spare + 1
  | .agg parts => uptoBulkAll parts + 1
  | .iface _ d => uptoBulk d + 1
  | .map entries => uptoBulkEntries entries + 1
  | .held _ => 1
def uptoBulkAll {H : Type} : List (DataW H) → Nat
  | [] => 0
  | d :: r => uptoBulk d + uptoBulkAll r
def uptoBulkEntries {H : Type} : List (Lit × DataW H) → Nat
  | [] => 0
  | x :: r => uptoBulkEntry x + uptoBulkEntries r
def uptoBulkEntry {H : Type} : Lit × DataW H → Nat
  | (.string bytes, d) => bytes.length + uptoBulk d + 1
  | (_, d) => uptoBulk d + 1
 end
def uptoSmall : (H : Type) → List (DataW H) → Bool := fun _ ds => decide (uptoBulkAll ds ≤ 1048576)
def OpenSpec.upto (s : _root_.Go.ChangeSpec) : _root_.Go.OpenSpec := { _root_.Go.OpenSpec.ofChange s with cond := some uptoSmall }

/-- 'soughlaw17.SystemChecks', WHERE WHAT IT READS IS OF BULK AT MOST 1048576: true; the input reads as it did. -/
def systemChecksUptoRow : OpenClaim := { program := "ytmidbfnmkfncgaa", sum := "526a3a711e3b110cfc41267efea3cee89ac98f5f7deb0efa3a5b2f41a0ec7cf6", func := "sough/soughlaw17.SystemChecks", spec := "systemChecks", unfollowed := true, recurses := true, apart := false, narrowed := true }
def SystemChecksUptoSaid : Prop := systemChecksUptoRow.holds Try.pinned (OpenSpec.upto systemChecksSpec)

/-- 'soughlaw17.SystemRises', WHERE WHAT IT READS IS OF BULK AT MOST 1048576: true; the input reads as it did. -/
def systemRisesUptoRow : OpenClaim := { program := "ytmidbfnmkfncgaa", sum := "526a3a711e3b110cfc41267efea3cee89ac98f5f7deb0efa3a5b2f41a0ec7cf6", func := "sough/soughlaw17.SystemRises", spec := "systemRises", unfollowed := true, recurses := true, apart := false, narrowed := true }
def SystemRisesUptoSaid : Prop := systemRisesUptoRow.holds Try.pinned (OpenSpec.upto systemRisesSpec)

/-- 'soughlaw18.LeastIs', WHERE WHAT IT READS IS OF BULK AT MOST 1048576: true; the input reads as it did. -/
def leastIsUptoRow : OpenClaim := { program := "ytmidbfnmkfncgaa", sum := "526a3a711e3b110cfc41267efea3cee89ac98f5f7deb0efa3a5b2f41a0ec7cf6", func := "sough/soughlaw18.LeastIs", spec := "leastIs", unfollowed := true, recurses := true, apart := false, narrowed := true }
def LeastIsUptoSaid : Prop := leastIsUptoRow.holds Try.pinned (OpenSpec.upto leastIsSpec)

/-- 'soughlaw32.LayoutPlaces', WHERE WHAT IT READS IS OF BULK AT MOST 1048576: true; the input reads as it did. -/
def layoutPlacesUptoRow : OpenClaim := { program := "ytmidbfnmkfncgaa", sum := "526a3a711e3b110cfc41267efea3cee89ac98f5f7deb0efa3a5b2f41a0ec7cf6", func := "sough/soughlaw32.LayoutPlaces", spec := "layoutPlaces", unfollowed := true, recurses := true, apart := false, narrowed := true }
def LayoutPlacesUptoSaid : Prop := layoutPlacesUptoRow.holds Try.pinned (OpenSpec.upto layoutPlacesSpec)

/-- 'soughlaw32.LayoutParts', WHERE WHAT IT READS IS OF BULK AT MOST 1048576: true; the input reads as it did. -/
def layoutPartsUptoRow : OpenClaim := { program := "ytmidbfnmkfncgaa", sum := "526a3a711e3b110cfc41267efea3cee89ac98f5f7deb0efa3a5b2f41a0ec7cf6", func := "sough/soughlaw32.LayoutParts", spec := "layoutParts", unfollowed := true, recurses := true, apart := false, narrowed := true }
def LayoutPartsUptoSaid : Prop := layoutPartsUptoRow.holds Try.pinned (OpenSpec.upto layoutPartsSpec)

/-- 'soughlaw20.PathsBelow', WHERE WHAT IT READS IS OF BULK AT MOST 1048576: true; the input reads as it did. -/
def pathsBelowUptoRow : OpenClaim := { program := "ytmidbfnmkfncgaa", sum := "526a3a711e3b110cfc41267efea3cee89ac98f5f7deb0efa3a5b2f41a0ec7cf6", func := "sough/soughlaw20.PathsBelow", spec := "pathsBelow", unfollowed := true, recurses := true, apart := false, narrowed := true }
def PathsBelowUptoSaid : Prop := pathsBelowUptoRow.holds Try.pinned (OpenSpec.upto pathsBelowSpec)

/-- 'soughlaw35.BoundTells', WHERE WHAT IT READS IS OF BULK AT MOST 1048576: true; the input reads as it did. -/
def boundTellsUptoRow : OpenClaim := { program := "ytmidbfnmkfncgaa", sum := "526a3a711e3b110cfc41267efea3cee89ac98f5f7deb0efa3a5b2f41a0ec7cf6", func := "sough/soughlaw35.BoundTells", spec := "boundTells", unfollowed := true, recurses := true, apart := false, narrowed := true }
def BoundTellsUptoSaid : Prop := boundTellsUptoRow.holds Try.pinned (OpenSpec.upto boundTellsSpec)

end Rows
end Go.Proofs.Ytmidbfnmkfncgaa
