/-
  No cell of these rows narrows 'for every input' (looked for: loops, veiled, ifaces, maps, wideKeys, modest, calm, conditions, laid).
  DERIVED. THE GIVEN ROWS OF THIS SEAT. 4 by the template 'for every input the law returns true; each argument reads behind the call as it read before'; 0 by the template 'total and deterministic' (their statements: YtfeipfemknnhhaaTotals.lean).
  GIVEN WITH THE SEED: the statements are not yours to turn. If you find one false, say at which input.
  Laid BY PROGRAM, IN A SANDBOX (cutbox-rows.mjs): the forced cells as the released guide's own fill.sh prints them over the translation f28ac4848adb1f32… (all of the seat's roots in one cut). By AI agents, Wed Nov 11 2026. No macro, syntax, notation, axiom, sorry.
-/
import Derived.Test.YtfeipfemknnhhaaChecked
import GoSem.Claim
import GoSem.ClaimJoined
import GoSem.ClaimMapViews
import Derived.JoinedTies
import Derived.KernelRfl
namespace Go.Proofs.Ytfeipfemknnhhaa
/- THE CELL 'sum', in the pinned program and in every row, IS THE sha256 OF THE DUMP (.gsa) THAT YtfeipfemknnhhaaProg.lean LOADS. Nothing in Lean hashes anything: it is a label: what it is worth is what the hold of that sum in a sandbox is worth. -/
noncomputable def Try.pinned : Pinned := { name := "ytfeipfemknnhhaa", sum := "f28ac4848adb1f323c863af0ea5163655b42521321589f026d23918335461088", checked := Try.checked }
namespace Rows
def none {H : Type} : Left H := { results := [], args := [] }

/-- 'soughlaw20.PathsBelow': WHATEVER THE INPUT: true; the input reads as it did. -/
def pathsBelowSpec : ChangeSpec := { name := "pathsBelow", fn := fun _ => fun
  | [d1, d2] => { results := [.lit (.bool true)], args := [d1, d2] }
  | _ => none }
def pathsBelowRow : OpenClaim := { program := "ytfeipfemknnhhaa", sum := "f28ac4848adb1f323c863af0ea5163655b42521321589f026d23918335461088", func := "sough/soughlaw20.PathsBelow", spec := "pathsBelow", unfollowed := true, recurses := true, apart := false }
def PathsBelowSaid : Prop := pathsBelowRow.holds Try.pinned (OpenSpec.ofChange pathsBelowSpec)

/-- ITS FALSE NEIGHBOUR: 'it returns false'. Refute it at one input. -/
def pathsBelowWrong : ChangeSpec := { name := "pathsBelow", fn := fun _ => fun
  | [d1, d2] => { results := [.lit (.bool false)], args := [d1, d2] }
  | _ => none }
def PathsBelowWrongFalsely : Prop := pathsBelowRow.holds Try.pinned (OpenSpec.ofChange pathsBelowWrong)

/-- 'soughlaw20.PathsAlong': WHATEVER THE INPUT: true; the input reads as it did. -/
def pathsAlongSpec : ChangeSpec := { name := "pathsAlong", fn := fun _ => fun
  | [d1, d2] => { results := [.lit (.bool true)], args := [d1, d2] }
  | _ => none }
def pathsAlongRow : OpenClaim := { program := "ytfeipfemknnhhaa", sum := "f28ac4848adb1f323c863af0ea5163655b42521321589f026d23918335461088", func := "sough/soughlaw20.PathsAlong", spec := "pathsAlong", unfollowed := true, recurses := true, apart := false }
def PathsAlongSaid : Prop := pathsAlongRow.holds Try.pinned (OpenSpec.ofChange pathsAlongSpec)

/-- ITS FALSE NEIGHBOUR: 'it returns false'. Refute it at one input. -/
def pathsAlongWrong : ChangeSpec := { name := "pathsAlong", fn := fun _ => fun
  | [d1, d2] => { results := [.lit (.bool false)], args := [d1, d2] }
  | _ => none }
def PathsAlongWrongFalsely : Prop := pathsAlongRow.holds Try.pinned (OpenSpec.ofChange pathsAlongWrong)

/-- 'soughlaw20.PathsMany': WHATEVER THE INPUT: true; the input reads as it did. -/
def pathsManySpec : ChangeSpec := { name := "pathsMany", fn := fun _ => fun
  | [d1, d2] => { results := [.lit (.bool true)], args := [d1, d2] }
  | _ => none }
def pathsManyRow : OpenClaim := { program := "ytfeipfemknnhhaa", sum := "f28ac4848adb1f323c863af0ea5163655b42521321589f026d23918335461088", func := "sough/soughlaw20.PathsMany", spec := "pathsMany", unfollowed := true, recurses := true, apart := false }
def PathsManySaid : Prop := pathsManyRow.holds Try.pinned (OpenSpec.ofChange pathsManySpec)

/-- ITS FALSE NEIGHBOUR: 'it returns false'. Refute it at one input. -/
def pathsManyWrong : ChangeSpec := { name := "pathsMany", fn := fun _ => fun
  | [d1, d2] => { results := [.lit (.bool false)], args := [d1, d2] }
  | _ => none }
def PathsManyWrongFalsely : Prop := pathsManyRow.holds Try.pinned (OpenSpec.ofChange pathsManyWrong)

/-- 'soughlaw32.LayoutParts': WHATEVER THE INPUT: true; the input reads as it did. -/
def layoutPartsSpec : ChangeSpec := { name := "layoutParts", fn := fun _ => fun
  | [d1, d2, d3] => { results := [.lit (.bool true)], args := [d1, d2, d3] }
  | _ => none }
def layoutPartsRow : OpenClaim := { program := "ytfeipfemknnhhaa", sum := "f28ac4848adb1f323c863af0ea5163655b42521321589f026d23918335461088", func := "sough/soughlaw32.LayoutParts", spec := "layoutParts", unfollowed := true, recurses := true, apart := false }
def LayoutPartsSaid : Prop := layoutPartsRow.holds Try.pinned (OpenSpec.ofChange layoutPartsSpec)

/-- ITS FALSE NEIGHBOUR: 'it returns false'. Refute it at one input. -/
def layoutPartsWrong : ChangeSpec := { name := "layoutParts", fn := fun _ => fun
  | [d1, d2, d3] => { results := [.lit (.bool false)], args := [d1, d2, d3] }
  | _ => none }
def LayoutPartsWrongFalsely : Prop := layoutPartsRow.holds Try.pinned (OpenSpec.ofChange layoutPartsWrong)

/- THE SECOND FORM. 'bulk': how many values and letters a reading holds, each counted each time it is reached (what is shared counts as often as it is met; a slice's spare places count too). A statement '..UptoSaid' is the law's where the arguments, and the package variables that the reading takes, are together of bulk at most 1048576: NARROWER than '..Said'. Prove '..Said' where nothing that the law and all that it calls make is longer than what came in: it says more and counts as full. Else prove '..UptoSaid'. A law counts once. -/
mutual
def uptoBulk {H : Type} : DataW H → Nat
  | .lit (.string bytes) => bytes.length + 1
  | .lit _ => 1
  | .nil => 1
  | .ptr d => uptoBulk d + 1
  | .slice elems spare => uptoBulkAll elems + uptoBulkAll spare + 1
  | .agg parts => uptoBulkAll parts + 1
  | .iface _ d => uptoBulk d + 1
  | .map entries => uptoBulkEntries entries + 1
  | .held _ => 1
def uptoBulkAll {H : Type} : List (DataW H) → Nat
  | [] => 0
  | d :: r => uptoBulk d + uptoBulkAll r
def uptoBulkEntries {H : Type} : List (Lit × DataW H) → Nat
  | [] => 0
  | x :: r => uptoBulkEntry x + uptoBulkEntries r
def uptoBulkEntry {H : Type} : Lit × DataW H → Nat
  | (.string bytes, d) => bytes.length + uptoBulk d + 1
  | (_, d) => uptoBulk d + 1
 end
def uptoSmall : (H : Type) → List (DataW H) → Bool := fun _ ds => decide (uptoBulkAll ds ≤ 1048576)
def OpenSpec.upto (s : _root_.Go.ChangeSpec) : _root_.Go.OpenSpec := { _root_.Go.OpenSpec.ofChange s with cond := some uptoSmall }

/-- 'soughlaw20.PathsBelow', WHERE WHAT IT READS IS OF BULK AT MOST 1048576: true; the input reads as it did. -/
def pathsBelowUptoRow : OpenClaim := { program := "ytfeipfemknnhhaa", sum := "f28ac4848adb1f323c863af0ea5163655b42521321589f026d23918335461088", func := "sough/soughlaw20.PathsBelow", spec := "pathsBelow", unfollowed := true, recurses := true, apart := false, narrowed := true }
def PathsBelowUptoSaid : Prop := pathsBelowUptoRow.holds Try.pinned (OpenSpec.upto pathsBelowSpec)

/-- 'soughlaw20.PathsAlong', WHERE WHAT IT READS IS OF BULK AT MOST 1048576: true; the input reads as it did. -/
def pathsAlongUptoRow : OpenClaim := { program := "ytfeipfemknnhhaa", sum := "f28ac4848adb1f323c863af0ea5163655b42521321589f026d23918335461088", func := "sough/soughlaw20.PathsAlong", spec := "pathsAlong", unfollowed := true, recurses := true, apart := false, narrowed := true }
def PathsAlongUptoSaid : Prop := pathsAlongUptoRow.holds Try.pinned (OpenSpec.upto pathsAlongSpec)

/-- 'soughlaw20.PathsMany', WHERE WHAT IT READS IS OF BULK AT MOST 1048576: true; the input reads as it did. -/
def pathsManyUptoRow : OpenClaim := { program := "ytfeipfemknnhhaa", sum := "f28ac4848adb1f323c863af0ea5163655b42521321589f026d23918335461088", func := "sough/soughlaw20.PathsMany", spec := "pathsMany", unfollowed := true, recurses := true, apart := false, narrowed := true }
def PathsManyUptoSaid : Prop := pathsManyUptoRow.holds Try.pinned (OpenSpec.upto pathsManySpec)

/-- 'soughlaw32.LayoutParts', WHERE WHAT IT READS IS OF BULK AT MOST 1048576: true; the input reads as it did. -/
def layoutPartsUptoRow : OpenClaim := { program := "ytfeipfemknnhhaa", sum := "f28ac4848adb1f323c863af0ea5163655b42521321589f026d23918335461088", func := "sough/soughlaw32.LayoutParts", spec := "layoutParts", unfollowed := true, recurses := true, apart := false, narrowed := true }
def LayoutPartsUptoSaid : Prop := layoutPartsUptoRow.holds Try.pinned (OpenSpec.upto layoutPartsSpec)

end Rows
end Go.Proofs.Ytfeipfemknnhhaa
