/-
  No cell of these rows narrows 'for every input' (looked for: loops, veiled, ifaces, maps, wideKeys, modest, calm, conditions, laid).
  DERIVED. THE GIVEN ROWS OF THIS SEAT. 4 by the template 'for every input the law returns true; each argument reads behind the call as it read before'; 0 by the template 'total and deterministic' (their statements: YtgjcfmkaeffffaaTotals.lean).
  GIVEN WITH THE SEED: the statements are not yours to turn. If you find one false, say at which input.
  Laid BY PROGRAM, IN A SANDBOX (cutbox-rows.mjs): the forced cells as the released guide's own fill.sh prints them over the translation 15f9bf33aba8b2c6… (all of the seat's roots in one cut). By AI agents, Wed Nov 11 2026. No macro, syntax, notation, axiom, sorry.
-/
import Derived.Test.YtgjcfmkaeffffaaChecked
import GoSem.Claim
import GoSem.ClaimJoined
import GoSem.ClaimMapViews
import Derived.JoinedTies
import Derived.KernelRfl
namespace Go.Proofs.Ytgjcfmkaeffffaa
/- THE CELL 'sum', in the pinned program and in every row, IS THE sha256 OF THE DUMP (.gsa) THAT YtgjcfmkaeffffaaProg.lean LOADS. Nothing in Lean hashes anything: it is a label: what it is worth is what the hold of that sum in a sandbox is worth. -/
noncomputable def Try.pinned : Pinned := { name := "ytgjcfmkaeffffaa", sum := "15f9bf33aba8b2c63598153c65d7490ab523f12138e2df2e38fc6db1b255cffa", checked := Try.checked }
namespace Rows
def none {H : Type} : Left H := { results := [], args := [] }

/-- 'soughlaw11.ConstantJoins': WHATEVER THE INPUT: true; the input reads as it did. -/
def constantJoinsSpec : ChangeSpec := { name := "constantJoins", fn := fun _ => fun
  | [d1, d2] => { results := [.lit (.bool true)], args := [d1, d2] }
  | _ => none }
def constantJoinsRow : OpenClaim := { program := "ytgjcfmkaeffffaa", sum := "15f9bf33aba8b2c63598153c65d7490ab523f12138e2df2e38fc6db1b255cffa", func := "sough/soughlaw11.ConstantJoins", spec := "constantJoins", apart := false }
def ConstantJoinsSaid : Prop := constantJoinsRow.holds Try.pinned (OpenSpec.ofChange constantJoinsSpec)

/-- ITS FALSE NEIGHBOUR: 'it returns false'. Refute it at one input. -/
def constantJoinsWrong : ChangeSpec := { name := "constantJoins", fn := fun _ => fun
  | [d1, d2] => { results := [.lit (.bool false)], args := [d1, d2] }
  | _ => none }
def ConstantJoinsWrongFalsely : Prop := constantJoinsRow.holds Try.pinned (OpenSpec.ofChange constantJoinsWrong)

/-- 'soughlaw11.ConstantOps': WHATEVER THE INPUT: true; the input reads as it did. -/
def constantOpsSpec : ChangeSpec := { name := "constantOps", fn := fun _ => fun
  | [d1, d2, d3] => { results := [.lit (.bool true)], args := [d1, d2, d3] }
  | _ => none }
def constantOpsRow : OpenClaim := { program := "ytgjcfmkaeffffaa", sum := "15f9bf33aba8b2c63598153c65d7490ab523f12138e2df2e38fc6db1b255cffa", func := "sough/soughlaw11.ConstantOps", spec := "constantOps", apart := false }
def ConstantOpsSaid : Prop := constantOpsRow.holds Try.pinned (OpenSpec.ofChange constantOpsSpec)

/-- ITS FALSE NEIGHBOUR: 'it returns false'. Refute it at one input. -/
def constantOpsWrong : ChangeSpec := { name := "constantOps", fn := fun _ => fun
  | [d1, d2, d3] => { results := [.lit (.bool false)], args := [d1, d2, d3] }
  | _ => none }
def ConstantOpsWrongFalsely : Prop := constantOpsRow.holds Try.pinned (OpenSpec.ofChange constantOpsWrong)

/-- 'soughlaw11.ConstantLaws': WHATEVER THE INPUT: true; the input reads as it did. -/
def constantLawsSpec : ChangeSpec := { name := "constantLaws", fn := fun _ => fun
  | [d1, d2, d3, d4, d5] => { results := [.lit (.bool true)], args := [d1, d2, d3, d4, d5] }
  | _ => none }
def constantLawsRow : OpenClaim := { program := "ytgjcfmkaeffffaa", sum := "15f9bf33aba8b2c63598153c65d7490ab523f12138e2df2e38fc6db1b255cffa", func := "sough/soughlaw11.ConstantLaws", spec := "constantLaws", apart := false }
def ConstantLawsSaid : Prop := constantLawsRow.holds Try.pinned (OpenSpec.ofChange constantLawsSpec)

/-- ITS FALSE NEIGHBOUR: 'it returns false'. Refute it at one input. -/
def constantLawsWrong : ChangeSpec := { name := "constantLaws", fn := fun _ => fun
  | [d1, d2, d3, d4, d5] => { results := [.lit (.bool false)], args := [d1, d2, d3, d4, d5] }
  | _ => none }
def ConstantLawsWrongFalsely : Prop := constantLawsRow.holds Try.pinned (OpenSpec.ofChange constantLawsWrong)

/-- 'soughlaw37.ThreadsDraws': WHATEVER THE INPUT: true; the input reads as it did. -/
def threadsDrawsSpec : ChangeSpec := { name := "threadsDraws", fn := fun _ => fun
  | [d1, d2] => { results := [.lit (.bool true)], args := [d1, d2] }
  | _ => none }
def threadsDrawsRow : OpenClaim := { program := "ytgjcfmkaeffffaa", sum := "15f9bf33aba8b2c63598153c65d7490ab523f12138e2df2e38fc6db1b255cffa", func := "sough/soughlaw37.ThreadsDraws", spec := "threadsDraws", apart := false }
def ThreadsDrawsSaid : Prop := threadsDrawsRow.holds Try.pinned (OpenSpec.ofChange threadsDrawsSpec)

/-- ITS FALSE NEIGHBOUR: 'it returns false'. Refute it at one input. -/
def threadsDrawsWrong : ChangeSpec := { name := "threadsDraws", fn := fun _ => fun
  | [d1, d2] => { results := [.lit (.bool false)], args := [d1, d2] }
  | _ => none }
def ThreadsDrawsWrongFalsely : Prop := threadsDrawsRow.holds Try.pinned (OpenSpec.ofChange threadsDrawsWrong)

/- THE SECOND FORM. 'bulk': how many values and letters a reading holds, each counted each time it is reached (what is shared counts as often as it is met; a slice's spare places count too). A statement '..UptoSaid' is the law's where the arguments, and the package variables that the reading takes, are together of bulk at most 1048576: NARROWER than '..Said'. Prove '..Said' where nothing that the law and all that it calls make is longer than what came in: it says more and counts as full. Else prove '..UptoSaid'. A law counts once. -/
mutual
def uptoBulk {H : Type} : DataW H → Nat
  | .lit (.string bytes) => bytes.length + 1
  | .lit _ => 1
  | .nil => 1
  | .ptr d => uptoBulk d + 1
  | .slice elems spare => uptoBulkAll elems + uptoBulkAll spare + 1
  | .agg parts => uptoBulkAll parts + 1
  | .iface _ d => uptoBulk d + 1
  | .map entries => uptoBulkEntries entries + 1
  | .held _ => 1
def uptoBulkAll {H : Type} : List (DataW H) → Nat
  | [] => 0
  | d :: r => uptoBulk d + uptoBulkAll r
def uptoBulkEntries {H : Type} : List (Lit × DataW H) → Nat
  | [] => 0
  | x :: r => uptoBulkEntry x + uptoBulkEntries r
def uptoBulkEntry {H : Type} : Lit × DataW H → Nat
  | (.string bytes, d) => bytes.length + uptoBulk d + 1
  | (_, d) => uptoBulk d + 1
 end
def uptoSmall : (H : Type) → List (DataW H) → Bool := fun _ ds => decide (uptoBulkAll ds ≤ 1048576)
def OpenSpec.upto (s : _root_.Go.ChangeSpec) : _root_.Go.OpenSpec := { _root_.Go.OpenSpec.ofChange s with cond := some uptoSmall }

/-- 'soughlaw11.ConstantJoins', WHERE WHAT IT READS IS OF BULK AT MOST 1048576: true; the input reads as it did. -/
def constantJoinsUptoRow : OpenClaim := { program := "ytgjcfmkaeffffaa", sum := "15f9bf33aba8b2c63598153c65d7490ab523f12138e2df2e38fc6db1b255cffa", func := "sough/soughlaw11.ConstantJoins", spec := "constantJoins", apart := false, narrowed := true }
def ConstantJoinsUptoSaid : Prop := constantJoinsUptoRow.holds Try.pinned (OpenSpec.upto constantJoinsSpec)

/-- 'soughlaw11.ConstantOps', WHERE WHAT IT READS IS OF BULK AT MOST 1048576: true; the input reads as it did. -/
def constantOpsUptoRow : OpenClaim := { program := "ytgjcfmkaeffffaa", sum := "15f9bf33aba8b2c63598153c65d7490ab523f12138e2df2e38fc6db1b255cffa", func := "sough/soughlaw11.ConstantOps", spec := "constantOps", apart := false, narrowed := true }
def ConstantOpsUptoSaid : Prop := constantOpsUptoRow.holds Try.pinned (OpenSpec.upto constantOpsSpec)

/-- 'soughlaw11.ConstantLaws', WHERE WHAT IT READS IS OF BULK AT MOST 1048576: true; the input reads as it did. -/
def constantLawsUptoRow : OpenClaim := { program := "ytgjcfmkaeffffaa", sum := "15f9bf33aba8b2c63598153c65d7490ab523f12138e2df2e38fc6db1b255cffa", func := "sough/soughlaw11.ConstantLaws", spec := "constantLaws", apart := false, narrowed := true }
def ConstantLawsUptoSaid : Prop := constantLawsUptoRow.holds Try.pinned (OpenSpec.upto constantLawsSpec)

/-- 'soughlaw37.ThreadsDraws', WHERE WHAT IT READS IS OF BULK AT MOST 1048576: true; the input reads as it did. -/
def threadsDrawsUptoRow : OpenClaim := { program := "ytgjcfmkaeffffaa", sum := "15f9bf33aba8b2c63598153c65d7490ab523f12138e2df2e38fc6db1b255cffa", func := "sough/soughlaw37.ThreadsDraws", spec := "threadsDraws", apart := false, narrowed := true }
def ThreadsDrawsUptoSaid : Prop := threadsDrawsUptoRow.holds Try.pinned (OpenSpec.upto threadsDrawsSpec)

end Rows
end Go.Proofs.Ytgjcfmkaeffffaa
