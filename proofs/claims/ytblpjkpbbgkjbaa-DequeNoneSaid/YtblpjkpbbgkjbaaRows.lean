/-
  No cell of these rows narrows 'for every input' (looked for: loops, veiled, ifaces, maps, wideKeys, modest, calm, conditions, laid).
  DERIVED. THE GIVEN ROWS OF THIS SEAT. 5 by the template 'for every input the law returns true; each argument reads behind the call as it read before'; 0 by the template 'total and deterministic' (their statements: YtblpjkpbbgkjbaaTotals.lean).
  GIVEN WITH THE SEED: the statements are not yours to turn. If you find one false, say at which input.
  Laid BY PROGRAM, IN A SANDBOX (cutbox-rows.mjs): the forced cells as the released guide's own fill.sh prints them over the translation 7a01bd597d1eed57… (all of the seat's roots in one cut). By AI agents, Wed Nov 11 2026. No macro, syntax, notation, axiom, sorry.
-/
import Derived.Test.YtblpjkpbbgkjbaaChecked
import GoSem.Claim
import GoSem.ClaimJoined
import GoSem.ClaimMapViews
import Derived.JoinedTies
import Derived.KernelRfl
namespace Go.Proofs.Ytblpjkpbbgkjbaa
/- THE CELL 'sum', in the pinned program and in every row, IS THE sha256 OF THE DUMP (.gsa) THAT YtblpjkpbbgkjbaaProg.lean LOADS. Nothing in Lean hashes anything: it is a label: what it is worth is what the hold of that sum in a sandbox is worth. -/
noncomputable def Try.pinned : Pinned := { name := "ytblpjkpbbgkjbaa", sum := "7a01bd597d1eed57a47253113cb410a77fb99657f08a2b0e0a6d7deeb8d4b8db", checked := Try.checked }
namespace Rows
def none {H : Type} : Left H := { results := [], args := [] }

/-- 'soughlaw14.OrderIs': WHATEVER THE INPUT: true; the input reads as it did. -/
def orderIsSpec : ChangeSpec := { name := "orderIs", fn := fun _ => fun
  | [d1, d2] => { results := [.lit (.bool true)], args := [d1, d2] }
  | _ => none }
def orderIsRow : OpenClaim := { program := "ytblpjkpbbgkjbaa", sum := "7a01bd597d1eed57a47253113cb410a77fb99657f08a2b0e0a6d7deeb8d4b8db", func := "sough/soughlaw14.OrderIs", spec := "orderIs", unfollowed := true, recurses := true, apart := false }
def OrderIsSaid : Prop := orderIsRow.holds Try.pinned (OpenSpec.ofChange orderIsSpec)

/-- ITS FALSE NEIGHBOUR: 'it returns false'. Refute it at one input. -/
def orderIsWrong : ChangeSpec := { name := "orderIs", fn := fun _ => fun
  | [d1, d2] => { results := [.lit (.bool false)], args := [d1, d2] }
  | _ => none }
def OrderIsWrongFalsely : Prop := orderIsRow.holds Try.pinned (OpenSpec.ofChange orderIsWrong)

/-- 'soughlaw15.ShareLoads': WHATEVER THE INPUT: true; the input reads as it did. -/
def shareLoadsSpec : ChangeSpec := { name := "shareLoads", fn := fun _ => fun
  | [d1, d2] => { results := [.lit (.bool true)], args := [d1, d2] }
  | _ => none }
def shareLoadsRow : OpenClaim := { program := "ytblpjkpbbgkjbaa", sum := "7a01bd597d1eed57a47253113cb410a77fb99657f08a2b0e0a6d7deeb8d4b8db", func := "sough/soughlaw15.ShareLoads", spec := "shareLoads", unfollowed := true, recurses := true, apart := false }
def ShareLoadsSaid : Prop := shareLoadsRow.holds Try.pinned (OpenSpec.ofChange shareLoadsSpec)

/-- ITS FALSE NEIGHBOUR: 'it returns false'. Refute it at one input. -/
def shareLoadsWrong : ChangeSpec := { name := "shareLoads", fn := fun _ => fun
  | [d1, d2] => { results := [.lit (.bool false)], args := [d1, d2] }
  | _ => none }
def ShareLoadsWrongFalsely : Prop := shareLoadsRow.holds Try.pinned (OpenSpec.ofChange shareLoadsWrong)

/-- 'soughlaw24.StepPlays': WHATEVER THE INPUT: true; the input reads as it did. -/
def stepPlaysSpec : ChangeSpec := { name := "stepPlays", fn := fun _ => fun
  | [d1, d2] => { results := [.lit (.bool true)], args := [d1, d2] }
  | _ => none }
def stepPlaysRow : OpenClaim := { program := "ytblpjkpbbgkjbaa", sum := "7a01bd597d1eed57a47253113cb410a77fb99657f08a2b0e0a6d7deeb8d4b8db", func := "sough/soughlaw24.StepPlays", spec := "stepPlays", unfollowed := true, recurses := true, apart := false }
def StepPlaysSaid : Prop := stepPlaysRow.holds Try.pinned (OpenSpec.ofChange stepPlaysSpec)

/-- ITS FALSE NEIGHBOUR: 'it returns false'. Refute it at one input. -/
def stepPlaysWrong : ChangeSpec := { name := "stepPlays", fn := fun _ => fun
  | [d1, d2] => { results := [.lit (.bool false)], args := [d1, d2] }
  | _ => none }
def StepPlaysWrongFalsely : Prop := stepPlaysRow.holds Try.pinned (OpenSpec.ofChange stepPlaysWrong)

/-- 'soughlaw24.StepOnce': WHATEVER THE INPUT: true; the input reads as it did. -/
def stepOnceSpec : ChangeSpec := { name := "stepOnce", fn := fun _ => fun
  | [d1, d2] => { results := [.lit (.bool true)], args := [d1, d2] }
  | _ => none }
def stepOnceRow : OpenClaim := { program := "ytblpjkpbbgkjbaa", sum := "7a01bd597d1eed57a47253113cb410a77fb99657f08a2b0e0a6d7deeb8d4b8db", func := "sough/soughlaw24.StepOnce", spec := "stepOnce", unfollowed := true, recurses := true, apart := false }
def StepOnceSaid : Prop := stepOnceRow.holds Try.pinned (OpenSpec.ofChange stepOnceSpec)

/-- ITS FALSE NEIGHBOUR: 'it returns false'. Refute it at one input. -/
def stepOnceWrong : ChangeSpec := { name := "stepOnce", fn := fun _ => fun
  | [d1, d2] => { results := [.lit (.bool false)], args := [d1, d2] }
  | _ => none }
def StepOnceWrongFalsely : Prop := stepOnceRow.holds Try.pinned (OpenSpec.ofChange stepOnceWrong)

/-- 'soughlaw27.DequeNone': WHATEVER THE INPUT: true; the input reads as it did. -/
def dequeNoneSpec : ChangeSpec := { name := "dequeNone", fn := fun _ => fun
  | [d] => { results := [.lit (.bool true)], args := [d] }
  | _ => none }
def dequeNoneRow : OpenClaim := { program := "ytblpjkpbbgkjbaa", sum := "7a01bd597d1eed57a47253113cb410a77fb99657f08a2b0e0a6d7deeb8d4b8db", func := "sough/soughlaw27.DequeNone", spec := "dequeNone", unfollowed := true, recurses := true, apart := false }
def DequeNoneSaid : Prop := dequeNoneRow.holds Try.pinned (OpenSpec.ofChange dequeNoneSpec)

/-- ITS FALSE NEIGHBOUR: 'it returns false'. Refute it at one input. -/
def dequeNoneWrong : ChangeSpec := { name := "dequeNone", fn := fun _ => fun
  | [d] => { results := [.lit (.bool false)], args := [d] }
  | _ => none }
def DequeNoneWrongFalsely : Prop := dequeNoneRow.holds Try.pinned (OpenSpec.ofChange dequeNoneWrong)

/- THE SECOND FORM. 'bulk': how many values and letters a reading holds, each counted each time it is reached (what is shared counts as often as it is met; a slice's spare places count too). A statement '..UptoSaid' is the law's where the arguments, and the package variables that the reading takes, are together of bulk at most 1048576: NARROWER than '..Said'. Prove '..Said' where nothing that the law and all that it calls make is longer than what came in: it says more and counts as full. Else prove '..UptoSaid'. A law counts once. -/
mutual
def uptoBulk {H : Type} : DataW H → Nat
  | .lit (.string bytes) => bytes.length + 1
  | .lit _ => 1
  | .nil => 1
  | .ptr d => uptoBulk d + 1
  | .slice elems spare => uptoBulkAll elems + uptoBulkAll spare + 1
  | .agg parts => uptoBulkAll parts + 1
  | .iface _ d => uptoBulk d + 1
  | .map entries => uptoBulkEntries entries + 1
  | .held _ => 1
def uptoBulkAll {H : Type} : List (DataW H) → Nat
  | [] => 0
  | d :: r => uptoBulk d + uptoBulkAll r
def uptoBulkEntries {H : Type} : List (Lit × DataW H) → Nat
  | [] => 0
  | x :: r => uptoBulkEntry x + uptoBulkEntries r
def uptoBulkEntry {H : Type} : Lit × DataW H → Nat
  | (.string bytes, d) => bytes.length + uptoBulk d + 1
  | (_, d) => uptoBulk d + 1
 end
def uptoSmall : (H : Type) → List (DataW H) → Bool := fun _ ds => decide (uptoBulkAll ds ≤ 1048576)
def OpenSpec.upto (s : _root_.Go.ChangeSpec) : _root_.Go.OpenSpec := { _root_.Go.OpenSpec.ofChange s with cond := some uptoSmall }

/-- 'soughlaw14.OrderIs', WHERE WHAT IT READS IS OF BULK AT MOST 1048576: true; the input reads as it did. -/
def orderIsUptoRow : OpenClaim := { program := "ytblpjkpbbgkjbaa", sum := "7a01bd597d1eed57a47253113cb410a77fb99657f08a2b0e0a6d7deeb8d4b8db", func := "sough/soughlaw14.OrderIs", spec := "orderIs", unfollowed := true, recurses := true, apart := false, narrowed := true }
def OrderIsUptoSaid : Prop := orderIsUptoRow.holds Try.pinned (OpenSpec.upto orderIsSpec)

/-- 'soughlaw15.ShareLoads', WHERE WHAT IT READS IS OF BULK AT MOST 1048576: true; the input reads as it did. -/
def shareLoadsUptoRow : OpenClaim := { program := "ytblpjkpbbgkjbaa", sum := "7a01bd597d1eed57a47253113cb410a77fb99657f08a2b0e0a6d7deeb8d4b8db", func := "sough/soughlaw15.ShareLoads", spec := "shareLoads", unfollowed := true, recurses := true, apart := false, narrowed := true }
def ShareLoadsUptoSaid : Prop := shareLoadsUptoRow.holds Try.pinned (OpenSpec.upto shareLoadsSpec)

/-- 'soughlaw24.StepPlays', WHERE WHAT IT READS IS OF BULK AT MOST 1048576: true; the input reads as it did. -/
def stepPlaysUptoRow : OpenClaim := { program := "ytblpjkpbbgkjbaa", sum := "7a01bd597d1eed57a47253113cb410a77fb99657f08a2b0e0a6d7deeb8d4b8db", func := "sough/soughlaw24.StepPlays", spec := "stepPlays", unfollowed := true, recurses := true, apart := false, narrowed := true }
def StepPlaysUptoSaid : Prop := stepPlaysUptoRow.holds Try.pinned (OpenSpec.upto stepPlaysSpec)

/-- 'soughlaw24.StepOnce', WHERE WHAT IT READS IS OF BULK AT MOST 1048576: true; the input reads as it did. -/
def stepOnceUptoRow : OpenClaim := { program := "ytblpjkpbbgkjbaa", sum := "7a01bd597d1eed57a47253113cb410a77fb99657f08a2b0e0a6d7deeb8d4b8db", func := "sough/soughlaw24.StepOnce", spec := "stepOnce", unfollowed := true, recurses := true, apart := false, narrowed := true }
def StepOnceUptoSaid : Prop := stepOnceUptoRow.holds Try.pinned (OpenSpec.upto stepOnceSpec)

/-- 'soughlaw27.DequeNone', WHERE WHAT IT READS IS OF BULK AT MOST 1048576: true; the input reads as it did. -/
def dequeNoneUptoRow : OpenClaim := { program := "ytblpjkpbbgkjbaa", sum := "7a01bd597d1eed57a47253113cb410a77fb99657f08a2b0e0a6d7deeb8d4b8db", func := "sough/soughlaw27.DequeNone", spec := "dequeNone", unfollowed := true, recurses := true, apart := false, narrowed := true }
def DequeNoneUptoSaid : Prop := dequeNoneUptoRow.holds Try.pinned (OpenSpec.upto dequeNoneSpec)

end Rows
end Go.Proofs.Ytblpjkpbbgkjbaa
