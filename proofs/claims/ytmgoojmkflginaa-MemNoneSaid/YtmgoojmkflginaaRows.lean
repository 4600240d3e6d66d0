/-
  No cell of these rows narrows 'for every input' (looked for: loops, veiled, ifaces, maps, wideKeys, modest, calm, conditions, laid).
  DERIVED. THE GIVEN ROWS OF THIS SEAT. 5 by the template 'for every input the law returns true; each argument reads behind the call as it read before'; 0 by the template 'total and deterministic' (their statements: YtmgoojmkflginaaTotals.lean).
  GIVEN WITH THE SEED: the statements are not yours to turn. If you find one false, say at which input.
  Laid BY PROGRAM, IN A SANDBOX (cutbox-rows.mjs): the forced cells as the released guide's own fill.sh prints them over the translation 8a0fd1e83080d438… (all of the seat's roots in one cut). By AI agents, Wed Nov 11 2026. No macro, syntax, notation, axiom, sorry.
-/
import Derived.Test.YtmgoojmkflginaaChecked
import GoSem.Claim
import GoSem.ClaimJoined
import GoSem.ClaimMapViews
import Derived.JoinedTies
import Derived.KernelRfl
namespace Go.Proofs.Ytmgoojmkflginaa
/- THE CELL 'sum', in the pinned program and in every row, IS THE sha256 OF THE DUMP (.gsa) THAT YtmgoojmkflginaaProg.lean LOADS. Nothing in Lean hashes anything: it is a label: what it is worth is what the hold of that sum in a sandbox is worth. -/
noncomputable def Try.pinned : Pinned := { name := "ytmgoojmkflginaa", sum := "8a0fd1e83080d438e49c09ea80da67085d275a6d9b23b5b6b721ee2722e6fe7e", checked := Try.checked }
namespace Rows
def none {H : Type} : Left H := { results := [], args := [] }

/-- 'soughlaw22.MemPlain': WHATEVER THE INPUT: true; the input reads as it did. -/
def memPlainSpec : ChangeSpec := { name := "memPlain", fn := fun _ => fun
  | [d1, d2] => { results := [.lit (.bool true)], args := [d1, d2] }
  | _ => none }
def memPlainRow : OpenClaim := { program := "ytmgoojmkflginaa", sum := "8a0fd1e83080d438e49c09ea80da67085d275a6d9b23b5b6b721ee2722e6fe7e", func := "sough/soughlaw22.MemPlain", spec := "memPlain", inPlace := ["sync/atomic.CompareAndSwapUint64", "sync/atomic.AddUint64"], unfollowed := true, recurses := true, apart := false }
def MemPlainSaid : Prop := memPlainRow.holds Try.pinned (OpenSpec.ofChange memPlainSpec)

/-- ITS FALSE NEIGHBOUR: 'it returns false'. Refute it at one input. -/
def memPlainWrong : ChangeSpec := { name := "memPlain", fn := fun _ => fun
  | [d1, d2] => { results := [.lit (.bool false)], args := [d1, d2] }
  | _ => none }
def MemPlainWrongFalsely : Prop := memPlainRow.holds Try.pinned (OpenSpec.ofChange memPlainWrong)

/-- 'soughlaw22.MemShared': WHATEVER THE INPUT: true; the input reads as it did. -/
def memSharedSpec : ChangeSpec := { name := "memShared", fn := fun _ => fun
  | [d1, d2] => { results := [.lit (.bool true)], args := [d1, d2] }
  | _ => none }
def memSharedRow : OpenClaim := { program := "ytmgoojmkflginaa", sum := "8a0fd1e83080d438e49c09ea80da67085d275a6d9b23b5b6b721ee2722e6fe7e", func := "sough/soughlaw22.MemShared", spec := "memShared", inPlace := ["sync/atomic.CompareAndSwapUint64", "sync/atomic.AddUint64", "sync/atomic.LoadUint64", "sync/atomic.StoreUint64"], unfollowed := true, recurses := true, apart := false }
def MemSharedSaid : Prop := memSharedRow.holds Try.pinned (OpenSpec.ofChange memSharedSpec)

/-- ITS FALSE NEIGHBOUR: 'it returns false'. Refute it at one input. -/
def memSharedWrong : ChangeSpec := { name := "memShared", fn := fun _ => fun
  | [d1, d2] => { results := [.lit (.bool false)], args := [d1, d2] }
  | _ => none }
def MemSharedWrongFalsely : Prop := memSharedRow.holds Try.pinned (OpenSpec.ofChange memSharedWrong)

/-- 'soughlaw22.MemNone': WHATEVER THE INPUT: true; the input reads as it did. -/
def memNoneSpec : ChangeSpec := { name := "memNone", fn := fun _ => fun
  | [d] => { results := [.lit (.bool true)], args := [d] }
  | _ => none }
def memNoneRow : OpenClaim := { program := "ytmgoojmkflginaa", sum := "8a0fd1e83080d438e49c09ea80da67085d275a6d9b23b5b6b721ee2722e6fe7e", func := "sough/soughlaw22.MemNone", spec := "memNone", inPlace := ["sync/atomic.CompareAndSwapUint64", "sync/atomic.AddUint64", "sync/atomic.LoadUint64", "sync/atomic.StoreUint64"], unfollowed := true, recurses := true, apart := false }
def MemNoneSaid : Prop := memNoneRow.holds Try.pinned (OpenSpec.ofChange memNoneSpec)

/-- ITS FALSE NEIGHBOUR: 'it returns false'. Refute it at one input. -/
def memNoneWrong : ChangeSpec := { name := "memNone", fn := fun _ => fun
  | [d] => { results := [.lit (.bool false)], args := [d] }
  | _ => none }
def MemNoneWrongFalsely : Prop := memNoneRow.holds Try.pinned (OpenSpec.ofChange memNoneWrong)

/-- 'soughlaw14.OrderIs': WHATEVER THE INPUT: true; the input reads as it did. -/
def orderIsSpec : ChangeSpec := { name := "orderIs", fn := fun _ => fun
  | [d1, d2] => { results := [.lit (.bool true)], args := [d1, d2] }
  | _ => none }
def orderIsRow : OpenClaim := { program := "ytmgoojmkflginaa", sum := "8a0fd1e83080d438e49c09ea80da67085d275a6d9b23b5b6b721ee2722e6fe7e", func := "sough/soughlaw14.OrderIs", spec := "orderIs", unfollowed := true, recurses := true, apart := false }
def OrderIsSaid : Prop := orderIsRow.holds Try.pinned (OpenSpec.ofChange orderIsSpec)

/-- ITS FALSE NEIGHBOUR: 'it returns false'. Refute it at one input. -/
def orderIsWrong : ChangeSpec := { name := "orderIs", fn := fun _ => fun
  | [d1, d2] => { results := [.lit (.bool false)], args := [d1, d2] }
  | _ => none }
def OrderIsWrongFalsely : Prop := orderIsRow.holds Try.pinned (OpenSpec.ofChange orderIsWrong)

/-- 'soughlaw27.DequeNone': WHATEVER THE INPUT: true; the input reads as it did. -/
def dequeNoneSpec : ChangeSpec := { name := "dequeNone", fn := fun _ => fun
  | [d] => { results := [.lit (.bool true)], args := [d] }
  | _ => none }
def dequeNoneRow : OpenClaim := { program := "ytmgoojmkflginaa", sum := "8a0fd1e83080d438e49c09ea80da67085d275a6d9b23b5b6b721ee2722e6fe7e", func := "sough/soughlaw27.DequeNone", spec := "dequeNone", unfollowed := true, recurses := true, apart := false }
def DequeNoneSaid : Prop := dequeNoneRow.holds Try.pinned (OpenSpec.ofChange dequeNoneSpec)

/-- ITS FALSE NEIGHBOUR: 'it returns false'. Refute it at one input. -/
def dequeNoneWrong : ChangeSpec := { name := "dequeNone", fn := fun _ => fun
  | [d] => { results := [.lit (.bool false)], args := [d] }
  | _ => none }
def DequeNoneWrongFalsely : Prop := dequeNoneRow.holds Try.pinned (OpenSpec.ofChange dequeNoneWrong)

/- THE SECOND FORM. 'bulk': how many values and letters a reading holds, each counted each time it is reached (what is shared counts as often as it is met; a slice's spare places count too). A statement '..UptoSaid' is the law's where the arguments, and the package variables that the reading takes, are together of bulk at most 1048576: NARROWER than '..Said'. Prove '..Said' where nothing that the law and all that it calls make is longer than what came in: it says more and counts as full. Else prove '..UptoSaid'. A law counts once. -/
mutual
def uptoBulk {H : Type} : DataW H → Nat
  | .lit (.string bytes) => bytes.length + 1
  | .lit _ => 1
  | .nil => 1
  | .ptr d => uptoBulk d + 1
  | .slice elems spare => uptoBulkAll elems + uptoBulkAll spare + 1
  | .agg parts => uptoBulkAll parts + 1
  | .iface _ d => uptoBulk d + 1
  | .map entries => uptoBulkEntries entries + 1
  | .held _ => 1
def uptoBulkAll {H : Type} : List (DataW H) → Nat
  | [] => 0
  | d :: r => uptoBulk d + uptoBulkAll r
def uptoBulkEntries {H : Type} : List (Lit × DataW H) → Nat
  | [] => 0
  | x :: r => uptoBulkEntry x + uptoBulkEntries r
def uptoBulkEntry {H : Type} : Lit × DataW H → Nat
  | (.string bytes, d) => bytes.length + uptoBulk d + 1
  | (_, d) => uptoBulk d + 1
 end
def uptoSmall : (H : Type) → List (DataW H) → Bool := fun _ ds => decide (uptoBulkAll ds ≤ 1048576)
def OpenSpec.upto (s : _root_.Go.ChangeSpec) : _root_.Go.OpenSpec := { _root_.Go.OpenSpec.ofChange s with cond := some uptoSmall }

/-- 'soughlaw22.MemPlain', WHERE WHAT IT READS IS OF BULK AT MOST 1048576: true; the input reads as it did. -/
def memPlainUptoRow : OpenClaim := { program := "ytmgoojmkflginaa", sum := "8a0fd1e83080d438e49c09ea80da67085d275a6d9b23b5b6b721ee2722e6fe7e", func := "sough/soughlaw22.MemPlain", spec := "memPlain", inPlace := ["sync/atomic.CompareAndSwapUint64", "sync/atomic.AddUint64"], unfollowed := true, recurses := true, apart := false, narrowed := true }
def MemPlainUptoSaid : Prop := memPlainUptoRow.holds Try.pinned (OpenSpec.upto memPlainSpec)

/-- 'soughlaw22.MemShared', WHERE WHAT IT READS IS OF BULK AT MOST 1048576: true; the input reads as it did. -/
def memSharedUptoRow : OpenClaim := { program := "ytmgoojmkflginaa", sum := "8a0fd1e83080d438e49c09ea80da67085d275a6d9b23b5b6b721ee2722e6fe7e", func := "sough/soughlaw22.MemShared", spec := "memShared", inPlace := ["sync/atomic.CompareAndSwapUint64", "sync/atomic.AddUint64", "sync/atomic.LoadUint64", "sync/atomic.StoreUint64"], unfollowed := true, recurses := true, apart := false, narrowed := true }
def MemSharedUptoSaid : Prop := memSharedUptoRow.holds Try.pinned (OpenSpec.upto memSharedSpec)

/-- 'soughlaw22.MemNone', WHERE WHAT IT READS IS OF BULK AT MOST 1048576: true; the input reads as it did. -/
def memNoneUptoRow : OpenClaim := { program := "ytmgoojmkflginaa", sum := "8a0fd1e83080d438e49c09ea80da67085d275a6d9b23b5b6b721ee2722e6fe7e", func := "sough/soughlaw22.MemNone", spec := "memNone", inPlace := ["sync/atomic.CompareAndSwapUint64", "sync/atomic.AddUint64", "sync/atomic.LoadUint64", "sync/atomic.StoreUint64"], unfollowed := true, recurses := true, apart := false, narrowed := true }
def MemNoneUptoSaid : Prop := memNoneUptoRow.holds Try.pinned (OpenSpec.upto memNoneSpec)

/-- 'soughlaw14.OrderIs', WHERE WHAT IT READS IS OF BULK AT MOST 1048576: true; the input reads as it did. -/
def orderIsUptoRow : OpenClaim := { program := "ytmgoojmkflginaa", sum := "8a0fd1e83080d438e49c09ea80da67085d275a6d9b23b5b6b721ee2722e6fe7e", func := "sough/soughlaw14.OrderIs", spec := "orderIs", unfollowed := true, recurses := true, apart := false, narrowed := true }
def OrderIsUptoSaid : Prop := orderIsUptoRow.holds Try.pinned (OpenSpec.upto orderIsSpec)

/-- 'soughlaw27.DequeNone', WHERE WHAT IT READS IS OF BULK AT MOST 1048576: true; the input reads as it did. -/
def dequeNoneUptoRow : OpenClaim := { program := "ytmgoojmkflginaa", sum := "8a0fd1e83080d438e49c09ea80da67085d275a6d9b23b5b6b721ee2722e6fe7e", func := "sough/soughlaw27.DequeNone", spec := "dequeNone", unfollowed := true, recurses := true, apart := false, narrowed := true }
def DequeNoneUptoSaid : Prop := dequeNoneUptoRow.holds Try.pinned (OpenSpec.upto dequeNoneSpec)

end Rows
end Go.Proofs.Ytmgoojmkflginaa
