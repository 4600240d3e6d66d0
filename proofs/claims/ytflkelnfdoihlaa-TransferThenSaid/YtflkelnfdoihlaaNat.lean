/-
  Lists of natural numbers as cells of ints.
-/
import Derived.Test.YtflkelnfdoihlaaInts
import Derived.Maps.AppendAt
namespace Go.Proofs.Ytflkelnfdoihlaa
open Go.RowKit

theorem int_info : (Try.prog.info? 3).map (fun i => (i.zero, i.size, i.bytes)) = some (some (.int .i64 0), 1, 8) := by kernel_rfl
def natVs (l : List Nat) : List Value := l.map fun x => Value.int .i64 ((x : Nat) : Int)
theorem natVs_snoc (l : List Nat) (x : Nat) : natVs (l ++ [x]) = natVs l ++ [Value.int .i64 ((x : Nat) : Int)] := by simp [natVs]
theorem natVs_ints (l : List Nat) : natVs l = (l.map Int.ofNat).map (Value.int .i64) := by simp [natVs]

end Go.Proofs.Ytflkelnfdoihlaa
