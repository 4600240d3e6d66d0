/-
  A slice of memory's operations (structs of four numbers), as a list.
-/
import Derived.Test.YteheckcflnogbaaBlk
import Derived.Test.YteheckcflnogbaaOpenS
namespace Go.Proofs.Yteheckcflnogbaa
open Go.RowKit

/-- An operation: its kind, its address, two words. -/
structure ActT where
  k : Int
  a : Int
  x : Int
  y : Int
def act0 : ActT := ⟨0, 0, 0, 0⟩
def actAt (L : List ActT) (j : Nat) : ActT := L[j]?.getD act0
/-- A slice of operations reads as a list. -/
def Acts (w : World) (v : Value) (L : List ActT) : Prop :=
  ∃ o c, v = .slice o L.length c ∧ (0 < L.length → ∃ b off, o = some ⟨b, off, none⟩ ∧ ∀ j, j < L.length →
    w.cell? ⟨b, off + j * 4, none⟩ = some (.int .i64 (actAt L j).k) ∧ w.cell? ⟨b, off + j * 4 + 1, none⟩ = some (.int .i64 (actAt L j).a) ∧
    w.cell? ⟨b, off + j * 4 + 2, none⟩ = some (.int .u64 (actAt L j).x) ∧ w.cell? ⟨b, off + j * 4 + 3, none⟩ = some (.int .u64 (actAt L j).y))


end Go.Proofs.Yteheckcflnogbaa
