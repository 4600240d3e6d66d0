/-
  (*deque.Push).Step: the contract.
-/
import Derived.Test.YtacmlgcoockpcaaDeq
namespace Go.Proofs.Ytacmlgcoockpcaa
open Go.RowKit

/-- A Step of a push: what it leaves of the machine; of the words; what it tells. -/
def pushS (s : DS) (zs : List Int) : DS :=
  if s.ended = true then s
  else if s.did = 0 then { s with b := ldv zs (wrap64 (s.base + 1)), did := 1 }
  else if s.did = 1 then (if roomv s.cap ≤ wrap64 (IntKind.u64.wrap (s.b - ldv zs s.base)) then { s with t := ldv zs s.base, ok := false, ended := true } else { s with t := ldv zs s.base, did := 2 })
  else if s.did = 2 then { s with did := 3 }
  else { s with ok := true, ended := true }
def pushZ (s : DS) (zs : List Int) : List Int :=
  if s.ended = true then zs
  else if s.did = 0 then zs
  else if s.did = 1 then zs
  else if s.did = 2 then stv zs (placev s.base s.cap s.b) s.n
  else stv zs (wrap64 (s.base + 1)) (IntKind.u64.wrap (s.b + 1))


end Go.Proofs.Ytacmlgcoockpcaa
