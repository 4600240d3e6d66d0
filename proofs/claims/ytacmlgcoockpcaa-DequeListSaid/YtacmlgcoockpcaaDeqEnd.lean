/-
  deque: Pop, Steal: what a Step leaves; end: contracts.
-/
import Derived.Test.YtacmlgcoockpcaaDeq
namespace Go.Proofs.Ytacmlgcoockpcaa
open Go.RowKit

/-- The end of a pop, or a steal. -/
def endS (s : DS) (v : Bool) : DS := { s with ok := v, ended := true, n := if v = true then s.x else 0 }
def stealS (s : DS) (zs : List Int) : DS :=
  if s.ended = true then s
  else if s.did = 0 then { s with t := ldv zs s.base, did := 1 }
  else if s.did = 1 then (if abv (ldv zs (wrap64 (s.base + 1))) s.t = true then { s with b := ldv zs (wrap64 (s.base + 1)), did := 2 } else endS { s with b := ldv zs (wrap64 (s.base + 1)) } false)
  else if s.did = 2 then { s with x := ldv zs (placev s.base s.cap s.t), did := 3 }
  else endS s (casb zs s.base s.t)
def stealZ (s : DS) (zs : List Int) : List Int :=
  if s.ended = true then zs
  else if s.did = 0 then zs
  else if s.did = 1 then zs
  else if s.did = 2 then zs
  else casv zs s.base s.t (IntKind.u64.wrap (s.t + 1))
def popS (s : DS) (zs : List Int) : DS :=
  if s.ended = true then s
  else if s.did = 0 then { s with b := IntKind.u64.wrap (ldv zs (wrap64 (s.base + 1)) - 1), did := 1 }
  else if s.did = 1 then { s with did := 2 }
  else if s.did = 2 then { s with t := ldv zs s.base, did := 3 }
  else if s.did = 3 then (if abv s.t s.b = true then endS s false else if abv s.b s.t = true then endS { s with x := ldv zs (placev s.base s.cap s.b) } true else { s with x := ldv zs (placev s.base s.cap s.b), did := 4 })
  else if s.did = 4 then { s with won := casb zs s.base s.t, did := 5 }
  else endS s s.won
def popZ (s : DS) (zs : List Int) : List Int :=
  if s.ended = true then zs
  else if s.did = 0 then zs
  else if s.did = 1 then stv zs (wrap64 (s.base + 1)) s.b
  else if s.did = 2 then zs
  else if s.did = 3 then (if abv s.t s.b = true then stv zs (wrap64 (s.base + 1)) (IntKind.u64.wrap (s.b + 1)) else zs)
  else if s.did = 4 then casv zs s.base s.t (IntKind.u64.wrap (s.t + 1))
  else stv zs (wrap64 (s.base + 1)) (IntKind.u64.wrap (s.b + 1))

theorem pop_end (a : Nat) (s : DS) (v : Bool) (w : World) (h : Dq 68 w a s) :
    Calls Try.prog 49 #[.pointer (some ⟨a, 0, none⟩), .bool v] w fun e w' => e = .returned (.bool true) ∧ Dq 68 w' a (endS s v) ∧ Fr [a] w w' := by
  have k2 : w.cell? ⟨a, 2, none⟩ = some (.int .u64 s.n) := h.cell 2
  have k3 : w.cell? ⟨a, 3, none⟩ = some (.bool s.ok) := h.cell 3
  have k4 : w.cell? ⟨a, 4, none⟩ = some (.bool s.ended) := h.cell 4
  have k8 : w.cell? ⟨a, 8, none⟩ = some (.int .u64 s.x) := h.cell 8
  have f2 := h.free 2
  have f3 := h.free 3
  have f4 := h.free 4
  have H := Lib.hid h
  clear h
  cases v with
  | true =>
    go_enter Try.func49, Try.ntmps49
    go_wp2
    go_ret
    exact ⟨rfl, (((H.out.set 3 (.bool true)).set 4 (.bool true)).set 2 (.int .u64 0)).set 2 (.int .u64 s.x), ((((Fr.refl _ _).set (by simp) _).set (by simp) _).set (by simp) _).set (by simp) _⟩
  | false =>
    go_enter Try.func49, Try.ntmps49
    go_wp2
    go_ret
    exact ⟨rfl, ((H.out.set 3 (.bool false)).set 4 (.bool true)).set 2 (.int .u64 0), (((Fr.refl _ _).set (by simp) _).set (by simp) _).set (by simp) _⟩

theorem steal_end (a : Nat) (s : DS) (v : Bool) (w : World) (h : Dq 69 w a s) :
    Calls Try.prog 50 #[.pointer (some ⟨a, 0, none⟩), .bool v] w fun e w' => e = .returned (.bool true) ∧ Dq 69 w' a (endS s v) ∧ Fr [a] w w' := by
  have k2 : w.cell? ⟨a, 2, none⟩ = some (.int .u64 s.n) := h.cell 2
  have k3 : w.cell? ⟨a, 3, none⟩ = some (.bool s.ok) := h.cell 3
  have k4 : w.cell? ⟨a, 4, none⟩ = some (.bool s.ended) := h.cell 4
  have k8 : w.cell? ⟨a, 8, none⟩ = some (.int .u64 s.x) := h.cell 8
  have f2 := h.free 2
  have f3 := h.free 3
  have f4 := h.free 4
  have H := Lib.hid h
  clear h
  cases v with
  | true =>
    go_enter Try.func50, Try.ntmps50
    go_wp2
    go_ret
    exact ⟨rfl, (((H.out.set 3 (.bool true)).set 4 (.bool true)).set 2 (.int .u64 0)).set 2 (.int .u64 s.x), ((((Fr.refl _ _).set (by simp) _).set (by simp) _).set (by simp) _).set (by simp) _⟩
  | false =>
    go_enter Try.func50, Try.ntmps50
    go_wp2
    go_ret
    exact ⟨rfl, ((H.out.set 3 (.bool false)).set 4 (.bool true)).set 2 (.int .u64 0), (((Fr.refl _ _).set (by simp) _).set (by simp) _).set (by simp) _⟩

end Go.Proofs.Ytacmlgcoockpcaa
