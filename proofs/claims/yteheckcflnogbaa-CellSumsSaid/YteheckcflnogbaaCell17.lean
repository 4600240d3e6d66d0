/-
  soughlaw30.CellSums: its walk, both. Written by wip/gen/mkcell14.py.
-/
import Derived.Test.YteheckcflnogbaaCell15
import Derived.Test.YteheckcflnogbaaCell16
import Derived.BigQuiet
namespace Go.Proofs.Yteheckcflnogbaa
open Go.RowKit

theorem cellSums_walk (what : Int) (pa ol : Option Addr) (na nl ca cl : Nat) (vp : Value) (A : List Nat) (ls : List (List Nat)) (L : List (Int × Int)) (W : World) (hA : Ws W (.slice pa na ca) A ∧ na ≤ ca) (hL : Lls W (.slice ol nl cl) ls ∧ nl ≤ cl) (hP : Picks W vp L) (ma : A.length ≤ 9223372036854775807) (ml : ls.length ≤ 9223372036854775807) :
    Calls Try.prog 13 #[.int .i64 what, .slice pa na ca, .slice ol nl cl, vp] W fun e w' => e = .returned (.bool true) ∧ Below W.heap.size W w' := by
  obtain ⟨_, _, e⟩ := Ws.len hA.1
  injection e with _ e1 _
  obtain ⟨_, _, e, _⟩ := id hL.1
  injection e with _ e2 _
  by_cases h : what = 3
  · subst h
    exact cellSums_flat pa ol na nl ca cl vp A ls L W e1 e2 hA.1 hA.2 hL.1 hL.2 hP ma ml
  · exact cellSums_bits what h pa ol na nl ca cl vp A ls L W e1 e2 hA.1 hA.2 hL.1 hL.2 hP ma ml


end Go.Proofs.Yteheckcflnogbaa
