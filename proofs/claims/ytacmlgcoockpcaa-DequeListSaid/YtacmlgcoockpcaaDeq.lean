/-
  deque: the machines' blocks; room, above, place, end: contracts.
-/
import Derived.Test.YtacmlgcoockpcaaMemI
import Derived.Test.YtacmlgcoockpcaaGoto
import Derived.Test.YtacmlgcoockpcaaMemAll
import Derived.RegionTactic
import Derived.BigQuiet
import Derived.Deep.QuietTactic
import Derived.Outline
import Derived.Deep.CutRange
import Derived.Deep.DeepCutAuto
import Derived.Deep.RegionHeld3
namespace Go.Proofs.Ytacmlgcoockpcaa
open Go.RowKit

/-- What a machine of the deque holds. -/
structure DS where
  base : Int
  cap : Int
  n : Int
  ok : Bool
  ended : Bool
  did : Int
  b : Int
  t : Int
  x : Int
  won : Bool
def dcells (s : DS) : List Value := [.int .i64 s.base, .int .i64 s.cap, .int .u64 s.n, .bool s.ok, .bool s.ended, .int .i64 s.did, .int .u64 s.b, .int .u64 s.t, .int .u64 s.x, .bool s.won]
/-- A machine at block a. -/
def Dq (T : TypeId) (w : World) (a : Nat) (s : DS) : Prop := Bk w a T (dcells s)
theorem Dq.fr {T : TypeId} {S : List Nat} {w w' : World} {a : Nat} {s : DS} (h : Dq T w a s) (k : Fr S w w') (ha : a ∉ S) : Dq T w' a s := Bk.fr h k ha

/-- The room that a number counts as. -/
def roomv (n : Int) : Int := min (max n 1) 4096
theorem roomv_bd (n : Int) : 1 ≤ roomv n ∧ roomv n ≤ 4096 := by unfold roomv; omega
theorem room_any (n : Int) (w : World) : Calls Try.prog 46 #[.int .i64 n] w fun e w' => e = .returned (.int .i64 (roomv n)) ∧ w' = w := by
  rcases (show (n < 1 ∧ roomv n = 1) ∨ (1 ≤ n ∧ n ≤ 4096 ∧ roomv n = n) ∨ (4096 < n ∧ roomv n = 4096) from by unfold roomv; omega) with ⟨h, hr⟩ | ⟨h, h', hr⟩ | ⟨h, hr⟩
  all_goals
    have Hr := Lib.hid hr
    clear hr
    go_enter Try.func46, Try.ntmps46
    go_wp2
    go_ret
    exact ⟨ret_int Hr.out.symm, rfl⟩
/-- Indexes held against one another. -/
def abv (a b : Int) : Bool := decide (wrap64 b < wrap64 a)
theorem above_any (a b : Int) (w : World) : Calls Try.prog 45 #[.int .u64 a, .int .u64 b] w fun e w' => e = .returned (.bool (abv a b)) ∧ w' = w := by
  go_enter Try.func45, Try.ntmps45
  go_wp2
  go_ret
  exact ⟨rfl, rfl⟩
/-- The address of an index. -/
def placev (base cap i : Int) : Int := wrap64 (wrap64 (base + 2) + wrap64 (i.tmod (IntKind.u64.wrap (roomv cap))))
theorem place_any (base cap i : Int) (w : World) : Calls Try.prog 47 #[.agg #[.int .i64 base, .int .i64 cap], .int .u64 i] w fun e w' => e = .returned (.int .i64 (placev base cap i)) ∧ Below w.heap.size w w' := by
  have hr := roomv_bd cap
  have hz : IntKind.u64.wrap (roomv cap) = roomv cap := by rw [IntKind.wrap_u64]; omega
  have hz0 : ¬ roomv cap = 0 := by omega
  have HP := Lib.hid (show placev base cap i = wrap64 (wrap64 (base + 2) + wrap64 (i.tmod (IntKind.u64.wrap (roomv cap)))) from rfl)
  go_enter Try.func47, Try.ntmps47
  go_wp2_with fail
  go_quiet ((go_at_call 46; exact Calls.quiet_of_same (room_any _ _)))
  go_wp2_with fail
  go_ret
  exact ⟨ret_int (by rw [HP.out, hz]), bel_drewN ((Below.refl _ _).alloc (Nat.le_refl _) _) _⟩

theorem pend_any (a : Nat) (s : DS) (v : Bool) (w : World) (h : Dq 66 w a s) :
    Calls Try.prog 48 #[.pointer (some ⟨a, 0, none⟩), .bool v] w fun e w' => e = .returned (.bool true) ∧ Dq 66 w' a { s with ok := v, ended := true } ∧ Fr [a] w w' := by
  have k3 : w.cell? ⟨a, 3, none⟩ = some (.bool s.ok) := h.cell 3
  have k4 : w.cell? ⟨a, 4, none⟩ = some (.bool s.ended) := h.cell 4
  have f3 := h.free 3
  have f4 := h.free 4
  have H := Lib.hid h
  clear h
  go_enter Try.func48, Try.ntmps48
  go_wp2
  go_ret
  exact ⟨rfl, (H.out.set 3 (.bool v)).set 4 (.bool true), ((Fr.refl _ _).set (by simp) _).set (by simp) _⟩

end Go.Proofs.Ytacmlgcoockpcaa
