/-
  soughlaw17.SystemRises: its walk. Written by wip/gen/mksys7.py.
-/
import Derived.Test.YtfeipfemknnhhaaPk2
namespace Go.Proofs.Ytfeipfemknnhhaa
open Go.RowKit

theorem vals_small {s : SysT} {a : List (List Nat)} (h : valuesE s a = true) : ValsB 100000 a := fun j hj => by
  have := value_le (values_at h j (by rw [← values_len h]; exact hj))
  omega
theorem below_yes {s : SysT} {a b : List (List Nat)} (h : sbelowE s a b = true) : checkS s = 0 ∧ valuesE s a = true ∧ valuesE s b = true ∧ belowS s a b = true := by
  unfold sbelowE at h
  simp only [Bool.and_eq_true, decide_eq_true_eq] at h
  exact h
theorem below_mk {s : SysT} {a b : List (List Nat)} (h0 : checkS s = 0) (h1 : valuesE s a = true) (h2 : valuesE s b = true) (h3 : belowS s a b = true) : sbelowE s a b = true := by
  unfold sbelowE
  rw [h0, h1, h2, h3]
  rfl



end Go.Proofs.Ytfeipfemknnhhaa
