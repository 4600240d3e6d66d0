/-
  Plain arithmetic for layer 37's draws: no program is imported here.
-/
import Derived.WalkKit
namespace Go.Proofs.Ytgjcfmkaeffffaa.Dr

/-- One number behind another one. -/
def nxt (x : Int) : Int := (x * 1103515245 + 12345) % 2147483648
def st (x : Int) : Nat → Int
  | 0 => x
  | k + 1 => nxt (st x k)
/-- The first k numbers that are drawn. -/
def out (x : Int) : Nat → List Int
  | 0 => []
  | k + 1 => out x k ++ [st x (k + 1) / 65536]

theorem nxt_bd (x : Int) : 0 ≤ nxt x ∧ nxt x < 2147483648 := by unfold nxt; omega
theorem st_bd (x : Int) (h : 0 ≤ x ∧ x < 2147483648) (k : Nat) : 0 ≤ st x k ∧ st x k < 2147483648 := by
  cases k with
  | zero => exact h
  | succ k => exact nxt_bd _
theorem out_len (x : Int) (k : Nat) : (out x k).length = k := by
  induction k with
  | zero => rfl
  | succ k ih => simp [out, ih]
theorem st_one : st 0 1 = 12345 := by decide

end Go.Proofs.Ytgjcfmkaeffffaa.Dr
