/-
  soughlaw11.awake: chapter 11's examples.
-/
import Derived.Test.YtgjcfmkaeffffaaDoorConstRefOp
namespace Go.Proofs.YtgjcfmkaeffffaaDoor
open Go.RowKit

set_option maxHeartbeats 800000 in
theorem awake11_any (w : World) : Calls Tryd.prog 50 #[] w fun e w' => e = .returned (.bool true) ∧ Below w.heap.size w w' := by
  have e1 : (2 : Int) + 4 * word 1 0 = 6 := by decide
  have e2 : (2 : Int) + 4 * word 2 0 = 10 := by decide
  have e3 : (2 : Int) + 4 * word 0 0 = 2 := by decide
  have e4 : cjoin 6 10 = 1 := by decide
  have e5 : cop 3 2 1 = 1 := by decide
  have H := Lib.hid (And.intro e1 (And.intro e2 (And.intro e3 (And.intro e4 e5))))
  clear e1 e2 e3 e4 e5
  go_enter Tryd.func50, Tryd.ntmps50
  go_wp2_with fail
  refine (cof_any _ _ _).mono ?_
  rintro e w1 ⟨rfl, hB1⟩
  rw [H.out.1]
  go_wp2_with fail
  refine (cof_any _ _ _).mono ?_
  rintro e w2 ⟨rfl, hB2⟩
  rw [H.out.2.1]
  go_wp2_with fail
  refine (join_any _ _ _ (by omega) (by omega)).mono ?_
  rintro e w3 ⟨rfl, hB3⟩
  rw [H.out.2.2.2.1]
  go_wp2_with fail
  refine (cof_any _ _ _).mono ?_
  rintro e w4 ⟨rfl, hB4⟩
  rw [H.out.2.2.1]
  go_wp2_with fail
  refine (cop_any _ _ _ _ (by omega) (by omega)).mono ?_
  rintro e w5 ⟨rfl, hB5⟩
  rw [H.out.2.2.2.2]
  go_wp2_with fail
  go_ret
  exact ⟨rfl, bel_then (bel_then (bel_then (bel_then hB1 hB2) hB3) hB4) hB5⟩

end Go.Proofs.YtgjcfmkaeffffaaDoor
