/-
  wordset: widths and sizes: contracts.
-/
import Derived.Test.YtdifegcpfpdngaaDoorKit
namespace Go.Proofs.YtdifegcpfpdngaaDoor
open Go.RowKit

/-- The width that counts. -/
def near (n : Int) : Int := min (max n 0) 1024
theorem near_bd (n : Int) : 0 ≤ near n ∧ near n ≤ 1024 := by unfold near; omega

theorem width_any (n : Int) (w : World) :
    Calls Tryd.prog 33 #[.int .i64 n] w fun e w' => e = .returned (.int .i64 (near n)) ∧ w' = w := by
  go_enter Tryd.func33, Tryd.ntmps33
  go_wp2
  all_goals
    go_ret
    refine ⟨ret_int ?_, rfl⟩
    unfold near
    omega
theorem nearest_any (n : Int) (w : World) :
    Calls Tryd.prog 54 #[.int .i64 n] w fun e w' => e = .returned (.int .i64 (near n)) ∧ w' = w := by
  go_enter Tryd.func54, Tryd.ntmps54
  go_wp2
  all_goals
    go_ret
    refine ⟨ret_int ?_, rfl⟩
    unfold near
    omega
theorem size_any (n : Int) (w : World) :
    Calls Tryd.prog 27 #[.int .i64 n] w fun e w' => e = .returned (.int .i64 ((near n + 63) / 64)) ∧ w' = w := by
  have hb := near_bd n
  go_enter Tryd.func27, Tryd.ntmps27
  go_wp2_with (go_at_call 54; refine (nearest_any _ _).mono ?_; rintro e w1 ⟨rfl, rfl⟩)
  go_ret
  refine ⟨ret_int ?_, rfl⟩
  omega
theorem rsize_any (n : Int) (w : World) :
    Calls Tryd.prog 28 #[.int .i64 n] w fun e w' => e = .returned (.int .i64 ((near n + 63) / 64)) ∧ w' = w := by
  have hb := near_bd n
  go_enter Tryd.func28, Tryd.ntmps28
  go_wp2_with (go_at_call 33; refine (width_any _ _).mono ?_; rintro e w1 ⟨rfl, rfl⟩)
  go_ret
  refine ⟨ret_int ?_, rfl⟩
  omega

end Go.Proofs.YtdifegcpfpdngaaDoor
