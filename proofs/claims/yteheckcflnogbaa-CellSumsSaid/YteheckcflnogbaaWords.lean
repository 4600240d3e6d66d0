/-
  wordset: widths and sizes: contracts.
-/
import Derived.Test.YteheckcflnogbaaKit
namespace Go.Proofs.Yteheckcflnogbaa
open Go.RowKit

/-- The width that counts. -/
def near (n : Int) : Int := min (max n 0) 1024
theorem near_bd (n : Int) : 0 ≤ near n ∧ near n ≤ 1024 := by unfold near; omega

theorem width_any (n : Int) (w : World) :
    Calls Try.prog 156 #[.int .i64 n] w fun e w' => e = .returned (.int .i64 (near n)) ∧ w' = w := by
  go_enter Try.func156, Try.ntmps156
  go_wp2
  all_goals
    go_ret
    refine ⟨ret_int ?_, rfl⟩
    unfold near
    omega

theorem nearest_any (n : Int) (w : World) :
    Calls Try.prog 155 #[.int .i64 n] w fun e w' => e = .returned (.int .i64 (near n)) ∧ w' = w := by
  go_enter Try.func155, Try.ntmps155
  go_wp2
  all_goals
    go_ret
    refine ⟨ret_int ?_, rfl⟩
    unfold near
    omega

theorem size_any (n : Int) (w : World) :
    Calls Try.prog 95 #[.int .i64 n] w fun e w' => e = .returned (.int .i64 ((near n + 63) / 64)) ∧ w' = w := by
  have hb := near_bd n
  go_enter Try.func95, Try.ntmps95
  go_wp2_with (go_at_call 155; refine (nearest_any _ _).mono ?_; rintro e w1 ⟨rfl, rfl⟩)
  go_ret
  refine ⟨ret_int ?_, rfl⟩
  omega

theorem rsize_any (n : Int) (w : World) :
    Calls Try.prog 96 #[.int .i64 n] w fun e w' => e = .returned (.int .i64 ((near n + 63) / 64)) ∧ w' = w := by
  have hb := near_bd n
  go_enter Try.func96, Try.ntmps96
  go_wp2_with (go_at_call 156; refine (width_any _ _).mono ?_; rintro e w1 ⟨rfl, rfl⟩)
  go_ret
  refine ⟨ret_int ?_, rfl⟩
  omega

end Go.Proofs.Yteheckcflnogbaa
