/-
  The document's own numbers (soughref01): contracts.
-/
import Derived.Test.YtflkelnfdoihlaaGauss
namespace Go.Proofs.Ytflkelnfdoihlaa
open Go.RowKit

theorem rwrap_any (n : Int) (w : World) :
    Calls Try.prog 99 #[.int .i64 n] w fun e w' => e = .returned (.int .i64 (wr n)) ∧ w = w' := by
  go_enter Try.func99, Try.ntmps99
  go_wp2
  go_ret
  exact ⟨ret_int (rwrap_eq n), rfl⟩

theorem rof_any (a b : Int) (w : World) :
    Calls Try.prog 90 #[.int .i64 a, .int .i64 b] w fun e w' => e = .returned (.agg #[.int .i64 (wr a), .int .i64 (wr b)]) ∧ Below w.heap.size w w' := by
  go_enter Try.func90, Try.ntmps90
  go_wp2_with (go_at_call 99; refine (rwrap_any _ _).mono ?_; rintro e w' ⟨rfl, rfl⟩)
  exact bodyPost_ret (v := .agg #[.int .i64 (wr a), .int .i64 (wr b)]) (by simp [results, Try.results90, go_sem]) rfl ⟨rfl, (Below.refl _ _).alloc (Nat.le_refl _) _⟩

end Go.Proofs.Ytflkelnfdoihlaa
