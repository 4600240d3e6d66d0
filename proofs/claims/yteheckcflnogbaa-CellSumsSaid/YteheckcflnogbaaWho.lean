/-
  sched.Who, soughref25.Who: contracts.
-/
import Derived.Test.YteheckcflnogbaaPicks
namespace Go.Proofs.Yteheckcflnogbaa
open Go.RowKit

theorem who_any (x d : Int) (n : Nat) (w : World) (hn : n ≤ 1048576) :
    Calls Try.prog 131 #[.agg #[.int .i64 x, .int .i64 d], .int .i64 n] w fun e w' => e = .returned (.int .i64 (whoE x n)) ∧ Below w.heap.size w w' := by
  by_cases h0 : n = 0
  · subst h0
    have Hr := Lib.hid (show whoE x ((0 : Nat) : Int) = 0 by unfold whoE; simp)
    go_enter Try.func131, Try.ntmps131
    go_wp2
    go_ret
    exact ⟨ret_int Hr.out.symm, (Below.refl _ _).alloc (Nat.le_refl _) _⟩
  · have h1 : ¬ ((n : Int) < 1) := by omega
    have h2 : ¬ ((n : Int) = 0) := by omega
    rcases whoE_cases x n (by omega) with ⟨h3, h4, h5⟩ | ⟨h3, h4, h5⟩
    all_goals
      have Hr := Lib.hid h5
      clear h5
      go_enter Try.func131, Try.ntmps131
      go_wp2
      go_ret
      exact ⟨ret_int Hr.out.symm, (Below.refl _ _).alloc (Nat.le_refl _) _⟩
theorem rwho_any (x d : Int) (n : Nat) (w : World) (hn : n ≤ 1048576) :
    Calls Try.prog 133 #[.agg #[.int .i64 x, .int .i64 d], .int .i64 n] w fun e w' => e = .returned (.int .i64 (whoE x n)) ∧ Below w.heap.size w w' := by
  by_cases h0 : n = 0
  · subst h0
    have Hr := Lib.hid (show whoE x ((0 : Nat) : Int) = 0 by unfold whoE; simp)
    go_enter Try.func133, Try.ntmps133
    go_wp2
    go_ret
    exact ⟨ret_int Hr.out.symm, (Below.refl _ _).alloc (Nat.le_refl _) _⟩
  · have h1 : ¬ ((n : Int) < 1) := by omega
    have h2 : ¬ ((n : Int) = 0) := by omega
    rcases whoE_cases x n (by omega) with ⟨h3, h4, h5⟩ | ⟨h3, h4, h5⟩
    all_goals
      have Hr := Lib.hid h5
      clear h5
      go_enter Try.func133, Try.ntmps133
      go_wp2
      go_ret
      exact ⟨ret_int Hr.out.symm, (Below.refl _ _).alloc (Nat.le_refl _) _⟩


end Go.Proofs.Yteheckcflnogbaa
