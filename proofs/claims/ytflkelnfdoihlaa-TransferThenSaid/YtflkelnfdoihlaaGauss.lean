/-
  gauss.Wrap, gauss.Of, and the document's own: contracts.
-/
import Derived.Test.YtflkelnfdoihlaaKit
namespace Go.Proofs.Ytflkelnfdoihlaa
open Go.RowKit

/-- The number from -2^15 to 2^15 - 1 that is n modulo 2^16. -/
def wr (n : Int) : Int := (n + 32768) % 65536 - 32768
theorem wr_bd (n : Int) : -32768 ≤ wr n ∧ wr n ≤ 32767 := by unfold wr; omega
theorem wr_i16 (n : Int) : IntKind.i16.wrap n = wr n := by
  unfold IntKind.wrap wr; simp [IntKind.bits, IntKind.signed]; split <;> omega

theorem tmod_bd (n : Int) : -65535 ≤ n.tmod 65536 ∧ n.tmod 65536 ≤ 65535 ∧ ∃ q : Int, n = 65536 * q + n.tmod 65536 := by
  have h1 := Int.tmod_lt_of_pos n (show (0 : Int) < 65536 by omega)
  have h2 := Int.lt_tmod_of_pos n (show (0 : Int) < 65536 by omega)
  have h3 := Int.tmod_add_mul_tdiv n 65536
  exact ⟨by omega, by omega, n.tdiv 65536, by omega⟩

theorem rwrap_eq (n : Int) : wrap64 ((wrap64 (n.tmod 65536 + 98304)).tmod 65536 - 32768) = wr n := by
  obtain ⟨h1, h2, q, h3⟩ := tmod_bd n
  generalize n.tmod 65536 = t at *
  rw [IntWalk.wrap64_in (t + 98304) ⟨by omega, by omega⟩]
  obtain ⟨h4, h5, r, h6⟩ := tmod_bd (t + 98304)
  have h7 : (t + 98304).tmod 65536 = (t + 98304) % 65536 := Int.tmod_eq_emod_of_nonneg (by omega)
  rw [h7, IntWalk.wrap64_in _ ⟨by omega, by omega⟩]
  unfold wr
  omega

theorem wrap_any (n : Int) (w : World) :
    Calls Try.prog 104 #[.int .i64 n] w fun e w' => e = .returned (.int .i64 (wr n)) ∧ w = w' := by
  have hb := wr_bd n
  go_enter Try.func104, Try.ntmps104
  go_wp2
  go_ret
  exact ⟨ret_int (by rw [wr_i16, IntWalk.wrap64_in _ ⟨by omega, by omega⟩]), rfl⟩

theorem of_any (a b : Int) (w : World) :
    Calls Try.prog 102 #[.int .i64 a, .int .i64 b] w fun e w' => e = .returned (.agg #[.int .i64 (wr a), .int .i64 (wr b)]) ∧ Below w.heap.size w w' := by
  go_enter Try.func102, Try.ntmps102
  go_wp2_with (go_at_call 104; refine (wrap_any _ _).mono ?_; rintro e w' ⟨rfl, rfl⟩)
  exact bodyPost_ret (v := .agg #[.int .i64 (wr a), .int .i64 (wr b)]) (by simp [results, Try.results102, go_sem]) rfl ⟨rfl, (Below.refl _ _).alloc (Nat.le_refl _) _⟩

end Go.Proofs.Ytflkelnfdoihlaa
