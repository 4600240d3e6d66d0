/-
  gauss.Word, gauss.Unword: contracts.
-/
import Derived.Test.YtflkelnfdoihlaaGauss
import Derived.WalkLawsBesides
namespace Go.Proofs.Ytflkelnfdoihlaa
open Go.RowKit

/-- A number as 32 bits. -/
def word (a b : Int) : Int := a % 65536 + b % 65536 * 65536
theorem word_bd (a b : Int) : 0 ≤ word a b ∧ word a b < 4294967296 := by unfold word; omega
theorem u16_eq (x : Int) : IntKind.u16.wrap x = x % 65536 := by
  unfold IntKind.wrap; simp [IntKind.bits, IntKind.signed]
theorem wr_mod (x : Int) : wr (x % 65536) = wr x := by unfold wr; omega

theorem word_any (a b : Int) (w : World) :
    Calls Try.prog 97 #[.agg #[.int .i64 a, .int .i64 b]] w fun e w' => e = .returned (.int .u64 (word a b)) ∧ Below w.heap.size w w' := by
  go_enter Try.func97, Try.ntmps97
  go_wp2
  go_ret
  refine ⟨ret_int ?_, (Below.refl _ _).alloc (Nat.le_refl _) _⟩
  rw [u16_eq, u16_eq, IntWalk.u64_in (a % 65536) ⟨by omega, by omega⟩, IntWalk.u64_in (b % 65536) ⟨by omega, by omega⟩, IntWalk.u64_in (b % 65536 * 65536) ⟨by omega, by omega⟩, IntWalk.u64_in _ ⟨by omega, by omega⟩]
  rfl

theorem unword_big (x : Int) (w : World) (h : 4294967296 ≤ x) :
    Calls Try.prog 96 #[.int .u64 x] w fun e w' => e = .returned (.tuple #[.agg #[.int .i64 0, .int .i64 0], .bool false]) ∧ Below w.heap.size w w' := by
  go_enter Try.func96, Try.ntmps96
  go_wp2
  exact bodyPost_ret (v := .tuple #[.agg #[.int .i64 0, .int .i64 0], .bool false]) (by simp [results, Try.results96, go_sem]) rfl ⟨rfl, (Below.refl _ _).alloc (Nat.le_refl _) _⟩

/-- What an object of two cells that was just made holds, behind a call. -/
theorem pair_behind {w w1 : World} {u v : Value} {t : TypeId} (h : Below (w.alloc (.cells #[u, v] t)).heap.size (w.alloc (.cells #[u, v] t)) w1) :
    w1.cell? ⟨w.heap.size, 0, none⟩ = some u ∧ w1.cell? ⟨w.heap.size, 1, none⟩ = some v ∧ w1.frozen? ⟨w.heap.size, 0, none⟩ = false ∧ w1.frozen? ⟨w.heap.size, 1, none⟩ = false := by
  have c0 : (w.alloc (.cells #[u, v] t)).cell? ⟨w.heap.size, 0, none⟩ = some u := by go_simp
  have c1 : (w.alloc (.cells #[u, v] t)).cell? ⟨w.heap.size, 1, none⟩ = some v := by go_simp
  have f0 : (w.alloc (.cells #[u, v] t)).frozen? ⟨w.heap.size, 0, none⟩ = false := by go_simp
  have f1 : (w.alloc (.cells #[u, v] t)).frozen? ⟨w.heap.size, 1, none⟩ = false := by go_simp
  exact ⟨keepc c0 h, keepc c1 h, keepf c0 f0 h, keepf c1 f1 h⟩

theorem pair_end {w w1 : World} {o : Obj} (h : Below (w.alloc o).heap.size (w.alloc o) w1) (u v : Value) :
    Below w.heap.size w ((w1.setCell ⟨w.heap.size, 0, none⟩ u).setCell ⟨w.heap.size, 1, none⟩ v) :=
  ((((Below.refl w.heap.size w).alloc (Nat.le_refl _) o).trans (h.mono (by simp))).setCell (Nat.le_refl _) _).setCell (Nat.le_refl _) _

theorem unword_small (x : Int) (w : World) (h0 : 0 ≤ x) (h : x < 4294967296) :
    Calls Try.prog 96 #[.int .u64 x] w fun e w' => e = .returned (.tuple #[.agg #[.int .i64 (wr x), .int .i64 (wr (x / 65536))], .bool true]) ∧ Below w.heap.size w w' := by
  go_enter Try.func96, Try.ntmps96
  go_wp2_with fail
  refine (of_any _ _ _).mono ?_
  rintro e w1 ⟨rfl, hB⟩
  have e1 : wr (wrap64 (IntKind.u16.wrap x)) = wr x := by rw [u16_eq, IntWalk.wrap64_in _ ⟨by omega, by omega⟩, wr_mod]
  rw [e1]
  obtain ⟨k0, k1, f0, f1⟩ := pair_behind hB
  have HB := Lib.hid hB
  clear hB e1
  go_wp2_with fail
  exact bodyPost_ret (v := .tuple #[.agg #[.int .i64 (wr x), .int .i64 (wr (x / 65536))], .bool true]) (by simp [results, Try.results96, go_sem, k0, k1]) rfl ⟨rfl, pair_end HB.out _ _⟩

end Go.Proofs.Ytflkelnfdoihlaa
