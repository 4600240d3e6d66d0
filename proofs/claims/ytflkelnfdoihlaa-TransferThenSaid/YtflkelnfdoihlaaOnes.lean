/-
  math/bits.OnesCount64: its contract.
-/
import Derived.Test.YtflkelnfdoihlaaPop
import Derived.Test.YtflkelnfdoihlaaHas
import Derived.IntWalk
namespace Go.Proofs.Ytflkelnfdoihlaa
open Go.RowKit

theorem band (a b : Nat) (ha : a < 18446744073709551616) (hb : b < 18446744073709551616) : bits .and .u64 (a : Int) (b : Int) = ((a &&& b : Nat) : Int) :=
  (bits_nat .u64 64 (by decide) wraps_u64 a b (by omega) (by omega)).1
theorem wn (a : Nat) (h : a < 18446744073709551616) : IntKind.u64.wrap (a : Int) = (a : Int) := wraps_u64 _ (by omega) (by omega)
theorem oA (x : Nat) (hx : x < 18446744073709551616) : IntKind.u64.wrap (bits .and .u64 ((x : Int) / 2) 6148914691236517205 + bits .and .u64 (x : Int) 6148914691236517205) = ((pA 8 x : Nat) : Int) ∧ pA 8 x < 18446744073709551616 := by
  have e1 := band (x / 2) 6148914691236517205 (by omega) (by omega)
  have e2 := band x 6148914691236517205 hx (by omega)
  have l1 : x / 2 &&& 6148914691236517205 ≤ 6148914691236517205 := Nat.and_le_right
  have l2 : x &&& 6148914691236517205 ≤ 6148914691236517205 := Nat.and_le_right
  have hp : pA 8 x = (x / 2 &&& 6148914691236517205) + (x &&& 6148914691236517205) := rfl
  refine ⟨?_, by omega⟩
  rw [hp, ← wn ((x / 2 &&& 6148914691236517205) + (x &&& 6148914691236517205)) (by omega), Int.natCast_add, ← e1, ← e2, Int.natCast_ediv]
  rfl
theorem oB (x : Nat) (hx : x < 18446744073709551616) : IntKind.u64.wrap (bits .and .u64 ((x : Int) / 4) 3689348814741910323 + bits .and .u64 (x : Int) 3689348814741910323) = ((pB 8 x : Nat) : Int) ∧ pB 8 x < 8000000000000000000 := by
  have e1 := band (x / 4) 3689348814741910323 (by omega) (by omega)
  have e2 := band x 3689348814741910323 hx (by omega)
  have l1 : x / 4 &&& 3689348814741910323 ≤ 3689348814741910323 := Nat.and_le_right
  have l2 : x &&& 3689348814741910323 ≤ 3689348814741910323 := Nat.and_le_right
  have hp : pB 8 x = (x / 4 &&& 3689348814741910323) + (x &&& 3689348814741910323) := rfl
  refine ⟨?_, by omega⟩
  rw [hp, ← wn ((x / 4 &&& 3689348814741910323) + (x &&& 3689348814741910323)) (by omega), Int.natCast_add, ← e1, ← e2, Int.natCast_ediv]
  rfl
theorem oC (x : Nat) (hx : x < 8000000000000000000) : bits .and .u64 (IntKind.u64.wrap ((x : Int) / 16 + (x : Int))) 1085102592571150095 = ((pC 8 x : Nat) : Int) := by
  have e1 := band (x / 16 + x) 1085102592571150095 (by omega) (by omega)
  have hp : pC 8 x = ((x / 16 + x) &&& 1085102592571150095) := rfl
  rw [hp, ← e1, ← wn (x / 16 + x) (by omega), Int.natCast_add, Int.natCast_ediv]
  rfl
theorem oS (x s : Nat) (h : x + x / s < 18446744073709551616) : IntKind.u64.wrap ((x : Int) + (x : Int) / (s : Int)) = ((x + x / s : Nat) : Int) := by
  rw [← wn (x + x / s) h, Int.natCast_add, Int.natCast_ediv]
theorem wraps_i64 (n : Int) (h0 : 0 ≤ n) (h1 : n < 2 ^ 63) : IntKind.i64.wrap n = n := by rw [IntKind.wrap_i64]; omega
theorem oM (x : Nat) (h : x < 9223372036854775808) : bits .and .i64 (wrap64 (x : Int)) 127 = ((x % 128 : Nat) : Int) := by
  rw [IntWalk.wrap64_in _ ⟨by omega, by omega⟩]
  have e := (bits_nat .i64 63 (by decide) wraps_i64 x 127 (by omega) (by decide)).1
  rw [show (127 : Nat) = 2 ^ 7 - 1 from rfl, Nat.and_two_pow_sub_one_eq_mod] at e
  exact e

theorem ones_any (x : Nat) (w : World) (hx : x < 18446744073709551616) :
    Calls Try.prog 81 #[.int .u64 (x : Int)] w fun e w' => e = .returned (.int .i64 (pop 64 x : Nat)) ∧ w' = w := by
  go_enter Try.func81, Try.ntmps81
  go_wp2
  go_ret
  refine ⟨ret_int ?_, rfl⟩
  have hA := oA x hx
  have hB := oB (pA 8 x) hA.2
  obtain ⟨l3, l1, l2, hp⟩ := pT_ones x
  rw [hA.1, hB.1, oC _ hB.2, ← hp]
  rw [show pC 8 (pB 8 (pA 8 x)) = pT 8 x from rfl]
  have hy : pT 8 x ≤ 1085102592571150095 := Nat.and_le_right
  clear hA hB hx
  generalize pT 8 x = y at *
  have s1 : IntKind.u64.wrap ((y : Int) + (y : Int) / 256) = _ := oS y 256 l1
  have s2 : IntKind.u64.wrap (((y + y / 256 : Nat) : Int) + ((y + y / 256 : Nat) : Int) / 65536) = _ := oS _ 65536 l2
  have s3 : IntKind.u64.wrap (((y + y / 256 + (y + y / 256) / 65536 : Nat) : Int) + ((y + y / 256 + (y + y / 256) / 65536 : Nat) : Int) / 4294967296) = _ := oS _ 4294967296 l3
  rw [s1, s2, s3]
  exact oM _ (by clear s1 s2 s3 hp; omega)

end Go.Proofs.Ytflkelnfdoihlaa
