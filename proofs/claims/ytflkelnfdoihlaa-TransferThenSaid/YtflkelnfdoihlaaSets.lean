/-
  wordset.Union, Inter, Minus, Within: contracts.
-/
import Derived.Test.YtflkelnfdoihlaaBoth
import Derived.Laws.BitsAllLaws
import Derived.Shelf.Abstract
namespace Go.Proofs.Ytflkelnfdoihlaa
open Go.RowKit Go.Shelf

def orN (x y : Nat) : Nat := x ||| y
def andN (x y : Nat) : Nat := x &&& y
def minN (x y : Nat) : Nat := x &&& (18446744073709551615 - y)
theorem orN_lt (x y : Nat) (hx : x < 18446744073709551616) (hy : y < 18446744073709551616) : orN x y < 18446744073709551616 := Nat.or_lt_two_pow (n := 64) hx hy
theorem andN_lt (x y : Nat) (hx : x < 18446744073709551616) (_ : y < 18446744073709551616) : andN x y < 18446744073709551616 := Nat.lt_of_le_of_lt Nat.and_le_left hx
theorem minN_lt (x y : Nat) (hx : x < 18446744073709551616) (_ : y < 18446744073709551616) : minN x y < 18446744073709551616 := Nat.lt_of_le_of_lt Nat.and_le_left hx

set_option maxHeartbeats 1600000 in
set_option maxRecDepth 100000 in
theorem orN_any (x y : Nat) (w : World) (hx : x < 18446744073709551616) (hy : y < 18446744073709551616) :
    Calls Try.prog 84 #[.int .u64 (x : Nat), .int .u64 (y : Nat)] w fun e w' => e = .returned (.int .u64 (orN x y : Nat)) ∧ w' = w := by
  have hop : bits .or .u64 (x : Int) (y : Int) = ((orN x y : Nat) : Int) := (bits_nat .u64 64 (by decide) wraps_u64 x y hx hy).2
  go_enter Try.func84, Try.ntmps84
  go_wp2_with fail
  go_ret
  exact ⟨rfl, rfl⟩

set_option maxHeartbeats 1600000 in
set_option maxRecDepth 100000 in
theorem union_any (v1 v2 : Value) (xs ys : List Nat) (w : World) (h1 : Ws w v1 xs) (h2 : Ws w v2 ys) (hx : xs.length ≤ 100000) (hy : ys.length ≤ 100000) :
    Calls Try.prog 61 #[v1, v2] w fun e w' => ∃ v, e = .returned v ∧ Ws w' v (bothE orN xs ys) ∧ Below w.heap.size w w' := by
  have H1 := Lib.hid h1
  have H2 := Lib.hid h2
  obtain ⟨p1, c1, rfl⟩ := ws_len h1
  obtain ⟨p2, c2, rfl⟩ := ws_len h2
  go_enter Try.func61, Try.ntmps61
  go_wp2_with fail
  refine (both_any 84 orN _ _ xs ys _ H1.out H2.out hx hy (enters_of Try.func84 (by kernel_rfl) rfl) (fun x y w hx hy => orN_any x y w hx hy) orN_lt).mono ?_
  rintro e w1 ⟨v, rfl, hW, hB⟩
  have HW := Lib.hid hW
  have HB := Lib.hid hB
  go_wp2_with fail
  go_ret
  exact ⟨_, rfl, HW.out, HB.out⟩



set_option maxHeartbeats 1600000 in
set_option maxRecDepth 100000 in
theorem minN_any (x y : Nat) (w : World) (hx : x < 18446744073709551616) (hy : y < 18446744073709551616) :
    Calls Try.prog 85 #[.int .u64 (x : Nat), .int .u64 (y : Nat)] w fun e w' => e = .returned (.int .u64 (minN x y : Nat)) ∧ w' = w := by
  have hop : bits .andNot .u64 (x : Int) (y : Int) = ((minN x y : Nat) : Int) := u64_andNot_nat x y hx hy
  go_enter Try.func85, Try.ntmps85
  go_wp2_with fail
  go_ret
  exact ⟨rfl, rfl⟩

set_option maxHeartbeats 1600000 in
set_option maxRecDepth 100000 in
theorem minus_any (v1 v2 : Value) (xs ys : List Nat) (w : World) (h1 : Ws w v1 xs) (h2 : Ws w v2 ys) (hx : xs.length ≤ 100000) (hy : ys.length ≤ 100000) :
    Calls Try.prog 62 #[v1, v2] w fun e w' => ∃ v, e = .returned v ∧ Ws w' v (bothE minN xs ys) ∧ Below w.heap.size w w' := by
  have H1 := Lib.hid h1
  have H2 := Lib.hid h2
  obtain ⟨p1, c1, rfl⟩ := ws_len h1
  obtain ⟨p2, c2, rfl⟩ := ws_len h2
  go_enter Try.func62, Try.ntmps62
  go_wp2_with fail
  refine (both_any 85 minN _ _ xs ys _ H1.out H2.out hx hy (enters_of Try.func85 (by kernel_rfl) rfl) (fun x y w hx hy => minN_any x y w hx hy) minN_lt).mono ?_
  rintro e w1 ⟨v, rfl, hW, hB⟩
  have HW := Lib.hid hW
  have HB := Lib.hid hB
  go_wp2_with fail
  go_ret
  exact ⟨_, rfl, HW.out, HB.out⟩

set_option maxHeartbeats 1600000 in
set_option maxRecDepth 100000 in
theorem within_any (v1 v2 : Value) (xs ys : List Nat) (w : World) (h1 : Ws w v1 xs) (h2 : Ws w v2 ys) (hx : xs.length ≤ 100000) (hy : ys.length ≤ 100000) :
    Calls Try.prog 77 #[v1, v2] w fun e w' => e = .returned (.bool (lenE (bothE minN xs ys) == 0)) ∧ Below w.heap.size w w' := by
  have H1 := Lib.hid h1
  have H2 := Lib.hid h2
  obtain ⟨p1, c1, rfl⟩ := ws_len h1
  obtain ⟨p2, c2, rfl⟩ := ws_len h2
  go_enter Try.func77, Try.ntmps77
  go_wp2_with fail
  refine (minus_any _ _ xs ys _ H1.out H2.out hx hy).mono ?_
  rintro e w1 ⟨v, rfl, hW, hB⟩
  have HW := Lib.hid hW
  have HB := Lib.hid hB
  obtain ⟨p3, c3, rfl⟩ := ws_len hW
  clear hW hB
  go_wp2_with fail
  refine (len_any _ _ w1 HW.out (by rw [bothE_len]; omega)).mono ?_
  rintro e w2 ⟨rfl, rfl⟩
  obtain ⟨n, hn⟩ : ∃ n, n = lenE (bothE minN xs ys) := ⟨_, rfl⟩
  rw [← hn]
  have HN := Lib.hid hn
  clear hn
  have hq : ((n : Int) == 0) = (n == 0) := by rw [Bool.eq_iff_iff]; simp
  go_wp2_with fail
  go_ret
  exact ⟨ret_bool (by rw [← HN.out]), HB.out⟩

end Go.Proofs.Ytflkelnfdoihlaa
