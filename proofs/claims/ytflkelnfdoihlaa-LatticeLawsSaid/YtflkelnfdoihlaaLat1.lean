/-
  lattice.is, Words, Height, Word; soughref12's: contracts.
-/
import Derived.Test.YtflkelnfdoihlaaLatM2
import Derived.Test.YtflkelnfdoihlaaConstRef
namespace Go.Proofs.Ytflkelnfdoihlaa
open Go.RowKit

theorem isL_yes {what width : Int} (h : what = 1 ∨ what = 2 ∨ what = 3) (k : 0 ≤ width ∧ width ≤ 1024) : isL what width = true := by
  unfold isL; rw [decide_eq_true_eq]; omega
theorem isL_no {what width : Int} (h : ¬ ((what = 1 ∨ what = 2 ∨ what = 3) ∧ 0 ≤ width ∧ width ≤ 1024)) : isL what width = false := by
  unfold isL; rw [decide_eq_false_iff_not]; omega
theorem isL_kinds (what width : Int) : isL what width = if what = 1 ∨ what = 2 ∨ what = 3 then (decide (0 ≤ width) && decide (width ≤ 1024)) else false := by
  split
  · next h =>
    by_cases k : 0 ≤ width ∧ width ≤ 1024
    · rw [isL_yes h k, decide_eq_true k.1, decide_eq_true k.2]; rfl
    · rw [isL_no (by omega)]
      symm
      simp only [Bool.and_eq_false_iff, decide_eq_false_iff_not]
      omega
  · exact isL_no (by omega)

set_option maxHeartbeats 1600000 in
set_option maxRecDepth 100000 in
theorem lis_any (what width : Int) (w : World) :
    Calls Try.prog 41 #[.int .i64 what, .int .i64 width] w fun e w' => e = .returned (.bool (isL what width)) ∧ w' = w := by
  have HK := Lib.hid (isL_kinds what width)
  rcases (show what = 1 ∨ what = 2 ∨ what = 3 ∨ (what ≠ 1 ∧ what ≠ 2 ∧ what ≠ 3) by omega) with h | h | h | ⟨h1, h2, h3⟩
  · rw [HK.out, if_pos (by omega)]
    subst h
    clear HK
    by_cases h0 : 0 ≤ width
    · go_enter Try.func41, Try.ntmps41
      go_wp2
      go_ret
      exact ⟨ret_bool (by simp [h0]), rfl⟩
    · go_enter Try.func41, Try.ntmps41
      go_wp2
      go_ret
      exact ⟨ret_bool (by simp; omega), rfl⟩
  · rw [HK.out, if_pos (by omega)]
    subst h
    clear HK
    by_cases h0 : 0 ≤ width
    · go_enter Try.func41, Try.ntmps41
      go_wp2
      go_ret
      exact ⟨ret_bool (by simp [h0]), rfl⟩
    · go_enter Try.func41, Try.ntmps41
      go_wp2
      go_ret
      exact ⟨ret_bool (by simp; omega), rfl⟩
  · rw [HK.out, if_pos (by omega)]
    subst h
    clear HK
    by_cases h0 : 0 ≤ width
    · go_enter Try.func41, Try.ntmps41
      go_wp2
      go_ret
      exact ⟨ret_bool (by simp [h0]), rfl⟩
    · go_enter Try.func41, Try.ntmps41
      go_wp2
      go_ret
      exact ⟨ret_bool (by simp; omega), rfl⟩
  · rw [HK.out, if_neg (by omega)]
    have e1 : (what == 1) = false := by simpa using h1
    have e2 : (what == 2) = false := by simpa using h2
    have e3 : (what == 3) = false := by simpa using h3
    clear h1 h2 h3 HK
    go_enter Try.func41, Try.ntmps41
    go_wp2
    go_ret
    exact ⟨rfl, rfl⟩

set_option maxHeartbeats 1600000 in
set_option maxRecDepth 100000 in
theorem rlis_any (what width : Int) (w : World) :
    Calls Try.prog 26 #[.int .i64 what, .int .i64 width] w fun e w' => e = .returned (.bool (isL what width)) ∧ w' = w := by
  have hE : isL what width = (decide (1 ≤ what) && (decide (what ≤ 3) && (decide (0 ≤ width) && decide (width ≤ 1024)))) := by
    unfold isL; rw [Bool.eq_iff_iff]; simp [decide_eq_true_eq]
  rw [hE]
  clear hE
  by_cases h1 : 1 ≤ what
  · by_cases h2 : what ≤ 3
    · by_cases h3 : 0 ≤ width
      · go_enter Try.func26, Try.ntmps26
        go_wp2
        go_ret
        exact ⟨ret_bool (by simp [h1, h2, h3]), rfl⟩
      · go_enter Try.func26, Try.ntmps26
        go_wp2
        go_ret
        exact ⟨ret_bool (by simp; omega), rfl⟩
    · go_enter Try.func26, Try.ntmps26
      go_wp2
      go_ret
      exact ⟨ret_bool (by simp; omega), rfl⟩
  · go_enter Try.func26, Try.ntmps26
    go_wp2
    go_ret
    exact ⟨ret_bool (by simp; omega), rfl⟩

theorem wordsN_flat {width : Int} (h : isL 3 width = true) : width = (wordsN 3 width : Int) := by
  unfold wordsN; rw [if_pos h, if_pos rfl]
  simp only [isL, decide_eq_true_eq] at h; omega
theorem wordsN_set {what width : Int} (h : isL what width = true) (e : what ≠ 3) : (near width + 63) / 64 = (wordsN what width : Int) := by
  unfold wordsN; rw [if_pos h, if_neg e]; exact sizeE_int width
theorem wordsN_none {what width : Int} (h : isL what width = false) : wordsN what width = 0 := by unfold wordsN; rw [h]; rfl

set_option maxHeartbeats 1600000 in
set_option maxRecDepth 100000 in
theorem lwords_any (what width : Int) (w : World) :
    Calls Try.prog 11 #[.int .i64 what, .int .i64 width] w fun e w' => e = .returned (.int .i64 (wordsN what width : Nat)) ∧ w' = w := by
  go_enter Try.func11, Try.ntmps11
  go_wp2_with fail
  refine (lis_any _ _ _).mono ?_
  rintro e w1 ⟨rfl, hww⟩
  subst w1
  cases hL : isL what width with
  | false =>
    have H := Lib.hid (wordsN_none hL)
    clear hL
    go_wp2_with fail
    go_ret
    exact ⟨ret_int (by rw [H.out]; rfl), rfl⟩
  | true =>
    by_cases h3 : what = 3
    · subst h3
      have H := Lib.hid (wordsN_flat hL)
      clear hL
      go_wp2_with fail
      go_ret
      exact ⟨ret_int H.out, rfl⟩
    · have H := Lib.hid (wordsN_set hL h3)
      have e3 : (what == 3) = false := by simpa using h3
      clear hL h3
      go_wp2_with fail
      refine (size_any _ _).mono ?_
      rintro e w1 ⟨rfl, hww⟩
      subst w1
      go_wp2_with fail
      go_ret
      exact ⟨ret_int H.out, rfl⟩

set_option maxHeartbeats 1600000 in
set_option maxRecDepth 100000 in
theorem rlwords_any (what width : Int) (w : World) :
    Calls Try.prog 12 #[.int .i64 what, .int .i64 width] w fun e w' => e = .returned (.int .i64 (wordsN what width : Nat)) ∧ w' = w := by
  go_enter Try.func12, Try.ntmps12
  go_wp2_with fail
  refine (rlis_any _ _ _).mono ?_
  rintro e w1 ⟨rfl, hww⟩
  subst w1
  cases hL : isL what width with
  | false =>
    have H := Lib.hid (wordsN_none hL)
    clear hL
    go_wp2_with fail
    go_ret
    exact ⟨ret_int (by rw [H.out]; rfl), rfl⟩
  | true =>
    by_cases h3 : what = 3
    · subst h3
      have H := Lib.hid (wordsN_flat hL)
      clear hL
      go_wp2_with fail
      go_ret
      exact ⟨ret_int H.out, rfl⟩
    · have H := Lib.hid (wordsN_set hL h3)
      have e3 : (what == 3) = false := by simpa using h3
      clear hL h3
      go_wp2_with fail
      refine (rsize_any _ _).mono ?_
      rintro e w1 ⟨rfl, hww⟩
      subst w1
      go_wp2_with fail
      go_ret
      exact ⟨ret_int H.out, rfl⟩

theorem height_none {what width : Int} (h : isL what width = false) : heightE what width = 0 := by unfold heightE; rw [h]; rfl
theorem height_flat {width : Int} (h : isL 3 width = true) : heightE 3 width = 2 * width ∧ 0 ≤ width ∧ width ≤ 1024 := by
  refine ⟨by unfold heightE; rw [if_pos h, if_pos rfl], ?_⟩
  simp only [isL, decide_eq_true_eq] at h; omega
theorem height_set {what width : Int} (h : isL what width = true) (e : what ≠ 3) : heightE what width = width ∧ (what = 1 ∨ what = 2) ∧ 0 ≤ width ∧ width ≤ 1024 := by
  refine ⟨by unfold heightE; rw [if_pos h, if_neg e], ?_⟩
  simp only [isL, decide_eq_true_eq] at h; omega

set_option maxHeartbeats 1600000 in
set_option maxRecDepth 100000 in
theorem lheight_any (what width : Int) (w : World) :
    Calls Try.prog 20 #[.int .i64 what, .int .i64 width] w fun e w' => e = .returned (.int .i64 (heightE what width)) ∧ w' = w := by
  go_enter Try.func20, Try.ntmps20
  go_wp2_with fail
  refine (lis_any _ _ _).mono ?_
  rintro e w1 ⟨rfl, hww⟩
  subst w1
  cases hL : isL what width with
  | false =>
    have H := Lib.hid (height_none hL)
    clear hL
    go_wp2_with fail
    go_ret
    exact ⟨ret_int H.out.symm, rfl⟩
  | true =>
    by_cases h3 : what = 3
    · subst h3
      obtain ⟨h, h0, h1⟩ := height_flat hL
      have H := Lib.hid h
      clear hL h
      go_wp2_with fail
      go_ret
      exact ⟨ret_int (by rw [H.out]; omega), rfl⟩
    · obtain ⟨h, hk, h0, h1⟩ := height_set hL h3
      have H := Lib.hid h
      clear hL h h3
      rcases hk with rfl | rfl
      · go_wp2_with fail
        go_ret
        exact ⟨ret_int (by rw [H.out]), rfl⟩
      · go_wp2_with fail
        go_ret
        exact ⟨ret_int (by rw [H.out]), rfl⟩

set_option maxHeartbeats 1600000 in
set_option maxRecDepth 100000 in
theorem rlheight_any (what width : Int) (w : World) :
    Calls Try.prog 21 #[.int .i64 what, .int .i64 width] w fun e w' => e = .returned (.int .i64 (heightE what width)) ∧ w' = w := by
  go_enter Try.func21, Try.ntmps21
  go_wp2_with fail
  refine (rlis_any _ _ _).mono ?_
  rintro e w1 ⟨rfl, hww⟩
  subst w1
  cases hL : isL what width with
  | false =>
    have H := Lib.hid (height_none hL)
    clear hL
    go_wp2_with fail
    go_ret
    exact ⟨ret_int H.out.symm, rfl⟩
  | true =>
    by_cases h3 : what = 3
    · subst h3
      obtain ⟨h, h0, h1⟩ := height_flat hL
      have H := Lib.hid h
      clear hL h
      go_wp2_with fail
      go_ret
      exact ⟨ret_int (by rw [H.out]), rfl⟩
    · obtain ⟨h, hk, h0, h1⟩ := height_set hL h3
      have H := Lib.hid h
      have e3 : (what == 3) = false := by simpa using h3
      clear hL h h3 hk
      go_wp2_with fail
      go_ret
      exact ⟨ret_int (by rw [H.out]), rfl⟩

theorem band' (a b : Nat) (ha : a < 18446744073709551616) (hb : b < 18446744073709551616) : bits .and .u64 (a : Int) (b : Int) = ((a &&& b : Nat) : Int) :=
  (bits_nat .u64 64 (by decide) wraps_u64 a b (by omega) (by omega)).1

set_option maxHeartbeats 1600000 in
set_option maxRecDepth 100000 in
theorem lword_any (what : Int) (x y : Nat) (w : World) (hx : x < 18446744073709551616) (hy : y < 18446744073709551616) :
    Calls Try.prog 24 #[.int .i64 what, .int .u64 (x : Nat), .int .u64 (y : Nat)] w fun e w' => e = .returned (.int .u64 (wordE what x y : Nat)) ∧ Below w.heap.size w w' := by
  have B0 := Lib.hid (Below.refl w.heap.size w)
  rcases (show what = 1 ∨ what = 2 ∨ what = 3 ∨ (what ≠ 1 ∧ what ≠ 2 ∧ what ≠ 3) by omega) with h | h | h | ⟨h1, h2, h3⟩
  · subst h
    have hop : bits .or .u64 (x : Int) (y : Int) = ((wordE 1 x y : Nat) : Int) := bor x y hx hy
    go_enter Try.func24, Try.ntmps24
    go_wp2
    go_ret
    exact ⟨rfl, B0.out⟩
  · subst h
    have hop : bits .and .u64 (x : Int) (y : Int) = ((wordE 2 x y : Nat) : Int) := band' x y hx hy
    go_enter Try.func24, Try.ntmps24
    go_wp2
    go_ret
    exact ⟨rfl, B0.out⟩
  · subst h
    have H3 := Lib.hid (word3 hx hy)
    go_enter Try.func24, Try.ntmps24
    go_wp2_with fail
    refine (join_any _ _ _ (by omega) (by omega)).mono ?_
    rintro e w1 ⟨rfl, hB⟩
    rw [← H3.out]
    have HB := Lib.hid hB
    clear hB
    go_wp2_with fail
    go_ret
    exact ⟨rfl, HB.out⟩
  · have H := Lib.hid (show wordE what x y = 0 by unfold wordE; rw [if_neg h1, if_neg h2, if_neg h3])
    have e1 : (what == 1) = false := by simpa using h1
    have e2 : (what == 2) = false := by simpa using h2
    have e3 : (what == 3) = false := by simpa using h3
    clear h1 h2 h3
    go_enter Try.func24, Try.ntmps24
    go_wp2
    go_ret
    exact ⟨by rw [H.out]; rfl, B0.out⟩

set_option maxHeartbeats 1600000 in
set_option maxRecDepth 100000 in
theorem rlword_any (what : Int) (x y : Nat) (w : World) (hx : x < 18446744073709551616) (hy : y < 18446744073709551616) :
    Calls Try.prog 25 #[.int .i64 what, .int .u64 (x : Nat), .int .u64 (y : Nat)] w fun e w' => e = .returned (.int .u64 (wordE what x y : Nat)) ∧ Below w.heap.size w w' := by
  have B0 := Lib.hid (Below.refl w.heap.size w)
  rcases (show what = 1 ∨ what = 2 ∨ what = 3 ∨ (what ≠ 1 ∧ what ≠ 2 ∧ what ≠ 3) by omega) with h | h | h | ⟨h1, h2, h3⟩
  · subst h
    have hop : bits .or .u64 (x : Int) (y : Int) = ((wordE 1 x y : Nat) : Int) := bor x y hx hy
    go_enter Try.func25, Try.ntmps25
    go_wp2
    go_ret
    exact ⟨rfl, B0.out⟩
  · subst h
    have hop : bits .and .u64 (x : Int) (y : Int) = ((wordE 2 x y : Nat) : Int) := band' x y hx hy
    go_enter Try.func25, Try.ntmps25
    go_wp2
    go_ret
    exact ⟨rfl, B0.out⟩
  · subst h
    have H3 := Lib.hid (word3 hx hy)
    go_enter Try.func25, Try.ntmps25
    go_wp2_with fail
    refine (rjoin_any _ _ _ (by omega) (by omega)).mono ?_
    rintro e w1 ⟨rfl, hB⟩
    rw [← H3.out]
    have HB := Lib.hid hB
    clear hB
    go_wp2_with fail
    go_ret
    exact ⟨rfl, HB.out⟩
  · have H := Lib.hid (show wordE what x y = 0 by unfold wordE; rw [if_neg h1, if_neg h2, if_neg h3])
    have e1 : (what == 1) = false := by simpa using h1
    have e2 : (what == 2) = false := by simpa using h2
    have e3 : (what == 3) = false := by simpa using h3
    clear h1 h2 h3
    go_enter Try.func25, Try.ntmps25
    go_wp2
    go_ret
    exact ⟨by rw [H.out]; rfl, B0.out⟩

end Go.Proofs.Ytflkelnfdoihlaa
