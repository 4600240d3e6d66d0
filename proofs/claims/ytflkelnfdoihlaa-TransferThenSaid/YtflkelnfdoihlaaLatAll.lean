/-
  lattice.is, Words, Height, Word; soughref12's: contracts.
-/
import Derived.Test.YtflkelnfdoihlaaLatM2
import Derived.Test.YtflkelnfdoihlaaConstRef
import Derived.Test.YtflkelnfdoihlaaRef10b
import Derived.Deep.RegionHeld3
import Derived.Deep.CutRange
import Derived.Deep.DeepCutAuto
import Derived.Outline
import Derived.Test.YtflkelnfdoihlaaTake
import Derived.Deep.AppendLies
import Derived.Deep.RegionLaw
import Derived.Test.YtflkelnfdoihlaaWIn
namespace Go.Proofs.Ytflkelnfdoihlaa
open Go.RowKit

theorem isL_yes {what width : Int} (h : what = 1 ∨ what = 2 ∨ what = 3) (k : 0 ≤ width ∧ width ≤ 1024) : isL what width = true := by
  unfold isL; rw [decide_eq_true_eq]; omega
theorem isL_no {what width : Int} (h : ¬ ((what = 1 ∨ what = 2 ∨ what = 3) ∧ 0 ≤ width ∧ width ≤ 1024)) : isL what width = false := by
  unfold isL; rw [decide_eq_false_iff_not]; omega
theorem isL_kinds (what width : Int) : isL what width = if what = 1 ∨ what = 2 ∨ what = 3 then (decide (0 ≤ width) && decide (width ≤ 1024)) else false := by
  split
  · next h =>
    by_cases k : 0 ≤ width ∧ width ≤ 1024
    · rw [isL_yes h k, decide_eq_true k.1, decide_eq_true k.2]; rfl
    · rw [isL_no (by omega)]
      symm
      simp only [Bool.and_eq_false_iff, decide_eq_false_iff_not]
      omega
  · exact isL_no (by omega)

set_option maxHeartbeats 1600000 in
set_option maxRecDepth 100000 in
theorem lis_any (what width : Int) (w : World) :
    Calls Try.prog 41 #[.int .i64 what, .int .i64 width] w fun e w' => e = .returned (.bool (isL what width)) ∧ w' = w := by
  have HK := Lib.hid (isL_kinds what width)
  rcases (show what = 1 ∨ what = 2 ∨ what = 3 ∨ (what ≠ 1 ∧ what ≠ 2 ∧ what ≠ 3) by omega) with h | h | h | ⟨h1, h2, h3⟩
  · rw [HK.out, if_pos (by omega)]
    subst h
    clear HK
    by_cases h0 : 0 ≤ width
    · go_enter Try.func41, Try.ntmps41
      go_wp2
      go_ret
      exact ⟨ret_bool (by simp [h0]), rfl⟩
    · go_enter Try.func41, Try.ntmps41
      go_wp2
      go_ret
      exact ⟨ret_bool (by simp; omega), rfl⟩
  · rw [HK.out, if_pos (by omega)]
    subst h
    clear HK
    by_cases h0 : 0 ≤ width
    · go_enter Try.func41, Try.ntmps41
      go_wp2
      go_ret
      exact ⟨ret_bool (by simp [h0]), rfl⟩
    · go_enter Try.func41, Try.ntmps41
      go_wp2
      go_ret
      exact ⟨ret_bool (by simp; omega), rfl⟩
  · rw [HK.out, if_pos (by omega)]
    subst h
    clear HK
    by_cases h0 : 0 ≤ width
    · go_enter Try.func41, Try.ntmps41
      go_wp2
      go_ret
      exact ⟨ret_bool (by simp [h0]), rfl⟩
    · go_enter Try.func41, Try.ntmps41
      go_wp2
      go_ret
      exact ⟨ret_bool (by simp; omega), rfl⟩
  · rw [HK.out, if_neg (by omega)]
    have e1 : (what == 1) = false := by simpa using h1
    have e2 : (what == 2) = false := by simpa using h2
    have e3 : (what == 3) = false := by simpa using h3
    clear h1 h2 h3 HK
    go_enter Try.func41, Try.ntmps41
    go_wp2
    go_ret
    exact ⟨rfl, rfl⟩

set_option maxHeartbeats 1600000 in
set_option maxRecDepth 100000 in
theorem rlis_any (what width : Int) (w : World) :
    Calls Try.prog 26 #[.int .i64 what, .int .i64 width] w fun e w' => e = .returned (.bool (isL what width)) ∧ w' = w := by
  have hE : isL what width = (decide (1 ≤ what) && (decide (what ≤ 3) && (decide (0 ≤ width) && decide (width ≤ 1024)))) := by
    unfold isL; rw [Bool.eq_iff_iff]; simp [decide_eq_true_eq]
  rw [hE]
  clear hE
  by_cases h1 : 1 ≤ what
  · by_cases h2 : what ≤ 3
    · by_cases h3 : 0 ≤ width
      · go_enter Try.func26, Try.ntmps26
        go_wp2
        go_ret
        exact ⟨ret_bool (by simp [h1, h2, h3]), rfl⟩
      · go_enter Try.func26, Try.ntmps26
        go_wp2
        go_ret
        exact ⟨ret_bool (by simp; omega), rfl⟩
    · go_enter Try.func26, Try.ntmps26
      go_wp2
      go_ret
      exact ⟨ret_bool (by simp; omega), rfl⟩
  · go_enter Try.func26, Try.ntmps26
    go_wp2
    go_ret
    exact ⟨ret_bool (by simp; omega), rfl⟩

theorem wordsN_flat {width : Int} (h : isL 3 width = true) : width = (wordsN 3 width : Int) := by
  unfold wordsN; rw [if_pos h, if_pos rfl]
  simp only [isL, decide_eq_true_eq] at h; omega
theorem wordsN_set {what width : Int} (h : isL what width = true) (e : what ≠ 3) : (near width + 63) / 64 = (wordsN what width : Int) := by
  unfold wordsN; rw [if_pos h, if_neg e]; exact sizeE_int width
theorem wordsN_none {what width : Int} (h : isL what width = false) : wordsN what width = 0 := by unfold wordsN; rw [h]; rfl

set_option maxHeartbeats 1600000 in
set_option maxRecDepth 100000 in
theorem lwords_any (what width : Int) (w : World) :
    Calls Try.prog 11 #[.int .i64 what, .int .i64 width] w fun e w' => e = .returned (.int .i64 (wordsN what width : Nat)) ∧ w' = w := by
  go_enter Try.func11, Try.ntmps11
  go_wp2_with fail
  refine (lis_any _ _ _).mono ?_
  rintro e w1 ⟨rfl, hww⟩
  subst w1
  cases hL : isL what width with
  | false =>
    have H := Lib.hid (wordsN_none hL)
    clear hL
    go_wp2_with fail
    go_ret
    exact ⟨ret_int (by rw [H.out]; rfl), rfl⟩
  | true =>
    by_cases h3 : what = 3
    · subst h3
      have H := Lib.hid (wordsN_flat hL)
      clear hL
      go_wp2_with fail
      go_ret
      exact ⟨ret_int H.out, rfl⟩
    · have H := Lib.hid (wordsN_set hL h3)
      have e3 : (what == 3) = false := by simpa using h3
      clear hL h3
      go_wp2_with fail
      refine (size_any _ _).mono ?_
      rintro e w1 ⟨rfl, hww⟩
      subst w1
      go_wp2_with fail
      go_ret
      exact ⟨ret_int H.out, rfl⟩

set_option maxHeartbeats 1600000 in
set_option maxRecDepth 100000 in
theorem rlwords_any (what width : Int) (w : World) :
    Calls Try.prog 12 #[.int .i64 what, .int .i64 width] w fun e w' => e = .returned (.int .i64 (wordsN what width : Nat)) ∧ w' = w := by
  go_enter Try.func12, Try.ntmps12
  go_wp2_with fail
  refine (rlis_any _ _ _).mono ?_
  rintro e w1 ⟨rfl, hww⟩
  subst w1
  cases hL : isL what width with
  | false =>
    have H := Lib.hid (wordsN_none hL)
    clear hL
    go_wp2_with fail
    go_ret
    exact ⟨ret_int (by rw [H.out]; rfl), rfl⟩
  | true =>
    by_cases h3 : what = 3
    · subst h3
      have H := Lib.hid (wordsN_flat hL)
      clear hL
      go_wp2_with fail
      go_ret
      exact ⟨ret_int H.out, rfl⟩
    · have H := Lib.hid (wordsN_set hL h3)
      have e3 : (what == 3) = false := by simpa using h3
      clear hL h3
      go_wp2_with fail
      refine (rsize_any _ _).mono ?_
      rintro e w1 ⟨rfl, hww⟩
      subst w1
      go_wp2_with fail
      go_ret
      exact ⟨ret_int H.out, rfl⟩

theorem height_none {what width : Int} (h : isL what width = false) : heightE what width = 0 := by unfold heightE; rw [h]; rfl
theorem height_flat {width : Int} (h : isL 3 width = true) : heightE 3 width = 2 * width ∧ 0 ≤ width ∧ width ≤ 1024 := by
  refine ⟨by unfold heightE; rw [if_pos h, if_pos rfl], ?_⟩
  simp only [isL, decide_eq_true_eq] at h; omega
theorem height_set {what width : Int} (h : isL what width = true) (e : what ≠ 3) : heightE what width = width ∧ (what = 1 ∨ what = 2) ∧ 0 ≤ width ∧ width ≤ 1024 := by
  refine ⟨by unfold heightE; rw [if_pos h, if_neg e], ?_⟩
  simp only [isL, decide_eq_true_eq] at h; omega

set_option maxHeartbeats 1600000 in
set_option maxRecDepth 100000 in
theorem lheight_any (what width : Int) (w : World) :
    Calls Try.prog 20 #[.int .i64 what, .int .i64 width] w fun e w' => e = .returned (.int .i64 (heightE what width)) ∧ w' = w := by
  go_enter Try.func20, Try.ntmps20
  go_wp2_with fail
  refine (lis_any _ _ _).mono ?_
  rintro e w1 ⟨rfl, hww⟩
  subst w1
  cases hL : isL what width with
  | false =>
    have H := Lib.hid (height_none hL)
    clear hL
    go_wp2_with fail
    go_ret
    exact ⟨ret_int H.out.symm, rfl⟩
  | true =>
    by_cases h3 : what = 3
    · subst h3
      obtain ⟨h, h0, h1⟩ := height_flat hL
      have H := Lib.hid h
      clear hL h
      go_wp2_with fail
      go_ret
      exact ⟨ret_int (by rw [H.out]; omega), rfl⟩
    · obtain ⟨h, hk, h0, h1⟩ := height_set hL h3
      have H := Lib.hid h
      clear hL h h3
      rcases hk with rfl | rfl
      · go_wp2_with fail
        go_ret
        exact ⟨ret_int (by rw [H.out]), rfl⟩
      · go_wp2_with fail
        go_ret
        exact ⟨ret_int (by rw [H.out]), rfl⟩

set_option maxHeartbeats 1600000 in
set_option maxRecDepth 100000 in
theorem rlheight_any (what width : Int) (w : World) :
    Calls Try.prog 21 #[.int .i64 what, .int .i64 width] w fun e w' => e = .returned (.int .i64 (heightE what width)) ∧ w' = w := by
  go_enter Try.func21, Try.ntmps21
  go_wp2_with fail
  refine (rlis_any _ _ _).mono ?_
  rintro e w1 ⟨rfl, hww⟩
  subst w1
  cases hL : isL what width with
  | false =>
    have H := Lib.hid (height_none hL)
    clear hL
    go_wp2_with fail
    go_ret
    exact ⟨ret_int H.out.symm, rfl⟩
  | true =>
    by_cases h3 : what = 3
    · subst h3
      obtain ⟨h, h0, h1⟩ := height_flat hL
      have H := Lib.hid h
      clear hL h
      go_wp2_with fail
      go_ret
      exact ⟨ret_int (by rw [H.out]), rfl⟩
    · obtain ⟨h, hk, h0, h1⟩ := height_set hL h3
      have H := Lib.hid h
      have e3 : (what == 3) = false := by simpa using h3
      clear hL h h3 hk
      go_wp2_with fail
      go_ret
      exact ⟨ret_int (by rw [H.out]), rfl⟩

theorem band' (a b : Nat) (ha : a < 18446744073709551616) (hb : b < 18446744073709551616) : bits .and .u64 (a : Int) (b : Int) = ((a &&& b : Nat) : Int) :=
  (bits_nat .u64 64 (by decide) wraps_u64 a b (by omega) (by omega)).1

set_option maxHeartbeats 1600000 in
set_option maxRecDepth 100000 in
theorem lword_any (what : Int) (x y : Nat) (w : World) (hx : x < 18446744073709551616) (hy : y < 18446744073709551616) :
    Calls Try.prog 24 #[.int .i64 what, .int .u64 (x : Nat), .int .u64 (y : Nat)] w fun e w' => e = .returned (.int .u64 (wordE what x y : Nat)) ∧ Below w.heap.size w w' := by
  have B0 := Lib.hid (Below.refl w.heap.size w)
  rcases (show what = 1 ∨ what = 2 ∨ what = 3 ∨ (what ≠ 1 ∧ what ≠ 2 ∧ what ≠ 3) by omega) with h | h | h | ⟨h1, h2, h3⟩
  · subst h
    have hop : bits .or .u64 (x : Int) (y : Int) = ((wordE 1 x y : Nat) : Int) := bor x y hx hy
    go_enter Try.func24, Try.ntmps24
    go_wp2
    go_ret
    exact ⟨rfl, B0.out⟩
  · subst h
    have hop : bits .and .u64 (x : Int) (y : Int) = ((wordE 2 x y : Nat) : Int) := band' x y hx hy
    go_enter Try.func24, Try.ntmps24
    go_wp2
    go_ret
    exact ⟨rfl, B0.out⟩
  · subst h
    have H3 := Lib.hid (word3 hx hy)
    go_enter Try.func24, Try.ntmps24
    go_wp2_with fail
    refine (join_any _ _ _ (by omega) (by omega)).mono ?_
    rintro e w1 ⟨rfl, hB⟩
    rw [← H3.out]
    have HB := Lib.hid hB
    clear hB
    go_wp2_with fail
    go_ret
    exact ⟨rfl, HB.out⟩
  · have H := Lib.hid (show wordE what x y = 0 by unfold wordE; rw [if_neg h1, if_neg h2, if_neg h3])
    have e1 : (what == 1) = false := by simpa using h1
    have e2 : (what == 2) = false := by simpa using h2
    have e3 : (what == 3) = false := by simpa using h3
    clear h1 h2 h3
    go_enter Try.func24, Try.ntmps24
    go_wp2
    go_ret
    exact ⟨by rw [H.out]; rfl, B0.out⟩

set_option maxHeartbeats 1600000 in
set_option maxRecDepth 100000 in
theorem rlword_any (what : Int) (x y : Nat) (w : World) (hx : x < 18446744073709551616) (hy : y < 18446744073709551616) :
    Calls Try.prog 25 #[.int .i64 what, .int .u64 (x : Nat), .int .u64 (y : Nat)] w fun e w' => e = .returned (.int .u64 (wordE what x y : Nat)) ∧ Below w.heap.size w w' := by
  have B0 := Lib.hid (Below.refl w.heap.size w)
  rcases (show what = 1 ∨ what = 2 ∨ what = 3 ∨ (what ≠ 1 ∧ what ≠ 2 ∧ what ≠ 3) by omega) with h | h | h | ⟨h1, h2, h3⟩
  · subst h
    have hop : bits .or .u64 (x : Int) (y : Int) = ((wordE 1 x y : Nat) : Int) := bor x y hx hy
    go_enter Try.func25, Try.ntmps25
    go_wp2
    go_ret
    exact ⟨rfl, B0.out⟩
  · subst h
    have hop : bits .and .u64 (x : Int) (y : Int) = ((wordE 2 x y : Nat) : Int) := band' x y hx hy
    go_enter Try.func25, Try.ntmps25
    go_wp2
    go_ret
    exact ⟨rfl, B0.out⟩
  · subst h
    have H3 := Lib.hid (word3 hx hy)
    go_enter Try.func25, Try.ntmps25
    go_wp2_with fail
    refine (rjoin_any _ _ _ (by omega) (by omega)).mono ?_
    rintro e w1 ⟨rfl, hB⟩
    rw [← H3.out]
    have HB := Lib.hid hB
    clear hB
    go_wp2_with fail
    go_ret
    exact ⟨rfl, HB.out⟩
  · have H := Lib.hid (show wordE what x y = 0 by unfold wordE; rw [if_neg h1, if_neg h2, if_neg h3])
    have e1 : (what == 1) = false := by simpa using h1
    have e2 : (what == 2) = false := by simpa using h2
    have e3 : (what == 3) = false := by simpa using h3
    clear h1 h2 h3
    go_enter Try.func25, Try.ntmps25
    go_wp2
    go_ret
    exact ⟨by rw [H.out]; rfl, B0.out⟩

end Go.Proofs.Ytflkelnfdoihlaa

/-
  lattice.words, Bottom, Top, Is: contracts.
-/
namespace Go.Proofs.Ytflkelnfdoihlaa
open Go.RowKit

/-- The first k words made, and nothing behind. -/
def madeK (f : Nat → Nat) (n k : Nat) : List Nat := (List.range n).map fun i => if i < k then f i else 0
theorem madeK_zero (f : Nat → Nat) (n : Nat) : madeK f n 0 = List.replicate n 0 := by
  refine List.ext_getElem (by simp [madeK]) fun i h1 h2 => ?_
  simp [madeK]
theorem madeK_len (f : Nat → Nat) (n k : Nat) : (madeK f n k).length = n := by simp [madeK]
theorem madeK_step (f : Nat → Nat) (n k : Nat) : (madeK f n k).set k (f k) = madeK f n (k + 1) := by
  refine List.ext_getElem (by simp [madeK]) fun i h1 h2 => ?_
  rw [List.getElem_set]
  by_cases hk : k = i
  · subst hk; simp [madeK]
  · rw [if_neg hk]
    simp only [madeK, List.getElem_map, List.getElem_range]
    by_cases hik : i < k
    · rw [if_pos hik, if_pos (by omega)]
    · rw [if_neg hik, if_neg (by omega)]
theorem madeK_all (f : Nat → Nat) (n : Nat) : madeK f n n = (List.range n).map f := by
  unfold madeK
  exact List.map_congr_left fun i hi => if_pos (List.mem_range.1 hi)
theorem made_lt {f : Nat → Nat} {n : Nat} (h : ∀ i, i < n → f i < 18446744073709551616) : ∀ z ∈ (List.range n).map f, z < 18446744073709551616 := fun z hz => by
  obtain ⟨i, hi, rfl⟩ := List.mem_map.1 hz
  exact h i (List.mem_range.1 hi)
theorem zeros_bk (w : World) (n : Nat) : Bk (w.alloc (.cells (List.replicate n (Value.int .u64 0)).toArray 29)) w.heap.size 29 (u64s (List.replicate n 0)) := by
  rw [u64s_zero]; exact Bk.new _ _ _
theorem zeros_bk' (w : World) (n : Nat) : Bk (w.alloc (.cells (Array.replicate n (Value.int .u64 0)) 29)) w.heap.size 29 (u64s (List.replicate n 0)) := by
  have := zeros_bk w n
  rwa [List.toArray_replicate] at this
theorem zeros_lt (n : Nat) : ∀ z ∈ List.replicate n 0, z < 18446744073709551616 := fun z hz => by rw [List.eq_of_mem_replicate hz]; decide

set_option maxHeartbeats 3200000 in
set_option maxRecDepth 100000 in
theorem mkwords_any (F : FuncId) (lb : Array Value) (f : Nat → Nat) (what width : Int) (w : World)
    (el : ∀ args w, (callFunc F args).run Try.prog w = .ok (.enter F args) w)
    (hf : ∀ i w1, i < wordsN what width → Below w.heap.size w w1 → Calls Try.prog F (#[.int .i64 (i : Nat)] ++ lb) w1 fun e w' => e = .returned (.int .u64 (f i : Nat)) ∧ Below w1.heap.size w1 w')
    (hb : ∀ i, i < wordsN what width → f i < 18446744073709551616) :
    Calls Try.prog 46 #[.int .i64 what, .int .i64 width, .func (.func F) #[] lb] w fun e w' => ∃ v, e = .returned v ∧ Ws w' v ((List.range (wordsN what width)).map f) ∧ Below w.heap.size w w' := by
  have hn := wordsN_le what width
  have hmk := make_u64 (wordsN what width) (wordsN what width) rfl (by omega)
  have HF := Lib.hid hf
  have HBd := Lib.hid hb
  clear hf hb
  go_enter Try.func46, Try.ntmps46
  go_wp2_with fail
  refine (lwords_any _ _ _).mono ?_
  rintro e w1 ⟨rfl, hww⟩
  subst w1
  go_wp2_with fail
  clear hmk
  obtain ⟨n, hne⟩ : ∃ n, n = wordsN what width := ⟨_, rfl⟩
  have HNE := Lib.hid hne
  rw [← hne] at hn HF HBd ⊢
  clear hne
  go_loopw [15] (fun i wr => ∃ k : Nat, k ≤ n ∧ i = .int .i64 k ∧ Bk wr w.heap.size 29 (u64s (madeK f n k)) ∧ Below w.heap.size w wr)
    (fun i _ => n - (intOf i).toNat)
  case atStart => exact ⟨0, Nat.zero_le _, rfl, by rw [madeK_zero]; first | exact zeros_bk' _ _ | exact zeros_bk _ _, (Below.refl _ _).alloc (Nat.le_refl _) _⟩
  case round =>
    obtain ⟨k, hk, rfl, hbk, hB⟩ := hrel
    have HK := Lib.hid hbk
    have HB := Lib.hid hB
    clear hbk hB
    by_cases hlt : k < n
    · have HC := Lib.hid (HF.out k wr hlt HB.out)
      go_wp2_with fail
      refine HC.out.mono ?_
      rintro e w2 ⟨rfl, hB2⟩
      have HB2 := Lib.hid (HB.out.trans (hB2.mono HB.out.size))
      have HK2 := Lib.hid (HK.out.below hB2)
      have hcell : w2.cell? ⟨w.heap.size, k, none⟩ = some (.int .u64 (wAt (madeK f n k) k : Nat)) := by
        rw [HK2.out.cell, u64s_at _ _ (by rw [madeK_len]; exact hlt)]
      have hfree := HK2.out.free k
      have HBk := Lib.hid (HK2.out.set k (.int .u64 (f k : Nat)))
      rw [← u64s_set, madeK_step] at HBk
      generalize wAt (madeK f n k) k = z at *
      clear hB2
      go_wp2_with fail
      go_roundw
      case rel => exact ⟨k + 1, by omega, by go_num, HBk.out, HB2.out.setCell (p := ⟨w.heap.size, k, none⟩) (Nat.le_refl _) _⟩
      case measure => simp [intOf]; omega
    · obtain rfl : k = n := by omega
      have HK2 := HK
      rw [madeK_all] at HK2
      go_wp2_with fail
      go_ret
      exact ⟨_, rfl, by rw [← HNE.out]; exact HK2.out.ws (by simp) (made_lt HBd.out), HB.out⟩

set_option maxHeartbeats 1600000 in
set_option maxRecDepth 100000 in
theorem bottom_any (what width : Int) (w : World) :
    Calls Try.prog 14 #[.int .i64 what, .int .i64 width] w fun e w' => ∃ v, e = .returned v ∧ Ws w' v (bottomE what width) ∧ Below w.heap.size w w' := by
  have hn := wordsN_le what width
  have hmk := make_u64 (wordsN what width) (wordsN what width) rfl (by omega)
  have rest : ∀ h : bottomE what width = List.replicate (wordsN what width) 0, Ws (w.alloc (.cells (Array.replicate (wordsN what width) (Value.int .u64 0)) 29)) (.slice (some ⟨w.heap.size, 0, none⟩) (wordsN what width) (wordsN what width)) (bottomE what width) := fun h => by
    rw [h]; exact (zeros_bk' w _).ws List.length_replicate (zeros_lt _)
  have HR := Lib.hid rest
  have HB0 := Lib.hid ((Below.refl w.heap.size w).alloc (Nat.le_refl _) (.cells (Array.replicate (wordsN what width) (Value.int .u64 0)) 29))
  clear rest
  by_cases h2 : what = 2
  · subst h2
    go_enter Try.func14, Try.ntmps14
    go_wp2_with fail
    refine (lis_any _ _ _).mono ?_
    rintro e w1 ⟨rfl, hww⟩
    subst w1
    cases hL : isL 2 width with
    | true =>
      have H := Lib.hid (show bottomE 2 width = fullE width by unfold bottomE; rw [if_pos ⟨rfl, hL⟩])
      clear hL
      go_wp2_with fail
      refine (full_any _ _).mono ?_
      rintro e w3 ⟨u, rfl, hW, hB⟩
      have HW := Lib.hid hW
      have HB := Lib.hid hB
      obtain ⟨p3, c3, rfl⟩ := ws_len hW
      clear hW hB
      go_wp2_with fail
      go_ret
      exact ⟨_, rfl, by rw [H.out]; exact HW.out, HB.out⟩
    | false =>
      have H := Lib.hid (show bottomE 2 width = List.replicate (wordsN 2 width) 0 by unfold bottomE; rw [hL, if_neg (by simp)])
      clear hL
      go_wp2_with fail
      refine (lwords_any _ _ _).mono ?_
      rintro e w1 ⟨rfl, hww⟩
      subst w1
      go_wp2_with fail
      go_ret
      exact ⟨_, rfl, HR.out H.out, HB0.out⟩
  · have H := Lib.hid (show bottomE what width = List.replicate (wordsN what width) 0 by unfold bottomE; rw [if_neg (by omega)])
    have e2 : (what == 2) = false := by simpa using h2
    clear h2
    go_enter Try.func14, Try.ntmps14
    go_wp2_with fail
    refine (lwords_any _ _ _).mono ?_
    rintro e w1 ⟨rfl, hww⟩
    subst w1
    go_wp2_with fail
    go_ret
    exact ⟨_, rfl, HR.out H.out, HB0.out⟩

theorem top1_any (i : Int) (w : World) :
    Calls Try.prog 47 #[.int .i64 i] w fun e w' => e = .returned (.int .u64 ((1 : Nat) : Int)) ∧ Below w.heap.size w w' := by
  go_enter Try.func47, Try.ntmps47
  go_wp2
  go_ret
  exact ⟨rfl, Below.refl _ _⟩

set_option maxHeartbeats 1600000 in
set_option maxRecDepth 100000 in
theorem top_any (what width : Int) (w : World) :
    Calls Try.prog 16 #[.int .i64 what, .int .i64 width] w fun e w' => ∃ v, e = .returned v ∧ Ws w' v (topE what width) ∧ Below w.heap.size w w' := by
  have hn := wordsN_le what width
  have hmk := make_u64 (wordsN what width) (wordsN what width) rfl (by omega)
  have rest : ∀ h : topE what width = List.replicate (wordsN what width) 0, Ws (w.alloc (.cells (Array.replicate (wordsN what width) (Value.int .u64 0)) 29)) (.slice (some ⟨w.heap.size, 0, none⟩) (wordsN what width) (wordsN what width)) (topE what width) := fun h => by
    rw [h]; exact (zeros_bk' w _).ws List.length_replicate (zeros_lt _)
  have HR := Lib.hid rest
  have HB0 := Lib.hid ((Below.refl w.heap.size w).alloc (Nat.le_refl _) (.cells (Array.replicate (wordsN what width) (Value.int .u64 0)) 29))
  clear rest
  by_cases h1 : what = 1
  · subst h1
    go_enter Try.func16, Try.ntmps16
    go_wp2_with fail
    refine (lis_any _ _ _).mono ?_
    rintro e w1 ⟨rfl, hww⟩
    subst w1
    cases hL : isL 1 width with
    | true =>
      have H := Lib.hid (show topE 1 width = fullE width by unfold topE; rw [if_pos ⟨rfl, hL⟩])
      clear hL
      go_wp2_with fail
      refine (full_any _ _).mono ?_
      rintro e w3 ⟨u, rfl, hW, hB⟩
      have HW := Lib.hid hW
      have HB := Lib.hid hB
      obtain ⟨p3, c3, rfl⟩ := ws_len hW
      clear hW hB
      go_wp2_with fail
      go_ret
      exact ⟨_, rfl, by rw [H.out]; exact HW.out, HB.out⟩
    | false =>
      have H := Lib.hid (show topE 1 width = List.replicate (wordsN 1 width) 0 by unfold topE; rw [hL, if_neg (by simp), if_neg (by decide)])
      clear hL
      go_wp2_with fail
      refine (lwords_any _ _ _).mono ?_
      rintro e w1 ⟨rfl, hww⟩
      subst w1
      go_wp2_with fail
      go_ret
      exact ⟨_, rfl, HR.out H.out, HB0.out⟩
  · by_cases h3 : what = 3
    · subst h3
      have H := Lib.hid (show topE 3 width = (List.range (wordsN 3 width)).map fun _ => 1 by
        unfold topE; rw [if_neg (by omega), if_pos rfl]
        refine List.ext_getElem (by simp) fun i h1 h2 => by simp)
      clear h1
      go_enter Try.func16, Try.ntmps16
      go_wp2_with fail
      refine (mkwords_any 47 #[] (fun _ => 1) _ _ _ (enters_of Try.func47 (by kernel_rfl) rfl) (fun i w1 _ _ => top1_any i w1) (fun _ _ => by decide)).mono ?_
      rintro e w3 ⟨u, rfl, hW, hB⟩
      rw [← H.out] at hW
      have HW := Lib.hid hW
      have HB := Lib.hid hB
      obtain ⟨p3, c3, rfl⟩ := ws_len hW
      clear hW hB
      go_wp2_with fail
      go_ret
      exact ⟨_, rfl, HW.out, HB.out⟩
    · have H := Lib.hid (show topE what width = List.replicate (wordsN what width) 0 by unfold topE; rw [if_neg (by omega), if_neg h3])
      have e1 : (what == 1) = false := by simpa using h1
      have e3 : (what == 3) = false := by simpa using h3
      clear h1 h3
      go_enter Try.func16, Try.ntmps16
      go_wp2_with fail
      refine (lwords_any _ _ _).mono ?_
      rintro e w1 ⟨rfl, hww⟩
      subst w1
      go_wp2_with fail
      go_ret
      exact ⟨_, rfl, HR.out H.out, HB0.out⟩

end Go.Proofs.Ytflkelnfdoihlaa

/-
  lattice.Is, check, Join, Below, Rank: contracts.
-/
namespace Go.Proofs.Ytflkelnfdoihlaa
open Go.RowKit

theorem souN_is (x : Nat) : (isn (x : Int) || decide ((x : Int) = 0 ∨ (x : Int) = 1)) = souN x := by
  unfold souN sou
  by_cases h : isn (x : Int) = true
  · rw [h, if_pos rfl]; simp
  · rw [if_neg h, Bool.eq_false_iff.2 h, Bool.false_or]
    rw [Bool.eq_iff_iff, decide_eq_true_eq, beq_iff_eq]
    split <;> omega
theorem all_at {p : Nat → Bool} {a : List Nat} (h : ∀ i, i < a.length → p (wAt a i) = true) : a.all p = true := by
  rw [List.all_eq_true]
  intro z hz
  obtain ⟨i, hi, rfl⟩ := List.getElem_of_mem hz
  have := h i hi
  unfold wAt at this
  rwa [List.getElem?_eq_getElem hi] at this
theorem all_not {p : Nat → Bool} {a : List Nat} {i : Nat} (hi : i < a.length) (h : p (wAt a i) = false) : a.all p = false := by
  rw [Bool.eq_false_iff]
  intro h2
  rw [List.all_eq_true] at h2
  have := h2 _ (List.getElem_mem hi)
  unfold wAt at h
  rw [List.getElem?_eq_getElem hi] at h
  rw [show (some a[i]).getD 0 = a[i] from rfl] at h
  rw [h] at this; cases this

set_option maxHeartbeats 3200000 in
set_option maxRecDepth 100000 in
theorem lval_any (what width : Int) (v : Value) (a : List Nat) (w : World) (hw : Ws w v a) (hx : a.length ≤ 100000) :
    Calls Try.prog 18 #[.int .i64 what, .int .i64 width, v] w fun e w' => e = .returned (.bool (valueE what width a)) ∧ Below w.heap.size w w' := by
  have hn := wordsN_le what width
  have HZ := Lib.hid hw.1
  have HW := Lib.hid hw
  obtain ⟨p, c, rfl, hc⟩ := ws_row hw
  have HC := Lib.hid hc
  have B0 := Lib.hid (Below.refl w.heap.size w)
  clear hw hc
  go_enter Try.func18, Try.ntmps18
  go_wp2_with fail
  refine (lis_any _ _ _).mono ?_
  rintro e w1 ⟨rfl, hww⟩
  subst w1
  cases hL : isL what width with
  | false =>
    have H := Lib.hid (show valueE what width a = false by unfold valueE; rw [hL]; rfl)
    clear hL
    go_wp2_with fail
    go_ret
    exact ⟨ret_bool H.out.symm, B0.out⟩
  | true =>
    have HL := Lib.hid hL
    clear hL
    go_wp2_with fail
    refine (lwords_any _ _ _).mono ?_
    rintro e w1 ⟨rfl, hww⟩
    subst w1
    by_cases hl : a.length = wordsN what width
    · have hb : ((a.length : Int) != ((wordsN what width : Nat) : Int)) = false := by simp; omega
      have Hl := Lib.hid hl
      clear hl
      by_cases h3 : what = 3
      · subst h3
        have H1 := Lib.hid (show (∀ i, i < a.length → souN (wAt a i) = true) → valueE 3 width a = true from fun h => by
          unfold valueE; rw [HL.out, decide_eq_true Hl.out, if_pos rfl, all_at h]; rfl)
        have H0 := Lib.hid (show ∀ i, i < a.length → souN (wAt a i) = false → valueE 3 width a = false from fun i hi h => by
          unfold valueE; rw [if_pos rfl, all_not hi h]; simp)
        go_wp2_with fail
        go_loopw [28] (fun i wr => ∃ k : Nat, k ≤ a.length ∧ i = .int .i64 k ∧ Hid (∀ i, i < k → souN (wAt a i) = true) ∧ Below w.heap.size w wr)
          (fun i _ => a.length - (intOf i).toNat)
        case atStart => exact ⟨0, Nat.zero_le _, rfl, Lib.hid (fun i h => by omega), B0.out⟩
        case round =>
          obtain ⟨k, hk, rfl, HA, hB⟩ := hrel
          have HB := Lib.hid hB
          clear hB
          by_cases hlt : k < a.length
          · obtain ⟨ad, rfl, q⟩ := HC.out (by omega)
            have hck := keepc (q k hlt) HB.out
            rw [show a[k]?.getD 0 = wAt a k from rfl] at hck
            have H0k := Lib.hid (H0.out k hlt)
            have HS := Lib.hid (show souN (wAt a k) = true → ∀ i, i < k + 1 → souN (wAt a i) = true from fun e i hi => by
              rcases (show i < k ∨ i = k by omega) with h | rfl
              · exact HA.out i h
              · exact e)
            have hz := wAt_lt HZ.out k
            clear q
            generalize wAt a k = z at *
            go_wp2_with fail
            refine (is_any z _ (by omega)).mono ?_
            rintro e w2 ⟨rfl, hB2⟩
            have HB2 := Lib.hid (HB.out.trans (hB2.mono HB.out.size))
            clear hB2
            rw [souN_is]
            cases hs : souN z with
            | true =>
              have HS2 := Lib.hid (HS.out hs)
              clear hs
              go_wp2_with fail
              go_roundw
              case rel => exact ⟨k + 1, by omega, by go_num, HS2, HB2.out⟩
              case measure => simp [intOf]; omega
            | false =>
              have HV := Lib.hid (H0k.out hs)
              clear hs
              go_wp2_with fail
              go_ret
              exact ⟨ret_bool HV.out.symm, HB2.out⟩
          · obtain rfl : k = a.length := by omega
            have HV := Lib.hid (H1.out HA.out)
            go_wp2_with fail
            go_ret
            exact ⟨ret_bool HV.out.symm, HB.out⟩
      · have hne : (what != 3) = true := by simp; omega
        have HV := Lib.hid (show valueE what width a = fitsE a width by
          unfold valueE; rw [HL.out, decide_eq_true Hl.out, if_neg h3]; rfl)
        have hl16 : a.length ≤ 1000 := by
          have h1 := Hl.out
          have h2 : wordsN what width = sizeE width := by unfold wordsN; rw [if_pos HL.out, if_neg h3]
          have := sizeE_le width
          omega
        clear h3
        go_wp2_with fail
        refine (fits_any _ _ _ _ HW.out hl16).mono ?_
        rintro e w2 ⟨rfl, hB2⟩
        have HB2 := Lib.hid hB2
        clear hB2
        rw [← HV.out]
        go_wp2_with fail
        go_ret
        exact ⟨rfl, HB2.out⟩
    · have hb : ((a.length : Int) != ((wordsN what width : Nat) : Int)) = true := by simp; omega
      have HV := Lib.hid (show valueE what width a = false by unfold valueE; rw [decide_eq_false hl]; simp)
      clear hl
      go_wp2_with fail
      go_ret
      exact ⟨ret_bool HV.out.symm, B0.out⟩

/-! ### Lists of values -/
def lsAt (ls : List (List Nat)) (j : Nat) : List Nat := ls[j]?.getD []
/-- A slice of slices of words that reads as these lists. -/
def Sets (w : World) (v : Value) (ls : List (List Nat)) : Prop :=
  ∃ b c, v = .slice (some ⟨b, 0, none⟩) ls.length c ∧ ∀ j, j < ls.length → ∃ u, w.cell? ⟨b, j, none⟩ = some u ∧ Ws w u (lsAt ls j)
theorem Sets.below {w w' : World} {v : Value} {ls : List (List Nat)} (h : Sets w v ls) (k : Below w.heap.size w w') : Sets w' v ls := by
  obtain ⟨b, c, rfl, hc⟩ := h
  refine ⟨b, c, rfl, fun j hj => ?_⟩
  obtain ⟨u, h1, h2⟩ := hc j hj
  exact ⟨u, keepc h1 k, h2.below k⟩
theorem Sets.two {w : World} {u v : Value} {a b : List Nat} (t : TypeId) (hu : Ws w u a) (hv : Ws w v b) : Sets (w.alloc (.cells #[u, v] t)) (.slice (some ⟨w.heap.size, 0, none⟩) 2 2) [a, b] := by
  have hB : Below w.heap.size w (w.alloc (.cells #[u, v] t)) := (Below.refl _ _).alloc (Nat.le_refl _) _
  have h : Bk (w.alloc (.cells #[u, v] t)) w.heap.size t [u, v] := Bk.new _ _ _
  refine ⟨_, _, rfl, fun j hj => ?_⟩
  rcases j with _ | _ | j
  · exact ⟨u, by rw [h.cell]; rfl, hu.below hB⟩
  · exact ⟨v, by rw [h.cell]; rfl, hv.below hB⟩
  · simp at hj; omega
theorem Sets.one {w : World} {u : Value} {a : List Nat} (t : TypeId) (hu : Ws w u a) : Sets (w.alloc (.cells #[u] t)) (.slice (some ⟨w.heap.size, 0, none⟩) 1 1) [a] := by
  have hB : Below w.heap.size w (w.alloc (.cells #[u] t)) := (Below.refl _ _).alloc (Nat.le_refl _) _
  have h : Bk (w.alloc (.cells #[u] t)) w.heap.size t [u] := Bk.new _ _ _
  refine ⟨_, _, rfl, fun j hj => ?_⟩
  rcases j with _ | j
  · exact ⟨u, by rw [h.cell]; rfl, hu.below hB⟩
  · simp at hj
def checkE (what width : Int) (ls : List (List Nat)) : Int := if isL what width = true then (if ls.all (valueE what width) = true then 0 else 2) else 10

set_option maxHeartbeats 3200000 in
set_option maxRecDepth 100000 in
theorem check_any (what width : Int) (v : Value) (ls : List (List Nat)) (w : World) (hw : Sets w v ls) (hx : ∀ a ∈ ls, a.length ≤ 100000) (hn : ls.length ≤ 1000) :
    Calls Try.prog 52 #[.int .i64 what, .int .i64 width, v] w fun e w' => e = .returned (.int .i64 (checkE what width ls)) ∧ Below w.heap.size w w' := by
  obtain ⟨b, c, rfl, hc⟩ := hw
  have HX := Lib.hid hx
  have HC := Lib.hid hc
  have B0 := Lib.hid (Below.refl w.heap.size w)
  clear hc hx
  go_enter Try.func52, Try.ntmps52
  go_wp2_with fail
  refine (lis_any _ _ _).mono ?_
  rintro e w1 ⟨rfl, hww⟩
  subst w1
  cases hL : isL what width with
  | false =>
    have H := Lib.hid (show checkE what width ls = 10 by unfold checkE; rw [hL, if_neg (by decide)])
    clear hL
    go_wp2_with fail
    go_ret
    exact ⟨ret_int H.out.symm, B0.out⟩
  | true =>
    have H1 := Lib.hid (show (∀ j, j < ls.length → valueE what width (lsAt ls j) = true) → checkE what width ls = 0 from fun h => by
      unfold checkE; rw [hL, if_pos rfl, if_pos]
      rw [List.all_eq_true]
      intro z hz
      obtain ⟨i, hi, rfl⟩ := List.getElem_of_mem hz
      have := h i hi
      unfold lsAt at this
      rwa [List.getElem?_eq_getElem hi] at this)
    have H0 := Lib.hid (show ∀ j, j < ls.length → valueE what width (lsAt ls j) = false → checkE what width ls = 2 from fun j hj h => by
      unfold checkE; rw [hL, if_pos rfl, if_neg]
      rw [List.all_eq_true]
      intro h2
      have := h2 _ (List.getElem_mem hj)
      unfold lsAt at h
      rw [List.getElem?_eq_getElem hj] at h
      rw [show (some ls[j]).getD [] = ls[j] from rfl] at h
      rw [h] at this; cases this)
    clear hL
    go_wp2_with fail
    go_loopw [15] (fun i wr => ∃ k : Nat, k ≤ ls.length ∧ i = .int .i64 k ∧ Hid (∀ i, i < k → valueE what width (lsAt ls i) = true) ∧ Below w.heap.size w wr)
      (fun i _ => ls.length - (intOf i).toNat)
    case atStart => exact ⟨0, Nat.zero_le _, rfl, Lib.hid (fun i h => by omega), B0.out⟩
    case round =>
      obtain ⟨k, hk, rfl, HA, hB⟩ := hrel
      have HB := Lib.hid hB
      clear hB
      by_cases hlt : k < ls.length
      · obtain ⟨u, hu, hW⟩ := HC.out k hlt
        have hck := keepc hu HB.out
        have HW := Lib.hid (hW.below HB.out)
        have HXk := Lib.hid (show (lsAt ls k).length ≤ 100000 by
          have := HX.out _ (List.getElem_mem hlt)
          unfold lsAt; rw [List.getElem?_eq_getElem hlt]; exact this)
        have H0k := Lib.hid (H0.out k hlt)
        have HS := Lib.hid (show valueE what width (lsAt ls k) = true → ∀ i, i < k + 1 → valueE what width (lsAt ls i) = true from fun e i hi => by
          rcases (show i < k ∨ i = k by omega) with h | rfl
          · exact HA.out i h
          · exact e)
        obtain ⟨p3, c3, rfl⟩ := ws_len hW
        clear hu hW
        generalize lsAt ls k = a at *
        go_wp2_with fail
        refine (lval_any _ _ _ a _ HW.out HXk.out).mono ?_
        rintro e w2 ⟨rfl, hB2⟩
        have HB2 := Lib.hid (HB.out.trans (hB2.mono HB.out.size))
        clear hB2
        cases hs : valueE what width a with
        | true =>
          have HS2 := Lib.hid (HS.out hs)
          clear hs
          go_wp2_with fail
          go_roundw
          case rel => exact ⟨k + 1, by omega, by go_num, HS2, HB2.out⟩
          case measure => simp [intOf]; omega
        | false =>
          have HV := Lib.hid (H0k.out hs)
          clear hs
          go_wp2_with fail
          go_ret
          exact ⟨ret_int HV.out.symm, HB2.out⟩
      · obtain rfl : k = ls.length := by omega
        have HV := Lib.hid (H1.out HA.out)
        go_wp2_with fail
        go_ret
        exact ⟨ret_int HV.out.symm, HB.out⟩

end Go.Proofs.Ytflkelnfdoihlaa

/-
  lattice.Join, Below, Rank: contracts.
-/
namespace Go.Proofs.Ytflkelnfdoihlaa
open Go.RowKit

set_option maxHeartbeats 3200000 in
set_option maxRecDepth 100000 in
theorem join1_any (what : Int) (i : Nat) (g1 g2 g3 : Nat) (v1 v2 : Value) (a b : List Nat) (w : World) (hw : w.cell? ⟨g1, 0, none⟩ = some (.int .i64 what)) (ha : w.cell? ⟨g2, 0, none⟩ = some v1) (hb : w.cell? ⟨g3, 0, none⟩ = some v2)
    (h1 : Ws w v1 a) (h2 : Ws w v2 b) (hi : i < a.length) (hj : i < b.length) (hn : a.length ≤ 100000) (hm : b.length ≤ 100000) :
    Calls Try.prog 53 #[.int .i64 (i : Nat), .pointer (some ⟨g1, 0, none⟩), .pointer (some ⟨g2, 0, none⟩), .pointer (some ⟨g3, 0, none⟩)] w fun e w' => e = .returned (.int .u64 (wordE what (wAt a i) (wAt b i) : Nat)) ∧ Below w.heap.size w w' := by
  have hx := wAt_lt h1.1 i
  have hy := wAt_lt h2.1 i
  obtain ⟨p1, c1, rfl, q1⟩ := ws_row h1
  obtain ⟨p2, c2, rfl, q2⟩ := ws_row h2
  obtain ⟨a1, rfl, r1⟩ := q1 (by omega)
  obtain ⟨a2, rfl, r2⟩ := q2 (by omega)
  have e1 : w.cell? (a1.add i) = some (.int .u64 (wAt a i : Nat)) := r1 i hi
  have e2 : w.cell? (a2.add i) = some (.int .u64 (wAt b i : Nat)) := r2 i hj
  have H := Lib.hid (And.intro hw (And.intro ha (And.intro hb (And.intro e1 e2))))
  have hii : (i : Int) < a.length := by omega
  have hij : (i : Int) < b.length := by omega
  clear hw ha hb e1 e2 q1 q2 r1 r2 h1 h2
  generalize wAt a i = x at *
  generalize wAt b i = y at *
  go_enter Try.func53, Try.ntmps53
  go_wp2_with fail
  go_region_held3 (fun w' => w'.cell? ⟨g1, 0, none⟩ = some (.int .i64 what) ∧ w'.cell? ⟨g2, 0, none⟩ = some (.slice (some a1) a.length c1) ∧ w'.cell? ⟨g3, 0, none⟩ = some (.slice (some a2) b.length c2) ∧ w'.cell? (a1.add i) = some (.int .u64 (x : Nat)) ∧ w'.cell? (a2.add i) = some (.int .u64 (y : Nat)) ∧ Below w.heap.size w w')
    (first
      | exact ⟨H.out.1, H.out.2.1, H.out.2.2.1, H.out.2.2.2.1, H.out.2.2.2.2, (Below.refl _ _).drew⟩
      | (go_split_ands; exact ⟨keepc (by assumption) hB, keepc (by assumption) hB, keepc (by assumption) hB, keepc (by assumption) hB, keepc (by assumption) hB, bel_then (by assumption) hB⟩))
    (first
      | (go_at_call 24; refine (lword_any what x y _ hx hy).mono ?_; rintro e w' ⟨rfl, hB⟩))
  all_goals
    go_split_ands
    go_wp2_with fail
    go_ret
    exact ⟨rfl, by assumption⟩

theorem check_zero {what width : Int} {ls : List (List Nat)} (h : checkE what width ls = 0) : isL what width = true ∧ ∀ a ∈ ls, valueE what width a = true := by
  unfold checkE at h
  split at h
  · next hL =>
    split at h
    · next ha => exact ⟨hL, List.all_eq_true.1 ha⟩
    · omega
  · omega
theorem range_both (what : Int) {a b : List Nat} {n : Nat} (ha : a.length = n) (hb : b.length = n) : (List.range n).map (fun i => wordE what (wAt a i) (wAt b i)) = joinE what a b := by
  unfold joinE bothE
  rw [show max a.length b.length = n by omega]

set_option maxHeartbeats 3200000 in
set_option maxRecDepth 100000 in
theorem ljoin_any (what width : Int) (v1 v2 : Value) (a b : List Nat) (w : World) (h1 : Ws w v1 a) (h2 : Ws w v2 b) (hn : a.length ≤ 100000) (hm : b.length ≤ 100000) :
    Calls Try.prog 22 #[.int .i64 what, .int .i64 width, v1, v2] w fun e w' =>
      ∃ u, e = .returned (.tuple #[u, .int .i64 (checkE what width [a, b])]) ∧ Ws w' u (if checkE what width [a, b] = 0 then joinE what a b else []) ∧ Below w.heap.size w w' := by
  have H1 := Lib.hid h1
  have H2 := Lib.hid h2
  obtain ⟨p1, c1, rfl⟩ := ws_len h1
  obtain ⟨p2, c2, rfl⟩ := ws_len h2
  clear h1 h2
  go_enter Try.func22, Try.ntmps22
  go_wp2_with fail
  have K1 := Lib.hid ((((Bk.new w 3 [.int .i64 what]).alloc (.cells #[.slice p1 a.length c1] 22)).alloc (.cells #[.slice p2 b.length c2] 22)).alloc (.cells #[.slice p1 a.length c1, .slice p2 b.length c2] 22))
  have K2 := Lib.hid (((Bk.new' (w.alloc (.cells #[.int .i64 what] 3)) 22 [.slice p1 a.length c1] (g := w.heap.size + 1) (by simp)).alloc (.cells #[.slice p2 b.length c2] 22)).alloc (.cells #[.slice p1 a.length c1, .slice p2 b.length c2] 22))
  have K3 := Lib.hid ((Bk.new' ((w.alloc (.cells #[.int .i64 what] 3)).alloc (.cells #[.slice p1 a.length c1] 22)) 22 [.slice p2 b.length c2] (g := w.heap.size + 1 + 1) (by simp)).alloc (.cells #[.slice p1 a.length c1, .slice p2 b.length c2] 22))
  have B3 : Below w.heap.size w (((w.alloc (.cells #[.int .i64 what] 3)).alloc (.cells #[.slice p1 a.length c1] 22)).alloc (.cells #[.slice p2 b.length c2] 22)) :=
    (((Below.refl _ w).alloc (Nat.le_refl _) _).alloc (by simp) _).alloc (by simp; omega) _
  have hS := Sets.two 22 (H1.out.below B3) (H2.out.below B3)
  have B4 := Lib.hid (B3.alloc (by simp; omega) (.cells #[.slice p1 a.length c1, .slice p2 b.length c2] 22))
  simp only [World.size_alloc] at hS
  refine (check_any what width _ [a, b] _ hS (by simp; omega) (by simp)).mono ?_
  rintro e w5 ⟨rfl, hB⟩
  have B5 := Lib.hid (B4.out.trans (hB.mono B4.out.size))
  have K1 := Lib.hid (K1.out.below hB)
  have K2 := Lib.hid (K2.out.below hB)
  have K3 := Lib.hid (K3.out.below hB)
  have H1' := Lib.hid (H1.out.below B5.out)
  have H2' := Lib.hid (H2.out.below B5.out)
  clear hS hB B3 B4
  have HCE := Lib.hid (@check_zero what width [a, b])
  have hc1 := K1.out.cell 0
  have hc2 := K2.out.cell 0
  have hc3 := K3.out.cell 0
  by_cases h0 : checkE what width [a, b] = 0
  · have HZ0 := Lib.hid h0
    rw [h0]
    obtain ⟨hL, hv⟩ := HCE.out h0
    have va := value_len (hv a (by simp))
    have vb := value_len (hv b (by simp))
    have HR := Lib.hid (range_both what va vb)
    have la := Lib.hid va
    have lb := Lib.hid vb
    clear HCE hv hL h0 va vb
    go_wp2_with fail
    refine (mkwords_any 53 #[.pointer (some ⟨w.heap.size, 0, none⟩), .pointer (some ⟨w.heap.size + 1, 0, none⟩), .pointer (some ⟨w.heap.size + 1 + 1, 0, none⟩)] (fun i => wordE what (wAt a i) (wAt b i)) what width _ (enters_of Try.func53 (by kernel_rfl) rfl)
      (fun i w1 hi hB => by
        have := la.out
        have := lb.out
        exact join1_any what i _ _ _ _ _ a b w1 ((K1.out.below hB).cell 0) ((K2.out.below hB).cell 0) ((K3.out.below hB).cell 0) (H1'.out.below hB) (H2'.out.below hB) (by omega) (by omega) hn hm)
      (fun i _ => wordE_lt what _ _ (wAt_lt H1'.out.1 i) (wAt_lt H2'.out.1 i))).mono ?_
    rintro e w6 ⟨u, rfl, hW, hB⟩
    rw [HR.out] at hW
    have HW := Lib.hid hW
    have B6 := Lib.hid (B5.out.trans (hB.mono B5.out.size))
    obtain ⟨p3, c3, rfl⟩ := ws_len hW
    clear hW hB
    go_wp2_with fail
    go_ret2
    exact ⟨_, rfl, HW.out, B6.out⟩
  · have HZ0 := Lib.hid h0
    have hb : (checkE what width [a, b] != 0) = true := by simp; omega
    obtain ⟨ce, hce⟩ : ∃ ce, ce = checkE what width [a, b] := ⟨_, rfl⟩
    have HCe := Lib.hid hce
    rw [← hce] at hb ⊢
    clear HCE h0 hce
    go_wp2_with fail
    go_ret2
    exact ⟨.slice none 0 0, by rw [HCe.out]; rfl, ⟨by simp, .inl ⟨rfl, rfl⟩⟩, B5.out⟩

theorem lbelow_val {what width : Int} {a b : List Nat} (va : valueE what width a = true) (vb : valueE what width b = true) (h : ∀ i, i < a.length → wordE what (wAt a i) (wAt b i) = wAt b i) : belowE what a b = true := by
  rw [belowE_iff what (by rw [value_len va, value_len vb])]
  intro i
  by_cases hi : i < a.length
  · exact h i hi
  · have e1 : wAt a i = 0 := by unfold wAt; rw [List.getElem?_eq_none (by omega)]; rfl
    have e2 : wAt b i = 0 := by unfold wAt; rw [List.getElem?_eq_none (by have := value_len va; have := value_len vb; omega)]; rfl
    rw [e1, e2]; exact wordE_zero what
theorem lbelow_not {what width : Int} {a b : List Nat} (va : valueE what width a = true) (vb : valueE what width b = true) (i : Nat) (h : wordE what (wAt a i) (wAt b i) ≠ wAt b i) : belowE what a b = false := by
  rw [Bool.eq_false_iff]
  intro h2
  rw [belowE_iff what (by rw [value_len va, value_len vb])] at h2
  exact h (h2 i)

set_option maxHeartbeats 6400000 in
set_option maxRecDepth 100000 in
theorem lbelow_any (what width : Int) (v1 v2 : Value) (a b : List Nat) (w : World) (h1 : Ws w v1 a) (h2 : Ws w v2 b) (hn : a.length ≤ 100000) (hm : b.length ≤ 100000) :
    Calls Try.prog 27 #[.int .i64 what, .int .i64 width, v1, v2] w fun e w' => e = .returned (.bool (decide (checkE what width [a, b] = 0) && belowE what a b)) ∧ Below w.heap.size w w' := by
  have H1 := Lib.hid h1
  have H2 := Lib.hid h2
  have hS := Sets.two 22 h1 h2
  obtain ⟨p1, c1, rfl, q1⟩ := ws_row h1
  obtain ⟨p2, c2, rfl, q2⟩ := ws_row h2
  have C1 := Lib.hid q1
  have C2 := Lib.hid q2
  have HS := Lib.hid hS
  have B0 := Lib.hid ((Below.refl w.heap.size w).alloc (Nat.le_refl _) (.cells #[.slice p1 a.length c1, .slice p2 b.length c2] 22))
  clear h1 h2 hS q1 q2
  go_enter Try.func27, Try.ntmps27
  go_wp2_with fail
  refine (check_any what width _ [a, b] _ HS.out (by simp; omega) (by simp)).mono ?_
  rintro e w1 ⟨rfl, hB⟩
  have B1 := Lib.hid (B0.out.trans (hB.mono B0.out.size))
  clear hB HS B0
  by_cases h0 : checkE what width [a, b] = 0
  · have HZ0 := Lib.hid h0
    obtain ⟨hL, hv⟩ := check_zero h0
    have va := hv a (by simp)
    have vb := hv b (by simp)
    have hab : a.length = b.length := by rw [value_len va, value_len vb]
    have HT := Lib.hid (fun h => lbelow_val va vb h)
    have HF := Lib.hid (fun i h => lbelow_not va vb i h)
    have HAB := Lib.hid hab
    rw [h0]
    clear hv hL h0 va vb hab
    go_wp2_with fail
    go_loopw [19] (fun i wr => ∃ k : Nat, k ≤ a.length ∧ i = .int .i64 k ∧ Hid (∀ i, i < k → wordE what (wAt a i) (wAt b i) = wAt b i) ∧ Below w.heap.size w wr)
      (fun i _ => a.length - (intOf i).toNat)
    case atStart => exact ⟨0, Nat.zero_le _, rfl, Lib.hid (fun i h => by omega), B1.out⟩
    case round =>
      obtain ⟨k, hk, rfl, HA, hB⟩ := hrel
      have HB := Lib.hid hB
      clear hB
      by_cases hlt : k < a.length
      · obtain ⟨a1, rfl, r1⟩ := C1.out (by omega)
        have hltb : k < b.length := by have := HAB.out; omega
        obtain ⟨a2, rfl, r2⟩ := C2.out (by omega)
        have e1 : wr.cell? (a1.add k) = some (.int .u64 (wAt a k : Nat)) := keepc (r1 k hlt) HB.out
        have e2 : wr.cell? (a2.add k) = some (.int .u64 (wAt b k : Nat)) := keepc (r2 k hltb) HB.out
        have HE := Lib.hid (And.intro e1 e2)
        have hii : (k : Int) < a.length := by omega
        have hij : (k : Int) < b.length := by omega
        have HFk := Lib.hid (HF.out k)
        have HSn := Lib.hid (show wordE what (wAt a k) (wAt b k) = wAt b k → ∀ i, i < k + 1 → wordE what (wAt a i) (wAt b i) = wAt b i from fun e i hi => by
          rcases (show i < k ∨ i = k by omega) with h | rfl
          · exact HA.out i h
          · exact e)
        have hx := wAt_lt H1.out.1 k
        have hy := wAt_lt H2.out.1 k
        clear r1 r2 e1 e2
        generalize wAt a k = x at *
        generalize wAt b k = y at *
        go_upto_if 36 with (fail)
        go_cut [36] from 22 to 36 (fun v wx => v = .bool (((wordE what x y : Nat) : Int) != ((y : Nat) : Int)) ∧ Below w.heap.size w wx)
        case first =>
          go_region_held3 (fun w' => w'.cell? (a1.add k) = some (.int .u64 (x : Nat)) ∧ w'.cell? (a2.add k) = some (.int .u64 (y : Nat)) ∧ Below w.heap.size w w')
            (first
              | exact ⟨HE.out.1, HE.out.2, HB.out.drew⟩
              | (go_split_ands; exact ⟨keepc (by assumption) hB, keepc (by assumption) hB, bel_then (by assumption) hB⟩))
            (first
              | (go_at_call 24; refine (lword_any what x y _ hx hy).mono ?_; rintro e w' ⟨rfl, hB⟩))
          all_goals
            go_split_ands
            go_wp2_with fail
            go_meet
            case rel => exact ⟨rfl, by assumption⟩
        case rest =>
          obtain ⟨rfl, hB2⟩ := hcut
          have HB2 := Lib.hid hB2
          clear hB2
          by_cases hxy : wordE what x y = y
          · have HS2 := Lib.hid (HSn.out hxy)
            have hbb : (((wordE what x y : Nat) : Int) != ((y : Nat) : Int)) = false := by rw [hxy]; simp
            rw [hbb]
            clear hxy hbb
            go_wp2_with fail
            go_roundw
            case rel => exact ⟨k + 1, by omega, by go_num, HS2, HB2.out⟩
            case measure => simp [intOf]; omega
          · have HV := Lib.hid (HFk.out hxy)
            have hbb : (((wordE what x y : Nat) : Int) != ((y : Nat) : Int)) = true := by simp; omega
            rw [hbb]
            clear hxy hbb
            go_wp2_with fail
            go_ret
            exact ⟨ret_bool (by rw [HV.out, Bool.and_false]), HB2.out⟩
      · obtain rfl : k = a.length := by omega
        have HV := Lib.hid (HT.out HA.out)
        go_wp2_with fail
        go_ret
        exact ⟨ret_bool (by rw [HZ0.out, HV.out]; rfl), HB.out⟩
  · have hb : (checkE what width [a, b] != 0) = true := by simp; omega
    have HZ0 := Lib.hid h0
    obtain ⟨ce, hce⟩ : ∃ ce, ce = checkE what width [a, b] := ⟨_, rfl⟩
    rw [← hce] at hb ⊢
    clear h0 hce
    go_wp2_with fail
    go_ret
    exact ⟨ret_bool (by rw [decide_eq_false HZ0.out]; rfl), B1.out⟩

end Go.Proofs.Ytflkelnfdoihlaa

/-
  lattice.Rank; soughref12.Full, Bottom, Top, Value: contracts.
-/
namespace Go.Proofs.Ytflkelnfdoihlaa
open Go.RowKit

/-- The ranks of the first k words. -/
def crK (a : List Nat) (k : Nat) : Nat := ((List.range k).map fun i => crankN (wAt a i)).sum
theorem crK_succ (a : List Nat) (k : Nat) : crK a (k + 1) = crK a k + crankN (wAt a k) := by
  unfold crK; rw [List.range_succ, List.map_append, List.sum_append]; simp
theorem crK_all (a : List Nat) : crK a a.length = (a.map crankN).sum := (sum_at crankN a).symm
theorem crankN_le (z : Nat) : crankN z ≤ 2 := by have := crank_bd (z : Int); unfold crankN; omega
theorem crankN_int (z : Nat) : crank (z : Int) = (crankN z : Int) := by have := crank_bd (z : Int); unfold crankN; omega
theorem crK_le (a : List Nat) (k : Nat) : crK a k ≤ 2 * k := by
  induction k with
  | zero => exact Nat.le_refl _
  | succ k ih => rw [crK_succ]; have := crankN_le (wAt a k); omega

/-- What Rank tells. -/
def rankR (what width : Int) (a : List Nat) : Int := if checkE what width [a] = 0 then rankE what width a else 0
set_option maxHeartbeats 6400000 in
set_option maxRecDepth 100000 in
theorem lrank_any (what width : Int) (v : Value) (a : List Nat) (w : World) (h1 : Ws w v a) (hn : a.length ≤ 100000) :
    Calls Try.prog 23 #[.int .i64 what, .int .i64 width, v] w fun e w' =>
      e = .returned (.tuple #[.int .i64 (rankR what width a), .int .i64 (checkE what width [a])]) ∧ Below w.heap.size w w' := by
  have H1 := Lib.hid h1
  have hS := Sets.one 22 h1
  obtain ⟨p1, c1, rfl, q1⟩ := ws_row h1
  have C1 := Lib.hid q1
  have HS := Lib.hid hS
  have B0 := Lib.hid ((Below.refl w.heap.size w).alloc (Nat.le_refl _) (.cells #[.slice p1 a.length c1] 22))
  clear h1 hS q1
  go_enter Try.func23, Try.ntmps23
  go_wp2_with fail
  refine (check_any what width _ [a] _ HS.out (by simp; omega) (by simp)).mono ?_
  rintro e w1 ⟨rfl, hB⟩
  have B1 := Lib.hid (B0.out.trans (hB.mono B0.out.size))
  clear hB HS B0
  obtain ⟨ce, hce⟩ : ∃ ce, ce = checkE what width [a] := ⟨_, rfl⟩
  have HCe := Lib.hid hce
  rw [← hce]
  by_cases h0 : ce = 0
  · have HZ0 := Lib.hid (show checkE what width [a] = 0 by rw [← hce]; exact h0)
    obtain ⟨hL, hv⟩ := check_zero HZ0.out
    have HR := Lib.hid (show ∀ r, rankE what width a = r → Ending.returned (.tuple #[.int .i64 (rankR what width a), .int .i64 (checkE what width [a])]) = .returned (.tuple #[.int .i64 r, .int .i64 0]) from fun r h => by
      unfold rankR; rw [HZ0.out, if_pos rfl, h])
    have hwd : 0 ≤ width ∧ width ≤ 1024 := by simp only [isL, decide_eq_true_eq] at hL; omega
    have hk := isL_what hL
    have H1w := Lib.hid (H1.out.below B1.out)
    have hle := lenE_le a
    subst h0
    clear hce hL hv
    go_wp2_with fail
    refine (len_any _ _ _ H1w.out (by omega)).mono ?_
    rintro e w2 ⟨rfl, hww⟩
    subst w2
    obtain ⟨nl, hnl⟩ : ∃ n, n = lenE a := ⟨_, rfl⟩
    have HN := Lib.hid hnl
    rw [← hnl] at hle ⊢
    clear hnl
    rcases hk with rfl | rfl | rfl
    · go_wp2_with fail
      go_ret2
      exact ⟨(HR.out _ (by rw [HN.out]; rfl)).symm, B1.out⟩
    · go_wp2_with fail
      go_ret2
      exact ⟨(HR.out _ (by rw [HN.out]; rfl)).symm, B1.out⟩
    · go_wp2_with fail
      go_loopw [9, 32] (fun n i wr => ∃ k : Nat, k ≤ a.length ∧ i = .int .i64 k ∧ n = .int .i64 (crK a k : Nat) ∧ Below w.heap.size w wr)
        (fun _ i _ => a.length - (intOf i).toNat)
      case atStart => exact ⟨0, Nat.zero_le _, rfl, rfl, B1.out⟩
      case round =>
        obtain ⟨k, hk, rfl, rfl, hB⟩ := hrel
        have HB := Lib.hid hB
        clear hB
        by_cases hlt : k < a.length
        · obtain ⟨ad, rfl, q⟩ := C1.out (by omega)
          have hck := keepc (q k hlt) HB.out
          rw [show a[k]?.getD 0 = wAt a k from rfl] at hck
          have HS := Lib.hid (crK_succ a k)
          have hkl := crK_le a k
          have hz := wAt_lt H1.out.1 k
          have HCI := Lib.hid (crankN_int (wAt a k))
          have hc2 := crankN_le (wAt a k)
          have HRk := Lib.hid (show ((crK a k : Nat) : Int) + (crankN (wAt a k) : Nat) = ((crK a (k + 1) : Nat) : Int) by rw [HS.out]; omega)
          clear q
          obtain ⟨nx, hnx⟩ : ∃ n, n = crK a (k + 1) := ⟨_, rfl⟩
          have HNX := Lib.hid hnx
          rw [← hnx] at HRk
          clear hnx HS
          generalize crankN (wAt a k) = cr at *
          generalize wAt a k = z at *
          generalize crK a k = s at *
          go_wp2_with fail
          refine (rank_any z _ (by omega)).mono ?_
          rintro e w2 ⟨rfl, hB2⟩
          have HB2 := Lib.hid (HB.out.trans (hB2.mono HB.out.size))
          clear hB2
          rw [HCI.out]
          go_wp2_with fail
          go_roundw
          case rel => exact ⟨k + 1, by omega, by go_num, by rw [← HNX.out, ← HRk.out], HB2.out⟩
          case measure => simp [intOf]; omega
        · obtain rfl : k = a.length := by omega
          have HF := Lib.hid (show rankE 3 width a = (crK a a.length : Nat) by unfold rankE; rw [if_pos rfl, crK_all])
          go_wp2_with fail
          go_ret2
          exact ⟨(HR.out _ HF.out).symm, HB.out⟩
  · have hb : (ce != 0) = true := by simp; omega
    have HR := Lib.hid (show Ending.returned (.tuple #[.int .i64 (rankR what width a), .int .i64 (checkE what width [a])]) = .returned (.tuple #[.int .i64 0, .int .i64 ce]) by
      unfold rankR; rw [← hce, if_neg h0])
    clear h0 hce
    go_wp2_with fail
    go_ret2
    exact ⟨HR.out.symm, B1.out⟩

/-! ### The document's -/
theorem ofK_bit (width : Int) (l : List Int) (k : Nat) (hk : k ≤ l.length) : ∀ i j, i < sizeE width → j < 64 → (wAt (ofK width l k) i).testBit j = decide (((64 * i + j : Nat) : Int) ∈ l.take k ∧ ((64 * i + j : Nat) : Int) < near width) := by
  have hs := sizeE_int width
  induction k with
  | zero =>
    intro i j hi hj
    have : wAt (ofK width l 0) i = 0 := by
      show wAt (List.replicate (sizeE width) 0) i = 0
      rw [wAt_rep, ite_self]
    rw [this]
    simp
  | succ k ih =>
    intro i j hi hj
    have h := ih (by omega) i j hi hj
    rw [ofK_succ width l k (by omega), List.take_add_one, List.getElem?_eq_getElem (by omega : k < l.length)]
    generalize l[k] = n
    rw [show (some n).getD 0 = n from rfl]
    unfold ofStep
    by_cases hn : 0 ≤ n ∧ n < near width
    · rw [if_pos hn, withE_at _ _ _ (by rw [ofK_len]; omega)]
      by_cases hq : ((64 * i + j : Nat) : Int) = n
      · have h1 : i = n.toNat / 64 := by omega
        rw [if_pos h1, Nat.testBit_or, show n.toNat % 64 = j by omega, Nat.testBit_two_pow_self, Bool.or_true]
        symm
        rw [decide_eq_true_eq]
        exact ⟨by simp [hq], by omega⟩
      · have e : (decide (((64 * i + j : Nat) : Int) ∈ l.take k ++ (some n).toList ∧ ((64 * i + j : Nat) : Int) < near width)) = decide (((64 * i + j : Nat) : Int) ∈ l.take k ∧ ((64 * i + j : Nat) : Int) < near width) := by
          rw [decide_eq_decide]
          simp only [Option.toList_some, List.mem_append, List.mem_singleton, hq, or_false]
        rw [e]
        split
        · rw [Nat.testBit_or, h, Nat.testBit_two_pow_of_ne (by omega), Bool.or_false]
        · exact h
    · rw [if_neg hn, h, decide_eq_decide]
      simp only [Option.toList_some, List.mem_append, List.mem_singleton]
      constructor
      · exact fun h => ⟨.inl h.1, h.2⟩
      · rintro ⟨h1 | h1, h2⟩
        · exact ⟨h1, h2⟩
        · exact absurd ⟨by omega, by omega⟩ hn
theorem of_range (width : Int) : ofE width ((List.range width.toNat).map Int.ofNat) = fullE width := by
  have e : ofE width ((List.range width.toNat).map Int.ofNat) = ofK width ((List.range width.toNat).map Int.ofNat) ((List.range width.toNat).map Int.ofNat).length := by unfold ofK ofE; rw [List.take_length]
  rw [e]
  refine ext_words (by rw [ofK_len, fullE_len]) (ofK_lt _ _ _) (fullE_lt _) fun i hi j hj => ?_
  rw [ofK_len] at hi
  rw [ofK_bit width _ _ (Nat.le_refl _) i j hi hj, fullE_bit width i j hi hj, decide_eq_decide, List.take_length]
  have hn := near_bd width
  constructor
  · exact fun h => h.2
  · intro h
    refine ⟨List.mem_map.2 ⟨64 * i + j, List.mem_range.2 ?_, rfl⟩, h⟩
    unfold near at h
    omega

set_option maxHeartbeats 3200000 in
set_option maxRecDepth 100000 in
theorem rlfull_any (width : Int) (w : World) (h0 : 0 ≤ width ∧ width ≤ 1024) :
    Calls Try.prog 45 #[.int .i64 width] w fun e w' => ∃ v, e = .returned v ∧ Ws w' v (fullE width) ∧ Below w.heap.size w w' := by
  obtain ⟨i0, hi, hz0, hz1, hz2⟩ := info_parts int_info
  obtain ⟨n, rfl⟩ : ∃ n : Nat, width = n := ⟨width.toNat, by omega⟩
  have hn : n ≤ 1024 := by omega
  go_enter Try.func45, Try.ntmps45
  go_wp2_with fail
  go_loopw [3, 4] (fun l i wr => ∃ k : Nat, k ≤ n ∧ i = .int .i64 k ∧ wr.ownsRow w.heap.size 3 1 l k (natVs (List.range k)) ∧ Below w.heap.size w wr)
    (fun _ i _ => n - (intOf i).toNat)
  case atStart => exact ⟨0, Nat.zero_le _, rfl, World.ownsRow_nil _ _ _ _, Below.refl _ _⟩
  case round =>
    obtain ⟨k, hk, rfl, hl, hB⟩ := hrel
    have HL := Lib.hid hl
    have HB := Lib.hid hB
    clear hl hB
    by_cases hlt : k < n
    · go_wp2_with (at_builtin; refine wpList_append_own _ rfl _ _ 70 rfl w.heap.size 3 i0 (.int .i64 0) 1 8 Try.underlying70 hi hz0 hz1 hz2 rfl (by decide) _ _ _ rfl (HL.out.alloc _) ⟨wr.heap.size, 0, none⟩ 1 1 [.int .i64 k] rfl rfl ?c1 ?c2 ?c3 ?c4 ?c5 ?_)
      case c1 => exact cell_one_new _ _ _
      case c2 => simp [Value.oneCell']
      case c3 => unfold maxLen; omega
      case c4 => omega
      case c5 => have := HB.out.size; simp; omega
      intro v' w3 hown' hgrow _
      have HL' := Lib.hid (show w3.ownsRow w.heap.size 3 1 v' (k + 1) (natVs (List.range (k + 1))) by rw [List.range_succ, natVs_snoc]; exact hown')
      have HB' := Lib.hid ((HB.out.alloc (by have := HB.out.size; omega) _).grown hgrow (by have := HB.out.size; simp; omega) (fun k hk => (HL.out.lt k hk).1))
      clear hown' hgrow
      go_wp2_with fail
      go_roundw
      case rel => exact ⟨k + 1, by omega, by go_num, HL'.out, HB'.out⟩
      case measure => simp [intOf]; omega
    · obtain rfl : k = n := by omega
      have HI := Lib.hid (show IntsAt wr _ ((List.range k).map Int.ofNat) from .of_owns (by have h7 := HL.out; rw [natVs_ints] at h7; exact h7))
      have HF := Lib.hid (show ofE (k : Nat) ((List.range k).map Int.ofNat) = fullE (k : Nat) from of_range (k : Nat))
      go_wp2_with fail
      refine (rsetof_any _ _ _ _ HI.out (by simp; omega)).mono ?_
      rintro e w4 ⟨u, rfl, hW, hB⟩
      rw [HF.out] at hW
      have HW := Lib.hid hW
      have HB4 := Lib.hid (HB.out.trans (hB.mono HB.out.size))
      obtain ⟨p3, c3, rfl⟩ := ws_len hW
      clear hW hB
      go_wp2_with fail
      go_ret
      exact ⟨_, rfl, HW.out, HB4.out⟩

end Go.Proofs.Ytflkelnfdoihlaa

/-
  soughref12.Bottom, Top, Value, Join, Below, Rank: contracts.
-/
namespace Go.Proofs.Ytflkelnfdoihlaa
open Go.RowKit

theorem isL_width {what width : Int} (h : isL what width = true) : 0 ≤ width ∧ width ≤ 1024 := by
  simp only [isL, decide_eq_true_eq] at h; omega

set_option maxHeartbeats 3200000 in
set_option maxRecDepth 100000 in
theorem rbottom_any (what width : Int) (w : World) :
    Calls Try.prog 15 #[.int .i64 what, .int .i64 width] w fun e w' => ∃ v, e = .returned v ∧ Ws w' v (bottomE what width) ∧ Below w.heap.size w w' := by
  have hn := wordsN_le what width
  have hmk := make_u64 (wordsN what width) (wordsN what width) rfl (by omega)
  have rest : ∀ h : bottomE what width = List.replicate (wordsN what width) 0, Ws (w.alloc (.cells (Array.replicate (wordsN what width) (Value.int .u64 0)) 29)) (.slice (some ⟨w.heap.size, 0, none⟩) (wordsN what width) (wordsN what width)) (bottomE what width) := fun h => by
    rw [h]; exact (zeros_bk' w _).ws List.length_replicate (zeros_lt _)
  have HR := Lib.hid rest
  have HB0 := Lib.hid ((Below.refl w.heap.size w).alloc (Nat.le_refl _) (.cells (Array.replicate (wordsN what width) (Value.int .u64 0)) 29))
  clear rest
  go_enter Try.func15, Try.ntmps15
  go_wp2_with fail
  refine (rlis_any _ _ _).mono ?_
  rintro e w1 ⟨rfl, hww⟩
  subst w1
  cases hL : isL what width with
  | false =>
    have H := Lib.hid (show bottomE what width = List.replicate (wordsN what width) 0 by unfold bottomE; rw [hL, if_neg (by simp)])
    clear hL
    go_wp2_with fail
    refine (rlwords_any _ _ _).mono ?_
    rintro e w1 ⟨rfl, hww⟩
    subst w1
    go_wp2_with fail
    go_ret
    exact ⟨_, rfl, HR.out H.out, HB0.out⟩
  | true =>
    by_cases h2 : what = 2
    · subst h2
      have H := Lib.hid (show bottomE 2 width = fullE width by unfold bottomE; rw [if_pos ⟨rfl, hL⟩])
      have hwd := isL_width hL
      clear hL
      go_wp2_with fail
      refine (rlfull_any _ _ hwd).mono ?_
      rintro e w3 ⟨u, rfl, hW, hB⟩
      have HW := Lib.hid hW
      have HB := Lib.hid hB
      obtain ⟨p3, c3, rfl⟩ := ws_len hW
      clear hW hB
      go_wp2_with fail
      go_ret
      exact ⟨_, rfl, by rw [H.out]; exact HW.out, HB.out⟩
    · have H := Lib.hid (show bottomE what width = List.replicate (wordsN what width) 0 by unfold bottomE; rw [if_neg (by omega)])
      have e2 : (what == 2) = false := by simpa using h2
      clear hL h2
      go_wp2_with fail
      refine (rlwords_any _ _ _).mono ?_
      rintro e w1 ⟨rfl, hww⟩
      subst w1
      go_wp2_with fail
      go_ret
      exact ⟨_, rfl, HR.out H.out, HB0.out⟩

/-- What the document's Top has written when k places are over. -/
def tpK (what : Int) (n k : Nat) : List Nat := madeK (fun _ => if what = 3 then 1 else 0) n k
theorem tpK_same {what : Int} (h : what ≠ 3) (n k : Nat) : tpK what n k = List.replicate n 0 := by
  unfold tpK madeK
  rw [if_neg h]
  refine List.ext_getElem (by simp) fun i h1 h2 => by simp

set_option maxHeartbeats 6400000 in
set_option maxRecDepth 100000 in
theorem rtop_any (what width : Int) (w : World) :
    Calls Try.prog 17 #[.int .i64 what, .int .i64 width] w fun e w' => ∃ v, e = .returned v ∧ Ws w' v (topE what width) ∧ Below w.heap.size w w' := by
  have hn := wordsN_le what width
  have hmk := make_u64 (wordsN what width) (wordsN what width) rfl (by omega)
  have hcase : (what = 1 ∧ isL what width = true) ∨ (topE what width = tpK what (wordsN what width) (wordsN what width) ∧ ((isL what width = true ∧ what ≠ 1) ∨ isL what width = false)) := by
    by_cases h : what = 1 ∧ isL what width = true
    · exact .inl h
    · refine .inr ⟨?_, ?_⟩
      · unfold topE tpK
        rw [if_neg h, madeK_all]
        refine List.ext_getElem (by simp) fun i h1 h2 => by simp
      · cases hL : isL what width with
        | false => exact .inr rfl
        | true => exact .inl ⟨rfl, fun e => h ⟨e, hL⟩⟩
  go_enter Try.func17, Try.ntmps17
  go_wp2_with fail
  refine (rlis_any _ _ _).mono ?_
  rintro e w1 ⟨rfl, hww⟩
  subst w1
  rcases hcase with ⟨rfl, hL⟩ | ⟨hT, hq⟩
  · have H := Lib.hid (show topE 1 width = fullE width by unfold topE; rw [if_pos ⟨rfl, hL⟩])
    have hwd := isL_width hL
    rw [hL]
    clear hL hmk
    go_wp2_with fail
    refine (rlfull_any _ _ hwd).mono ?_
    rintro e w3 ⟨u, rfl, hW, hB⟩
    have HW := Lib.hid hW
    have HB := Lib.hid hB
    obtain ⟨p3, c3, rfl⟩ := ws_len hW
    clear hW hB
    go_wp2_with fail
    go_ret
    exact ⟨_, rfl, by rw [H.out]; exact HW.out, HB.out⟩
  · have HT := Lib.hid hT
    clear hT
    have hgate : isL what width = false ∨ (isL what width = true ∧ (what == 1) = false) := by
      rcases hq with ⟨h1, h2⟩ | h
      · exact .inr ⟨h1, by simpa using h2⟩
      · exact .inl h
    clear hq
    obtain ⟨n, hne⟩ : ∃ n, n = wordsN what width := ⟨_, rfl⟩
    have HNE := Lib.hid hne
    obtain ⟨bl, hbl⟩ : ∃ b, b = isL what width := ⟨_, rfl⟩
    rw [← hbl] at hgate ⊢
    rw [← hne] at hn HT hmk
    clear hne hbl
    have H0 := Lib.hid (show (bl = false ∨ (bl = true ∧ (what == 1) = false)) from hgate)
    have HW1 : ∀ w0, Calls Try.prog 12 #[.int .i64 what, .int .i64 width] w0 fun e w' => e = .returned (.int .i64 (n : Nat)) ∧ w' = w0 := fun w0 => by rw [HNE.out]; exact rlwords_any what width w0
    rcases hgate with rfl | ⟨rfl, hne1⟩
    all_goals
      go_wp2_with fail
      refine (HW1 _).mono ?_
      rintro e w1 ⟨rfl, hww⟩
      subst w1
      go_wp2_with fail
      clear hmk HW1
      go_loopw [22] (fun i wr => ∃ k : Nat, k ≤ n ∧ i = .int .i64 k ∧ Bk wr w.heap.size 29 (u64s (tpK what n k)) ∧ Below w.heap.size w wr)
        (fun i _ => n - (intOf i).toNat)
      case atStart => exact ⟨0, Nat.zero_le _, rfl, by unfold tpK; rw [madeK_zero]; first | exact zeros_bk' _ _ | exact zeros_bk _ _, (Below.refl _ _).alloc (Nat.le_refl _) _⟩
      case round =>
        obtain ⟨k, hk, rfl, hbk, hB⟩ := hrel
        have HK := Lib.hid hbk
        have HB := Lib.hid hB
        clear hbk hB
        by_cases hlt : k < n
        · by_cases h3 : what = 3
          · subst h3
            have hcell : wr.cell? ⟨w.heap.size, k, none⟩ = some (.int .u64 (wAt (tpK 3 n k) k : Nat)) := by
              rw [HK.out.cell, u64s_at _ _ (by unfold tpK; rw [madeK_len]; exact hlt)]
            have hfree := HK.out.free k
            have HBk := Lib.hid (HK.out.set k (.int .u64 ((1 : Nat) : Int)))
            rw [← u64s_set, show (tpK 3 n k).set k 1 = tpK 3 n (k + 1) from madeK_step _ n k] at HBk
            generalize wAt (tpK 3 n k) k = z at *
            go_wp2_with fail
            go_roundw
            case rel => exact ⟨k + 1, by omega, by go_num, HBk.out, HB.out.setCell (p := ⟨w.heap.size, k, none⟩) (Nat.le_refl _) _⟩
            case measure => simp [intOf]; omega
          · have e3 : (what == 3) = false := by simpa using h3
            have HK2 := HK
            rw [tpK_same h3, ← tpK_same h3 n (k + 1)] at HK2
            clear h3
            go_wp2_with fail
            go_roundw
            case rel => exact ⟨k + 1, by omega, by go_num, HK2.out, HB.out⟩
            case measure => simp [intOf]; omega
        · obtain rfl : k = n := by omega
          go_wp2_with fail
          go_ret
          refine ⟨_, rfl, ?_, HB.out⟩
          rw [HT.out]
          exact HK.out.ws (by unfold tpK; rw [madeK_len]) (by unfold tpK; rw [madeK_all]; exact made_lt fun i _ => by split <;> decide)

set_option maxHeartbeats 3200000 in
set_option maxRecDepth 100000 in
theorem rval_any (what width : Int) (v : Value) (a : List Nat) (w : World) (hw : Ws w v a) (hx : a.length ≤ 100000) :
    Calls Try.prog 19 #[.int .i64 what, .int .i64 width, v] w fun e w' => e = .returned (.bool (valueE what width a)) ∧ Below w.heap.size w w' := by
  have hn := wordsN_le what width
  have HZ := Lib.hid hw.1
  have HW := Lib.hid hw
  obtain ⟨p, c, rfl, hc⟩ := ws_row hw
  have HC := Lib.hid hc
  have B0 := Lib.hid (Below.refl w.heap.size w)
  clear hw hc
  go_enter Try.func19, Try.ntmps19
  go_wp2_with fail
  refine (rlis_any _ _ _).mono ?_
  rintro e w1 ⟨rfl, hww⟩
  subst w1
  cases hL : isL what width with
  | false =>
    have H := Lib.hid (show valueE what width a = false by unfold valueE; rw [hL]; rfl)
    clear hL
    go_wp2_with fail
    go_ret
    exact ⟨ret_bool H.out.symm, B0.out⟩
  | true =>
    have HL := Lib.hid hL
    clear hL
    go_wp2_with fail
    refine (rlwords_any _ _ _).mono ?_
    rintro e w1 ⟨rfl, hww⟩
    subst w1
    by_cases hl : a.length = wordsN what width
    · have hb : ((a.length : Int) != ((wordsN what width : Nat) : Int)) = false := by simp; omega
      have Hl := Lib.hid hl
      clear hl
      by_cases h3 : what = 3
      · subst h3
        have H1 := Lib.hid (show (∀ i, i < a.length → souN (wAt a i) = true) → valueE 3 width a = true from fun h => by
          unfold valueE; rw [HL.out, decide_eq_true Hl.out, if_pos rfl, all_at h]; rfl)
        have H0 := Lib.hid (show ∀ i, i < a.length → souN (wAt a i) = false → valueE 3 width a = false from fun i hi h => by
          unfold valueE; rw [if_pos rfl, all_not hi h]; simp)
        go_wp2_with fail
        go_loopw [28] (fun i wr => ∃ k : Nat, k ≤ a.length ∧ i = .int .i64 k ∧ Hid (∀ i, i < k → souN (wAt a i) = true) ∧ Below w.heap.size w wr)
          (fun i _ => a.length - (intOf i).toNat)
        case atStart => exact ⟨0, Nat.zero_le _, rfl, Lib.hid (fun i h => by omega), B0.out⟩
        case round =>
          obtain ⟨k, hk, rfl, HA, hB⟩ := hrel
          have HB := Lib.hid hB
          clear hB
          by_cases hlt : k < a.length
          · obtain ⟨ad, rfl, q⟩ := HC.out (by omega)
            have hck := keepc (q k hlt) HB.out
            rw [show a[k]?.getD 0 = wAt a k from rfl] at hck
            have H0k := Lib.hid (H0.out k hlt)
            have HS := Lib.hid (show souN (wAt a k) = true → ∀ i, i < k + 1 → souN (wAt a i) = true from fun e i hi => by
              rcases (show i < k ∨ i = k by omega) with h | rfl
              · exact HA.out i h
              · exact e)
            have hz := wAt_lt HZ.out k
            clear q
            generalize wAt a k = z at *
            go_wp2_with fail
            refine (norm_any z _ (by omega)).mono ?_
            rintro e w2 ⟨rfl, hB2⟩
            have HB2 := Lib.hid (HB.out.trans (hB2.mono HB.out.size))
            clear hB2
            by_cases hs : sou (z : Int) = (z : Int)
            · have HS2 := Lib.hid (HS.out (by unfold souN; rw [beq_iff_eq]; exact hs))
              have hbb : (sou (z : Int) != (z : Int)) = false := by rw [hs]; simp
              clear hs
              generalize sou (z : Int) = sz at *
              go_wp2_with fail
              go_roundw
              case rel => exact ⟨k + 1, by omega, by go_num, HS2, HB2.out⟩
              case measure => simp [intOf]; omega
            · have HV := Lib.hid (H0k.out (by unfold souN; rw [beq_eq_false_iff_ne]; exact hs))
              have hbb : (sou (z : Int) != (z : Int)) = true := by simpa using hs
              clear hs
              generalize sou (z : Int) = sz at *
              go_wp2_with fail
              go_ret
              exact ⟨ret_bool HV.out.symm, HB2.out⟩
          · obtain rfl : k = a.length := by omega
            have HV := Lib.hid (H1.out HA.out)
            go_wp2_with fail
            go_ret
            exact ⟨ret_bool HV.out.symm, HB.out⟩
      · have hne : (what != 3) = true := by simp; omega
        have HV := Lib.hid (show valueE what width a = fitsE a width by
          unfold valueE; rw [HL.out, decide_eq_true Hl.out, if_neg h3]; rfl)
        have hl16 : a.length ≤ 1000 := by
          have h1 := Hl.out
          have h2 : wordsN what width = sizeE width := by unfold wordsN; rw [if_pos HL.out, if_neg h3]
          have := sizeE_le width
          omega
        clear h3
        go_wp2_with fail
        refine (rfits_any _ _ _ _ HW.out hl16).mono ?_
        rintro e w2 ⟨rfl, hB2⟩
        have HB2 := Lib.hid hB2
        clear hB2
        rw [← HV.out]
        go_wp2_with fail
        go_ret
        exact ⟨rfl, HB2.out⟩
    · have hb : ((a.length : Int) != ((wordsN what width : Nat) : Int)) = true := by simp; omega
      have HV := Lib.hid (show valueE what width a = false by unfold valueE; rw [decide_eq_false hl]; simp)
      clear hl
      go_wp2_with fail
      go_ret
      exact ⟨ret_bool HV.out.symm, B0.out⟩

end Go.Proofs.Ytflkelnfdoihlaa

/-
  soughref12.Join, Below, Rank: contracts.
-/
namespace Go.Proofs.Ytflkelnfdoihlaa
open Go.RowKit

/-- The first k words put together. -/
def jK (what : Int) (a b : List Nat) (k : Nat) : List Nat := (List.range k).map fun i => wordE what (wAt a i) (wAt b i)
theorem jK_succ (what : Int) (a b : List Nat) (k : Nat) : jK what a b (k + 1) = jK what a b k ++ [wordE what (wAt a k) (wAt b k)] := by
  unfold jK; rw [List.range_succ, List.map_append]; rfl
theorem u64s_snoc (l : List Nat) (z : Nat) : u64s (l ++ [z]) = u64s l ++ [.int .u64 (z : Nat)] := by simp [u64s]
theorem Ws.of_owns {w : World} {base : Nat} {v : Value} {n : Nat} {a : List Nat} (h : w.ownsRow base 29 1 v n (u64s a)) (hz : ∀ z ∈ a, z < 18446744073709551616) : Ws w v a := by
  obtain ⟨hl, ⟨rfl, h0⟩ | ⟨g, cap, cur, rfl, hg, hb, hnc, hmx, hsz, hct⟩⟩ := h
  · have : a = [] := List.eq_nil_of_length_eq_zero (by simp [u64s] at hl; omega)
    subst this
    exact ⟨by simp, .inl ⟨rfl, rfl⟩⟩
  · have e : a.length = n := by simpa [u64s] using hl
    exact Ws.of_bk (show Bk w g 29 cur.toList from hb) e (by simpa using hct) hz
theorem join_words (what : Int) {a b : List Nat} (h : a.length = b.length) : jK what a b a.length = joinE what a b := by
  unfold jK joinE bothE
  rw [show max a.length b.length = a.length by omega]

set_option maxHeartbeats 6400000 in
set_option maxRecDepth 100000 in
theorem rljoin_any (what : Int) (v1 v2 : Value) (a b : List Nat) (w : World) (h1 : Ws w v1 a) (h2 : Ws w v2 b) (hn : a.length ≤ 100000) (hab : a.length = b.length) :
    Calls Try.prog 29 #[.int .i64 what, v1, v2] w fun e w' => ∃ u, e = .returned u ∧ Ws w' u (joinE what a b) ∧ Below w.heap.size w w' := by
  obtain ⟨i0, hi, hz0, hz1, hz2⟩ := info_parts u64_info
  have H1 := Lib.hid h1
  have H2 := Lib.hid h2
  have HAB := Lib.hid hab
  obtain ⟨p1, c1, rfl, q1⟩ := ws_row h1
  obtain ⟨p2, c2, rfl, q2⟩ := ws_row h2
  have C1 := Lib.hid q1
  have C2 := Lib.hid q2
  have hm : b.length ≤ 100000 := by omega
  clear h1 h2 q1 q2 hab
  go_enter Try.func29, Try.ntmps29
  go_wp2_with fail
  go_loopw [7, 11] (fun o i wr => ∃ k : Nat, k ≤ a.length ∧ i = .int .i64 k ∧ wr.ownsRow w.heap.size 29 1 o k (u64s (jK what a b k)) ∧ Below w.heap.size w wr)
    (fun _ i _ => a.length - (intOf i).toNat)
  case atStart => exact ⟨0, Nat.zero_le _, rfl, World.ownsRow_nil _ _ _ _, Below.refl _ _⟩
  case round =>
    obtain ⟨k, hk, rfl, hl, hB⟩ := hrel
    have HO := Lib.hid hl
    have HB := Lib.hid hB
    clear hl hB
    by_cases hlt : k < a.length
    · obtain ⟨a1, rfl, r1⟩ := C1.out (by omega)
      have hltb : k < b.length := by have := HAB.out; omega
      obtain ⟨a2, rfl, r2⟩ := C2.out (by omega)
      have e1 : wr.cell? (a1.add k) = some (.int .u64 (wAt a k : Nat)) := keepc (r1 k hlt) HB.out
      have e2 : wr.cell? (a2.add k) = some (.int .u64 (wAt b k : Nat)) := keepc (r2 k hltb) HB.out
      have hii : (k : Int) < a.length := by omega
      have hij : (k : Int) < b.length := by omega
      have HE := Lib.hid (jK_succ what a b k)
      have hx := wAt_lt H1.out.1 k
      have hy := wAt_lt H2.out.1 k
      clear r1 r2
      generalize wAt a k = x at *
      generalize wAt b k = y at *
      have HBn := Lib.hid ((Below.refl wr.heap.size wr).drew)
      go_wp2_with fail
      go_region_law (first
        | (refine step_append_lies _ (by rfl) _ _ _ (by rfl) w.heap.size 29 i0 (.int .u64 0) 1 8 Try.underlying22 hi hz0 hz1 hz2 rfl (by decide) _ k _ (by rfl) (HO6.out.alloc _) ⟨w6.heap.size, 0, none⟩ 1 1 [.int .u64 (wordE what x y : Nat)] (by rfl) (by rfl) (cell_one_new _ _ _) (by simp [Value.oneCell']) (by decide) (by unfold maxLen; omega) (by omega) HS6.out (w6.heap.size + 1) (by simp) ?_; intro g8 cap8 w8 hown8 hgrow8 hat8 hlt8)
        | (go_simp; go_at_call 25; refine (rlword_any what x y _ hx hy).mono ?_; rintro e w6 ⟨rfl, hB6⟩; have HB6 := Lib.hid (bel_then HBn.out hB6); have HO6 := Lib.hid (own_below HO.out HB6.out); have HS6 := Lib.hid (show w.heap.size ≤ (w6.alloc (.cells #[.int .u64 (wordE what x y : Nat)] 29)).heap.size by have h1 := HB.out.size; have h2 := HB6.out.size; simp; omega); clear hB6; go_wp2_with fail))
      all_goals
        have hsz := HB.out.size
        have hsz6 := HB6.out.size
        have HO8 := Lib.hid (show w8.ownsRow w.heap.size 29 1 (.slice (some ⟨g8, 0, none⟩) (k + 1) cap8) (k + 1) (u64s (jK what a b (k + 1))) by rw [HE.out, u64s_snoc]; exact hown8)
        have HB8 := Lib.hid (((HB.out.trans (HB6.out.mono hsz)).alloc (by omega) _).grown hgrow8 (by simp; omega) (fun k hk => (HO.out.lt k hk).1))
        clear hown8 hgrow8 hat8 hlt8
        go_wp2_with fail
        go_roundw
        case rel => exact ⟨k + 1, by omega, by go_num, HO8.out, HB8.out⟩
        case measure => simp [intOf]; omega
    · obtain rfl : k = a.length := by omega
      have HJ := Lib.hid (join_words what HAB.out)
      go_wp2_with fail
      go_ret
      refine ⟨_, rfl, ?_, HB.out⟩
      have h7 := HO.out
      rw [HJ.out] at h7
      exact Ws.of_owns h7 (join_lt H1.out.1 H2.out.1)

set_option maxHeartbeats 3200000 in
set_option maxRecDepth 100000 in
theorem rlbelow_any (what : Int) (v1 v2 : Value) (a b : List Nat) (w : World) (h1 : Ws w v1 a) (h2 : Ws w v2 b) (hn : a.length ≤ 100000) (hab : a.length = b.length) :
    Calls Try.prog 30 #[.int .i64 what, v1, v2] w fun e w' => e = .returned (.bool (belowE what a b)) ∧ Below w.heap.size w w' := by
  have H1 := Lib.hid h1
  have H2 := Lib.hid h2
  obtain ⟨p1, c1, rfl⟩ := ws_len h1
  obtain ⟨p2, c2, rfl⟩ := ws_len h2
  have hb : ((a.length : Int) == (b.length : Int)) = true := by simp; omega
  have HAB := Lib.hid hab
  have hjl := joinE_len what hab
  clear h1 h2 hab
  go_enter Try.func30, Try.ntmps30
  go_wp2_with fail
  refine (rljoin_any what _ _ a b _ H1.out H2.out hn HAB.out).mono ?_
  rintro e w1 ⟨u, rfl, hW, hB⟩
  have HW := Lib.hid hW
  have H2' := Lib.hid (H2.out.below hB)
  have HB := Lib.hid hB
  obtain ⟨p3, c3, rfl⟩ := ws_len hW
  clear hW hB
  have HJL := Lib.hid hjl
  clear hjl
  go_wp2_with fail
  refine (same_any _ _ (joinE what a b) b _ HW.out H2'.out (by have := HJL.out; omega) (by have := HAB.out; omega)).mono ?_
  rintro e w2 ⟨rfl, nq, hww⟩
  have HB2 := Lib.hid (show Below w.heap.size w w2 by rw [hww]; exact bel_drewN HB.out nq)
  clear hww
  have HE := Lib.hid (show decide (joinE what a b = b) = belowE what a b from rfl)
  rw [HE.out]
  go_wp2_with fail
  go_ret
  exact ⟨rfl, HB2.out⟩

set_option maxHeartbeats 3200000 in
set_option maxRecDepth 100000 in
theorem rlrank_any (what width : Int) (v : Value) (a : List Nat) (w : World) (h1 : Ws w v a) (hn : a.length ≤ 1000) (hwd : 0 ≤ width ∧ width ≤ 1024) :
    Calls Try.prog 28 #[.int .i64 what, .int .i64 width, v] w fun e w' => e = .returned (.int .i64 (rankE what width a)) ∧ Below w.heap.size w w' := by
  have H1 := Lib.hid h1
  obtain ⟨p1, c1, rfl, q1⟩ := ws_row h1
  have C1 := Lib.hid q1
  have B0 := Lib.hid (Below.refl w.heap.size w)
  clear h1 q1
  by_cases h3 : what = 3
  · subst h3
    go_enter Try.func28, Try.ntmps28
    go_wp2_with fail
    go_loopw [7, 14] (fun n i wr => ∃ k : Nat, k ≤ a.length ∧ i = .int .i64 k ∧ n = .int .i64 (crK a k : Nat) ∧ Below w.heap.size w wr)
      (fun _ i _ => a.length - (intOf i).toNat)
    case atStart => exact ⟨0, Nat.zero_le _, rfl, rfl, B0.out⟩
    case round =>
      obtain ⟨k, hk, rfl, rfl, hB⟩ := hrel
      have HB := Lib.hid hB
      clear hB
      by_cases hlt : k < a.length
      · obtain ⟨ad, rfl, q⟩ := C1.out (by omega)
        have hck := keepc (q k hlt) HB.out
        rw [show a[k]?.getD 0 = wAt a k from rfl] at hck
        have HS := Lib.hid (crK_succ a k)
        have hkl := crK_le a k
        have hz := wAt_lt H1.out.1 k
        have HCI := Lib.hid (crankN_int (wAt a k))
        have hc2 := crankN_le (wAt a k)
        have HRk := Lib.hid (show ((crK a k : Nat) : Int) + (crankN (wAt a k) : Nat) = ((crK a (k + 1) : Nat) : Int) by rw [HS.out]; omega)
        clear q
        obtain ⟨nx, hnx⟩ : ∃ n, n = crK a (k + 1) := ⟨_, rfl⟩
        have HNX := Lib.hid hnx
        rw [← hnx] at HRk
        clear hnx HS
        generalize crankN (wAt a k) = cr at *
        generalize wAt a k = z at *
        generalize crK a k = s at *
        go_wp2_with fail
        refine (rrank_any z _ (by omega)).mono ?_
        rintro e w2 ⟨rfl, hB2⟩
        have HB2 := Lib.hid (HB.out.trans (hB2.mono HB.out.size))
        clear hB2
        rw [HCI.out]
        go_wp2_with fail
        go_roundw
        case rel => exact ⟨k + 1, by omega, by go_num, by rw [← HNX.out, ← HRk.out], HB2.out⟩
        case measure => simp [intOf]; omega
      · obtain rfl : k = a.length := by omega
        have HF := Lib.hid (show rankE 3 width a = (crK a a.length : Nat) by unfold rankE; rw [if_pos rfl, crK_all])
        go_wp2_with fail
        go_ret
        exact ⟨ret_int HF.out.symm, HB.out⟩
  · have e3 : (what == 3) = false := by simpa using h3
    have hle := lenE_le a
    have hq : what = 2 ∨ (what == 2) = false := by
      rcases (show what = 2 ∨ what ≠ 2 by omega) with h | h
      · exact .inl h
      · exact .inr (by simpa using h)
    have HR := Lib.hid (show rankE what width a = if what = 2 then width - (lenE a : Nat) else (lenE a : Nat) by unfold rankE; rw [if_neg h3])
    clear h3
    go_enter Try.func28, Try.ntmps28
    go_wp2_with fail
    refine (rlist_any _ _ _ H1.out (by omega)).mono ?_
    rintro e w2 ⟨u, rfl, hI, hB⟩
    have HB := Lib.hid hB
    obtain ⟨o, c, rfl, _⟩ := hI
    have HL := Lib.hid (show ((setE a).map Int.ofNat).length = lenE a by rw [List.length_map, setE_len])
    rw [HL.out]
    clear hB
    obtain ⟨nl, hnl⟩ : ∃ n, n = lenE a := ⟨_, rfl⟩
    rw [← hnl] at hle HR ⊢
    clear hnl HL
    rcases hq with rfl | h2
    · go_wp2_with fail
      go_ret
      exact ⟨ret_int (by rw [HR.out]; simp), HB.out⟩
    · have H2 := Lib.hid (show ¬ what = 2 by intro e; rw [e] at h2; cases h2)
      go_wp2_with fail
      go_ret
      exact ⟨ret_int (by rw [HR.out, if_neg H2.out]), HB.out⟩

end Go.Proofs.Ytflkelnfdoihlaa

/-
  soughlaw12.awake, few: contracts; what its laws ask of Below and check.
-/
namespace Go.Proofs.Ytflkelnfdoihlaa
open Go.RowKit

theorem bel_of_drewN {w w' : World} {n : Nat} (h : w' = w.drewN n) : Below w.heap.size w w' := by
  subst h
  exact bel_drewN (Below.refl _ _) n
theorem words_same (v1 v2 : Value) (xs ys : List Nat) (w : World) (h1 : Ws w v1 xs) (h2 : Ws w v2 ys) (hx : xs.length ≤ 100000) (e : xs = ys) :
    Calls Try.prog 13 #[v1, v2] w fun e w' => e = .returned (.bool true) ∧ ∃ n, w' = w.drewN n := by
  subst e
  exact (same_any v1 v2 xs xs w h1 h2 (by omega) (by omega)).mono fun _ _ ⟨he, hn⟩ => ⟨by rw [he]; simp, hn⟩
theorem Sets.three {w : World} {u v x : Value} {a b c : List Nat} (t : TypeId) (hu : Ws w u a) (hv : Ws w v b) (hx : Ws w x c) : Sets (w.alloc (.cells #[u, v, x] t)) (.slice (some ⟨w.heap.size, 0, none⟩) 3 3) [a, b, c] := by
  have hB : Below w.heap.size w (w.alloc (.cells #[u, v, x] t)) := (Below.refl _ _).alloc (Nat.le_refl _) _
  have h : Bk (w.alloc (.cells #[u, v, x] t)) w.heap.size t [u, v, x] := Bk.new _ _ _
  refine ⟨_, _, rfl, fun j hj => ?_⟩
  rcases j with _ | _ | _ | j
  · exact ⟨u, by rw [h.cell]; rfl, hu.below hB⟩
  · exact ⟨v, by rw [h.cell]; rfl, hv.below hB⟩
  · exact ⟨x, by rw [h.cell]; rfl, hx.below hB⟩
  · simp at hj; omega

/-- Below, as the program tells it. -/
def lb (what width : Int) (a b : List Nat) : Bool := decide (checkE what width [a, b] = 0) && belowE what a b
theorem lbelow_s (what width : Int) (v1 v2 : Value) (a b : List Nat) (w : World) (h1 : Ws w v1 a) (h2 : Ws w v2 b) (hn : a.length ≤ 100000) (hm : b.length ≤ 100000) :
    Calls Try.prog 27 #[.int .i64 what, .int .i64 width, v1, v2] w fun e w' => e = .returned (.bool (lb what width a b)) ∧ Below w.heap.size w w' := lbelow_any what width v1 v2 a b w h1 h2 hn hm
section
variable {what width : Int} {a b : List Nat}
theorem check_one (hL : isL what width = true) (va : valueE what width a = true) : checkE what width [a] = 0 := by
  unfold checkE; rw [if_pos hL, if_pos (by simp [va])]
theorem check_one_bad (hL : isL what width = true) (va : valueE what width a = false) : checkE what width [a] = 2 := by
  unfold checkE; rw [if_pos hL, if_neg (by simp [va])]
theorem check_both (hL : isL what width = true) (va : valueE what width a = true) (vb : valueE what width b = true) : checkE what width [a, b] = 0 := by
  unfold checkE; rw [if_pos hL, if_pos (by simp [va, vb])]
theorem check_two (hL : isL what width = true) (h : (valueE what width a && valueE what width b) = false) : checkE what width [a, b] = 2 := by
  unfold checkE; rw [if_pos hL, if_neg]
  simp only [List.all_cons, List.all_nil, Bool.and_true]
  rw [h]; decide
theorem check_none {ls : List (List Nat)} (hL : isL what width = false) : checkE what width ls = 10 := by
  unfold checkE; rw [hL, if_neg (by decide)]
theorem lb_none (hL : isL what width = false) : lb what width a b = false := by
  unfold lb checkE; rw [hL, if_neg (by decide)]; rfl
theorem lb_bad (hL : isL what width = true) (h : (valueE what width a && valueE what width b) = false) : lb what width a b = false := by
  unfold lb; rw [check_two hL h]; rfl
theorem lb_good (hL : isL what width = true) (va : valueE what width a = true) (vb : valueE what width b = true) : lb what width a b = belowE what a b := by
  unfold lb; rw [check_both hL va vb]; rfl
theorem lb_true (va : valueE what width a = true) (vb : valueE what width b = true) (h : belowE what a b = true) : lb what width a b = true := by
  rw [lb_good (value_is va) va vb, h]
theorem lb_below (h : lb what width a b = true) : belowE what a b = true := by
  unfold lb at h; rw [Bool.and_eq_true] at h; exact h.2
end

/-- Whether values are short enough to look at. -/
def fewE (width : Int) (ls : List (List Nat)) : Bool := ls.all (fun a => decide (a.length ≤ 70)) && (decide (width ≤ 70) || decide (1024 < width))
theorem few_iff {width : Int} {ls : List (List Nat)} (h : fewE width ls = true) : (∀ a ∈ ls, a.length ≤ 70) ∧ (width ≤ 70 ∨ 1024 < width) := by
  unfold fewE at h
  rw [Bool.and_eq_true, List.all_eq_true, Bool.or_eq_true, decide_eq_true_eq, decide_eq_true_eq] at h
  exact ⟨fun a ha => of_decide_eq_true (h.1 a ha), h.2⟩

set_option maxHeartbeats 3200000 in
set_option maxRecDepth 100000 in
theorem lfew_any (width : Int) (v : Value) (ls : List (List Nat)) (w : World) (hw : Sets w v ls) (hx : ∀ a ∈ ls, a.length ≤ 9223372036854775807) (hn : ls.length ≤ 1000) :
    Calls Try.prog 10 #[.int .i64 width, v] w fun e w' => e = .returned (.bool (fewE width ls)) ∧ w' = w := by
  obtain ⟨b, c, rfl, hc⟩ := hw
  have HX := Lib.hid hx
  have HC := Lib.hid hc
  have H1 := Lib.hid (show (∀ j, j < ls.length → (lsAt ls j).length ≤ 70) → fewE width ls = (decide (width ≤ 70) || decide (1024 < width)) from fun h => by
    unfold fewE
    rw [List.all_eq_true.2, Bool.true_and]
    intro z hz
    obtain ⟨i, hi, rfl⟩ := List.getElem_of_mem hz
    have := h i hi
    unfold lsAt at this
    rw [List.getElem?_eq_getElem hi] at this
    exact decide_eq_true this)
  have H0 := Lib.hid (show ∀ j, j < ls.length → 70 < (lsAt ls j).length → fewE width ls = false from fun j hj h => by
    unfold fewE
    rw [Bool.and_eq_false_iff]
    refine .inl (Bool.eq_false_iff.2 fun h2 => ?_)
    rw [List.all_eq_true] at h2
    have := of_decide_eq_true (h2 _ (List.getElem_mem hj))
    unfold lsAt at h
    rw [List.getElem?_eq_getElem hj] at h
    have h : 70 < ls[j].length := h
    omega)
  clear hc hx
  go_enter Try.func10, Try.ntmps10
  go_wp2_with fail
  go_loopw [9] (fun i wr => ∃ k : Nat, k ≤ ls.length ∧ i = .int .i64 k ∧ Hid (∀ i, i < k → (lsAt ls i).length ≤ 70) ∧ wr = w)
    (fun i _ => ls.length - (intOf i).toNat)
  case atStart => exact ⟨0, Nat.zero_le _, rfl, Lib.hid (fun i h => by omega), rfl⟩
  case round =>
    obtain ⟨k, hk, rfl, HA, rfl⟩ := hrel
    by_cases hlt : k < ls.length
    · obtain ⟨u, hu, hW⟩ := HC.out k hlt
      have HXk := Lib.hid (show (lsAt ls k).length ≤ 9223372036854775807 by
        have := HX.out _ (List.getElem_mem hlt)
        unfold lsAt; rw [List.getElem?_eq_getElem hlt]; exact this)
      have H0k := Lib.hid (H0.out k hlt)
      have HS := Lib.hid (show (lsAt ls k).length ≤ 70 → ∀ i, i < k + 1 → (lsAt ls i).length ≤ 70 from fun e i hi => by
        rcases (show i < k ∨ i = k by omega) with h | rfl
        · exact HA.out i h
        · exact e)
      obtain ⟨p3, c3, rfl⟩ := ws_len hW
      have hxk := HXk.out
      clear hW
      generalize lsAt ls k = a at *
      by_cases h70 : a.length ≤ 70
      · have HS2 := Lib.hid (HS.out h70)
        go_wp2_with fail
        go_roundw
        case rel => exact ⟨k + 1, by omega, by go_num, HS2, trivial⟩
        case measure => simp [intOf]; omega
      · have HV := Lib.hid (H0k.out (by omega))
        have h71 : 70 < a.length := by omega
        clear h70
        go_wp2_with fail
        go_ret
        exact ⟨ret_bool HV.out.symm, rfl⟩
    · obtain rfl : k = ls.length := by omega
      have HV := Lib.hid (H1.out HA.out)
      by_cases h7 : width ≤ 70
      · have HV2 := Lib.hid (show fewE width ls = true by rw [HV.out, decide_eq_true h7]; rfl)
        go_wp2_with fail
        go_ret
        exact ⟨ret_bool HV2.out.symm, rfl⟩
      · have h8 : 70 < width := by omega
        clear h7
        go_wp2_with fail
        go_ret
        exact ⟨ret_bool HV.out.symm, rfl⟩

theorem aw_top : topE 1 3 = [7] := by decide +kernel
theorem aw_height : heightE 3 3 = 6 := by decide +kernel

set_option maxHeartbeats 1600000 in
set_option maxRecDepth 100000 in
theorem lawake_any (w : World) :
    Calls Try.prog 9 #[] w fun e w' => e = .returned (.bool true) ∧ Below w.heap.size w w' := by
  go_enter Try.func9, Try.ntmps9
  go_wp2_with fail
  refine (lheight_any 3 3 _).mono ?_
  rintro e w1 ⟨rfl, hww⟩
  subst w1
  rw [aw_height]
  go_wp2_with fail
  refine (top_any 1 3 _).mono ?_
  rintro e w1 ⟨u, rfl, hW, hB⟩
  rw [aw_top] at hW
  have HB := Lib.hid hB
  obtain ⟨p, c, rfl⟩ := ws_len hW
  clear hW hB
  go_wp2_with fail
  refine (top_any 1 3 _).mono ?_
  rintro e w2 ⟨u, rfl, hW, hB⟩
  rw [aw_top] at hW
  have HB2 := Lib.hid (HB.out.trans (hB.mono HB.out.size))
  obtain ⟨p2, c2, rfl, q⟩ := ws_row hW
  obtain ⟨ad, rfl, r⟩ := q (by decide)
  have hcell : w2.cell? ad = some (.int .u64 7) := by
    have h := r 0 (by decide)
    rw [show ad.add 0 = ad by cases ad with | mk b o s => cases s <;> rfl] at h
    exact h
  clear hW hB q r
  go_wp2_with fail
  go_ret
  exact ⟨ret_bool (by first | rfl | simp), HB2.out⟩

end Go.Proofs.Ytflkelnfdoihlaa
