/-
  lattice.words, Bottom, Top, Is: contracts.
-/
import Derived.Test.YtflkelnfdoihlaaLat1
import Derived.Test.YtflkelnfdoihlaaRef10b
namespace Go.Proofs.Ytflkelnfdoihlaa
open Go.RowKit

/-- The first k words made, and nothing behind. -/
def madeK (f : Nat → Nat) (n k : Nat) : List Nat := (List.range n).map fun i => if i < k then f i else 0
theorem madeK_zero (f : Nat → Nat) (n : Nat) : madeK f n 0 = List.replicate n 0 := by
  refine List.ext_getElem (by simp [madeK]) fun i h1 h2 => ?_
  simp [madeK]
theorem madeK_len (f : Nat → Nat) (n k : Nat) : (madeK f n k).length = n := by simp [madeK]
theorem madeK_step (f : Nat → Nat) (n k : Nat) : (madeK f n k).set k (f k) = madeK f n (k + 1) := by
  refine List.ext_getElem (by simp [madeK]) fun i h1 h2 => ?_
  rw [List.getElem_set]
  by_cases hk : k = i
  · subst hk; simp [madeK]
  · rw [if_neg hk]
    simp only [madeK, List.getElem_map, List.getElem_range]
    by_cases hik : i < k
    · rw [if_pos hik, if_pos (by omega)]
    · rw [if_neg hik, if_neg (by omega)]
theorem madeK_all (f : Nat → Nat) (n : Nat) : madeK f n n = (List.range n).map f := by
  unfold madeK
  exact List.map_congr_left fun i hi => if_pos (List.mem_range.1 hi)
theorem made_lt {f : Nat → Nat} {n : Nat} (h : ∀ i, i < n → f i < 18446744073709551616) : ∀ z ∈ (List.range n).map f, z < 18446744073709551616 := fun z hz => by
  obtain ⟨i, hi, rfl⟩ := List.mem_map.1 hz
  exact h i (List.mem_range.1 hi)
theorem zeros_bk (w : World) (n : Nat) : Bk (w.alloc (.cells (List.replicate n (Value.int .u64 0)).toArray 29)) w.heap.size 29 (u64s (List.replicate n 0)) := by
  rw [u64s_zero]; exact Bk.new _ _ _
theorem zeros_bk' (w : World) (n : Nat) : Bk (w.alloc (.cells (Array.replicate n (Value.int .u64 0)) 29)) w.heap.size 29 (u64s (List.replicate n 0)) := by
  have := zeros_bk w n
  rwa [List.toArray_replicate] at this
theorem zeros_lt (n : Nat) : ∀ z ∈ List.replicate n 0, z < 18446744073709551616 := fun z hz => by rw [List.eq_of_mem_replicate hz]; decide

set_option maxHeartbeats 3200000 in
set_option maxRecDepth 100000 in
theorem mkwords_any (F : FuncId) (lb : Array Value) (f : Nat → Nat) (what width : Int) (w : World)
    (el : ∀ args w, (callFunc F args).run Try.prog w = .ok (.enter F args) w)
    (hf : ∀ i w1, i < wordsN what width → Below w.heap.size w w1 → Calls Try.prog F (#[.int .i64 (i : Nat)] ++ lb) w1 fun e w' => e = .returned (.int .u64 (f i : Nat)) ∧ Below w1.heap.size w1 w')
    (hb : ∀ i, i < wordsN what width → f i < 18446744073709551616) :
    Calls Try.prog 46 #[.int .i64 what, .int .i64 width, .func (.func F) #[] lb] w fun e w' => ∃ v, e = .returned v ∧ Ws w' v ((List.range (wordsN what width)).map f) ∧ Below w.heap.size w w' := by
  have hn := wordsN_le what width
  have hmk := make_u64 (wordsN what width) (wordsN what width) rfl (by omega)
  have HF := Lib.hid hf
  have HBd := Lib.hid hb
  clear hf hb
  go_enter Try.func46, Try.ntmps46
  go_wp2_with fail
  refine (lwords_any _ _ _).mono ?_
  rintro e w1 ⟨rfl, hww⟩
  subst w1
  go_wp2_with fail
  clear hmk
  obtain ⟨n, hne⟩ : ∃ n, n = wordsN what width := ⟨_, rfl⟩
  have HNE := Lib.hid hne
  rw [← hne] at hn HF HBd ⊢
  clear hne
  go_loopw [15] (fun i wr => ∃ k : Nat, k ≤ n ∧ i = .int .i64 k ∧ Bk wr w.heap.size 29 (u64s (madeK f n k)) ∧ Below w.heap.size w wr)
    (fun i _ => n - (intOf i).toNat)
  case atStart => exact ⟨0, Nat.zero_le _, rfl, by rw [madeK_zero]; first | exact zeros_bk' _ _ | exact zeros_bk _ _, (Below.refl _ _).alloc (Nat.le_refl _) _⟩
  case round =>
    obtain ⟨k, hk, rfl, hbk, hB⟩ := hrel
    have HK := Lib.hid hbk
    have HB := Lib.hid hB
    clear hbk hB
    by_cases hlt : k < n
    · have HC := Lib.hid (HF.out k wr hlt HB.out)
      go_wp2_with fail
      refine HC.out.mono ?_
      rintro e w2 ⟨rfl, hB2⟩
      have HB2 := Lib.hid (HB.out.trans (hB2.mono HB.out.size))
      have HK2 := Lib.hid (HK.out.below hB2)
      have hcell : w2.cell? ⟨w.heap.size, k, none⟩ = some (.int .u64 (wAt (madeK f n k) k : Nat)) := by
        rw [HK2.out.cell, u64s_at _ _ (by rw [madeK_len]; exact hlt)]
      have hfree := HK2.out.free k
      have HBk := Lib.hid (HK2.out.set k (.int .u64 (f k : Nat)))
      rw [← u64s_set, madeK_step] at HBk
      generalize wAt (madeK f n k) k = z at *
      clear hB2
      go_wp2_with fail
      go_roundw
      case rel => exact ⟨k + 1, by omega, by go_num, HBk.out, HB2.out.setCell (p := ⟨w.heap.size, k, none⟩) (Nat.le_refl _) _⟩
      case measure => simp [intOf]; omega
    · obtain rfl : k = n := by omega
      have HK2 := HK
      rw [madeK_all] at HK2
      go_wp2_with fail
      go_ret
      exact ⟨_, rfl, by rw [← HNE.out]; exact HK2.out.ws (by simp) (made_lt HBd.out), HB.out⟩

set_option maxHeartbeats 1600000 in
set_option maxRecDepth 100000 in
theorem bottom_any (what width : Int) (w : World) :
    Calls Try.prog 14 #[.int .i64 what, .int .i64 width] w fun e w' => ∃ v, e = .returned v ∧ Ws w' v (bottomE what width) ∧ Below w.heap.size w w' := by
  have hn := wordsN_le what width
  have hmk := make_u64 (wordsN what width) (wordsN what width) rfl (by omega)
  have rest : ∀ h : bottomE what width = List.replicate (wordsN what width) 0, Ws (w.alloc (.cells (Array.replicate (wordsN what width) (Value.int .u64 0)) 29)) (.slice (some ⟨w.heap.size, 0, none⟩) (wordsN what width) (wordsN what width)) (bottomE what width) := fun h => by
    rw [h]; exact (zeros_bk' w _).ws List.length_replicate (zeros_lt _)
  have HR := Lib.hid rest
  have HB0 := Lib.hid ((Below.refl w.heap.size w).alloc (Nat.le_refl _) (.cells (Array.replicate (wordsN what width) (Value.int .u64 0)) 29))
  clear rest
  by_cases h2 : what = 2
  · subst h2
    go_enter Try.func14, Try.ntmps14
    go_wp2_with fail
    refine (lis_any _ _ _).mono ?_
    rintro e w1 ⟨rfl, hww⟩
    subst w1
    cases hL : isL 2 width with
    | true =>
      have H := Lib.hid (show bottomE 2 width = fullE width by unfold bottomE; rw [if_pos ⟨rfl, hL⟩])
      clear hL
      go_wp2_with fail
      refine (full_any _ _).mono ?_
      rintro e w3 ⟨u, rfl, hW, hB⟩
      have HW := Lib.hid hW
      have HB := Lib.hid hB
      obtain ⟨p3, c3, rfl⟩ := ws_len hW
      clear hW hB
      go_wp2_with fail
      go_ret
      exact ⟨_, rfl, by rw [H.out]; exact HW.out, HB.out⟩
    | false =>
      have H := Lib.hid (show bottomE 2 width = List.replicate (wordsN 2 width) 0 by unfold bottomE; rw [hL, if_neg (by simp)])
      clear hL
      go_wp2_with fail
      refine (lwords_any _ _ _).mono ?_
      rintro e w1 ⟨rfl, hww⟩
      subst w1
      go_wp2_with fail
      go_ret
      exact ⟨_, rfl, HR.out H.out, HB0.out⟩
  · have H := Lib.hid (show bottomE what width = List.replicate (wordsN what width) 0 by unfold bottomE; rw [if_neg (by omega)])
    have e2 : (what == 2) = false := by simpa using h2
    clear h2
    go_enter Try.func14, Try.ntmps14
    go_wp2_with fail
    refine (lwords_any _ _ _).mono ?_
    rintro e w1 ⟨rfl, hww⟩
    subst w1
    go_wp2_with fail
    go_ret
    exact ⟨_, rfl, HR.out H.out, HB0.out⟩

theorem top1_any (i : Int) (w : World) :
    Calls Try.prog 47 #[.int .i64 i] w fun e w' => e = .returned (.int .u64 ((1 : Nat) : Int)) ∧ Below w.heap.size w w' := by
  go_enter Try.func47, Try.ntmps47
  go_wp2
  go_ret
  exact ⟨rfl, Below.refl _ _⟩

set_option maxHeartbeats 1600000 in
set_option maxRecDepth 100000 in
theorem top_any (what width : Int) (w : World) :
    Calls Try.prog 16 #[.int .i64 what, .int .i64 width] w fun e w' => ∃ v, e = .returned v ∧ Ws w' v (topE what width) ∧ Below w.heap.size w w' := by
  have hn := wordsN_le what width
  have hmk := make_u64 (wordsN what width) (wordsN what width) rfl (by omega)
  have rest : ∀ h : topE what width = List.replicate (wordsN what width) 0, Ws (w.alloc (.cells (Array.replicate (wordsN what width) (Value.int .u64 0)) 29)) (.slice (some ⟨w.heap.size, 0, none⟩) (wordsN what width) (wordsN what width)) (topE what width) := fun h => by
    rw [h]; exact (zeros_bk' w _).ws List.length_replicate (zeros_lt _)
  have HR := Lib.hid rest
  have HB0 := Lib.hid ((Below.refl w.heap.size w).alloc (Nat.le_refl _) (.cells (Array.replicate (wordsN what width) (Value.int .u64 0)) 29))
  clear rest
  by_cases h1 : what = 1
  · subst h1
    go_enter Try.func16, Try.ntmps16
    go_wp2_with fail
    refine (lis_any _ _ _).mono ?_
    rintro e w1 ⟨rfl, hww⟩
    subst w1
    cases hL : isL 1 width with
    | true =>
      have H := Lib.hid (show topE 1 width = fullE width by unfold topE; rw [if_pos ⟨rfl, hL⟩])
      clear hL
      go_wp2_with fail
      refine (full_any _ _).mono ?_
      rintro e w3 ⟨u, rfl, hW, hB⟩
      have HW := Lib.hid hW
      have HB := Lib.hid hB
      obtain ⟨p3, c3, rfl⟩ := ws_len hW
      clear hW hB
      go_wp2_with fail
      go_ret
      exact ⟨_, rfl, by rw [H.out]; exact HW.out, HB.out⟩
    | false =>
      have H := Lib.hid (show topE 1 width = List.replicate (wordsN 1 width) 0 by unfold topE; rw [hL, if_neg (by simp), if_neg (by decide)])
      clear hL
      go_wp2_with fail
      refine (lwords_any _ _ _).mono ?_
      rintro e w1 ⟨rfl, hww⟩
      subst w1
      go_wp2_with fail
      go_ret
      exact ⟨_, rfl, HR.out H.out, HB0.out⟩
  · by_cases h3 : what = 3
    · subst h3
      have H := Lib.hid (show topE 3 width = (List.range (wordsN 3 width)).map fun _ => 1 by
        unfold topE; rw [if_neg (by omega), if_pos rfl]
        refine List.ext_getElem (by simp) fun i h1 h2 => by simp)
      clear h1
      go_enter Try.func16, Try.ntmps16
      go_wp2_with fail
      refine (mkwords_any 47 #[] (fun _ => 1) _ _ _ (enters_of Try.func47 (by kernel_rfl) rfl) (fun i w1 _ _ => top1_any i w1) (fun _ _ => by decide)).mono ?_
      rintro e w3 ⟨u, rfl, hW, hB⟩
      rw [← H.out] at hW
      have HW := Lib.hid hW
      have HB := Lib.hid hB
      obtain ⟨p3, c3, rfl⟩ := ws_len hW
      clear hW hB
      go_wp2_with fail
      go_ret
      exact ⟨_, rfl, HW.out, HB.out⟩
    · have H := Lib.hid (show topE what width = List.replicate (wordsN what width) 0 by unfold topE; rw [if_neg (by omega), if_neg h3])
      have e1 : (what == 1) = false := by simpa using h1
      have e3 : (what == 3) = false := by simpa using h3
      clear h1 h3
      go_enter Try.func16, Try.ntmps16
      go_wp2_with fail
      refine (lwords_any _ _ _).mono ?_
      rintro e w1 ⟨rfl, hww⟩
      subst w1
      go_wp2_with fail
      go_ret
      exact ⟨_, rfl, HR.out H.out, HB0.out⟩

end Go.Proofs.Ytflkelnfdoihlaa
