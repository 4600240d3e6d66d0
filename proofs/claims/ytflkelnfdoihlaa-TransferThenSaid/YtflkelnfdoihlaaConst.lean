/-
  constant.Num, Is, sound, Of: contracts.
-/
import Derived.Test.YtflkelnfdoihlaaWord
namespace Go.Proofs.Ytflkelnfdoihlaa
open Go.RowKit

/-- Is a word a number's? -/
def isn (x : Int) : Bool := decide (x % 4 = 2 ∧ x / 4 < 4294967296)
def numv (x : Int) : Int × Int := if isn x then (wr (x / 4), wr (x / 4 / 65536)) else (0, 0)
/-- The word that a word counts as. -/
def sou (x : Int) : Int := if isn x then x else if x = 0 then 0 else 1

theorem num_any (x : Int) (w : World) (h0 : 0 ≤ x ∧ x ≤ 18446744073709551615) :
    Calls Try.prog 78 #[.int .u64 x] w fun e w' => e = .returned (.tuple #[.agg #[.int .i64 (numv x).1, .int .i64 (numv x).2], .bool (isn x)]) ∧ Below w.heap.size w w' := by
  by_cases h1 : x % 4 = 2
  · by_cases h2 : x / 4 < 4294967296
    · have hi : isn x = true := by simp [isn, h1, h2]
      have hn : numv x = (wr (x / 4), wr (x / 4 / 65536)) := by simp [numv, hi]
      rw [hi, hn]
      clear hi hn
      have hm : (x % 4 != 2) = false := by simp [h1]
      have H1 := Lib.hid h1
      clear h1
      go_enter Try.func78, Try.ntmps78
      go_wp2_with fail
      refine (unword_small _ _ (by omega) h2).mono ?_
      rintro e w1 ⟨rfl, hB⟩
      obtain ⟨k0, k1, f0, f1⟩ := pair_behind hB
      have HB := Lib.hid hB
      clear hB hm h2
      go_wp2_with fail
      exact bodyPost_ret (v := .tuple #[.agg #[.int .i64 (wr (x / 4)), .int .i64 (wr (x / 4 / 65536))], .bool true]) (by simp [results, Try.results78, go_sem, k0, k1]) rfl ⟨rfl, pair_end HB.out _ _⟩
    · have hi : isn x = false := by simp [isn, h1]; omega
      have hn : numv x = (0, 0) := by simp [numv, hi]
      rw [hi, hn]
      clear hi hn
      have hm : (x % 4 != 2) = false := by simp [h1]
      have H1 := Lib.hid h1
      clear h1
      go_enter Try.func78, Try.ntmps78
      go_wp2_with fail
      refine (unword_big _ _ (by omega)).mono ?_
      rintro e w1 ⟨rfl, hB⟩
      obtain ⟨k0, k1, f0, f1⟩ := pair_behind hB
      have HB := Lib.hid hB
      clear hB hm h2
      go_wp2_with fail
      exact bodyPost_ret (v := .tuple #[.agg #[.int .i64 0, .int .i64 0], .bool false]) (by simp [results, Try.results78, go_sem, k0, k1]) rfl ⟨rfl, pair_end HB.out _ _⟩
  · have hi : isn x = false := by simp [isn, h1]
    have hn : numv x = (0, 0) := by simp [numv, hi]
    rw [hi, hn]
    clear hi hn
    have hm : (x % 4 != 2) = true := by simp [h1]
    have H1 := Lib.hid h1
    clear h1
    go_enter Try.func78, Try.ntmps78
    go_wp2_with fail
    exact bodyPost_ret (v := .tuple #[.agg #[.int .i64 0, .int .i64 0], .bool false]) (by simp [results, Try.results78, go_sem]) rfl ⟨rfl, (Below.refl _ _).alloc (Nat.le_refl _) _⟩

theorem is_any (x : Int) (w : World) (h0 : 0 ≤ x ∧ x ≤ 18446744073709551615) :
    Calls Try.prog 49 #[.int .u64 x] w fun e w' => e = .returned (.bool (isn x || decide (x = 0 ∨ x = 1))) ∧ Below w.heap.size w w' := by
  by_cases hi : isn x = true
  · have Hr := Lib.hid (show Ending.returned (.bool (isn x || decide (x = 0 ∨ x = 1))) = .returned (.bool true) by rw [hi]; rfl)
    go_enter Try.func49, Try.ntmps49
    go_wp2_with (go_at_call 78; refine (num_any _ _ h0).mono ?_; rintro e w1 ⟨rfl, hB⟩)
    go_ret
    exact ⟨Hr.out.symm, hB.alloc hB.size _⟩
  · have hi : isn x = false := by simpa using hi
    rcases (show x = 0 ∨ x = 1 ∨ (x ≠ 0 ∧ x ≠ 1) from by omega) with rfl | rfl | ⟨h1, h2⟩
    · go_enter Try.func49, Try.ntmps49
      go_wp2_with (go_at_call 78; refine (num_any _ _ h0).mono ?_; rintro e w1 ⟨rfl, hB⟩)
      go_ret
      exact ⟨by simp, hB.alloc hB.size _⟩
    · go_enter Try.func49, Try.ntmps49
      go_wp2_with (go_at_call 78; refine (num_any _ _ h0).mono ?_; rintro e w1 ⟨rfl, hB⟩)
      go_ret
      exact ⟨by simp, hB.alloc hB.size _⟩
    · have e1 : (x == 0) = false := by simpa using h1
      have e2 : (x == 1) = false := by simpa using h2
      have Hr := Lib.hid (show Ending.returned (.bool (isn x || decide (x = 0 ∨ x = 1))) = .returned (.bool false) by rw [hi]; simp [h1, h2])
      clear h1 h2
      go_enter Try.func49, Try.ntmps49
      go_wp2_with (go_at_call 78; refine (num_any _ _ h0).mono ?_; rintro e w1 ⟨rfl, hB⟩)
      go_ret
      exact ⟨Hr.out.symm, hB.alloc hB.size _⟩

theorem sound_any (x : Int) (w : World) (h0 : 0 ≤ x ∧ x ≤ 18446744073709551615) :
    Calls Try.prog 82 #[.int .u64 x] w fun e w' => e = .returned (.int .u64 (sou x)) ∧ Below w.heap.size w w' := by
  by_cases hi : (isn x || decide (x = 0 ∨ x = 1)) = true
  · have hs : sou x = x := by
      unfold sou
      by_cases h : isn x = true
      · simp [h]
      · simp [h] at hi ⊢; omega
    have Hs := Lib.hid hs
    clear hs
    go_enter Try.func82, Try.ntmps82
    go_wp2_with fail
    refine (is_any _ _ h0).mono ?_
    rintro e w1 ⟨rfl, hB⟩
    rw [hi]
    clear hi
    go_wp2_with fail
    go_ret
    exact ⟨ret_int Hs.out.symm, hB⟩
  · have hi : (isn x || decide (x = 0 ∨ x = 1)) = false := by simpa using hi
    have hs : sou x = 1 := by
      unfold sou
      have h : isn x = false := by simp at hi; exact hi.1
      simp [h] at hi ⊢; omega
    have Hs := Lib.hid hs
    clear hs
    go_enter Try.func82, Try.ntmps82
    go_wp2_with fail
    refine (is_any _ _ h0).mono ?_
    rintro e w1 ⟨rfl, hB⟩
    rw [hi]
    clear hi
    go_wp2_with fail
    go_ret
    exact ⟨ret_int Hs.out.symm, hB⟩

theorem cof_any (a b : Int) (w : World) :
    Calls Try.prog 88 #[.agg #[.int .i64 a, .int .i64 b]] w fun e w' => e = .returned (.int .u64 (2 + 4 * word a b)) ∧ Below w.heap.size w w' := by
  have hb := word_bd a b
  go_enter Try.func88, Try.ntmps88
  go_wp2_with (go_at_call 97; refine (word_any _ _ _).mono ?_; rintro e w1 ⟨rfl, hB⟩)
  go_ret
  exact ⟨ret_int (by omega), ((Below.refl w.heap.size w).alloc (Nat.le_refl _) _).trans (hB.mono (by simp))⟩

end Go.Proofs.Ytflkelnfdoihlaa
