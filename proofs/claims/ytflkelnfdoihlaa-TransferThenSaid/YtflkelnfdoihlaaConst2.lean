/-
  constant.Join, Below, Rank: contracts.
-/
import Derived.Test.YtflkelnfdoihlaaConst
namespace Go.Proofs.Ytflkelnfdoihlaa
open Go.RowKit

theorem sou_bd (x : Int) (h : 0 ≤ x ∧ x ≤ 18446744073709551615) : 0 ≤ sou x ∧ sou x ≤ 18446744073709551615 := by
  unfold sou; split
  · exact h
  · split <;> omega
/-- The less known of two. -/
def cjoin (a b : Int) : Int := if sou a = sou b ∨ sou b = 0 then sou a else if sou a = 0 then sou b else 1
def crank (a : Int) : Int := if sou a = 0 then 0 else if sou a = 1 then 2 else 1

theorem join_any (a b : Int) (w : World) (ha : 0 ≤ a ∧ a ≤ 18446744073709551615) (hb : 0 ≤ b ∧ b ≤ 18446744073709551615) :
    Calls Try.prog 56 #[.int .u64 a, .int .u64 b] w fun e w' => e = .returned (.int .u64 (cjoin a b)) ∧ Below w.heap.size w w' := by
  have hj : ∀ v, cjoin a b = v → Ending.returned (.int .u64 (cjoin a b)) = .returned (.int .u64 v) := fun v h => by rw [h]
  have Hj := Lib.hid hj
  clear hj
  go_enter Try.func56, Try.ntmps56
  go_wp2_with fail
  refine (sound_any _ _ ha).mono ?_
  rintro e w1 ⟨rfl, hB⟩
  go_wp2_with fail
  refine (sound_any _ _ hb).mono ?_
  rintro e w2 ⟨rfl, hB2⟩
  have HB := Lib.hid (bel_then hB hB2)
  clear hB hB2
  have hc : ∀ v, (if sou a = sou b ∨ sou b = 0 then sou a else if sou a = 0 then sou b else 1) = v → cjoin a b = v := fun v h => h
  have Hc := Lib.hid hc
  clear hc
  generalize sou a = x at *
  generalize sou b = y at *
  clear ha hb
  by_cases h1 : x = y
  · subst h1
    go_wp2_with fail
    go_ret
    exact ⟨(Hj.out _ (Hc.out _ (by simp))).symm, HB.out⟩
  · have e1 : (x == y) = false := by simpa using h1
    by_cases h2 : y = 0
    · subst h2
      go_wp2_with fail
      go_ret
      exact ⟨(Hj.out _ (Hc.out _ (by simp))).symm, HB.out⟩
    · have e2 : (y == 0) = false := by simpa using h2
      by_cases h3 : x = 0
      · subst h3
        have H2 := Lib.hid h2
        have H1 := Lib.hid h1
        clear h1 h2
        go_wp2_with fail
        go_ret
        exact ⟨(Hj.out _ (Hc.out _ (by simp [H1.out, H2.out]))).symm, HB.out⟩
      · have e3 : (x == 0) = false := by simpa using h3
        have H2 := Lib.hid h2
        have H1 := Lib.hid h1
        have H3 := Lib.hid h3
        clear h1 h2 h3
        go_wp2_with fail
        go_ret
        exact ⟨(Hj.out _ (Hc.out _ (by simp [H1.out, H2.out, H3.out]))).symm, HB.out⟩

theorem rank_any (a : Int) (w : World) (ha : 0 ≤ a ∧ a ≤ 18446744073709551615) :
    Calls Try.prog 55 #[.int .u64 a] w fun e w' => e = .returned (.int .i64 (crank a)) ∧ Below w.heap.size w w' := by
  have hj : ∀ v, (if sou a = 0 then 0 else if sou a = 1 then 2 else 1) = v → Ending.returned (.int .i64 (crank a)) = .returned (.int .i64 v) := fun v h => ret_int h
  have Hj := Lib.hid hj
  clear hj
  go_enter Try.func55, Try.ntmps55
  go_wp2_with fail
  refine (sound_any _ _ ha).mono ?_
  rintro e w1 ⟨rfl, hB⟩
  have HB := Lib.hid hB
  clear hB ha
  generalize sou a = x at *
  rcases (show x = 0 ∨ x = 1 ∨ (x ≠ 0 ∧ x ≠ 1) from by omega) with rfl | rfl | ⟨h1, h2⟩
  · go_wp2_with fail
    go_ret
    exact ⟨(Hj.out _ (by simp)).symm, HB.out⟩
  · go_wp2_with fail
    go_ret
    exact ⟨(Hj.out _ (by simp)).symm, HB.out⟩
  · have e1 : (x == 0) = false := by simpa using h1
    have e2 : (x == 1) = false := by simpa using h2
    have H := Lib.hid (And.intro h1 h2)
    clear h1 h2
    go_wp2_with fail
    go_ret
    exact ⟨(Hj.out _ (by simp [H.out.1, H.out.2])).symm, HB.out⟩

end Go.Proofs.Ytflkelnfdoihlaa
