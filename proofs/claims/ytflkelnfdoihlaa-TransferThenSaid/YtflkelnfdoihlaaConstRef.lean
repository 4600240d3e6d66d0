/-
  The document's own answers for layer 11 (soughref11): Num, Norm, Join, Rank, Of: contracts.
-/
import Derived.Test.YtflkelnfdoihlaaConst2
import Derived.Test.YtflkelnfdoihlaaGaussRef
namespace Go.Proofs.Ytflkelnfdoihlaa
open Go.RowKit

theorem rnum_any (x : Int) (w : World) (h0 : 0 ≤ x ∧ x ≤ 18446744073709551615) :
    Calls Try.prog 80 #[.int .u64 x] w fun e w' => e = .returned (.tuple #[.agg #[.int .i64 (numv x).1, .int .i64 (numv x).2], .bool (isn x)]) ∧ Below w.heap.size w w' := by
  by_cases h1 : x % 4 = 2
  · by_cases h2 : x / 4 < 4294967296
    · have hi : isn x = true := by simp [isn, h1, h2]
      have hn : numv x = (wr (x / 4), wr (x / 4 / 65536)) := by simp [numv, hi]
      rw [hi, hn]
      clear hi hn
      have hm : (x % 4 != 2) = false := by simp [h1]
      have hd : decide (4294967296 ≤ x / 4) = false := by simp; omega
      have H1 := Lib.hid h1
      have h3 : 0 ≤ x / 4 := by omega
      clear h1
      go_enter Try.func80, Try.ntmps80
      go_wp2_with fail
      refine (rof_any _ _ _).mono ?_
      rintro e w1 ⟨rfl, hB⟩
      have e1 : wr (x / 4 % 65536) = wr (x / 4) := by unfold wr; omega
      rw [e1]
      obtain ⟨k0, k1, f0, f1⟩ := pair_behind hB
      have HB := Lib.hid hB
      clear hB hm h2 hd e1
      go_wp2_with fail
      exact bodyPost_ret (v := .tuple #[.agg #[.int .i64 (wr (x / 4)), .int .i64 (wr (x / 4 / 65536))], .bool true]) (by simp [results, Try.results80, go_sem, k0, k1]) rfl ⟨rfl, pair_end HB.out _ _⟩
    · have hi : isn x = false := by simp [isn, h1]; omega
      have hn : numv x = (0, 0) := by simp [numv, hi]
      rw [hi, hn]
      clear hi hn
      have hm : (x % 4 != 2) = false := by simp [h1]
      have hd : decide (4294967296 ≤ x / 4) = true := by simp; omega
      have H1 := Lib.hid h1
      clear h1
      go_enter Try.func80, Try.ntmps80
      go_wp2_with fail
      exact bodyPost_ret (v := .tuple #[.agg #[.int .i64 0, .int .i64 0], .bool false]) (by simp [results, Try.results80, go_sem]) rfl ⟨rfl, (Below.refl _ _).alloc (Nat.le_refl _) _⟩
  · have hi : isn x = false := by simp [isn, h1]
    have hn : numv x = (0, 0) := by simp [numv, hi]
    rw [hi, hn]
    clear hi hn
    have hm : (x % 4 != 2) = true := by simp [h1]
    have H1 := Lib.hid h1
    clear h1
    go_enter Try.func80, Try.ntmps80
    go_wp2_with fail
    exact bodyPost_ret (v := .tuple #[.agg #[.int .i64 0, .int .i64 0], .bool false]) (by simp [results, Try.results80, go_sem]) rfl ⟨rfl, (Below.refl _ _).alloc (Nat.le_refl _) _⟩

theorem norm_any (x : Int) (w : World) (h0 : 0 ≤ x ∧ x ≤ 18446744073709551615) :
    Calls Try.prog 51 #[.int .u64 x] w fun e w' => e = .returned (.int .u64 (sou x)) ∧ Below w.heap.size w w' := by
  by_cases hz : x = 0
  · subst hz
    go_enter Try.func51, Try.ntmps51
    go_wp2_with fail
    refine (rnum_any _ _ h0).mono ?_
    rintro e w1 ⟨rfl, hB⟩
    go_wp2_with fail
    go_ret
    exact ⟨ret_int (by decide), hB.alloc hB.size _⟩
  · have e0 : (x != 0) = true := by simpa using hz
    have hz' : sou x = if isn x = true then x else 1 := by
      unfold sou; rw [if_neg hz]
    have Hz := Lib.hid hz'
    clear hz hz'
    go_enter Try.func51, Try.ntmps51
    go_wp2_with fail
    refine (rnum_any _ _ h0).mono ?_
    rintro e w1 ⟨rfl, hB⟩
    cases hi : isn x
    · have Hi := Lib.hid hi
      clear hi
      go_wp2_with fail
      go_ret
      exact ⟨ret_int (by rw [Hz.out, Hi.out]; rfl), hB.alloc hB.size _⟩
    · have Hi := Lib.hid hi
      clear hi
      go_wp2_with fail
      go_ret
      exact ⟨ret_int (by rw [Hz.out, Hi.out]; rfl), hB.alloc hB.size _⟩

theorem rjoin_any (a b : Int) (w : World) (ha : 0 ≤ a ∧ a ≤ 18446744073709551615) (hb : 0 ≤ b ∧ b ≤ 18446744073709551615) :
    Calls Try.prog 57 #[.int .u64 a, .int .u64 b] w fun e w' => e = .returned (.int .u64 (cjoin a b)) ∧ Below w.heap.size w w' := by
  have hj : ∀ v, cjoin a b = v → Ending.returned (.int .u64 (cjoin a b)) = .returned (.int .u64 v) := fun v h => by rw [h]
  have Hj := Lib.hid hj
  clear hj
  go_enter Try.func57, Try.ntmps57
  go_wp2_with fail
  refine (norm_any _ _ ha).mono ?_
  rintro e w1 ⟨rfl, hB⟩
  go_wp2_with fail
  refine (norm_any _ _ hb).mono ?_
  rintro e w2 ⟨rfl, hB2⟩
  have HB := Lib.hid (bel_then hB hB2)
  clear hB hB2
  have hc : ∀ v, (if sou a = sou b ∨ sou b = 0 then sou a else if sou a = 0 then sou b else 1) = v → cjoin a b = v := fun v h => h
  have Hc := Lib.hid hc
  clear hc
  generalize sou a = x at *
  generalize sou b = y at *
  clear ha hb
  by_cases h1 : x = 0
  · subst h1
    by_cases h2 : y = 0
    · subst h2
      go_wp2_with fail
      go_ret
      exact ⟨(Hj.out _ (Hc.out _ (by simp))).symm, HB.out⟩
    · have H2 := Lib.hid h2
      clear h2
      go_wp2_with fail
      go_ret
      exact ⟨(Hj.out _ (Hc.out _ (by simp [H2.out, Ne.symm H2.out]))).symm, HB.out⟩
  · have e1 : (x == 0) = false := by simpa using h1
    by_cases h2 : x = y
    · subst h2
      go_wp2_with fail
      go_ret
      exact ⟨(Hj.out _ (Hc.out _ (by simp))).symm, HB.out⟩
    · have e2 : (x == y) = false := by simpa using h2
      by_cases h3 : y = 0
      · subst h3
        have H1 := Lib.hid h1
        clear h1 h2
        go_wp2_with fail
        go_ret
        exact ⟨(Hj.out _ (Hc.out _ (by simp))).symm, HB.out⟩
      · have e3 : (y == 0) = false := by simpa using h3
        have H2 := Lib.hid h2
        have H1 := Lib.hid h1
        have H3 := Lib.hid h3
        clear h1 h2 h3
        go_wp2_with fail
        go_ret
        exact ⟨(Hj.out _ (Hc.out _ (by simp [H1.out, H2.out, H3.out]))).symm, HB.out⟩

theorem rrank_any (a : Int) (w : World) (ha : 0 ≤ a ∧ a ≤ 18446744073709551615) :
    Calls Try.prog 58 #[.int .u64 a] w fun e w' => e = .returned (.int .i64 (crank a)) ∧ Below w.heap.size w w' := by
  have hj : ∀ v, (if sou a = 0 then 0 else if sou a = 1 then 2 else 1) = v → Ending.returned (.int .i64 (crank a)) = .returned (.int .i64 v) := fun v h => ret_int h
  have Hj := Lib.hid hj
  clear hj
  have hs := (sou_bd a ha).1
  go_enter Try.func58, Try.ntmps58
  go_wp2_with fail
  refine (norm_any _ _ ha).mono ?_
  rintro e w1 ⟨rfl, hB⟩
  have HB := Lib.hid hB
  clear hB ha
  generalize sou a = x at *
  rcases (show x = 0 ∨ x = 1 ∨ 1 < x from by omega) with rfl | rfl | h1
  · go_wp2_with fail
    go_ret
    exact ⟨(Hj.out _ (by simp)).symm, HB.out⟩
  · go_wp2_with fail
    go_ret
    exact ⟨(Hj.out _ (by simp)).symm, HB.out⟩
  · go_wp2_with fail
    go_ret
    exact ⟨(Hj.out _ (by rw [if_neg (by omega), if_neg (by omega)])).symm, HB.out⟩

end Go.Proofs.Ytflkelnfdoihlaa
