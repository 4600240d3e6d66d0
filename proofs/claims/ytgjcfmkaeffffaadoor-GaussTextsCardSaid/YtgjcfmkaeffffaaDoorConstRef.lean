/-
  The document's own answers for layer 11 (soughref11): Num, Norm, Join, Rank, Of: contracts.
-/
import Derived.Test.YtgjcfmkaeffffaaDoorConst2
import Derived.Test.YtgjcfmkaeffffaaDoorGaussRef
namespace Go.Proofs.YtgjcfmkaeffffaaDoor
open Go.RowKit

theorem rnum_any (x : Int) (w : World) (h0 : 0 ≤ x ∧ x ≤ 18446744073709551615) :
    Calls Tryd.prog 52 #[.int .u64 x] w fun e w' => e = .returned (.tuple #[.agg #[.int .i64 (numv x).1, .int .i64 (numv x).2], .bool (isn x)]) ∧ Below w.heap.size w w' := by
  by_cases h1 : x % 4 = 2
  · by_cases h2 : x / 4 < 4294967296
    · have hi : isn x = true := by simp [isn, h1, h2]
      have hn : numv x = (wr (x / 4), wr (x / 4 / 65536)) := by simp [numv, hi]
      rw [hi, hn]
      clear hi hn
      have hm : (x % 4 != 2) = false := by simp [h1]
      have hd : decide (4294967296 ≤ x / 4) = false := by simp; omega
      have H1 := Lib.hid h1
      have h3 : 0 ≤ x / 4 := by omega
      clear h1
      go_enter Tryd.func52, Tryd.ntmps52
      go_wp2_with fail
      refine (rof_any _ _ _).mono ?_
      rintro e w1 ⟨rfl, hB⟩
      have e1 : wr (x / 4 % 65536) = wr (x / 4) := by unfold wr; omega
      rw [e1]
      obtain ⟨k0, k1, f0, f1⟩ := pair_behind hB
      have HB := Lib.hid hB
      clear hB hm h2 hd e1
      go_wp2_with fail
      exact bodyPost_ret (v := .tuple #[.agg #[.int .i64 (wr (x / 4)), .int .i64 (wr (x / 4 / 65536))], .bool true]) (by simp [results, Tryd.results52, go_sem, k0, k1]) rfl ⟨rfl, pair_end HB.out _ _⟩
    · have hi : isn x = false := by simp [isn, h1]; omega
      have hn : numv x = (0, 0) := by simp [numv, hi]
      rw [hi, hn]
      clear hi hn
      have hm : (x % 4 != 2) = false := by simp [h1]
      have hd : decide (4294967296 ≤ x / 4) = true := by simp; omega
      have H1 := Lib.hid h1
      clear h1
      go_enter Tryd.func52, Tryd.ntmps52
      go_wp2_with fail
      exact bodyPost_ret (v := .tuple #[.agg #[.int .i64 0, .int .i64 0], .bool false]) (by simp [results, Tryd.results52, go_sem]) rfl ⟨rfl, (Below.refl _ _).alloc (Nat.le_refl _) _⟩
  · have hi : isn x = false := by simp [isn, h1]
    have hn : numv x = (0, 0) := by simp [numv, hi]
    rw [hi, hn]
    clear hi hn
    have hm : (x % 4 != 2) = true := by simp [h1]
    have H1 := Lib.hid h1
    clear h1
    go_enter Tryd.func52, Tryd.ntmps52
    go_wp2_with fail
    exact bodyPost_ret (v := .tuple #[.agg #[.int .i64 0, .int .i64 0], .bool false]) (by simp [results, Tryd.results52, go_sem]) rfl ⟨rfl, (Below.refl _ _).alloc (Nat.le_refl _) _⟩

theorem norm_any (x : Int) (w : World) (h0 : 0 ≤ x ∧ x ≤ 18446744073709551615) :
    Calls Tryd.prog 80 #[.int .u64 x] w fun e w' => e = .returned (.int .u64 (sou x)) ∧ Below w.heap.size w w' := by
  by_cases hz : x = 0
  · subst hz
    go_enter Tryd.func80, Tryd.ntmps80
    go_wp2_with fail
    refine (rnum_any _ _ h0).mono ?_
    rintro e w1 ⟨rfl, hB⟩
    go_wp2_with fail
    go_ret
    exact ⟨ret_int (by decide), hB.alloc hB.size _⟩
  · have e0 : (x != 0) = true := by simpa using hz
    have hz' : sou x = if isn x = true then x else 1 := by
      unfold sou; rw [if_neg hz]
    have Hz := Lib.hid hz'
    clear hz hz'
    go_enter Tryd.func80, Tryd.ntmps80
    go_wp2_with fail
    refine (rnum_any _ _ h0).mono ?_
    rintro e w1 ⟨rfl, hB⟩
    cases hi : isn x
    · have Hi := Lib.hid hi
      clear hi
      go_wp2_with fail
      go_ret
      exact ⟨ret_int (by rw [Hz.out, Hi.out]; rfl), hB.alloc hB.size _⟩
    · have Hi := Lib.hid hi
      clear hi
      go_wp2_with fail
      go_ret
      exact ⟨ret_int (by rw [Hz.out, Hi.out]; rfl), hB.alloc hB.size _⟩

end Go.Proofs.YtgjcfmkaeffffaaDoor
