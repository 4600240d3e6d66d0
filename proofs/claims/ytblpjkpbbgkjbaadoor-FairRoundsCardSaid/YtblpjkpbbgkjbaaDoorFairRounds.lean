/-
  soughlaw26.FairRounds: the walk.
-/
import Derived.Test.YtblpjkpbbgkjbaaDoorWeave
namespace Go.Proofs.YtblpjkpbbgkjbaaDoor
open Go.RowKit

theorem whoE_small (x N : Nat) (h : x < N) : whoE (x : Int) N = x := by
  unfold whoE
  rw [if_neg (by omega)]
  exact Int.emod_eq_of_lt (by omega) (by omega)
theorem round_isE (N m : Nat) (hN : 0 < N) : isE (roundL N m) N N = true := by
  rw [isE_iff _ _ _ hN]
  refine ⟨by omega, fun i hi hk u hu => ?_⟩
  rw [roundL_len] at hi hk
  have h1 := Nat.mod_lt i hN
  have hd := Nat.div_add_mod i N
  obtain ⟨j, hj, e⟩ : ∃ j, j < N ∧ (i + j) % N = u := by
    by_cases h : i % N ≤ u
    · refine ⟨u - i % N, by omega, ?_⟩
      rw [show i + (u - i % N) = u + N * (i / N) by omega, Nat.add_mul_mod_self_left]
      exact Nat.mod_eq_of_lt hu
    · refine ⟨u + N - i % N, by omega, ?_⟩
      rw [show i + (u + N - i % N) = u + N * (i / N + 1) by rw [Nat.mul_add]; omega, Nat.add_mul_mod_self_left]
      exact Nat.mod_eq_of_lt hu
  refine ⟨j, by omega, ?_⟩
  unfold wsE
  rw [roundL_at N m (i + j) (by omega)]
  simp only
  rw [show (((i + j : Nat) : Int) % N) = ((u : Nat) : Int) by rw [← Int.natCast_emod, e], whoE_small u N hu]
  simp
theorem weave_isE (N m : Nat) (raw : List Int) (hN : 0 < N) : isE (wv N raw m).2 N (2 * N - 1) = true := by
  rw [isE_iff _ _ _ hN]
  refine ⟨by omega, fun i hi hk u hu => ?_⟩
  rw [wv_len] at hi hk
  obtain ⟨j, hj, e⟩ := weave_fair N raw i hN u hu
  refine ⟨j, by omega, ?_⟩
  unfold wsE pickAt
  rw [wv_at N raw m (i + j) (by omega)]
  simp only
  rw [e, whoE_small u N hu]
  simp

set_option maxHeartbeats 1600000 in
set_option maxRecDepth 100000 in
theorem fairRounds_walk (n long : Int) (v : Value) (raw : List Int) (W : World) (hr : Nums W v raw) (ht : Tab W) :
    Calls Tryd.prog 8 #[.int .i64 n, .int .i64 long, v] W fun e w' => e = .returned (.bool true) ∧ Below W.heap.size W w' := by
  have Ht := Lib.hid ht
  have HR := Lib.hid hr
  obtain ⟨o, c, rfl, hle, _⟩ := hr
  have hN := workn_bd n
  have HE1 := Lib.hid (round_isE (workn n) (lenn long) hN.1)
  have HE2 := Lib.hid (weave_isE (workn n) (lenn long) raw hN.1)
  clear ht
  by_cases h1 : 300 < long
  · have d1 : decide (300 < long) = true := by simpa using h1
    clear h1
    go_enter Tryd.func8, Tryd.ntmps8
    go_wp2_with fail
    refine (awake26_any _ Ht.out).mono ?_
    rintro e w1 ⟨rfl, hB⟩
    go_wp2_with fail
    go_ret
    exact ⟨rfl, hB⟩
  have d1 : decide (300 < long) = false := by simpa using h1
  by_cases h2 : 50 < raw.length
  · have d2 : decide ((50 : Int) < raw.length) = true := by simp; omega
    clear h2
    go_enter Tryd.func8, Tryd.ntmps8
    go_wp2_with fail
    refine (awake26_any _ Ht.out).mono ?_
    rintro e w1 ⟨rfl, hB⟩
    go_wp2_with fail
    go_ret
    exact ⟨rfl, hB⟩
  have d2 : decide ((50 : Int) < raw.length) = false := by simp; omega
  have hl1 : lenn long ≤ 1000000 := by unfold lenn; omega
  go_enter Tryd.func8, Tryd.ntmps8
  go_wp2_with fail
  refine (awake26_any _ Ht.out).mono ?_
  rintro e w1 ⟨rfl, hB⟩
  have HB1 := Lib.hid hB
  clear hB
  go_wp2_with fail
  refine (rworkers_any _ _).mono ?_
  rintro e w2 ⟨rfl, rfl⟩
  go_wp2_with fail
  refine (round_any _ _ _).mono ?_
  rintro e w3 ⟨v3, rfl, hP, hB⟩
  have HP3 := Lib.hid hP
  have HB3 := Lib.hid (bel_then HB1.out hB)
  clear hP hB
  go_wp2_with fail
  refine (is_any _ _ _ _ _ HP3.out (by rw [roundL_len]; exact hl1)).mono ?_
  rintro e w4 ⟨rfl, hB⟩
  rw [HE1.out]
  have HB4 := Lib.hid (bel_then HB3.out hB)
  clear hB
  go_wp2_with fail
  refine (weave_any n long _ raw _ (HR.out.below HB4.out) (by omega)).mono ?_
  rintro e w5 ⟨v5, rfl, hP, hB⟩
  have HP5 := Lib.hid hP
  have HB5 := Lib.hid (bel_then HB4.out hB)
  clear hP hB
  go_wp2_with fail
  refine (is_any _ _ _ _ _ HP5.out (by rw [wv_len]; exact hl1)).mono ?_
  rintro e w6 ⟨rfl, hB⟩
  rw [HE2.out]
  have HB6 := Lib.hid (bel_then HB5.out hB)
  clear hB
  go_wp2_with fail
  go_ret
  exact ⟨rfl, HB6.out⟩

end Go.Proofs.YtblpjkpbbgkjbaaDoor
