/-
  soughref26.Is, Window: contracts.
-/
import Derived.Test.YtmgoojmkflginaaDoorFairW
namespace Go.Proofs.YtmgoojmkflginaaDoor
open Go.RowKit

/-- Was w met among m picks from i on? -/
def metE (ws : Nat → Nat) (i w : Nat) : Nat → Bool
  | 0 => false
  | m + 1 => metE ws i w m || (ws (i + m) == w)
theorem metE_iff (ws : Nat → Nat) (i w m : Nat) : metE ws i w m = true ↔ ∃ j, j < m ∧ ws (i + j) = w := by
  induction m with
  | zero => simp [metE]
  | succ m ih =>
    simp only [metE, Bool.or_eq_true, ih, beq_iff_eq]
    constructor
    · rintro (⟨j, h1, h2⟩ | h)
      · exact ⟨j, by omega, h2⟩
      · exact ⟨m, by omega, h⟩
    · rintro ⟨j, h1, h2⟩
      rcases (show j < m ∨ j = m from by omega) with h | rfl
      · exact .inl ⟨j, h, h2⟩
      · exact .inr h2

set_option maxHeartbeats 6400000 in
set_option maxRecDepth 100000 in
theorem ris_any (v : Value) (L : List (Int × Int)) (n k : Int) (w : World) (hL : Picks w v L) (hl : L.length ≤ 1000000) :
    Calls Tryd.prog 34 #[v, .int .i64 n, .int .i64 k] w fun e w' => e = .returned (.bool (isE L (workn n) k)) ∧ Below w.heap.size w w' := by
  obtain ⟨o, c, rfl, hle, hc⟩ := hL
  have HC := Lib.hid hc
  have hN := workn_bd n
  clear hc
  by_cases h1 : k < 1
  · have Hr := Lib.hid (show isE L (workn n) k = false by unfold isE; rw [show decide (1 ≤ k) = false by simp; omega]; rfl)
    go_enter Tryd.func34, Tryd.ntmps34
    go_wp2_with fail
    refine (rworkers_any _ _).mono ?_
    rintro e w1 ⟨rfl, rfl⟩
    go_wp2_with fail
    go_ret
    exact ⟨ret_bool Hr.out.symm, Below.refl _ _⟩
  obtain ⟨K, rfl⟩ : ∃ K : Nat, k = K := ⟨k.toNat, by omega⟩
  have hK : 0 < K := by omega
  have Hiff := Lib.hid (isE_iff L (workn n) K hN.1)
  clear h1
  go_enter Tryd.func34, Tryd.ntmps34
  go_wp2_with fail
  refine (rworkers_any _ _).mono ?_
  rintro e w1 ⟨rfl, rfl⟩
  generalize hNe : workn n = N at *
  have HNe := Lib.hid hNe
  clear hNe
  go_wp2_with fail
  obtain ⟨w, rfl⟩ : ∃ w : World, w = w1 := ⟨_, rfl⟩
  go_loopw [7] (fun i wr => ∃ q : Nat, q ≤ L.length ∧ i = .int .i64 q ∧ (∀ i', i' < q → ∀ u, u < N → ∃ j, j < K ∧ wsE L N (i' + j) = u) ∧ Below w.heap.size w wr)
    (fun i _ => L.length - (intOf i).toNat)
  case atStart => exact ⟨0, Nat.zero_le _, rfl, fun _ h => absurd h (Nat.not_lt_zero _), Below.refl _ _⟩
  case round =>
    obtain ⟨q, hq, rfl, hall, hB⟩ := hrel
    have HALL := Lib.hid hall
    have HB := Lib.hid hB
    clear hall hB
    by_cases hlt : q < L.length
    · have d1 : decide ((q : Int) < L.length) = true := by simp; omega
      by_cases hk : K ≤ L.length - q
      · have d2 : decide ((K : Int) ≤ L.length - q) = true := by simp; omega
        have hk2 : q + K ≤ c := by omega
        obtain ⟨b, off, rfl, hc⟩ := HC.out (by omega)
        have HCC := Lib.hid hc
        clear hc
        have hcq : ¬ c = q := by omega
        have hqk : (q : Int) + K ≤ c := by omega
        clear hlt
        go_wp2
        obtain ⟨wo, rfl⟩ : ∃ wo : World, wo = wr := ⟨_, rfl⟩
        go_loopw [8] (fun i wr => ∃ u : Nat, u ≤ N ∧ i = .int .i64 u ∧ (∀ u', u' < u → ∃ j, j < K ∧ wsE L N (q + j) = u') ∧ Below w.heap.size w wr)
          (fun i _ => N - (intOf i).toNat)
        case atStart => exact ⟨0, Nat.zero_le _, rfl, fun _ h => absurd h (Nat.not_lt_zero _), HB.out⟩
        case round =>
          obtain ⟨u, hu, rfl, hall, hB⟩ := hrel
          have HAL2 := Lib.hid hall
          have HB2 := Lib.hid hB
          clear hall hB
          by_cases hult : u < N
          · go_wp2
            obtain ⟨wp, rfl⟩ : ∃ wp : World, wp = wr := ⟨_, rfl⟩
            rw [Nat.add_sub_cancel_left]
            go_loopw [9, 42] (fun mt i wr => ∃ m : Nat, m ≤ K ∧ i = .int .i64 m ∧ mt = .bool (metE (wsE L N) q u m) ∧ Below w.heap.size w wr)
              (fun _ i _ => K - (intOf i).toNat)
            case atStart => exact ⟨0, Nat.zero_le _, rfl, rfl, HB2.out⟩
            case round =>
              obtain ⟨m, hm, rfl, rfl, hB⟩ := hrel
              have HB3 := Lib.hid hB
              clear hB
              by_cases hmlt : m < K
              · obtain ⟨c0, c1⟩ := HCC.out (q + m) (by omega)
                replace c0 := keepc c0 HB3.out
                replace c1 := keepc c1 HB3.out
                rw [show off + (q + m) * 2 = off + q * 2 + m * 2 by omega] at c0 c1
                have Hm := Lib.hid (show metE (wsE L N) q u (m + 1) = (metE (wsE L N) q u m || (wsE L N (q + m) == u)) from rfl)
                have Hw := Lib.hid (show wsE L N (q + m) = (whoE (pickAt L (q + m)).1 N).toNat from rfl)
                have hwb := whoE_lt (pickAt L (q + m)).1 N hN.1
                generalize pickAt L (q + m) = p at *
                cases hmet : metE (wsE L N) q u m with
                | true =>
                  rw [hmet] at Hm
                  clear hmet
                  go_wp2_with fail
                  go_roundw
                  case rel => exact ⟨m + 1, by omega, by go_num, by rw [Hm.out]; rfl, HB3.out.alloc HB3.out.size _⟩
                  case measure => simp [intOf]; omega
                | false =>
                  rw [hmet] at Hm
                  clear hmet
                  go_wp2_with fail
                  refine (rwho_any _ _ _ _ (by omega)).mono ?_
                  rintro e w5 ⟨rfl, hB5⟩
                  have HB5 := Lib.hid (bel_then (HB3.out.alloc HB3.out.size _) hB5)
                  clear hB5
                  have hwq : (wsE L N (q + m) == u) = (whoE p.1 N == (u : Int)) := by
                    rw [Hw.out, Bool.eq_iff_iff]
                    simp only [beq_iff_eq]
                    omega
                  rw [Bool.false_or, hwq] at Hm
                  clear hwq
                  generalize whoE p.1 N = x at *
                  go_wp2_with fail
                  go_roundw
                  case rel => exact ⟨m + 1, by omega, by go_num, by rw [Hm.out], HB5.out⟩
                  case measure => simp [intOf]; omega
              · obtain rfl : K = m := by omega
                have Hmi := Lib.hid (metE_iff (wsE L N) q u K)
                cases hmet : metE (wsE L N) q u K with
                | true =>
                  rw [hmet] at Hmi
                  clear hmet
                  go_wp2_with fail
                  go_roundw
                  case rel =>
                    refine ⟨u + 1, by omega, by go_num, fun u' hu' => ?_, HB3.out⟩
                    rcases (show u' < u ∨ u' = u from by omega) with h | rfl
                    · exact HAL2.out u' h
                    · exact Hmi.out.1 rfl
                  case measure => simp [intOf]; omega
                | false =>
                  rw [hmet] at Hmi
                  clear hmet
                  have Hr := Lib.hid (show isE L N K = false by
                    cases he : isE L N K with
                    | false => rfl
                    | true =>
                      obtain ⟨_, h⟩ := Hiff.out.1 he
                      obtain ⟨j, hj, e⟩ := h q (by omega) (by omega) u hult
                      exact absurd (Hmi.out.2 ⟨j, by omega, e⟩) (by simp))
                  go_wp2_with fail
                  go_ret
                  exact ⟨ret_bool (by rw [HNe.out]; exact Hr.out.symm), HB3.out⟩
          · obtain rfl : N = u := by omega
            go_wp2_with fail
            go_roundw
            case rel =>
              refine ⟨q + 1, by omega, by go_num, fun i' hi' => ?_, HB2.out⟩
              rcases (show i' < q ∨ i' = q from by omega) with h | rfl
              · exact HALL.out i' h
              · exact HAL2.out
            case measure => simp [intOf]; omega
      · have d2 : decide ((K : Int) ≤ L.length - q) = false := by simp; omega
        have Hr : isE L N K = true := Hiff.out.2 ⟨by omega, fun i hi hki u hu => by
          obtain ⟨j, hj, e⟩ := HALL.out i (by omega) u hu
          exact ⟨j, by omega, e⟩⟩
        have Hr := Lib.hid Hr
        go_wp2
        go_ret
        exact ⟨ret_bool (by rw [HNe.out]; exact Hr.out.symm), HB.out⟩
    · obtain rfl : L.length = q := by omega
      have d1 : decide ((L.length : Int) < L.length) = false := by simp
      have Hr : isE L N K = true := Hiff.out.2 ⟨by omega, fun i hi hki u hu => by
          obtain ⟨j, hj, e⟩ := HALL.out i (by omega) u hu
          exact ⟨j, by omega, e⟩⟩
      have Hr := Lib.hid Hr
      go_wp2
      go_ret
      exact ⟨ret_bool (by rw [HNe.out]; exact Hr.out.symm), HB.out⟩

theorem windE_bd (L : List (Int × Int)) (n : Nat) (hn : 0 < n) : 1 ≤ windE L n ∧ windE L n ≤ L.length + 1 := by
  have h1 := gapE_nonneg (wsE L n) n L.length n
  have h2 := gapE_le (wsE L n) n L.length n (wsE_lt L n hn) (Nat.le_refl _)
  unfold windE
  omega

set_option maxHeartbeats 1600000 in
set_option maxRecDepth 100000 in
theorem rwindow_any (v : Value) (L : List (Int × Int)) (n : Int) (w : World) (hL : Picks w v L) (hl : L.length ≤ 1000000) :
    Calls Tryd.prog 36 #[v, .int .i64 n] w fun e w' => e = .returned (.int .i64 (windE L (workn n))) ∧ Below w.heap.size w w' := by
  have HL := Lib.hid hL
  have hN := workn_bd n
  have hb := windE_bd L (workn n) hN.1
  have hb1 := hb.1
  have hb2 := hb.2
  clear hb
  obtain ⟨o, c, rfl, hle, _⟩ := hL
  go_enter Tryd.func36, Tryd.ntmps36
  go_wp2_with fail
  go_loopw [5] (fun i wr => ∃ k : Nat, 1 ≤ k ∧ k ≤ L.length + 1 ∧ i = .int .i64 k ∧ (k : Int) ≤ windE L (workn n) ∧ Below w.heap.size w wr)
    (fun i _ => L.length + 1 - (intOf i).toNat)
  case atStart => exact ⟨1, by omega, by omega, rfl, by omega, Below.refl _ _⟩
  case round =>
    obtain ⟨k, hk1, hk2, rfl, hk3, hB⟩ := hrel
    have HB := Lib.hid hB
    clear hB
    by_cases hlt : k ≤ L.length
    · have Hs := Lib.hid (show isE L (workn n) k = decide (windE L (workn n) ≤ k) by
        unfold isE
        rw [show decide (1 ≤ (k : Int)) = true by simp; omega, show decide ((L.length : Int) < k) = false by simp; omega]
        rfl)
      go_wp2_with fail
      refine (ris_any _ _ _ _ _ (HL.out.below HB.out) hl).mono ?_
      rintro e w2 ⟨rfl, hB2⟩
      rw [Hs.out]
      have HB2 := Lib.hid (bel_then HB.out hB2)
      clear hB2
      by_cases hg : windE L (workn n) ≤ k
      · have d : decide (windE L (workn n) ≤ (k : Int)) = true := by simpa using hg
        have Hr := Lib.hid (show (k : Int) = windE L (workn n) by omega)
        clear hg
        go_wp2_with fail
        go_ret
        exact ⟨ret_int Hr.out, HB2.out⟩
      · have d : decide (windE L (workn n) ≤ (k : Int)) = false := by simpa using hg
        go_wp2_with fail
        go_roundw
        case rel => exact ⟨k + 1, by omega, by omega, by go_num, by omega, HB2.out⟩
        case measure => simp [intOf]; omega
    · have Hr := Lib.hid (show (L.length : Int) + 1 = windE L (workn n) by omega)
      go_wp2_with fail
      go_ret
      exact ⟨ret_int Hr.out, HB.out⟩

end Go.Proofs.YtmgoojmkflginaaDoor
