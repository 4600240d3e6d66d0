/-
  soughref26.Same; soughlaw26.FairMakes: the walk.
-/
import Derived.Test.YtblpjkpbbgkjbaaDoorWeaveR
import Derived.Laws.StructEq
namespace Go.Proofs.YtblpjkpbbgkjbaaDoor
open Go.RowKit

theorem pickU : Tryd.prog.underlying 42 = some (.struct (Tryd.prog.fieldsOf 42)) := by kernel_rfl
theorem pickS : Tryd.prog.stoodInHeld 42 = false := by kernel_rfl
theorem pick_equal (a b c d : Int) (w : World) : (Op.equalIn 10000 42 (.agg #[.int .i64 a, .int .i64 b]) (.agg #[.int .i64 c, .int .i64 d])).run Tryd.prog w = .ok (a == c && b == d) w := by
  have u3 := Tryd.underlying3
  have a3 := Tryd.isAgg3
  have z3 := Tryd.sizeOf3
  rw [show (10000 : Nat) = 9999 + 1 from rfl, run_equalIn_agg w 9999 _ _ _ pickU pickS]
  simp only [Program.fieldsOf, Tryd.underlying42]
  go_simp
  by_cases h1 : a = c <;> by_cases h2 : b = d <;> simp [h1, h2]
theorem pick_neq (a b c d : Int) (w : World) : (binOp .neq 42 (.agg #[.int .i64 a, .int .i64 b]) (.agg #[.int .i64 c, .int .i64 d])).run Tryd.prog w = .ok (.bool (!(a == c && b == d))) w := by
  rw [run_neq_struct, pick_equal]; rfl

set_option maxHeartbeats 1600000 in
set_option maxRecDepth 100000 in
theorem psame_any (v1 v2 : Value) (L : List (Int × Int)) (w : World) (h1 : Picks w v1 L) (h2 : Picks w v2 L) (hl : L.length ≤ 1000000) :
    Calls Tryd.prog 35 #[v1, v2] w fun e w' => e = .returned (.bool true) ∧ ∃ n, w' = w.drewN n := by
  obtain ⟨o1, c1, rfl, hle1, hc1⟩ := h1
  obtain ⟨o2, c2, rfl, hle2, hc2⟩ := h2
  have H1 := Lib.hid hc1
  have H2 := Lib.hid hc2
  clear hc1 hc2
  have q2 := pick_neq
  go_enter Tryd.func35, Tryd.ntmps35
  go_wp2
  go_loopw [13] (fun i wr => ∃ k nq : Nat, k ≤ L.length ∧ i = .int .i64 k ∧ wr = w.drewN nq)
    (fun i _ => L.length - (intOf i).toNat)
  case atStart => exact ⟨0, 0, Nat.zero_le _, rfl, rfl⟩
  case round =>
    obtain ⟨k, nq, hk, rfl, rfl⟩ := hrel
    by_cases hlt : k < L.length
    · obtain ⟨b1, f1, rfl, hc1⟩ := H1.out (by omega)
      obtain ⟨b2, f2, rfl, hc2⟩ := H2.out (by omega)
      obtain ⟨e1, e2⟩ := hc1 k hlt
      obtain ⟨e3, e4⟩ := hc2 k hlt
      clear hc1 hc2
      generalize pickAt L k = p at *
      go_wp2
      go_quiet (fail)
      go_wp2
      refine ⟨⟨k + 1, _, by omega, by go_num, rfl⟩, by simp [intOf]; omega⟩
    · obtain rfl : k = L.length := by omega
      go_wp2
      go_ret
      exact ⟨rfl, nq, rfl⟩

set_option maxHeartbeats 3200000 in
set_option maxRecDepth 100000 in
theorem fairMakes_walk (n long : Int) (v : Value) (raw : List Int) (W : World) (hr : Nums W v raw) (ht : Tab W) :
    Calls Tryd.prog 6 #[.int .i64 n, .int .i64 long, v] W fun e w' => e = .returned (.bool true) ∧ Below W.heap.size W w' := by
  have Ht := Lib.hid ht
  have HR := Lib.hid hr
  obtain ⟨o, c, rfl, hle, _⟩ := hr
  have hN := workn_bd n
  clear ht
  by_cases h1 : 100 < long
  · have d1 : decide (100 < long) = true := by simpa using h1
    clear h1
    go_enter Tryd.func6, Tryd.ntmps6
    go_wp2_with fail
    refine (awake26_any _ Ht.out).mono ?_
    rintro e w1 ⟨rfl, hB⟩
    go_wp2_with fail
    go_ret
    exact ⟨rfl, hB⟩
  have d1 : decide (100 < long) = false := by simpa using h1
  by_cases h2 : 50 < raw.length
  · have d2 : decide ((50 : Int) < raw.length) = true := by simp; omega
    clear h2
    go_enter Tryd.func6, Tryd.ntmps6
    go_wp2_with fail
    refine (awake26_any _ Ht.out).mono ?_
    rintro e w1 ⟨rfl, hB⟩
    go_wp2_with fail
    go_ret
    exact ⟨rfl, hB⟩
  have d2 : decide ((50 : Int) < raw.length) = false := by simp; omega
  have hln : lenn long = long.toNat := by unfold lenn; omega
  have hl1 : lenn long ≤ 1000000 := by unfold lenn; omega
  have HLN := Lib.hid hln
  have q2 := pick_neq
  clear hln
  go_enter Tryd.func6, Tryd.ntmps6
  go_wp2_with fail
  refine (awake26_any _ Ht.out).mono ?_
  rintro e w1 ⟨rfl, hB⟩
  have HB1 := Lib.hid hB
  clear hB
  go_wp2_with fail
  refine (round_any _ _ _).mono ?_
  rintro e w3 ⟨v3, rfl, hP, hB⟩
  have HP3 := Lib.hid hP
  have HB3 := Lib.hid (bel_then HB1.out hB)
  obtain ⟨o3, c3, rfl, hle3, hc3⟩ := hP
  have HC3 := Lib.hid hc3
  have HL3 := Lib.hid (roundL_len (workn n) (lenn long))
  have hl3 : (roundL (workn n) (lenn long)).length ≤ 1000000 := by rw [HL3.out]; exact hl1
  clear hc3 hB
  go_wp2_with fail
  go_loopw [24] (fun i wr => ∃ k : Nat, k ≤ (roundL (workn n) (lenn long)).length ∧ i = .int .i64 k ∧ Below w3.heap.size w3 wr)
    (fun i _ => (roundL (workn n) (lenn long)).length - (intOf i).toNat)
  case atStart => exact ⟨0, Nat.zero_le _, rfl, Below.refl _ _⟩
  case round =>
    obtain ⟨k, hk, rfl, hB⟩ := hrel
    have HB := Lib.hid hB
    clear hB
    by_cases hlt : k < (roundL (workn n) (lenn long)).length
    · obtain ⟨b1, f1, rfl, hc1⟩ := HC3.out (by omega)
      obtain ⟨e1, e2⟩ := hc1 k hlt
      rw [roundL_at (workn n) (lenn long) k (by rw [← HL3.out]; exact hlt)] at e1 e2
      replace e1 := keepc e1 HB.out
      replace e2 := keepc e2 HB.out
      have hN0 : ¬ ((workn n : Int) = 0) := by omega
      clear hc1
      go_wp2_with fail
      go_quiet ((go_at_call 34; exact Calls.quiet_of_same (rworkers_any _ _)))
      go_wp2_with fail
      go_roundw
      case rel => exact ⟨k + 1, by omega, by go_num, bel_drewN (HB.out.alloc HB.out.size _) _⟩
      case measure => simp [intOf]; omega
    · obtain rfl : k = (roundL (workn n) (lenn long)).length := by omega
      have hll : ((roundL (workn n) (lenn long)).length : Int) = long.toNat := by rw [HL3.out, HLN.out]
      have hrw : raw.length ≤ 1000000 := by omega
      have hed : (((roundL (workn n) (lenn long)).length : Int) == max long 0) = true := by rw [hll]; simp
      clear hll
      go_wp2_with fail
      refine (weave_any n long _ raw _ (HR.out.below (bel_then HB3.out HB.out)) hrw).mono ?_
      rintro e w5 ⟨v5, rfl, hP, hB⟩
      have HP5 := Lib.hid hP
      have HB5 := Lib.hid (bel_then (bel_then HB3.out HB.out) hB)
      clear hP hB
      go_wp2_with fail
      refine (rweave_any n long _ raw _ (HR.out.below HB5.out) hrw (by omega)).mono ?_
      rintro e w6 ⟨v6, rfl, hP, hB⟩
      have HP6 := Lib.hid hP
      have HB6 := Lib.hid hB
      clear hP hB
      go_wp2_with fail
      refine (psame_any _ _ _ _ (HP5.out.below HB6.out) (by rw [HLN.out]; exact HP6.out) (by rw [wv_len]; exact hl1)).mono ?_
      rintro e w7 ⟨rfl, nq, rfl⟩
      go_wp2_with fail
      go_ret
      exact ⟨rfl, bel_drewN (bel_then HB5.out HB6.out) _⟩

end Go.Proofs.YtblpjkpbbgkjbaaDoor
