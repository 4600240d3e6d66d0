/-
  soughlaw23.RecordRight: its walk. Written by wip/gen/mkrec11.py.
-/
import Derived.Test.YteheckcflnogbaaRec9
import Derived.Test.YteheckcflnogbaaRec10
import Derived.BigQuiet
namespace Go.Proofs.Yteheckcflnogbaa
open Go.RowKit
theorem rise_at {zs : List Int} (h : Rising zs) {k : Nat} (h0 : 0 < k) (hk : k < zs.length) : decide (intAt zs k ≤ intAt zs (k - 1)) = false := by
  rw [decide_eq_false_iff_not]
  have := h.at h0 hk
  unfold intAt
  omega

set_option maxHeartbeats 3200000 in
set_option maxRecDepth 100000 in
theorem recordRight_walk (n : Int) (v : Value) (L : List EvT) (W : World) (hL : EvIn W v L) (hm : L.length ≤ 9223372036854775807) :
    Calls Try.prog 6 #[.int .i64 n, v] W fun e w' => e = .returned (.bool true) ∧ Below W.heap.size W w' := by
  obtain ⟨gi, hE, hgi, hwf⟩ := hL
  have HE := Lib.hid hE
  have HWF := Lib.hid hwf
  obtain ⟨o2, c2, rfl⟩ := hE.len
  clear hE hwf hgi
  by_cases h1 : 50 < n
  · have d1 : decide (50 < n) = true := decide_eq_true h1
    clear h1
    go_enter Try.func6, Try.ntmps6
    go_wp2_with fail
    refine (awake23_any _).mono ?_
    rintro e w1 ⟨rfl, hB⟩
    have HB1 := Lib.hid hB
    clear hB
    go_wp2_with fail
    go_ret
    exact ⟨rfl, HB1.out⟩
  have d1 : decide (50 < n) = false := decide_eq_false h1
  clear h1
  by_cases h2 : 40 < L.length
  · have d2 : decide ((40 : Int) < L.length) = true := by simp; omega
    clear h2
    go_enter Try.func6, Try.ntmps6
    go_wp2_with fail
    refine (awake23_any _).mono ?_
    rintro e w1 ⟨rfl, hB⟩
    have HB1 := Lib.hid hB
    clear hB
    go_wp2_with fail
    go_ret
    exact ⟨rfl, HB1.out⟩
  have d2 : decide ((40 : Int) < L.length) = false := by simp; omega
  go_enter Try.func6, Try.ntmps6
  go_wp2_with fail
  refine (awake23_any _).mono ?_
  rintro e w1 ⟨rfl, hB⟩
  have HB1 := Lib.hid hB
  clear hB
  go_wp2_with fail

  have HE1 := Lib.hid (HE.out.below HB1.out)
  refine (events_any _ L gi _ HE1.out (by omega)).mono ?_
  rintro e w2 ⟨ve, rfl, hO, hB⟩
  obtain ⟨ge, he, _⟩ := Evs.of_owns hO
  have HV := Lib.hid he
  have HE2 := Lib.hid (HE1.out.below hB)
  have HB2 := Lib.hid (bel_then HB1.out hB)
  obtain ⟨oe, ce, rfl⟩ := he.len
  clear hO he hB
  go_wp2_with fail
  refine (touched_any _ L ge _ HV.out (by omega) HWF.out).mono ?_
  rintro e w3 ⟨va, zs, rfl, hN, hR, hI, hZ, hB⟩
  have HV3 := Lib.hid (HV.out.below hB)
  have HE3 := Lib.hid (HE2.out.below hB)
  have HB3 := Lib.hid (bel_then HB2.out hB)
  have HN := Lib.hid hN
  have HR := Lib.hid hR
  have HI := Lib.hid hI
  obtain ⟨oa, ca, rfl, hle, hc⟩ := hN
  have HC := Lib.hid hc
  clear hB hR hI hle hc HE1 HE2 HV
  go_wp2_with fail
  go_loopw [26] (fun i wr => ∃ k : Nat, k ≤ zs.length ∧ i = .int .i64 k ∧ Fr [] w3 wr)
    (fun i _ => zs.length - (intOf i).toNat)
  case atStart => exact ⟨0, Nat.zero_le _, rfl, Fr.refl _ _⟩
  case round =>
    obtain ⟨k, hk, rfl, hF⟩ := hrel
    have HF := Lib.hid hF
    clear hF
    by_cases hlt : k < zs.length
    · obtain ⟨b, off, rfl, hd⟩ := HC.out (by omega)
      have c0 := cell_fr (hd k hlt) HF.out (by simp)
      have hki : (k : Int) < zs.length := by omega
      by_cases h0 : 0 < k
      · have e0 : decide ((0 : Int) < k) = true := by simp; omega
        have c1 := cell_fr (hd (k - 1) (by omega)) HF.out (by simp)
        have HRI := Lib.hid (rise_at HR.out h0 hlt)
        have eg : decide (intAt zs k ≤ intAt zs (k - 1)) = false := HRI.out
        obtain ⟨p, hp⟩ : ∃ p : Nat, k = p + 1 := ⟨k - 1, by omega⟩
        subst hp
        rw [Nat.add_sub_cancel] at c1 eg
        clear hd h0
        go_wp2_with fail
        try go_quiet (fail)
        try go_wp2_with fail
        go_roundw
        case rel => exact ⟨p + 1 + 1, by omega, by go_num, by first | exact HF.out | exact HF.out.drew | exact HF.out.drewN _⟩
        case measure => simp [intOf]; omega
      · obtain rfl : k = 0 := by omega
        rw [Nat.add_zero] at c0
        clear hd h0
        go_wp2_with fail
        try go_quiet (fail)
        try go_wp2_with fail
        go_roundw
        case rel => exact ⟨1, by omega, by go_num, by first | exact HF.out | exact HF.out.drew | exact HF.out.drewN _⟩
        case measure => simp [intOf]; omega
    · obtain rfl : k = zs.length := by omega
      have HBF := Lib.hid (bel_then HB3.out HF.out.below)
      have HN4 := Lib.hid (HN.out.below HF.out.below)
      have HV4 := Lib.hid (HV3.out.below HF.out.below)
      have HE4 := Lib.hid (HE3.out.below HF.out.below)
      clear hlt hk
      clear HF HN HV3 HE3 HB3 HC
      go_wp2_with fail
      go_loopw [45] (fun i wz => ∃ k : Nat, k ≤ L.length ∧ i = .int .i64 k ∧ Below wr.heap.size wr wz)
        (fun i _ => L.length - (intOf i).toNat)
      case atStart => exact ⟨0, Nat.zero_le _, rfl, Below.refl _ _⟩
      case round =>
        obtain ⟨k, hk, rfl, hB⟩ := hrel
        have HBR := Lib.hid hB
        clear hB
        by_cases hlt : k < L.length
        · obtain ⟨_, _, e3, _, hd0⟩ := HE4.out
          simp only [Value.slice.injEq, true_and] at e3
          obtain ⟨rfl, rfl⟩ := e3
          obtain ⟨off, rfl, hd1⟩ := hd0 (by omega)
          have hd := hd1 k hlt
          have d0 := keepc hd.1 HBR.out
          have d1 := keepc hd.2.1 HBR.out
          have d2 := keepc hd.2.2.1 HBR.out
          have d3 := keepc hd.2.2.2.1 HBR.out
          have d4 := keepc hd.2.2.2.2.1 HBR.out
          have d5 := keepc hd.2.2.2.2.2 HBR.out
          have hki : (k : Int) < L.length := by omega
          have HIN := Lib.hid (show decide ((evAt L k).a ∈ zs) = true from decide_eq_true (HI.out _ (List.mem_map.2 ⟨evAt L k, by unfold evAt; rw [List.getElem?_eq_getElem hlt]; exact List.getElem_mem hlt, rfl⟩)))
          clear hd hd0 hd1
          generalize evAt L k = x at *
          go_wp2_with fail
          refine (in07_any _ zs x.a _ (HN4.out.below (bel_then HBR.out ((Below.refl _ _).alloc (Nat.le_refl _) _))) (by omega)).mono ?_
          rintro e w5 ⟨rfl, rfl⟩
          have hin := HIN.out
          go_wp2_with fail
          go_roundw
          case rel => exact ⟨k + 1, by omega, by go_num, HBR.out.alloc HBR.out.size _⟩
          case measure => simp [intOf]; omega
        · obtain rfl : k = L.length := by omega
          have HE5 := Lib.hid (HE4.out.below HBR.out)
          have HV5 := Lib.hid (HV4.out.below HBR.out)
          have HB5 := Lib.hid (bel_then HBF.out HBR.out)
          obtain ⟨q, hq⟩ : ∃ q, q = rightL (List.replicate (memn n) 0) L := ⟨_, rfl⟩
          have HQ := Lib.hid hq
          clear hq
          clear HE4 HV4 HBF HBR
          go_wp2_with fail
          refine (pright_any n _ L ge _ HV5.out (by omega)).mono ?_
          rintro e w6 ⟨rfl, hB⟩
          rw [← HQ.out]
          have HE6 := Lib.hid (HE5.out.below hB)
          have HV6 := Lib.hid (HV5.out.below hB)
          have HB6 := Lib.hid (bel_then HB5.out hB)
          clear hB
          go_wp2_with fail
          refine (rright_any n _ L gi _ HE6.out (by omega)).mono ?_
          rintro e w7 ⟨rfl, hB⟩
          rw [← HQ.out]
          have HE7 := Lib.hid (HE6.out.below hB)
          have HV7 := Lib.hid (HV6.out.below hB)
          have HB7 := Lib.hid (bel_then HB6.out hB)
          have hqq : (q == q) = true := by cases q <;> rfl
          clear hB
          go_wp2_with fail
          refine (writes_any _ L ge _ HV7.out (by omega)).mono ?_
          rintro e w8 ⟨vw, rfl, hO, hB⟩
          obtain ⟨gw, hw, _⟩ := Evs.of_owns hO
          have HW8 := Lib.hid hw
          have HE8 := Lib.hid (HE7.out.below hB)
          have HB8 := Lib.hid (bel_then HB7.out hB)
          clear hO hw hB
          go_wp2_with fail
          refine (rwrites_any _ L gi _ HE8.out (by omega)).mono ?_
          rintro e w9 ⟨vr, rfl, hO, hB⟩
          obtain ⟨gr, hw, _⟩ := Evs.of_owns hO
          have HR9 := Lib.hid hw
          have HW9 := Lib.hid (HW8.out.below hB)
          have HB9 := Lib.hid (bel_then HB8.out hB)
          have HWL := Lib.hid (show (L.filter isWr).length ≤ 40 by have := List.length_filter_le isWr L; omega)
          clear hO hw hB
          generalize L.filter isWr = M at *
          have hML := HWL.out
          go_wp2_with fail
          refine (evsame_any _ _ M M gw gr _ HW9.out HR9.out (by omega) (by omega)).mono ?_
          rintro e w10 ⟨rfl, hB⟩
          have HB10 := Lib.hid (bel_then HB9.out hB)
          have hMM : decide (M = M) = true := decide_eq_true rfl
          have hzl : decide ((zs.length : Int) ≤ L.length) = true := by simp; omega
          rw [hMM]
          clear hB
          go_wp2_with fail
          go_ret
          exact ⟨rfl, HB10.out⟩


end Go.Proofs.Yteheckcflnogbaa
