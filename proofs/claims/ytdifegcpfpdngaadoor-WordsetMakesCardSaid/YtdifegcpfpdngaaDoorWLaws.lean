/-
  The law WordsetLaws: its walk. Written by wip/gen/mkwl.py.
-/
import Derived.Test.YtdifegcpfpdngaaDoorWAwake
import Derived.Test.YtdifegcpfpdngaaDoorWIn
namespace Go.Proofs.YtdifegcpfpdngaaDoor
open Go.RowKit

theorem within_s (v1 v2 : Value) (xs ys : List Nat) (w : World) (h1 : Ws w v1 xs) (h2 : Ws w v2 ys) (hx : xs.length ≤ 100000) (hy : ys.length ≤ 100000) :
    Calls Tryd.prog 46 #[v1, v2] w fun e w' => e = .returned (.bool (subE xs ys)) ∧ Below w.heap.size w w' := within_any v1 v2 xs ys w h1 h2 hx hy

set_option maxHeartbeats 12800000 in
set_option maxRecDepth 100000 in
theorem wordsetLaws_walk (vA vB vC : Value) (A B C : List Nat) (w : World) (h1 : Ws w vA A) (h2 : Ws w vB B) (h3 : Ws w vC C) (m1 : A.length ≤ maxLen) (m2 : B.length ≤ maxLen) (m3 : C.length ≤ maxLen) (ht : TabZ w) :
    Calls Tryd.prog 7 #[vA, vB, vC] w fun e w' => e = .returned (.bool true) ∧ Below w.heap.size w w' := by
  have m1 : A.length ≤ 9223372036854775807 := m1
  have m2 : B.length ≤ 9223372036854775807 := m2
  have m3 : C.length ≤ 9223372036854775807 := m3
  have QA := Lib.hid h1.1
  have QB := Lib.hid h2.1
  have QC := Lib.hid h3.1
  have HA := Lib.hid h1
  have HB := Lib.hid h2
  have HC := Lib.hid h3
  obtain ⟨pA, cA, rfl⟩ := ws_len h1
  obtain ⟨pB, cB, rfl⟩ := ws_len h2
  obtain ⟨pC, cC, rfl⟩ := ws_len h3
  have BB := Lib.hid (Below.refl w.heap.size w)
  have HT := Lib.hid ht
  clear h1 h2 h3 ht
  go_enter Tryd.func7, Tryd.ntmps7
  go_wp2_with fail
  refine (wawake_any w HT.out).mono ?_
  rintro e w1 ⟨rfl, hB⟩

  have BB := Lib.hid (BB.out.trans (hB.mono BB.out.size))
  have HA := Lib.hid (HA.out.below hB)
  have HB := Lib.hid (HB.out.below hB)
  have HC := Lib.hid (HC.out.below hB)
  clear hB
  go_wp2_with fail
  refine (few_any _ _ _ _ _ HA.out HB.out).mono ?_
  rintro e w2 ⟨rfl, hww⟩
  subst w2
  by_cases hfw : ¬ (A.length ≤ 4 ∧ B.length ≤ 4)
  · have hd : (decide (A.length ≤ 4) && decide (B.length ≤ 4)) = false := by simp; omega
    rw [hd]
    go_wp2_with fail
    go_ret
    exact ⟨rfl, BB.out⟩
  obtain ⟨hA4, hB4⟩ := Classical.not_not.1 hfw
  clear hfw
  have hd : (decide (A.length ≤ 4) && decide (B.length ≤ 4)) = true := by simp; omega
  rw [hd]
  clear hd
  by_cases hC5 : 4 < C.length
  · go_wp2_with fail
    go_ret
    exact ⟨rfl, BB.out⟩
  have hC4 : C.length ≤ 4 := by omega
  clear hC5
  go_wp2_with fail
  refine (union_any _ _ _ _ _ HA.out HB.out (by omega) (by omega)).mono ?_
  rintro e w3 ⟨vU, rfl, hW, hB⟩
  have BB := Lib.hid (BB.out.trans (hB.mono BB.out.size))
  have HA := Lib.hid (HA.out.below hB)
  have HB := Lib.hid (HB.out.below hB)
  have HC := Lib.hid (HC.out.below hB)
  obtain ⟨U, hU⟩ : ∃ z, z = bothE orN A B := ⟨_, rfl⟩
  have lU : U.length ≤ 4 := by rw [hU, bothE_len]; omega
  rw [← hU] at hW
  have EU := Lib.hid hU
  have HU := Lib.hid hW
  obtain ⟨pU, cU, rfl⟩ := ws_len hW
  clear hW hB hU
  go_wp2_with fail
  refine (len_any _ _ _ HU.out (by omega)).mono ?_
  rintro e w4 ⟨rfl, hww⟩
  subst w4
  obtain ⟨nu, hnu⟩ : ∃ z, z = lenE U := ⟨_, rfl⟩
  rw [← hnu]
  have Nnu := Lib.hid hnu
  clear hnu
  have bnu : nu ≤ 256 := by have := lenE_le U; have := Nnu.out; omega
  go_wp2_with fail
  refine (inter_any _ _ _ _ _ HA.out HB.out (by omega) (by omega)).mono ?_
  rintro e w5 ⟨vI, rfl, hW, hB⟩
  have BB := Lib.hid (BB.out.trans (hB.mono BB.out.size))
  have HA := Lib.hid (HA.out.below hB)
  have HB := Lib.hid (HB.out.below hB)
  have HC := Lib.hid (HC.out.below hB)
  have HU := Lib.hid (HU.out.below hB)
  obtain ⟨I, hI⟩ : ∃ z, z = bothE andN A B := ⟨_, rfl⟩
  have lI : I.length ≤ 4 := by rw [hI, bothE_len]; omega
  rw [← hI] at hW
  have EI := Lib.hid hI
  have HI := Lib.hid hW
  obtain ⟨pI, cI, rfl⟩ := ws_len hW
  clear hW hB hI
  go_wp2_with fail
  refine (len_any _ _ _ HI.out (by omega)).mono ?_
  rintro e w6 ⟨rfl, hww⟩
  subst w6
  obtain ⟨ni, hni⟩ : ∃ z, z = lenE I := ⟨_, rfl⟩
  rw [← hni]
  have Nni := Lib.hid hni
  clear hni
  have bni : ni ≤ 256 := by have := lenE_le I; have := Nni.out; omega
  go_wp2_with fail
  refine (len_any _ _ _ HA.out (by omega)).mono ?_
  rintro e w7 ⟨rfl, hww⟩
  subst w7
  obtain ⟨na, hna⟩ : ∃ z, z = lenE A := ⟨_, rfl⟩
  rw [← hna]
  have Nna := Lib.hid hna
  clear hna
  have bna : na ≤ 256 := by have := lenE_le A; have := Nna.out; omega
  go_wp2_with fail
  refine (len_any _ _ _ HB.out (by omega)).mono ?_
  rintro e w8 ⟨rfl, hww⟩
  subst w8
  obtain ⟨nb, hnb⟩ : ∃ z, z = lenE B := ⟨_, rfl⟩
  rw [← hnb]
  have Nnb := Lib.hid hnb
  clear hnb
  have bnb : nb ≤ 256 := by have := lenE_le B; have := Nnb.out; omega
  have hsum : nu + ni = na + nb := by rw [Nnu.out, Nni.out, Nna.out, Nnb.out, EU.out, EI.out]; exact lenE_or_and A B
  have hq : ((nu : Int) + ni != (na : Int) + nb) = false := by simp; omega
  go_wp2_with fail
  refine (minus_any _ _ _ _ _ HA.out HB.out (by omega) (by omega)).mono ?_
  rintro e w9 ⟨vM, rfl, hW, hB⟩
  have BB := Lib.hid (BB.out.trans (hB.mono BB.out.size))
  have HA := Lib.hid (HA.out.below hB)
  have HB := Lib.hid (HB.out.below hB)
  have HC := Lib.hid (HC.out.below hB)
  have HU := Lib.hid (HU.out.below hB)
  have HI := Lib.hid (HI.out.below hB)
  obtain ⟨M, hM⟩ : ∃ z, z = bothE minN A B := ⟨_, rfl⟩
  have lM : M.length ≤ 4 := by rw [hM, bothE_len]; omega
  rw [← hM] at hW
  have EM := Lib.hid hM
  have HM := Lib.hid hW
  obtain ⟨pM, cM, rfl⟩ := ws_len hW
  clear hW hB hM
  go_wp2_with fail
  refine (inter_any _ _ _ _ _ HA.out HB.out (by omega) (by omega)).mono ?_
  rintro e w10 ⟨vJ, rfl, hW, hB⟩
  have BB := Lib.hid (BB.out.trans (hB.mono BB.out.size))
  have HA := Lib.hid (HA.out.below hB)
  have HB := Lib.hid (HB.out.below hB)
  have HC := Lib.hid (HC.out.below hB)
  have HU := Lib.hid (HU.out.below hB)
  have HI := Lib.hid (HI.out.below hB)
  have HM := Lib.hid (HM.out.below hB)
  obtain ⟨J, hJ⟩ : ∃ z, z = bothE andN A B := ⟨_, rfl⟩
  have lJ : J.length ≤ 4 := by rw [hJ, bothE_len]; omega
  rw [← hJ] at hW
  have EJ := Lib.hid hJ
  have HJ := Lib.hid hW
  obtain ⟨pJ, cJ, rfl⟩ := ws_len hW
  clear hW hB hJ
  go_wp2_with fail
  refine (union_any _ _ _ _ _ HM.out HJ.out (by omega) (by omega)).mono ?_
  rintro e w11 ⟨vL, rfl, hW, hB⟩
  have BB := Lib.hid (BB.out.trans (hB.mono BB.out.size))
  have HA := Lib.hid (HA.out.below hB)
  have HB := Lib.hid (HB.out.below hB)
  have HC := Lib.hid (HC.out.below hB)
  have HU := Lib.hid (HU.out.below hB)
  have HI := Lib.hid (HI.out.below hB)
  have HM := Lib.hid (HM.out.below hB)
  have HJ := Lib.hid (HJ.out.below hB)
  obtain ⟨L, hL⟩ : ∃ z, z = bothE orN M J := ⟨_, rfl⟩
  have lL : L.length ≤ 4 := by rw [hL, bothE_len]; omega
  rw [← hL] at hW
  have EL := Lib.hid hL
  have HL := Lib.hid hW
  obtain ⟨pL, cL, rfl⟩ := ws_len hW
  clear hW hB hL
  go_wp2_with fail
  refine (within_s _ _ _ _ _ HA.out HL.out (by omega) (by omega)).mono ?_
  rintro e w12 ⟨rfl, hB⟩
  have BB := Lib.hid (BB.out.trans (hB.mono BB.out.size))
  have HA := Lib.hid (HA.out.below hB)
  have HB := Lib.hid (HB.out.below hB)
  have HC := Lib.hid (HC.out.below hB)
  have HU := Lib.hid (HU.out.below hB)
  have HI := Lib.hid (HI.out.below hB)
  have HM := Lib.hid (HM.out.below hB)
  have HJ := Lib.hid (HJ.out.below hB)
  have HL := Lib.hid (HL.out.below hB)
  clear hB
  rw [show subE A L = true by rw [EL.out, EM.out, EJ.out]; exact law_all1 QA.out QB.out]
  go_wp2_with fail
  refine (within_s _ _ _ _ _ HL.out HA.out (by omega) (by omega)).mono ?_
  rintro e w13 ⟨rfl, hB⟩
  have BB := Lib.hid (BB.out.trans (hB.mono BB.out.size))
  have HA := Lib.hid (HA.out.below hB)
  have HB := Lib.hid (HB.out.below hB)
  have HC := Lib.hid (HC.out.below hB)
  have HU := Lib.hid (HU.out.below hB)
  have HI := Lib.hid (HI.out.below hB)
  have HM := Lib.hid (HM.out.below hB)
  have HJ := Lib.hid (HJ.out.below hB)
  have HL := Lib.hid (HL.out.below hB)
  clear hB
  rw [show subE L A = true by rw [EL.out, EM.out, EJ.out]; exact law_all2 QA.out QB.out]
  go_wp2_with fail
  refine (union_any _ _ _ _ _ HB.out HC.out (by omega) (by omega)).mono ?_
  rintro e w14 ⟨vV, rfl, hW, hB⟩
  have BB := Lib.hid (BB.out.trans (hB.mono BB.out.size))
  have HA := Lib.hid (HA.out.below hB)
  have HB := Lib.hid (HB.out.below hB)
  have HC := Lib.hid (HC.out.below hB)
  have HU := Lib.hid (HU.out.below hB)
  have HI := Lib.hid (HI.out.below hB)
  have HM := Lib.hid (HM.out.below hB)
  have HJ := Lib.hid (HJ.out.below hB)
  have HL := Lib.hid (HL.out.below hB)
  obtain ⟨V, hV⟩ : ∃ z, z = bothE orN B C := ⟨_, rfl⟩
  have lV : V.length ≤ 4 := by rw [hV, bothE_len]; omega
  rw [← hV] at hW
  have EV := Lib.hid hV
  have HV := Lib.hid hW
  obtain ⟨pV, cV, rfl⟩ := ws_len hW
  clear hW hB hV
  go_wp2_with fail
  refine (inter_any _ _ _ _ _ HA.out HV.out (by omega) (by omega)).mono ?_
  rintro e w15 ⟨vX, rfl, hW, hB⟩
  have BB := Lib.hid (BB.out.trans (hB.mono BB.out.size))
  have HA := Lib.hid (HA.out.below hB)
  have HB := Lib.hid (HB.out.below hB)
  have HC := Lib.hid (HC.out.below hB)
  have HU := Lib.hid (HU.out.below hB)
  have HI := Lib.hid (HI.out.below hB)
  have HM := Lib.hid (HM.out.below hB)
  have HJ := Lib.hid (HJ.out.below hB)
  have HL := Lib.hid (HL.out.below hB)
  have HV := Lib.hid (HV.out.below hB)
  obtain ⟨X, hX⟩ : ∃ z, z = bothE andN A V := ⟨_, rfl⟩
  have lX : X.length ≤ 4 := by rw [hX, bothE_len]; omega
  rw [← hX] at hW
  have EX := Lib.hid hX
  have HX := Lib.hid hW
  obtain ⟨pX, cX, rfl⟩ := ws_len hW
  clear hW hB hX
  go_wp2_with fail
  refine (inter_any _ _ _ _ _ HA.out HB.out (by omega) (by omega)).mono ?_
  rintro e w16 ⟨vY, rfl, hW, hB⟩
  have BB := Lib.hid (BB.out.trans (hB.mono BB.out.size))
  have HA := Lib.hid (HA.out.below hB)
  have HB := Lib.hid (HB.out.below hB)
  have HC := Lib.hid (HC.out.below hB)
  have HU := Lib.hid (HU.out.below hB)
  have HI := Lib.hid (HI.out.below hB)
  have HM := Lib.hid (HM.out.below hB)
  have HJ := Lib.hid (HJ.out.below hB)
  have HL := Lib.hid (HL.out.below hB)
  have HV := Lib.hid (HV.out.below hB)
  have HX := Lib.hid (HX.out.below hB)
  obtain ⟨Y, hY⟩ : ∃ z, z = bothE andN A B := ⟨_, rfl⟩
  have lY : Y.length ≤ 4 := by rw [hY, bothE_len]; omega
  rw [← hY] at hW
  have EY := Lib.hid hY
  have HY := Lib.hid hW
  obtain ⟨pY, cY, rfl⟩ := ws_len hW
  clear hW hB hY
  go_wp2_with fail
  refine (inter_any _ _ _ _ _ HA.out HC.out (by omega) (by omega)).mono ?_
  rintro e w17 ⟨vZ, rfl, hW, hB⟩
  have BB := Lib.hid (BB.out.trans (hB.mono BB.out.size))
  have HA := Lib.hid (HA.out.below hB)
  have HB := Lib.hid (HB.out.below hB)
  have HC := Lib.hid (HC.out.below hB)
  have HU := Lib.hid (HU.out.below hB)
  have HI := Lib.hid (HI.out.below hB)
  have HM := Lib.hid (HM.out.below hB)
  have HJ := Lib.hid (HJ.out.below hB)
  have HL := Lib.hid (HL.out.below hB)
  have HV := Lib.hid (HV.out.below hB)
  have HX := Lib.hid (HX.out.below hB)
  have HY := Lib.hid (HY.out.below hB)
  obtain ⟨Z, hZ⟩ : ∃ z, z = bothE andN A C := ⟨_, rfl⟩
  have lZ : Z.length ≤ 4 := by rw [hZ, bothE_len]; omega
  rw [← hZ] at hW
  have EZ := Lib.hid hZ
  have HZ := Lib.hid hW
  obtain ⟨pZ, cZ, rfl⟩ := ws_len hW
  clear hW hB hZ
  go_wp2_with fail
  refine (union_any _ _ _ _ _ HY.out HZ.out (by omega) (by omega)).mono ?_
  rintro e w18 ⟨vR, rfl, hW, hB⟩
  have BB := Lib.hid (BB.out.trans (hB.mono BB.out.size))
  have HA := Lib.hid (HA.out.below hB)
  have HB := Lib.hid (HB.out.below hB)
  have HC := Lib.hid (HC.out.below hB)
  have HU := Lib.hid (HU.out.below hB)
  have HI := Lib.hid (HI.out.below hB)
  have HM := Lib.hid (HM.out.below hB)
  have HJ := Lib.hid (HJ.out.below hB)
  have HL := Lib.hid (HL.out.below hB)
  have HV := Lib.hid (HV.out.below hB)
  have HX := Lib.hid (HX.out.below hB)
  have HY := Lib.hid (HY.out.below hB)
  have HZ := Lib.hid (HZ.out.below hB)
  obtain ⟨R, hR⟩ : ∃ z, z = bothE orN Y Z := ⟨_, rfl⟩
  have lR : R.length ≤ 4 := by rw [hR, bothE_len]; omega
  rw [← hR] at hW
  have ER := Lib.hid hR
  have HR := Lib.hid hW
  obtain ⟨pR, cR, rfl⟩ := ws_len hW
  clear hW hB hR
  go_wp2_with fail
  refine (within_s _ _ _ _ _ HX.out HR.out (by omega) (by omega)).mono ?_
  rintro e w19 ⟨rfl, hB⟩
  have BB := Lib.hid (BB.out.trans (hB.mono BB.out.size))
  have HA := Lib.hid (HA.out.below hB)
  have HB := Lib.hid (HB.out.below hB)
  have HC := Lib.hid (HC.out.below hB)
  have HU := Lib.hid (HU.out.below hB)
  have HI := Lib.hid (HI.out.below hB)
  have HM := Lib.hid (HM.out.below hB)
  have HJ := Lib.hid (HJ.out.below hB)
  have HL := Lib.hid (HL.out.below hB)
  have HV := Lib.hid (HV.out.below hB)
  have HX := Lib.hid (HX.out.below hB)
  have HY := Lib.hid (HY.out.below hB)
  have HZ := Lib.hid (HZ.out.below hB)
  have HR := Lib.hid (HR.out.below hB)
  clear hB
  rw [show subE X R = true by rw [EX.out, EV.out, ER.out, EY.out, EZ.out]; exact law_dist QA.out QB.out QC.out]
  go_wp2_with fail
  refine (within_s _ _ _ _ _ HA.out HB.out (by omega) (by omega)).mono ?_
  rintro e w20 ⟨rfl, hB⟩
  have BB := Lib.hid (BB.out.trans (hB.mono BB.out.size))
  have HA := Lib.hid (HA.out.below hB)
  have HB := Lib.hid (HB.out.below hB)
  have HC := Lib.hid (HC.out.below hB)
  have HU := Lib.hid (HU.out.below hB)
  have HI := Lib.hid (HI.out.below hB)
  have HM := Lib.hid (HM.out.below hB)
  have HJ := Lib.hid (HJ.out.below hB)
  have HL := Lib.hid (HL.out.below hB)
  have HV := Lib.hid (HV.out.below hB)
  have HX := Lib.hid (HX.out.below hB)
  have HY := Lib.hid (HY.out.below hB)
  have HZ := Lib.hid (HZ.out.below hB)
  have HR := Lib.hid (HR.out.below hB)
  clear hB
  have hLT := Lib.hid (fun h => law_trans (xs := A) (ys := B) (zs := C) QA.out QB.out QC.out h)
  cases hab : subE A B with
  | false =>
    go_wp2_with fail
    go_ret
    exact ⟨rfl, BB.out⟩
  | true =>
    have HAB := Lib.hid hab
    clear hab
    go_wp2_with fail
    refine (within_s _ _ _ _ _ HB.out HC.out (by omega) (by omega)).mono ?_
    rintro e w21 ⟨rfl, hB⟩
    have BB := Lib.hid (BB.out.trans (hB.mono BB.out.size))
    have HA := Lib.hid (HA.out.below hB)
    have HB := Lib.hid (HB.out.below hB)
    have HC := Lib.hid (HC.out.below hB)
    have HU := Lib.hid (HU.out.below hB)
    have HI := Lib.hid (HI.out.below hB)
    have HM := Lib.hid (HM.out.below hB)
    have HJ := Lib.hid (HJ.out.below hB)
    have HL := Lib.hid (HL.out.below hB)
    have HV := Lib.hid (HV.out.below hB)
    have HX := Lib.hid (HX.out.below hB)
    have HY := Lib.hid (HY.out.below hB)
    have HZ := Lib.hid (HZ.out.below hB)
    have HR := Lib.hid (HR.out.below hB)
    clear hB
    cases hbc : subE B C with
    | false =>
      go_wp2_with fail
      go_ret
      exact ⟨rfl, BB.out⟩
    | true =>
      have HBC := Lib.hid hbc
      clear hbc
      go_wp2_with fail
      refine (within_s _ _ _ _ _ HA.out HC.out (by omega) (by omega)).mono ?_
      rintro e w22 ⟨rfl, hB⟩
      have BB := Lib.hid (BB.out.trans (hB.mono BB.out.size))
      have HA := Lib.hid (HA.out.below hB)
      have HB := Lib.hid (HB.out.below hB)
      have HC := Lib.hid (HC.out.below hB)
      have HU := Lib.hid (HU.out.below hB)
      have HI := Lib.hid (HI.out.below hB)
      have HM := Lib.hid (HM.out.below hB)
      have HJ := Lib.hid (HJ.out.below hB)
      have HL := Lib.hid (HL.out.below hB)
      have HV := Lib.hid (HV.out.below hB)
      have HX := Lib.hid (HX.out.below hB)
      have HY := Lib.hid (HY.out.below hB)
      have HZ := Lib.hid (HZ.out.below hB)
      have HR := Lib.hid (HR.out.below hB)
      clear hB
      rw [show subE A C = true from hLT.out HAB.out HBC.out]
      go_wp2_with fail
      go_ret
      exact ⟨rfl, BB.out⟩

end Go.Proofs.YtdifegcpfpdngaaDoor
