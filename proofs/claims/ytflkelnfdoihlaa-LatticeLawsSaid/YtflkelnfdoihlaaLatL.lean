/-
  The law LatticeLaws: its walk. Written by wip/gen/mkwlat.py.
-/
import Derived.Test.YtflkelnfdoihlaaLatLaw
namespace Go.Proofs.Ytflkelnfdoihlaa
open Go.RowKit

set_option maxHeartbeats 25600000 in
set_option maxRecDepth 100000 in
theorem latticeLaws_walk (what width : Int) (vA vB vC : Value) (A B C : List Nat) (w : World) (hA : Ws w vA A) (hB : Ws w vB B) (hC : Ws w vC C) (m1 : A.length ≤ maxLen) (m2 : B.length ≤ maxLen) (m3 : C.length ≤ maxLen) :
    Calls Try.prog 5 #[.int .i64 what, .int .i64 width, vA, vB, vC] w fun e w' => e = .returned (.bool true) ∧ Below w.heap.size w w' := by
  have m1 : A.length ≤ 9223372036854775807 := m1
  have m2 : B.length ≤ 9223372036854775807 := m2
  have m3 : C.length ≤ 9223372036854775807 := m3
  have QA := Lib.hid hA.1
  have HA := Lib.hid hA
  obtain ⟨pA, cA, rfl⟩ := ws_len hA
  have QB := Lib.hid hB.1
  have HB := Lib.hid hB
  obtain ⟨pB, cB, rfl⟩ := ws_len hB
  have QC := Lib.hid hC.1
  have HC := Lib.hid hC
  obtain ⟨pC, cC, rfl⟩ := ws_len hC
  have BB := Lib.hid (Below.refl w.heap.size w)
  clear hA hB hC
  go_enter Try.func5, Try.ntmps5
  go_wp2_with fail
  refine (lawake_any w).mono ?_
  rintro e w1 ⟨rfl, hB⟩
  have BB := Lib.hid (BB.out.trans (hB.mono BB.out.size))
  have HA := Lib.hid (HA.out.below hB)
  have HB := Lib.hid (HB.out.below hB)
  have HC := Lib.hid (HC.out.below hB)
  clear hB
  have HS := Lib.hid (Sets.three 22 HA.out HB.out HC.out)
  have hB := (Below.refl w1.heap.size w1).alloc (Nat.le_refl _) (.cells #[.slice pA A.length cA, .slice pB B.length cB, .slice pC C.length cC] 22)
  go_wp2_with fail
  have BB := Lib.hid (BB.out.trans (hB.mono BB.out.size))
  have HA := Lib.hid (HA.out.below hB)
  have HB := Lib.hid (HB.out.below hB)
  have HC := Lib.hid (HC.out.below hB)
  clear hB
  refine (lfew_any width _ [A, B, C] _ HS.out (by simp; omega) (by simp)).mono ?_
  rintro e w2 ⟨rfl, hww⟩
  subst w2
  clear HS
  cases hfw : fewE width [A, B, C] with
  | false =>
    go_wp2_with fail
    go_ret
    exact ⟨rfl, BB.out⟩
  | true =>
    obtain ⟨hl, hwd⟩ := few_iff hfw
    have lA : A.length ≤ 70 := hl A (by simp)
    have lB : B.length ≤ 70 := hl B (by simp)
    have lC : C.length ≤ 70 := hl C (by simp)
    have HWD := Lib.hid hwd
    clear hl hwd hfw
    go_wp2_with fail
    refine (rval_any what width _ A _ HA.out (by omega)).mono ?_
    rintro e w3 ⟨rfl, hB⟩
    have BB := Lib.hid (BB.out.trans (hB.mono BB.out.size))
    have HA := Lib.hid (HA.out.below hB)
    have HB := Lib.hid (HB.out.below hB)
    have HC := Lib.hid (HC.out.below hB)
    clear hB
    cases hvA : valueE what width A with
    | false =>
      clear hvA
      go_wp2_with fail
      go_ret
      exact ⟨rfl, BB.out⟩
    | true =>
      have VA := Lib.hid hvA
      clear hvA
      go_wp2_with fail
      refine (rval_any what width _ B _ HB.out (by omega)).mono ?_
      rintro e w4 ⟨rfl, hB⟩
      have BB := Lib.hid (BB.out.trans (hB.mono BB.out.size))
      have HA := Lib.hid (HA.out.below hB)
      have HB := Lib.hid (HB.out.below hB)
      have HC := Lib.hid (HC.out.below hB)
      clear hB
      cases hvB : valueE what width B with
      | false =>
        clear hvB
        go_wp2_with fail
        go_ret
        exact ⟨rfl, BB.out⟩
      | true =>
        have VB := Lib.hid hvB
        clear hvB
        go_wp2_with fail
        refine (rval_any what width _ C _ HC.out (by omega)).mono ?_
        rintro e w5 ⟨rfl, hB⟩
        have BB := Lib.hid (BB.out.trans (hB.mono BB.out.size))
        have HA := Lib.hid (HA.out.below hB)
        have HB := Lib.hid (HB.out.below hB)
        have HC := Lib.hid (HC.out.below hB)
        clear hB
        cases hvC : valueE what width C with
        | false =>
          clear hvC
          go_wp2_with fail
          go_ret
          exact ⟨rfl, BB.out⟩
        | true =>
          have VC := Lib.hid hvC
          clear hvC
          have HL := Lib.hid (value_is VA.out)
          go_wp2_with fail
          refine (ljoin_any what width _ _ A B _ HA.out HB.out (by omega) (by omega)).mono ?_
          rintro e w6 ⟨vJ, rfl, hW, hB⟩
          have BB := Lib.hid (BB.out.trans (hB.mono BB.out.size))
          have HA := Lib.hid (HA.out.below hB)
          have HB := Lib.hid (HB.out.below hB)
          have HC := Lib.hid (HC.out.below hB)
          rw [check_both HL.out VA.out VB.out]
          rw [check_both HL.out VA.out VB.out, if_pos rfl] at hW
          obtain ⟨J, hJ⟩ : ∃ z, z = joinE what A B := ⟨_, rfl⟩
          have lJ : J.length ≤ 70 := by rw [hJ, joinE_len what (by rw [value_len VA.out, value_len VB.out])]; exact lA
          rw [← hJ] at hW
          have EJ := Lib.hid hJ
          have HJ := Lib.hid hW
          obtain ⟨pJ, cJ, rfl⟩ := ws_len hW
          clear hW hB hJ
          go_wp2_with fail
          refine (ljoin_any what width _ _ B A _ HB.out HA.out (by omega) (by omega)).mono ?_
          rintro e w7 ⟨vK, rfl, hW, hB⟩
          have BB := Lib.hid (BB.out.trans (hB.mono BB.out.size))
          have HA := Lib.hid (HA.out.below hB)
          have HB := Lib.hid (HB.out.below hB)
          have HC := Lib.hid (HC.out.below hB)
          have HJ := Lib.hid (HJ.out.below hB)
          rw [check_both HL.out VB.out VA.out]
          rw [check_both HL.out VB.out VA.out, if_pos rfl] at hW
          obtain ⟨K, hK⟩ : ∃ z, z = joinE what B A := ⟨_, rfl⟩
          have lK : K.length ≤ 70 := by rw [hK, joinE_len what (by rw [value_len VB.out, value_len VA.out])]; exact lB
          rw [← hK] at hW
          have EK := Lib.hid hK
          have HK := Lib.hid hW
          obtain ⟨pK, cK, rfl⟩ := ws_len hW
          clear hW hB hK
          have VJ := Lib.hid (show valueE what width J = true by rw [EJ.out]; exact join_value QA.out QB.out VA.out VB.out)
          have QJ := Lib.hid (show ∀ z ∈ J, z < 18446744073709551616 by rw [EJ.out]; exact join_lt QA.out QB.out)
          have EJ2 := Lib.hid (show J = joinE what B A by rw [EJ.out, join_comm])
          go_wp2_with fail
          refine (words_same _ _ _ _ _ HJ.out HK.out (by omega) (by rw [EJ2.out, EK.out])).mono ?_
          rintro e w8 ⟨rfl, nq, hww⟩
          have hB := bel_of_drewN hww
          clear hww
          have BB := Lib.hid (BB.out.trans (hB.mono BB.out.size))
          have HA := Lib.hid (HA.out.below hB)
          have HB := Lib.hid (HB.out.below hB)
          have HC := Lib.hid (HC.out.below hB)
          have HJ := Lib.hid (HJ.out.below hB)
          have HK := Lib.hid (HK.out.below hB)
          clear hB
          go_wp2_with fail
          refine (lbelow_s what width _ _ A J _ HA.out HJ.out (by omega) (by omega)).mono ?_
          rintro e w9 ⟨rfl, hB⟩
          have BB := Lib.hid (BB.out.trans (hB.mono BB.out.size))
          have HA := Lib.hid (HA.out.below hB)
          have HB := Lib.hid (HB.out.below hB)
          have HC := Lib.hid (HC.out.below hB)
          have HJ := Lib.hid (HJ.out.below hB)
          have HK := Lib.hid (HK.out.below hB)
          clear hB
          rw [show lb what width A J = true from lb_true VA.out VJ.out (by rw [EJ.out]; exact below_join QA.out QB.out VA.out VB.out)]
          go_wp2_with fail
          refine (lbelow_s what width _ _ B J _ HB.out HJ.out (by omega) (by omega)).mono ?_
          rintro e w10 ⟨rfl, hB⟩
          have BB := Lib.hid (BB.out.trans (hB.mono BB.out.size))
          have HA := Lib.hid (HA.out.below hB)
          have HB := Lib.hid (HB.out.below hB)
          have HC := Lib.hid (HC.out.below hB)
          have HJ := Lib.hid (HJ.out.below hB)
          have HK := Lib.hid (HK.out.below hB)
          clear hB
          rw [show lb what width B J = true from lb_true VB.out VJ.out (by rw [EJ2.out]; exact below_join QB.out QA.out VB.out VA.out)]
          go_wp2_with fail
          refine (lbelow_s what width _ _ A C _ HA.out HC.out (by omega) (by omega)).mono ?_
          rintro e w11 ⟨rfl, hB⟩
          have BB := Lib.hid (BB.out.trans (hB.mono BB.out.size))
          have HA := Lib.hid (HA.out.below hB)
          have HB := Lib.hid (HB.out.below hB)
          have HC := Lib.hid (HC.out.below hB)
          have HJ := Lib.hid (HJ.out.below hB)
          have HK := Lib.hid (HK.out.below hB)
          clear hB
          cases hac : lb what width A C with
          | false =>
            clear hac
            go_wp2_with fail
            refine (bottom_any what width _).mono ?_
            rintro e w12 ⟨vP, rfl, hW, hB⟩
            have BB := Lib.hid (BB.out.trans (hB.mono BB.out.size))
            have HA := Lib.hid (HA.out.below hB)
            have HB := Lib.hid (HB.out.below hB)
            have HC := Lib.hid (HC.out.below hB)
            have HJ := Lib.hid (HJ.out.below hB)
            have HK := Lib.hid (HK.out.below hB)
            obtain ⟨P, hP⟩ : ∃ z, z = bottomE what width := ⟨_, rfl⟩
            have lP : P.length ≤ 1024 := by rw [hP, bottom_len]; exact wordsN_le what width
            rw [← hP] at hW
            have EP := Lib.hid hP
            have HP := Lib.hid hW
            obtain ⟨pP, cP, rfl⟩ := ws_len hW
            clear hW hB hP
            go_wp2_with fail
            refine (lbelow_s what width _ _ P A _ HP.out HA.out (by omega) (by omega)).mono ?_
            rintro e w13 ⟨rfl, hB⟩
            have BB := Lib.hid (BB.out.trans (hB.mono BB.out.size))
            have HA := Lib.hid (HA.out.below hB)
            have HB := Lib.hid (HB.out.below hB)
            have HC := Lib.hid (HC.out.below hB)
            have HJ := Lib.hid (HJ.out.below hB)
            have HK := Lib.hid (HK.out.below hB)
            have HP := Lib.hid (HP.out.below hB)
            clear hB
            rw [show lb what width P A = true from lb_true (by rw [EP.out]; exact bottom_value HL.out) VA.out (by rw [EP.out]; exact bottom_below QA.out VA.out)]
            go_wp2_with fail
            refine (top_any what width _).mono ?_
            rintro e w14 ⟨vT, rfl, hW, hB⟩
            have BB := Lib.hid (BB.out.trans (hB.mono BB.out.size))
            have HA := Lib.hid (HA.out.below hB)
            have HB := Lib.hid (HB.out.below hB)
            have HC := Lib.hid (HC.out.below hB)
            have HJ := Lib.hid (HJ.out.below hB)
            have HK := Lib.hid (HK.out.below hB)
            have HP := Lib.hid (HP.out.below hB)
            obtain ⟨T, hT⟩ : ∃ z, z = topE what width := ⟨_, rfl⟩
            have lT : T.length ≤ 1024 := by rw [hT, top_len]; exact wordsN_le what width
            rw [← hT] at hW
            have ET := Lib.hid hT
            have HT := Lib.hid hW
            obtain ⟨pT, cT, rfl⟩ := ws_len hW
            clear hW hB hT
            go_wp2_with fail
            refine (lbelow_s what width _ _ A T _ HA.out HT.out (by omega) (by omega)).mono ?_
            rintro e w15 ⟨rfl, hB⟩
            have BB := Lib.hid (BB.out.trans (hB.mono BB.out.size))
            have HA := Lib.hid (HA.out.below hB)
            have HB := Lib.hid (HB.out.below hB)
            have HC := Lib.hid (HC.out.below hB)
            have HJ := Lib.hid (HJ.out.below hB)
            have HK := Lib.hid (HK.out.below hB)
            have HP := Lib.hid (HP.out.below hB)
            have HT := Lib.hid (HT.out.below hB)
            clear hB
            rw [show lb what width A T = true from lb_true VA.out (by rw [ET.out]; exact top_value HL.out) (by rw [ET.out]; exact below_top QA.out VA.out)]
            go_wp2_with fail
            refine (lrank_any what width _ A _ HA.out (by omega)).mono ?_
            rintro e w16 ⟨rfl, hB⟩
            have BB := Lib.hid (BB.out.trans (hB.mono BB.out.size))
            have HA := Lib.hid (HA.out.below hB)
            have HB := Lib.hid (HB.out.below hB)
            have HC := Lib.hid (HC.out.below hB)
            have HJ := Lib.hid (HJ.out.below hB)
            have HK := Lib.hid (HK.out.below hB)
            have HP := Lib.hid (HP.out.below hB)
            have HT := Lib.hid (HT.out.below hB)
            clear hB
            rw [check_one HL.out VA.out, show rankR what width A = rankE what width A by unfold rankR; rw [check_one HL.out VA.out, if_pos rfl]]
            obtain ⟨ra, hra⟩ : ∃ z, z = rankE what width A := ⟨_, rfl⟩
            rw [← hra]
            have Nra := Lib.hid hra
            clear hra
            go_wp2_with fail
            refine (lrank_any what width _ J _ HJ.out (by omega)).mono ?_
            rintro e w17 ⟨rfl, hB⟩
            have BB := Lib.hid (BB.out.trans (hB.mono BB.out.size))
            have HA := Lib.hid (HA.out.below hB)
            have HB := Lib.hid (HB.out.below hB)
            have HC := Lib.hid (HC.out.below hB)
            have HJ := Lib.hid (HJ.out.below hB)
            have HK := Lib.hid (HK.out.below hB)
            have HP := Lib.hid (HP.out.below hB)
            have HT := Lib.hid (HT.out.below hB)
            clear hB
            rw [check_one HL.out VJ.out, show rankR what width J = rankE what width J by unfold rankR; rw [check_one HL.out VJ.out, if_pos rfl]]
            obtain ⟨rj, hrj⟩ : ∃ z, z = rankE what width J := ⟨_, rfl⟩
            rw [← hrj]
            have Nrj := Lib.hid hrj
            clear hrj
            go_wp2_with fail
            refine (lheight_any what width _).mono ?_
            rintro e w18 ⟨rfl, hww⟩
            subst w18
            obtain ⟨hh, hhh⟩ : ∃ z, z = heightE what width := ⟨_, rfl⟩
            rw [← hhh]
            have Nhh := Lib.hid hhh
            clear hhh
            have hjh : rj ≤ hh := by rw [Nrj.out, Nhh.out]; exact rank_height QJ.out VJ.out (by have := HWD.out; omega)
            have HRJ := Lib.hid (show ra ≤ rj ∧ (ra = rj ↔ A = J) by rw [Nra.out, Nrj.out, EJ.out]; exact rank_join QA.out QB.out VA.out VB.out)
            have haj : ra ≤ rj := HRJ.out.1
            have d1 : decide (hh < rj) = false := by simp; omega
            have d2 : decide (rj < ra) = false := by simp; omega
            go_wp2_with fail
            refine (same_any _ _ A J _ HA.out HJ.out (by omega) (by omega)).mono ?_
            rintro e w19 ⟨rfl, nq, hww⟩
            have hB := bel_of_drewN hww
            clear hww
            have BB := Lib.hid (BB.out.trans (hB.mono BB.out.size))
            have HA := Lib.hid (HA.out.below hB)
            have HB := Lib.hid (HB.out.below hB)
            have HC := Lib.hid (HC.out.below hB)
            have HJ := Lib.hid (HJ.out.below hB)
            have HK := Lib.hid (HK.out.below hB)
            have HP := Lib.hid (HP.out.below hB)
            have HT := Lib.hid (HT.out.below hB)
            clear hB
            have heq : ((ra == rj) == decide (A = J)) = true := by
              rw [beq_iff_eq, Bool.eq_iff_iff, beq_iff_eq, decide_eq_true_eq]
              exact HRJ.out.2
            obtain ⟨sb, hsb⟩ : ∃ z, z = decide (A = J) := ⟨_, rfl⟩
            rw [← hsb] at heq ⊢
            clear hsb
            go_wp2_with fail
            refine (lbelow_s what width _ _ A B _ HA.out HB.out (by omega) (by omega)).mono ?_
            rintro e w20 ⟨rfl, hB⟩
            have BB := Lib.hid (BB.out.trans (hB.mono BB.out.size))
            have HA := Lib.hid (HA.out.below hB)
            have HB := Lib.hid (HB.out.below hB)
            have HC := Lib.hid (HC.out.below hB)
            have HJ := Lib.hid (HJ.out.below hB)
            have HK := Lib.hid (HK.out.below hB)
            have HP := Lib.hid (HP.out.below hB)
            have HT := Lib.hid (HT.out.below hB)
            clear hB
            cases hab : lb what width A B with
            | false =>
              clear hab
              go_wp2_with fail
              go_ret
              exact ⟨rfl, BB.out⟩
            | true =>
              have LAB := Lib.hid hab
              clear hab
              go_wp2_with fail
              refine (lbelow_s what width _ _ B A _ HB.out HA.out (by omega) (by omega)).mono ?_
              rintro e w21 ⟨rfl, hB⟩
              have BB := Lib.hid (BB.out.trans (hB.mono BB.out.size))
              have HA := Lib.hid (HA.out.below hB)
              have HB := Lib.hid (HB.out.below hB)
              have HC := Lib.hid (HC.out.below hB)
              have HJ := Lib.hid (HJ.out.below hB)
              have HK := Lib.hid (HK.out.below hB)
              have HP := Lib.hid (HP.out.below hB)
              have HT := Lib.hid (HT.out.below hB)
              clear hB
              cases hba : lb what width B A with
              | false =>
                clear hba
                go_wp2_with fail
                go_ret
                exact ⟨rfl, BB.out⟩
              | true =>
                have HEQ := Lib.hid (below_anti (lb_below LAB.out) (lb_below hba))
                clear hba
                go_wp2_with fail
                refine (words_same _ _ A B _ HA.out HB.out (by omega) HEQ.out).mono ?_
                rintro e w22 ⟨rfl, nq, hww⟩
                have hB := bel_of_drewN hww
                clear hww
                have BB := Lib.hid (BB.out.trans (hB.mono BB.out.size))
                have HA := Lib.hid (HA.out.below hB)
                have HB := Lib.hid (HB.out.below hB)
                have HC := Lib.hid (HC.out.below hB)
                have HJ := Lib.hid (HJ.out.below hB)
                have HK := Lib.hid (HK.out.below hB)
                have HP := Lib.hid (HP.out.below hB)
                have HT := Lib.hid (HT.out.below hB)
                clear hB
                go_wp2_with fail
                go_ret
                exact ⟨rfl, BB.out⟩
          | true =>
            have LAC := Lib.hid hac
            clear hac
            go_wp2_with fail
            refine (lbelow_s what width _ _ B C _ HB.out HC.out (by omega) (by omega)).mono ?_
            rintro e w12 ⟨rfl, hB⟩
            have BB := Lib.hid (BB.out.trans (hB.mono BB.out.size))
            have HA := Lib.hid (HA.out.below hB)
            have HB := Lib.hid (HB.out.below hB)
            have HC := Lib.hid (HC.out.below hB)
            have HJ := Lib.hid (HJ.out.below hB)
            have HK := Lib.hid (HK.out.below hB)
            clear hB
            cases hbc : lb what width B C with
            | false =>
              clear hbc
              go_wp2_with fail
              refine (bottom_any what width _).mono ?_
              rintro e w13 ⟨vP, rfl, hW, hB⟩
              have BB := Lib.hid (BB.out.trans (hB.mono BB.out.size))
              have HA := Lib.hid (HA.out.below hB)
              have HB := Lib.hid (HB.out.below hB)
              have HC := Lib.hid (HC.out.below hB)
              have HJ := Lib.hid (HJ.out.below hB)
              have HK := Lib.hid (HK.out.below hB)
              obtain ⟨P, hP⟩ : ∃ z, z = bottomE what width := ⟨_, rfl⟩
              have lP : P.length ≤ 1024 := by rw [hP, bottom_len]; exact wordsN_le what width
              rw [← hP] at hW
              have EP := Lib.hid hP
              have HP := Lib.hid hW
              obtain ⟨pP, cP, rfl⟩ := ws_len hW
              clear hW hB hP
              go_wp2_with fail
              refine (lbelow_s what width _ _ P A _ HP.out HA.out (by omega) (by omega)).mono ?_
              rintro e w14 ⟨rfl, hB⟩
              have BB := Lib.hid (BB.out.trans (hB.mono BB.out.size))
              have HA := Lib.hid (HA.out.below hB)
              have HB := Lib.hid (HB.out.below hB)
              have HC := Lib.hid (HC.out.below hB)
              have HJ := Lib.hid (HJ.out.below hB)
              have HK := Lib.hid (HK.out.below hB)
              have HP := Lib.hid (HP.out.below hB)
              clear hB
              rw [show lb what width P A = true from lb_true (by rw [EP.out]; exact bottom_value HL.out) VA.out (by rw [EP.out]; exact bottom_below QA.out VA.out)]
              go_wp2_with fail
              refine (top_any what width _).mono ?_
              rintro e w15 ⟨vT, rfl, hW, hB⟩
              have BB := Lib.hid (BB.out.trans (hB.mono BB.out.size))
              have HA := Lib.hid (HA.out.below hB)
              have HB := Lib.hid (HB.out.below hB)
              have HC := Lib.hid (HC.out.below hB)
              have HJ := Lib.hid (HJ.out.below hB)
              have HK := Lib.hid (HK.out.below hB)
              have HP := Lib.hid (HP.out.below hB)
              obtain ⟨T, hT⟩ : ∃ z, z = topE what width := ⟨_, rfl⟩
              have lT : T.length ≤ 1024 := by rw [hT, top_len]; exact wordsN_le what width
              rw [← hT] at hW
              have ET := Lib.hid hT
              have HT := Lib.hid hW
              obtain ⟨pT, cT, rfl⟩ := ws_len hW
              clear hW hB hT
              go_wp2_with fail
              refine (lbelow_s what width _ _ A T _ HA.out HT.out (by omega) (by omega)).mono ?_
              rintro e w16 ⟨rfl, hB⟩
              have BB := Lib.hid (BB.out.trans (hB.mono BB.out.size))
              have HA := Lib.hid (HA.out.below hB)
              have HB := Lib.hid (HB.out.below hB)
              have HC := Lib.hid (HC.out.below hB)
              have HJ := Lib.hid (HJ.out.below hB)
              have HK := Lib.hid (HK.out.below hB)
              have HP := Lib.hid (HP.out.below hB)
              have HT := Lib.hid (HT.out.below hB)
              clear hB
              rw [show lb what width A T = true from lb_true VA.out (by rw [ET.out]; exact top_value HL.out) (by rw [ET.out]; exact below_top QA.out VA.out)]
              go_wp2_with fail
              refine (lrank_any what width _ A _ HA.out (by omega)).mono ?_
              rintro e w17 ⟨rfl, hB⟩
              have BB := Lib.hid (BB.out.trans (hB.mono BB.out.size))
              have HA := Lib.hid (HA.out.below hB)
              have HB := Lib.hid (HB.out.below hB)
              have HC := Lib.hid (HC.out.below hB)
              have HJ := Lib.hid (HJ.out.below hB)
              have HK := Lib.hid (HK.out.below hB)
              have HP := Lib.hid (HP.out.below hB)
              have HT := Lib.hid (HT.out.below hB)
              clear hB
              rw [check_one HL.out VA.out, show rankR what width A = rankE what width A by unfold rankR; rw [check_one HL.out VA.out, if_pos rfl]]
              obtain ⟨ra, hra⟩ : ∃ z, z = rankE what width A := ⟨_, rfl⟩
              rw [← hra]
              have Nra := Lib.hid hra
              clear hra
              go_wp2_with fail
              refine (lrank_any what width _ J _ HJ.out (by omega)).mono ?_
              rintro e w18 ⟨rfl, hB⟩
              have BB := Lib.hid (BB.out.trans (hB.mono BB.out.size))
              have HA := Lib.hid (HA.out.below hB)
              have HB := Lib.hid (HB.out.below hB)
              have HC := Lib.hid (HC.out.below hB)
              have HJ := Lib.hid (HJ.out.below hB)
              have HK := Lib.hid (HK.out.below hB)
              have HP := Lib.hid (HP.out.below hB)
              have HT := Lib.hid (HT.out.below hB)
              clear hB
              rw [check_one HL.out VJ.out, show rankR what width J = rankE what width J by unfold rankR; rw [check_one HL.out VJ.out, if_pos rfl]]
              obtain ⟨rj, hrj⟩ : ∃ z, z = rankE what width J := ⟨_, rfl⟩
              rw [← hrj]
              have Nrj := Lib.hid hrj
              clear hrj
              go_wp2_with fail
              refine (lheight_any what width _).mono ?_
              rintro e w19 ⟨rfl, hww⟩
              subst w19
              obtain ⟨hh, hhh⟩ : ∃ z, z = heightE what width := ⟨_, rfl⟩
              rw [← hhh]
              have Nhh := Lib.hid hhh
              clear hhh
              have hjh : rj ≤ hh := by rw [Nrj.out, Nhh.out]; exact rank_height QJ.out VJ.out (by have := HWD.out; omega)
              have HRJ := Lib.hid (show ra ≤ rj ∧ (ra = rj ↔ A = J) by rw [Nra.out, Nrj.out, EJ.out]; exact rank_join QA.out QB.out VA.out VB.out)
              have haj : ra ≤ rj := HRJ.out.1
              have d1 : decide (hh < rj) = false := by simp; omega
              have d2 : decide (rj < ra) = false := by simp; omega
              go_wp2_with fail
              refine (same_any _ _ A J _ HA.out HJ.out (by omega) (by omega)).mono ?_
              rintro e w20 ⟨rfl, nq, hww⟩
              have hB := bel_of_drewN hww
              clear hww
              have BB := Lib.hid (BB.out.trans (hB.mono BB.out.size))
              have HA := Lib.hid (HA.out.below hB)
              have HB := Lib.hid (HB.out.below hB)
              have HC := Lib.hid (HC.out.below hB)
              have HJ := Lib.hid (HJ.out.below hB)
              have HK := Lib.hid (HK.out.below hB)
              have HP := Lib.hid (HP.out.below hB)
              have HT := Lib.hid (HT.out.below hB)
              clear hB
              have heq : ((ra == rj) == decide (A = J)) = true := by
                rw [beq_iff_eq, Bool.eq_iff_iff, beq_iff_eq, decide_eq_true_eq]
                exact HRJ.out.2
              obtain ⟨sb, hsb⟩ : ∃ z, z = decide (A = J) := ⟨_, rfl⟩
              rw [← hsb] at heq ⊢
              clear hsb
              go_wp2_with fail
              refine (lbelow_s what width _ _ A B _ HA.out HB.out (by omega) (by omega)).mono ?_
              rintro e w21 ⟨rfl, hB⟩
              have BB := Lib.hid (BB.out.trans (hB.mono BB.out.size))
              have HA := Lib.hid (HA.out.below hB)
              have HB := Lib.hid (HB.out.below hB)
              have HC := Lib.hid (HC.out.below hB)
              have HJ := Lib.hid (HJ.out.below hB)
              have HK := Lib.hid (HK.out.below hB)
              have HP := Lib.hid (HP.out.below hB)
              have HT := Lib.hid (HT.out.below hB)
              clear hB
              cases hab : lb what width A B with
              | false =>
                clear hab
                go_wp2_with fail
                go_ret
                exact ⟨rfl, BB.out⟩
              | true =>
                have LAB := Lib.hid hab
                clear hab
                go_wp2_with fail
                refine (lbelow_s what width _ _ B A _ HB.out HA.out (by omega) (by omega)).mono ?_
                rintro e w22 ⟨rfl, hB⟩
                have BB := Lib.hid (BB.out.trans (hB.mono BB.out.size))
                have HA := Lib.hid (HA.out.below hB)
                have HB := Lib.hid (HB.out.below hB)
                have HC := Lib.hid (HC.out.below hB)
                have HJ := Lib.hid (HJ.out.below hB)
                have HK := Lib.hid (HK.out.below hB)
                have HP := Lib.hid (HP.out.below hB)
                have HT := Lib.hid (HT.out.below hB)
                clear hB
                cases hba : lb what width B A with
                | false =>
                  clear hba
                  go_wp2_with fail
                  go_ret
                  exact ⟨rfl, BB.out⟩
                | true =>
                  have HEQ := Lib.hid (below_anti (lb_below LAB.out) (lb_below hba))
                  clear hba
                  go_wp2_with fail
                  refine (words_same _ _ A B _ HA.out HB.out (by omega) HEQ.out).mono ?_
                  rintro e w23 ⟨rfl, nq, hww⟩
                  have hB := bel_of_drewN hww
                  clear hww
                  have BB := Lib.hid (BB.out.trans (hB.mono BB.out.size))
                  have HA := Lib.hid (HA.out.below hB)
                  have HB := Lib.hid (HB.out.below hB)
                  have HC := Lib.hid (HC.out.below hB)
                  have HJ := Lib.hid (HJ.out.below hB)
                  have HK := Lib.hid (HK.out.below hB)
                  have HP := Lib.hid (HP.out.below hB)
                  have HT := Lib.hid (HT.out.below hB)
                  clear hB
                  go_wp2_with fail
                  go_ret
                  exact ⟨rfl, BB.out⟩
            | true =>
              have LBC := Lib.hid hbc
              clear hbc
              go_wp2_with fail
              refine (lbelow_s what width _ _ J C _ HJ.out HC.out (by omega) (by omega)).mono ?_
              rintro e w13 ⟨rfl, hB⟩
              have BB := Lib.hid (BB.out.trans (hB.mono BB.out.size))
              have HA := Lib.hid (HA.out.below hB)
              have HB := Lib.hid (HB.out.below hB)
              have HC := Lib.hid (HC.out.below hB)
              have HJ := Lib.hid (HJ.out.below hB)
              have HK := Lib.hid (HK.out.below hB)
              clear hB
              rw [show lb what width J C = true from lb_true VJ.out VC.out (by rw [EJ.out]; exact join_least' QA.out QB.out QC.out VA.out VB.out VC.out (lb_below LAC.out) (lb_below LBC.out))]
              go_wp2_with fail
              refine (bottom_any what width _).mono ?_
              rintro e w14 ⟨vP, rfl, hW, hB⟩
              have BB := Lib.hid (BB.out.trans (hB.mono BB.out.size))
              have HA := Lib.hid (HA.out.below hB)
              have HB := Lib.hid (HB.out.below hB)
              have HC := Lib.hid (HC.out.below hB)
              have HJ := Lib.hid (HJ.out.below hB)
              have HK := Lib.hid (HK.out.below hB)
              obtain ⟨P, hP⟩ : ∃ z, z = bottomE what width := ⟨_, rfl⟩
              have lP : P.length ≤ 1024 := by rw [hP, bottom_len]; exact wordsN_le what width
              rw [← hP] at hW
              have EP := Lib.hid hP
              have HP := Lib.hid hW
              obtain ⟨pP, cP, rfl⟩ := ws_len hW
              clear hW hB hP
              go_wp2_with fail
              refine (lbelow_s what width _ _ P A _ HP.out HA.out (by omega) (by omega)).mono ?_
              rintro e w15 ⟨rfl, hB⟩
              have BB := Lib.hid (BB.out.trans (hB.mono BB.out.size))
              have HA := Lib.hid (HA.out.below hB)
              have HB := Lib.hid (HB.out.below hB)
              have HC := Lib.hid (HC.out.below hB)
              have HJ := Lib.hid (HJ.out.below hB)
              have HK := Lib.hid (HK.out.below hB)
              have HP := Lib.hid (HP.out.below hB)
              clear hB
              rw [show lb what width P A = true from lb_true (by rw [EP.out]; exact bottom_value HL.out) VA.out (by rw [EP.out]; exact bottom_below QA.out VA.out)]
              go_wp2_with fail
              refine (top_any what width _).mono ?_
              rintro e w16 ⟨vT, rfl, hW, hB⟩
              have BB := Lib.hid (BB.out.trans (hB.mono BB.out.size))
              have HA := Lib.hid (HA.out.below hB)
              have HB := Lib.hid (HB.out.below hB)
              have HC := Lib.hid (HC.out.below hB)
              have HJ := Lib.hid (HJ.out.below hB)
              have HK := Lib.hid (HK.out.below hB)
              have HP := Lib.hid (HP.out.below hB)
              obtain ⟨T, hT⟩ : ∃ z, z = topE what width := ⟨_, rfl⟩
              have lT : T.length ≤ 1024 := by rw [hT, top_len]; exact wordsN_le what width
              rw [← hT] at hW
              have ET := Lib.hid hT
              have HT := Lib.hid hW
              obtain ⟨pT, cT, rfl⟩ := ws_len hW
              clear hW hB hT
              go_wp2_with fail
              refine (lbelow_s what width _ _ A T _ HA.out HT.out (by omega) (by omega)).mono ?_
              rintro e w17 ⟨rfl, hB⟩
              have BB := Lib.hid (BB.out.trans (hB.mono BB.out.size))
              have HA := Lib.hid (HA.out.below hB)
              have HB := Lib.hid (HB.out.below hB)
              have HC := Lib.hid (HC.out.below hB)
              have HJ := Lib.hid (HJ.out.below hB)
              have HK := Lib.hid (HK.out.below hB)
              have HP := Lib.hid (HP.out.below hB)
              have HT := Lib.hid (HT.out.below hB)
              clear hB
              rw [show lb what width A T = true from lb_true VA.out (by rw [ET.out]; exact top_value HL.out) (by rw [ET.out]; exact below_top QA.out VA.out)]
              go_wp2_with fail
              refine (lrank_any what width _ A _ HA.out (by omega)).mono ?_
              rintro e w18 ⟨rfl, hB⟩
              have BB := Lib.hid (BB.out.trans (hB.mono BB.out.size))
              have HA := Lib.hid (HA.out.below hB)
              have HB := Lib.hid (HB.out.below hB)
              have HC := Lib.hid (HC.out.below hB)
              have HJ := Lib.hid (HJ.out.below hB)
              have HK := Lib.hid (HK.out.below hB)
              have HP := Lib.hid (HP.out.below hB)
              have HT := Lib.hid (HT.out.below hB)
              clear hB
              rw [check_one HL.out VA.out, show rankR what width A = rankE what width A by unfold rankR; rw [check_one HL.out VA.out, if_pos rfl]]
              obtain ⟨ra, hra⟩ : ∃ z, z = rankE what width A := ⟨_, rfl⟩
              rw [← hra]
              have Nra := Lib.hid hra
              clear hra
              go_wp2_with fail
              refine (lrank_any what width _ J _ HJ.out (by omega)).mono ?_
              rintro e w19 ⟨rfl, hB⟩
              have BB := Lib.hid (BB.out.trans (hB.mono BB.out.size))
              have HA := Lib.hid (HA.out.below hB)
              have HB := Lib.hid (HB.out.below hB)
              have HC := Lib.hid (HC.out.below hB)
              have HJ := Lib.hid (HJ.out.below hB)
              have HK := Lib.hid (HK.out.below hB)
              have HP := Lib.hid (HP.out.below hB)
              have HT := Lib.hid (HT.out.below hB)
              clear hB
              rw [check_one HL.out VJ.out, show rankR what width J = rankE what width J by unfold rankR; rw [check_one HL.out VJ.out, if_pos rfl]]
              obtain ⟨rj, hrj⟩ : ∃ z, z = rankE what width J := ⟨_, rfl⟩
              rw [← hrj]
              have Nrj := Lib.hid hrj
              clear hrj
              go_wp2_with fail
              refine (lheight_any what width _).mono ?_
              rintro e w20 ⟨rfl, hww⟩
              subst w20
              obtain ⟨hh, hhh⟩ : ∃ z, z = heightE what width := ⟨_, rfl⟩
              rw [← hhh]
              have Nhh := Lib.hid hhh
              clear hhh
              have hjh : rj ≤ hh := by rw [Nrj.out, Nhh.out]; exact rank_height QJ.out VJ.out (by have := HWD.out; omega)
              have HRJ := Lib.hid (show ra ≤ rj ∧ (ra = rj ↔ A = J) by rw [Nra.out, Nrj.out, EJ.out]; exact rank_join QA.out QB.out VA.out VB.out)
              have haj : ra ≤ rj := HRJ.out.1
              have d1 : decide (hh < rj) = false := by simp; omega
              have d2 : decide (rj < ra) = false := by simp; omega
              go_wp2_with fail
              refine (same_any _ _ A J _ HA.out HJ.out (by omega) (by omega)).mono ?_
              rintro e w21 ⟨rfl, nq, hww⟩
              have hB := bel_of_drewN hww
              clear hww
              have BB := Lib.hid (BB.out.trans (hB.mono BB.out.size))
              have HA := Lib.hid (HA.out.below hB)
              have HB := Lib.hid (HB.out.below hB)
              have HC := Lib.hid (HC.out.below hB)
              have HJ := Lib.hid (HJ.out.below hB)
              have HK := Lib.hid (HK.out.below hB)
              have HP := Lib.hid (HP.out.below hB)
              have HT := Lib.hid (HT.out.below hB)
              clear hB
              have heq : ((ra == rj) == decide (A = J)) = true := by
                rw [beq_iff_eq, Bool.eq_iff_iff, beq_iff_eq, decide_eq_true_eq]
                exact HRJ.out.2
              obtain ⟨sb, hsb⟩ : ∃ z, z = decide (A = J) := ⟨_, rfl⟩
              rw [← hsb] at heq ⊢
              clear hsb
              go_wp2_with fail
              refine (lbelow_s what width _ _ A B _ HA.out HB.out (by omega) (by omega)).mono ?_
              rintro e w22 ⟨rfl, hB⟩
              have BB := Lib.hid (BB.out.trans (hB.mono BB.out.size))
              have HA := Lib.hid (HA.out.below hB)
              have HB := Lib.hid (HB.out.below hB)
              have HC := Lib.hid (HC.out.below hB)
              have HJ := Lib.hid (HJ.out.below hB)
              have HK := Lib.hid (HK.out.below hB)
              have HP := Lib.hid (HP.out.below hB)
              have HT := Lib.hid (HT.out.below hB)
              clear hB
              cases hab : lb what width A B with
              | false =>
                clear hab
                go_wp2_with fail
                go_ret
                exact ⟨rfl, BB.out⟩
              | true =>
                have LAB := Lib.hid hab
                clear hab
                go_wp2_with fail
                refine (lbelow_s what width _ _ B A _ HB.out HA.out (by omega) (by omega)).mono ?_
                rintro e w23 ⟨rfl, hB⟩
                have BB := Lib.hid (BB.out.trans (hB.mono BB.out.size))
                have HA := Lib.hid (HA.out.below hB)
                have HB := Lib.hid (HB.out.below hB)
                have HC := Lib.hid (HC.out.below hB)
                have HJ := Lib.hid (HJ.out.below hB)
                have HK := Lib.hid (HK.out.below hB)
                have HP := Lib.hid (HP.out.below hB)
                have HT := Lib.hid (HT.out.below hB)
                clear hB
                cases hba : lb what width B A with
                | false =>
                  clear hba
                  go_wp2_with fail
                  go_ret
                  exact ⟨rfl, BB.out⟩
                | true =>
                  have HEQ := Lib.hid (below_anti (lb_below LAB.out) (lb_below hba))
                  clear hba
                  go_wp2_with fail
                  refine (words_same _ _ A B _ HA.out HB.out (by omega) HEQ.out).mono ?_
                  rintro e w24 ⟨rfl, nq, hww⟩
                  have hB := bel_of_drewN hww
                  clear hww
                  have BB := Lib.hid (BB.out.trans (hB.mono BB.out.size))
                  have HA := Lib.hid (HA.out.below hB)
                  have HB := Lib.hid (HB.out.below hB)
                  have HC := Lib.hid (HC.out.below hB)
                  have HJ := Lib.hid (HJ.out.below hB)
                  have HK := Lib.hid (HK.out.below hB)
                  have HP := Lib.hid (HP.out.below hB)
                  have HT := Lib.hid (HT.out.below hB)
                  clear hB
                  go_wp2_with fail
                  go_ret
                  exact ⟨rfl, BB.out⟩

end Go.Proofs.Ytflkelnfdoihlaa
