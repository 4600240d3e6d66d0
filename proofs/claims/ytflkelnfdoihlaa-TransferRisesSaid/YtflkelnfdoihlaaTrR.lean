/-
  The law TransferRises: its walk. Written by wip/gen/mktr.py.
-/
import Derived.Test.YtflkelnfdoihlaaTrM
namespace Go.Proofs.Ytflkelnfdoihlaa
open Go.RowKit

set_option maxHeartbeats 25600000 in
set_option maxRecDepth 100000 in
theorem transferRises_walk (what width : Int) (vG vK vL vA vB : Value) (G K A B : List Nat) (L : List CodeT) (w : World) (yG : Ws w vG G) (yK : Ws w vK K) (yL : Codes w vL L) (yA : Ws w vA A) (yB : Ws w vB B) (mG : G.length ≤ maxLen) (mK : K.length ≤ maxLen) (mL : L.length ≤ maxLen) (mA : A.length ≤ maxLen) (mB : B.length ≤ maxLen) :
    Calls Try.prog 8 #[.int .i64 what, .int .i64 width, .agg #[vG, vK, vL], vA, vB] w fun e w' => e = .returned (.bool true) ∧ Below w.heap.size w w' := by
  have mG : G.length ≤ 9223372036854775807 := mG
  have mK : K.length ≤ 9223372036854775807 := mK
  have mL : L.length ≤ 9223372036854775807 := mL
  have mA : A.length ≤ 9223372036854775807 := mA
  have mB : B.length ≤ 9223372036854775807 := mB
  have HG := Lib.hid yG
  have HK := Lib.hid yK
  have HL := Lib.hid yL
  have HA := Lib.hid yA
  have HB := Lib.hid yB
  have QG := Lib.hid yG.1
  obtain ⟨pG, cG, rfl⟩ := ws_len yG
  have QK := Lib.hid yK.1
  obtain ⟨pK, cK, rfl⟩ := ws_len yK
  have QA := Lib.hid yA.1
  obtain ⟨pA, cA, rfl⟩ := ws_len yA
  have QB := Lib.hid yB.1
  obtain ⟨pB, cB, rfl⟩ := ws_len yB
  obtain ⟨pL, cL, rfl⟩ := yL.len
  have KS := Lib.hid (Bk.new w 45 [.slice pG G.length cG, .slice pK K.length cK, .slice pL L.length cL])
  have hB := (Below.refl w.heap.size w).alloc (Nat.le_refl _) (.cells #[.slice pG G.length cG, .slice pK K.length cK, .slice pL L.length cL] 45)
  have BB := Lib.hid hB
  have HG := Lib.hid (HG.out.below hB)
  have HK := Lib.hid (HK.out.below hB)
  have HL := Lib.hid (HL.out.below hB)
  have HA := Lib.hid (HA.out.below hB)
  have HB := Lib.hid (HB.out.below hB)
  clear hB yG yK yL yA yB
  go_enter Try.func8, Try.ntmps8
  go_wp2_with fail
  refine (tawake_any _).mono ?_
  rintro e w1 ⟨rfl, hB⟩
  have BB := Lib.hid (BB.out.trans (hB.mono BB.out.size))
  have HG := Lib.hid (HG.out.below hB)
  have HK := Lib.hid (HK.out.below hB)
  have HL := Lib.hid (HL.out.below hB)
  have KS := Lib.hid (KS.out.below hB)
  have HA := Lib.hid (HA.out.below hB)
  have HB := Lib.hid (HB.out.below hB)
  clear hB
  have c0 := KS.out.cell 0
  have c1 := KS.out.cell 1
  have c2 := KS.out.cell 2
  simp only [List.getElem?_cons_succ, List.getElem?_cons_zero] at c0 c1 c2
  go_wp2_with fail
  refine (tfew_any width _ _ _ _ _ _ _ _ G K G K A B L L _ HG.out HK.out HL.out HG.out HK.out HL.out HA.out HB.out mG mK mL mG mK mL mA mB).mono ?_
  rintro e w2 ⟨rfl, hB⟩
  have BB := Lib.hid (BB.out.trans (hB.mono BB.out.size))
  have HG := Lib.hid (HG.out.below hB)
  have HK := Lib.hid (HK.out.below hB)
  have HL := Lib.hid (HL.out.below hB)
  have KS := Lib.hid (KS.out.below hB)
  have HA := Lib.hid (HA.out.below hB)
  have HB := Lib.hid (HB.out.below hB)
  clear hB c0 c1 c2
  cases hfw : fewT width (smallT G K L) (smallT G K L) A B with
  | false =>
    clear hfw
    go_wp2_with fail
    go_ret
    exact ⟨rfl, BB.out⟩
  | true =>
    obtain ⟨hwd, hs, _, lA, lB⟩ := fewT_iff hfw
    obtain ⟨lG, lK, lL⟩ := small_iff hs
    have HWD := Lib.hid hwd
    clear hwd hs hfw
    have c0 := KS.out.cell 0
    have c1 := KS.out.cell 1
    have c2 := KS.out.cell 2
    simp only [List.getElem?_cons_succ, List.getElem?_cons_zero] at c0 c1 c2
    go_wp2_with fail
    refine (rtcheck_any what width _ _ _ G K L _ HG.out HK.out HL.out (by omega) (by omega) (by omega)).mono ?_
    rintro e w3 ⟨rfl, hB⟩
    have BB := Lib.hid (BB.out.trans (hB.mono BB.out.size))
    have HG := Lib.hid (HG.out.below hB)
    have HK := Lib.hid (HK.out.below hB)
    have HL := Lib.hid (HL.out.below hB)
    have KS := Lib.hid (KS.out.below hB)
    have HA := Lib.hid (HA.out.below hB)
    have HB := Lib.hid (HB.out.below hB)
    clear hB c0 c1 c2
    by_cases h0 : checkT what width G K L = 0
    · have HZ0 := Lib.hid h0
      rw [h0]
      clear h0
      go_wp2_with fail
      refine (rval_any what width _ A _ HA.out (by omega)).mono ?_
      rintro e w4 ⟨rfl, hB⟩
      have BB := Lib.hid (BB.out.trans (hB.mono BB.out.size))
      have HG := Lib.hid (HG.out.below hB)
      have HK := Lib.hid (HK.out.below hB)
      have HL := Lib.hid (HL.out.below hB)
      have KS := Lib.hid (KS.out.below hB)
      have HA := Lib.hid (HA.out.below hB)
      have HB := Lib.hid (HB.out.below hB)
      clear hB
      cases hvA : valueE what width A with
      | false =>
        clear hvA
        go_wp2_with fail
        go_ret
        exact ⟨rfl, BB.out⟩
      | true =>
        have VA := Lib.hid hvA
        clear hvA
        go_wp2_with fail
        refine (rval_any what width _ B _ HB.out (by omega)).mono ?_
        rintro e w5 ⟨rfl, hB⟩
        have BB := Lib.hid (BB.out.trans (hB.mono BB.out.size))
        have HG := Lib.hid (HG.out.below hB)
        have HK := Lib.hid (HK.out.below hB)
        have HL := Lib.hid (HL.out.below hB)
        have KS := Lib.hid (KS.out.below hB)
        have HA := Lib.hid (HA.out.below hB)
        have HB := Lib.hid (HB.out.below hB)
        clear hB
        cases hvB : valueE what width B with
        | false =>
          clear hvB
          go_wp2_with fail
          go_ret
          exact ⟨rfl, BB.out⟩
        | true =>
          have VB := Lib.hid hvB
          clear hvB
          have HLL := Lib.hid (value_is VA.out)
          go_wp2_with fail
          refine (ljoin_any what width _ _ A B _ HA.out HB.out (by omega) (by omega)).mono ?_
          rintro e w6 ⟨vJ, rfl, hW, hB⟩
          have BB := Lib.hid (BB.out.trans (hB.mono BB.out.size))
          have HG := Lib.hid (HG.out.below hB)
          have HK := Lib.hid (HK.out.below hB)
          have HL := Lib.hid (HL.out.below hB)
          have KS := Lib.hid (KS.out.below hB)
          have HA := Lib.hid (HA.out.below hB)
          have HB := Lib.hid (HB.out.below hB)
          rw [check_both HLL.out VA.out VB.out]
          rw [check_both HLL.out VA.out VB.out, if_pos rfl] at hW
          obtain ⟨J, hJ⟩ : ∃ z, z = joinE what A B := ⟨_, rfl⟩
          have lJ : J.length ≤ 1024 := by rw [hJ, joinE_len what (by rw [value_len VA.out, value_len VB.out])]; omega
          rw [← hJ] at hW
          have EJ := Lib.hid hJ
          have VJ := Lib.hid (show valueE what width J = true by rw [hJ]; exact join_value QA.out QB.out VA.out VB.out)
          have QJ := Lib.hid hW.1
          have HJ := Lib.hid hW
          obtain ⟨pJ, cJ, rfl⟩ := ws_len hW
          clear hW hB hJ
          have c0 := KS.out.cell 0
          have c1 := KS.out.cell 1
          have c2 := KS.out.cell 2
          simp only [List.getElem?_cons_succ, List.getElem?_cons_zero] at c0 c1 c2
          go_wp2_with fail
          refine (tapply_any what width _ _ _ _ G K A L _ HG.out HK.out HL.out HA.out (by omega) (by omega) (by omega) (by omega)).mono ?_
          rintro e w7 ⟨vX, rfl, hW, hB⟩
          have BB := Lib.hid (BB.out.trans (hB.mono BB.out.size))
          have HG := Lib.hid (HG.out.below hB)
          have HK := Lib.hid (HK.out.below hB)
          have HL := Lib.hid (HL.out.below hB)
          have KS := Lib.hid (KS.out.below hB)
          have HA := Lib.hid (HA.out.below hB)
          have HB := Lib.hid (HB.out.below hB)
          have HJ := Lib.hid (HJ.out.below hB)
          rw [apply_zero HZ0.out VA.out]
          rw [apply_is HZ0.out VA.out] at hW
          obtain ⟨X, hX⟩ : ∃ z, z = applyE what width G K L A := ⟨_, rfl⟩
          have lX : X.length ≤ 1024 := by rw [hX, value_len (apply_value QG.out QK.out QA.out HZ0.out VA.out)]; exact wordsN_le what width
          rw [← hX] at hW
          have EX := Lib.hid hX
          have VX := Lib.hid (show valueE what width X = true by rw [hX]; exact apply_value QG.out QK.out QA.out HZ0.out VA.out)
          have QX := Lib.hid hW.1
          have HX := Lib.hid hW
          obtain ⟨pX, cX, rfl⟩ := ws_len hW
          clear hW hB hX c0 c1 c2
          have c0 := KS.out.cell 0
          have c1 := KS.out.cell 1
          have c2 := KS.out.cell 2
          simp only [List.getElem?_cons_succ, List.getElem?_cons_zero] at c0 c1 c2
          go_wp2_with fail
          refine (tapply_any what width _ _ _ _ G K B L _ HG.out HK.out HL.out HB.out (by omega) (by omega) (by omega) (by omega)).mono ?_
          rintro e w8 ⟨vY, rfl, hW, hB⟩
          have BB := Lib.hid (BB.out.trans (hB.mono BB.out.size))
          have HG := Lib.hid (HG.out.below hB)
          have HK := Lib.hid (HK.out.below hB)
          have HL := Lib.hid (HL.out.below hB)
          have KS := Lib.hid (KS.out.below hB)
          have HA := Lib.hid (HA.out.below hB)
          have HB := Lib.hid (HB.out.below hB)
          have HJ := Lib.hid (HJ.out.below hB)
          have HX := Lib.hid (HX.out.below hB)
          rw [apply_zero HZ0.out VB.out]
          rw [apply_is HZ0.out VB.out] at hW
          obtain ⟨Y, hY⟩ : ∃ z, z = applyE what width G K L B := ⟨_, rfl⟩
          have lY : Y.length ≤ 1024 := by rw [hY, value_len (apply_value QG.out QK.out QB.out HZ0.out VB.out)]; exact wordsN_le what width
          rw [← hY] at hW
          have EY := Lib.hid hY
          have VY := Lib.hid (show valueE what width Y = true by rw [hY]; exact apply_value QG.out QK.out QB.out HZ0.out VB.out)
          have QY := Lib.hid hW.1
          have HY := Lib.hid hW
          obtain ⟨pY, cY, rfl⟩ := ws_len hW
          clear hW hB hY c0 c1 c2
          have c0 := KS.out.cell 0
          have c1 := KS.out.cell 1
          have c2 := KS.out.cell 2
          simp only [List.getElem?_cons_succ, List.getElem?_cons_zero] at c0 c1 c2
          go_wp2_with fail
          refine (tapply_any what width _ _ _ _ G K J L _ HG.out HK.out HL.out HJ.out (by omega) (by omega) (by omega) (by omega)).mono ?_
          rintro e w9 ⟨vZ, rfl, hW, hB⟩
          have BB := Lib.hid (BB.out.trans (hB.mono BB.out.size))
          have HG := Lib.hid (HG.out.below hB)
          have HK := Lib.hid (HK.out.below hB)
          have HL := Lib.hid (HL.out.below hB)
          have KS := Lib.hid (KS.out.below hB)
          have HA := Lib.hid (HA.out.below hB)
          have HB := Lib.hid (HB.out.below hB)
          have HJ := Lib.hid (HJ.out.below hB)
          have HX := Lib.hid (HX.out.below hB)
          have HY := Lib.hid (HY.out.below hB)
          rw [apply_zero HZ0.out VJ.out]
          rw [apply_is HZ0.out VJ.out] at hW
          obtain ⟨Z, hZ⟩ : ∃ z, z = applyE what width G K L J := ⟨_, rfl⟩
          have lZ : Z.length ≤ 1024 := by rw [hZ, value_len (apply_value QG.out QK.out QJ.out HZ0.out VJ.out)]; exact wordsN_le what width
          rw [← hZ] at hW
          have EZ := Lib.hid hZ
          have VZ := Lib.hid (show valueE what width Z = true by rw [hZ]; exact apply_value QG.out QK.out QJ.out HZ0.out VJ.out)
          have QZ := Lib.hid hW.1
          have HZ := Lib.hid hW
          obtain ⟨pZ, cZ, rfl⟩ := ws_len hW
          clear hW hB hZ c0 c1 c2
          go_wp2_with fail
          refine (ljoin_any what width _ _ X Y _ HX.out HY.out (by omega) (by omega)).mono ?_
          rintro e w10 ⟨vM, rfl, hW, hB⟩
          have BB := Lib.hid (BB.out.trans (hB.mono BB.out.size))
          have HG := Lib.hid (HG.out.below hB)
          have HK := Lib.hid (HK.out.below hB)
          have HL := Lib.hid (HL.out.below hB)
          have KS := Lib.hid (KS.out.below hB)
          have HA := Lib.hid (HA.out.below hB)
          have HB := Lib.hid (HB.out.below hB)
          have HJ := Lib.hid (HJ.out.below hB)
          have HX := Lib.hid (HX.out.below hB)
          have HY := Lib.hid (HY.out.below hB)
          have HZ := Lib.hid (HZ.out.below hB)
          rw [check_both HLL.out VX.out VY.out]
          rw [check_both HLL.out VX.out VY.out, if_pos rfl] at hW
          obtain ⟨M, hM⟩ : ∃ z, z = joinE what X Y := ⟨_, rfl⟩
          have lM : M.length ≤ 1024 := by rw [hM, joinE_len what (by rw [value_len VX.out, value_len VY.out])]; omega
          rw [← hM] at hW
          have EM := Lib.hid hM
          have VM := Lib.hid (show valueE what width M = true by rw [hM]; exact join_value QX.out QY.out VX.out VY.out)
          have QM := Lib.hid hW.1
          have HM := Lib.hid hW
          obtain ⟨pM, cM, rfl⟩ := ws_len hW
          clear hW hB hM
          have EJ2 := Lib.hid (show J = joinE what B A by rw [EJ.out, join_comm])
          have UX := Lib.hid (show lb what width X Z = true from lb_true VX.out VZ.out (by rw [EX.out, EZ.out, EJ.out]; exact apply_up QG.out QK.out QA.out QB.out HZ0.out VA.out VB.out))
          have UY := Lib.hid (show lb what width Y Z = true from lb_true VY.out VZ.out (by rw [EY.out, EZ.out, EJ2.out]; exact apply_up QG.out QK.out QB.out QA.out HZ0.out VB.out VA.out))
          go_wp2_with fail
          refine (lbelow_s what width _ _ X Z _ HX.out HZ.out (by omega) (by omega)).mono ?_
          rintro e w11 ⟨rfl, hB⟩
          have BB := Lib.hid (BB.out.trans (hB.mono BB.out.size))
          have HG := Lib.hid (HG.out.below hB)
          have HK := Lib.hid (HK.out.below hB)
          have HL := Lib.hid (HL.out.below hB)
          have KS := Lib.hid (KS.out.below hB)
          have HA := Lib.hid (HA.out.below hB)
          have HB := Lib.hid (HB.out.below hB)
          have HJ := Lib.hid (HJ.out.below hB)
          have HX := Lib.hid (HX.out.below hB)
          have HY := Lib.hid (HY.out.below hB)
          have HZ := Lib.hid (HZ.out.below hB)
          have HM := Lib.hid (HM.out.below hB)
          clear hB
          rw [show lb what width X Z = true from UX.out]
          go_wp2_with fail
          refine (lbelow_s what width _ _ Y Z _ HY.out HZ.out (by omega) (by omega)).mono ?_
          rintro e w12 ⟨rfl, hB⟩
          have BB := Lib.hid (BB.out.trans (hB.mono BB.out.size))
          have HG := Lib.hid (HG.out.below hB)
          have HK := Lib.hid (HK.out.below hB)
          have HL := Lib.hid (HL.out.below hB)
          have KS := Lib.hid (KS.out.below hB)
          have HA := Lib.hid (HA.out.below hB)
          have HB := Lib.hid (HB.out.below hB)
          have HJ := Lib.hid (HJ.out.below hB)
          have HX := Lib.hid (HX.out.below hB)
          have HY := Lib.hid (HY.out.below hB)
          have HZ := Lib.hid (HZ.out.below hB)
          have HM := Lib.hid (HM.out.below hB)
          clear hB
          rw [show lb what width Y Z = true from UY.out]
          go_wp2_with fail
          refine (lval_any what width _ Z _ HZ.out (by omega)).mono ?_
          rintro e w13 ⟨rfl, hB⟩
          have BB := Lib.hid (BB.out.trans (hB.mono BB.out.size))
          have HG := Lib.hid (HG.out.below hB)
          have HK := Lib.hid (HK.out.below hB)
          have HL := Lib.hid (HL.out.below hB)
          have KS := Lib.hid (KS.out.below hB)
          have HA := Lib.hid (HA.out.below hB)
          have HB := Lib.hid (HB.out.below hB)
          have HJ := Lib.hid (HJ.out.below hB)
          have HX := Lib.hid (HX.out.below hB)
          have HY := Lib.hid (HY.out.below hB)
          have HZ := Lib.hid (HZ.out.below hB)
          have HM := Lib.hid (HM.out.below hB)
          clear hB
          rw [VZ.out]
          by_cases h3 : what = 3
          · subst h3
            go_wp2_with fail
            go_ret
            exact ⟨rfl, BB.out⟩
          · have e3 : (what == 3) = false := by simpa using h3
            have EQ := Lib.hid (show M = Z by rw [EM.out, EX.out, EY.out, EZ.out, EJ.out]; exact (set_join QK.out QA.out QB.out HZ0.out h3 VA.out VB.out).symm)
            clear h3
            go_wp2_with fail
            refine (words_same _ _ M Z _ HM.out HZ.out (by omega) EQ.out).mono ?_
            rintro e w14 ⟨rfl, nq, hww⟩
            have hB := bel_of_drewN hww
            clear hww
            have BB := Lib.hid (BB.out.trans (hB.mono BB.out.size))
            have HG := Lib.hid (HG.out.below hB)
            have HK := Lib.hid (HK.out.below hB)
            have HL := Lib.hid (HL.out.below hB)
            have KS := Lib.hid (KS.out.below hB)
            have HA := Lib.hid (HA.out.below hB)
            have HB := Lib.hid (HB.out.below hB)
            have HJ := Lib.hid (HJ.out.below hB)
            have HX := Lib.hid (HX.out.below hB)
            have HY := Lib.hid (HY.out.below hB)
            have HZ := Lib.hid (HZ.out.below hB)
            have HM := Lib.hid (HM.out.below hB)
            clear hB
            go_wp2_with fail
            go_ret
            exact ⟨rfl, BB.out⟩
    · have hb : (checkT what width G K L != 0) = true := by simp; omega
      obtain ⟨ct, hct⟩ : ∃ z, z = checkT what width G K L := ⟨_, rfl⟩
      rw [← hct] at hb ⊢
      clear h0 hct
      go_wp2_with fail
      go_ret
      exact ⟨rfl, BB.out⟩

end Go.Proofs.Ytflkelnfdoihlaa
