/-
  The law TransferThen: its walk. Written by wip/gen/mktt.py.
-/
import Derived.Test.YtflkelnfdoihlaaTrV
namespace Go.Proofs.Ytflkelnfdoihlaa
open Go.RowKit

section
variable {what : Int} {g k g2 k2 : List Nat} {L L2 : List CodeT}
theorem thenG_len (h1 : g.length ≤ 17) (h2 : g2.length ≤ 17) (h3 : k2.length ≤ 17) : (thenG what g g2 k2).length ≤ 1000 := by
  unfold thenG; split
  · simp
  · rw [bothE_len, bothE_len]; omega
theorem thenK_len (h1 : g.length ≤ 17) (h2 : g2.length ≤ 17) (h3 : k2.length ≤ 17) (h4 : k.length ≤ 17) : (thenK what g k g2 k2).length ≤ 1000 := by
  have := thenG_len (what := what) h1 h2 h3
  unfold thenK; split
  · simp
  · rw [bothE_len, bothE_len]; omega
theorem thenL_len (h1 : L.length ≤ 40) (h2 : L2.length ≤ 40) : (thenL what L L2).length ≤ 1000 := by
  unfold thenL; split
  · simp; omega
  · simp
theorem okR_len {α : Type} {c : Int} {l : List α} {n : Nat} (h : l.length ≤ n) : (okR c l).length ≤ n := by
  unfold okR; split
  · exact h
  · simp
theorem same_self (g k : List Nat) (L : List CodeT) : sameT g k L g k L = true := by
  unfold sameT; rw [decide_eq_true rfl, decide_eq_true rfl, (codesQ_iff L L).2 rfl]; rfl
end

set_option maxHeartbeats 25600000 in
set_option maxRecDepth 100000 in
theorem transferThen_walk (what width : Int) (vG vK vL vG2 vK2 vL2 vA : Value) (G K G2 K2 A : List Nat) (L L2 : List CodeT) (w : World) (yG : Ws w vG G) (yK : Ws w vK K) (yL : Codes w vL L) (yG2 : Ws w vG2 G2) (yK2 : Ws w vK2 K2) (yL2 : Codes w vL2 L2) (yA : Ws w vA A) (mG : G.length ≤ maxLen) (mK : K.length ≤ maxLen) (mL : L.length ≤ maxLen) (mG2 : G2.length ≤ maxLen) (mK2 : K2.length ≤ maxLen) (mL2 : L2.length ≤ maxLen) (mA : A.length ≤ maxLen) :
    Calls Try.prog 7 #[.int .i64 what, .int .i64 width, .agg #[vG, vK, vL], .agg #[vG2, vK2, vL2], vA] w fun e w' => e = .returned (.bool true) ∧ Below w.heap.size w w' := by
  have mG : G.length ≤ 9223372036854775807 := mG
  have mK : K.length ≤ 9223372036854775807 := mK
  have mL : L.length ≤ 9223372036854775807 := mL
  have mG2 : G2.length ≤ 9223372036854775807 := mG2
  have mK2 : K2.length ≤ 9223372036854775807 := mK2
  have mL2 : L2.length ≤ 9223372036854775807 := mL2
  have mA : A.length ≤ 9223372036854775807 := mA
  have HG := Lib.hid yG
  have HK := Lib.hid yK
  have HL := Lib.hid yL
  have HG2 := Lib.hid yG2
  have HK2 := Lib.hid yK2
  have HL2 := Lib.hid yL2
  have HA := Lib.hid yA
  have QG := Lib.hid yG.1
  obtain ⟨pG, cG, rfl⟩ := ws_len yG
  have QK := Lib.hid yK.1
  obtain ⟨pK, cK, rfl⟩ := ws_len yK
  have QG2 := Lib.hid yG2.1
  obtain ⟨pG2, cG2, rfl⟩ := ws_len yG2
  have QK2 := Lib.hid yK2.1
  obtain ⟨pK2, cK2, rfl⟩ := ws_len yK2
  have QA := Lib.hid yA.1
  obtain ⟨pA, cA, rfl⟩ := ws_len yA
  obtain ⟨pL, cL, rfl⟩ := yL.len
  obtain ⟨pL2, cL2, rfl⟩ := yL2.len
  have hB := ((Below.refl w.heap.size w).alloc (Nat.le_refl _) (.cells #[.slice pG G.length cG, .slice pK K.length cK, .slice pL L.length cL] 45)).alloc (by simp) (.cells #[.slice pG2 G2.length cG2, .slice pK2 K2.length cK2, .slice pL2 L2.length cL2] 45)
  have BB := Lib.hid hB
  have KS := Lib.hid ((Bk.new w 45 [.slice pG G.length cG, .slice pK K.length cK, .slice pL L.length cL]).alloc (.cells #[.slice pG2 G2.length cG2, .slice pK2 K2.length cK2, .slice pL2 L2.length cL2] 45))
  have KT := Lib.hid (Bk.new' (w.alloc (.cells #[.slice pG G.length cG, .slice pK K.length cK, .slice pL L.length cL] 45)) 45 [.slice pG2 G2.length cG2, .slice pK2 K2.length cK2, .slice pL2 L2.length cL2] (g := w.heap.size + 1) (by simp))
  have HG := Lib.hid (HG.out.below hB)
  have HK := Lib.hid (HK.out.below hB)
  have HL := Lib.hid (HL.out.below hB)
  have HG2 := Lib.hid (HG2.out.below hB)
  have HK2 := Lib.hid (HK2.out.below hB)
  have HL2 := Lib.hid (HL2.out.below hB)
  have HA := Lib.hid (HA.out.below hB)
  clear hB yG yK yL yG2 yK2 yL2 yA
  go_enter Try.func7, Try.ntmps7
  go_wp2_with fail
  refine (tawake_any _).mono ?_
  rintro e w1 ⟨rfl, hB⟩
  have BB := Lib.hid (BB.out.trans (hB.mono BB.out.size))
  have HG := Lib.hid (HG.out.below hB)
  have HK := Lib.hid (HK.out.below hB)
  have HL := Lib.hid (HL.out.below hB)
  have HG2 := Lib.hid (HG2.out.below hB)
  have HK2 := Lib.hid (HK2.out.below hB)
  have HL2 := Lib.hid (HL2.out.below hB)
  have HA := Lib.hid (HA.out.below hB)
  have KS := Lib.hid (KS.out.below hB)
  have KT := Lib.hid (KT.out.below hB)
  clear hB
  have c0 := KS.out.cell 0
  have c1 := KS.out.cell 1
  have c2 := KS.out.cell 2
  have d0 := KT.out.cell 0
  have d1 := KT.out.cell 1
  have d2 := KT.out.cell 2
  simp only [List.getElem?_cons_succ, List.getElem?_cons_zero] at c0 c1 c2 d0 d1 d2
  go_wp2_with fail
  refine (tfew_any width _ _ _ _ _ _ _ _ G K G2 K2 A A L L2 _ HG.out HK.out HL.out HG2.out HK2.out HL2.out HA.out HA.out mG mK mL mG2 mK2 mL2 mA mA).mono ?_
  rintro e w2 ⟨rfl, hB⟩
  have BB := Lib.hid (BB.out.trans (hB.mono BB.out.size))
  have HG := Lib.hid (HG.out.below hB)
  have HK := Lib.hid (HK.out.below hB)
  have HL := Lib.hid (HL.out.below hB)
  have HG2 := Lib.hid (HG2.out.below hB)
  have HK2 := Lib.hid (HK2.out.below hB)
  have HL2 := Lib.hid (HL2.out.below hB)
  have HA := Lib.hid (HA.out.below hB)
  have KS := Lib.hid (KS.out.below hB)
  have KT := Lib.hid (KT.out.below hB)
  clear hB c0 c1 c2 d0 d1 d2
  cases hfw : fewT width (smallT G K L) (smallT G2 K2 L2) A A with
  | false =>
    clear hfw
    go_wp2_with fail
    go_ret
    exact ⟨rfl, BB.out⟩
  | true =>
    obtain ⟨hwd, hs, ht, lA, _⟩ := fewT_iff hfw
    obtain ⟨lG, lK, lL⟩ := small_iff hs
    obtain ⟨lG2, lK2, lL2⟩ := small_iff ht
    clear hwd hs ht hfw
    have c0 := KS.out.cell 0
    have c1 := KS.out.cell 1
    have c2 := KS.out.cell 2
    have d0 := KT.out.cell 0
    have d1 := KT.out.cell 1
    have d2 := KT.out.cell 2
    simp only [List.getElem?_cons_succ, List.getElem?_cons_zero] at c0 c1 c2 d0 d1 d2
    go_wp2_with fail
    refine (tthen_any what width _ _ _ _ _ _ G K G2 K2 L L2 _ HG.out HK.out HL.out HG2.out HK2.out HL2.out (by omega) (by omega) (by omega) (by omega) (by omega) (by omega)).mono ?_
    rintro e w3 ⟨v1, v2, v3, rfl, hW1, hW2, hW3, hB⟩
    have BB := Lib.hid (BB.out.trans (hB.mono BB.out.size))
    have HG := Lib.hid (HG.out.below hB)
    have HK := Lib.hid (HK.out.below hB)
    have HL := Lib.hid (HL.out.below hB)
    have HG2 := Lib.hid (HG2.out.below hB)
    have HK2 := Lib.hid (HK2.out.below hB)
    have HL2 := Lib.hid (HL2.out.below hB)
    have HA := Lib.hid (HA.out.below hB)
    have KS := Lib.hid (KS.out.below hB)
    have KT := Lib.hid (KT.out.below hB)
    obtain ⟨ce, hce⟩ : ∃ z, z = thenC what width G K L G2 K2 L2 := ⟨_, rfl⟩
    rw [← hce] at hW1 hW2 hW3 ⊢
    have NCE := Lib.hid hce
    obtain ⟨GU, hGU⟩ : ∃ z, z = okR ce (thenG what G G2 K2) := ⟨_, rfl⟩
    obtain ⟨KU0, hKU⟩ : ∃ z, z = okR ce (thenK what G K G2 K2) := ⟨_, rfl⟩
    obtain ⟨LU, hLU⟩ : ∃ z, z = okR ce (thenL what L L2) := ⟨_, rfl⟩
    rw [← hGU] at hW1
    rw [← hKU] at hW2
    rw [← hLU] at hW3
    have lGU : GU.length ≤ 1000 := by rw [hGU]; exact okR_len (thenG_len lG lG2 lK2)
    have lKU : KU0.length ≤ 1000 := by rw [hKU]; exact okR_len (thenK_len lG lG2 lK2 lK)
    have lLU : LU.length ≤ 1000 := by rw [hLU]; exact okR_len (thenL_len lL lL2)
    have EGU := Lib.hid hGU
    have EKU := Lib.hid hKU
    have ELU := Lib.hid hLU
    have HGU := Lib.hid hW1
    have HKU := Lib.hid hW2
    have HLU := Lib.hid hW3
    obtain ⟨pGU, cGU, rfl⟩ := ws_len hW1
    obtain ⟨pKU, cKU, rfl⟩ := ws_len hW2
    obtain ⟨pLU, cLU, rfl⟩ := hW3.len
    clear hW1 hW2 hW3 hB hce hGU hKU hLU c0 c1 c2 d0 d1 d2
    have hB := (Below.refl w3.heap.size w3).alloc (Nat.le_refl _) (.cells #[.slice pGU GU.length cGU, .slice pKU KU0.length cKU, .slice pLU LU.length cLU] 45)
    have KU := Lib.hid (Bk.new w3 45 [.slice pGU GU.length cGU, .slice pKU KU0.length cKU, .slice pLU LU.length cLU])
    have BB := Lib.hid (BB.out.trans (hB.mono BB.out.size))
    have HG := Lib.hid (HG.out.below hB)
    have HK := Lib.hid (HK.out.below hB)
    have HL := Lib.hid (HL.out.below hB)
    have HG2 := Lib.hid (HG2.out.below hB)
    have HK2 := Lib.hid (HK2.out.below hB)
    have HL2 := Lib.hid (HL2.out.below hB)
    have HA := Lib.hid (HA.out.below hB)
    have KS := Lib.hid (KS.out.below hB)
    have KT := Lib.hid (KT.out.below hB)
    have HGU := Lib.hid (HGU.out.below hB)
    have HKU := Lib.hid (HKU.out.below hB)
    have HLU := Lib.hid (HLU.out.below hB)
    clear hB
    go_wp2_with fail
    generalize w3.heap.size = nU at *
    generalize w3.alloc (.cells #[.slice pGU GU.length cGU, .slice pKU KU0.length cKU, .slice pLU LU.length cLU] 45) = W at *
    have hqq : (sameT G K L G2 K2 L2 != sameT G K L G2 K2 L2) = false := by simp
    go_cut [43] (fun b wx => b = .bool false ∧ Below W.heap.size W wx)
    case first =>
      go_region_held3 (fun w' => w'.cell? ⟨w.heap.size, 0, none⟩ = some (.slice pG G.length cG) ∧ w'.cell? ⟨w.heap.size, 1, none⟩ = some (.slice pK K.length cK) ∧ w'.cell? ⟨w.heap.size, 2, none⟩ = some (.slice pL L.length cL) ∧ w'.cell? ⟨w.heap.size + 1, 0, none⟩ = some (.slice pG2 G2.length cG2) ∧ w'.cell? ⟨w.heap.size + 1, 1, none⟩ = some (.slice pK2 K2.length cK2) ∧ w'.cell? ⟨w.heap.size + 1, 2, none⟩ = some (.slice pL2 L2.length cL2) ∧ Below W.heap.size W w')
        (first
          | exact ⟨KS.out.cell 0, KS.out.cell 1, KS.out.cell 2, KT.out.cell 0, KT.out.cell 1, KT.out.cell 2, (Below.refl _ _).drew⟩
          | (go_split_ands; exact ⟨keepc (by assumption) hB, keepc (by assumption) hB, keepc (by assumption) hB, keepc (by assumption) hB, keepc (by assumption) hB, keepc (by assumption) hB, bel_then (by assumption) hB⟩))
        (first
          | (go_at_call 38; go_split_ands; refine (tsame_any _ _ _ _ _ _ G K G2 K2 L L2 _ (HG.out.below (by assumption)) (HK.out.below (by assumption)) (HL.out.below (by assumption)) (HG2.out.below (by assumption)) (HK2.out.below (by assumption)) (HL2.out.below (by assumption)) (by omega) (by omega) (by omega) (by omega) (by omega) (by omega)).mono ?_; rintro e w5 ⟨rfl, hB⟩)
          | (go_at_call 39; go_split_ands; refine (rtsame_any _ _ _ _ _ _ G K G2 K2 L L2 _ (HG.out.below (by assumption)) (HK.out.below (by assumption)) (HL.out.below (by assumption)) (HG2.out.below (by assumption)) (HK2.out.below (by assumption)) (HL2.out.below (by assumption)) (by omega) (by omega) (by omega) (by omega) (by omega) (by omega)).mono ?_; rintro e w5 ⟨rfl, hB⟩))
      all_goals
        go_split_ands
        have BF := Lib.hid (show Below W.heap.size W _ by assumption)
        go_wp2_with fail
        go_meet
        exact ⟨by first | rfl | rw [hqq] | (simp; done), BF.out⟩
    case rest =>
      obtain ⟨rfl, hB⟩ := hcut
      have BB := Lib.hid (BB.out.trans (hB.mono BB.out.size))
      have HG := Lib.hid (HG.out.below hB)
      have HK := Lib.hid (HK.out.below hB)
      have HL := Lib.hid (HL.out.below hB)
      have HG2 := Lib.hid (HG2.out.below hB)
      have HK2 := Lib.hid (HK2.out.below hB)
      have HL2 := Lib.hid (HL2.out.below hB)
      have HA := Lib.hid (HA.out.below hB)
      have KS := Lib.hid (KS.out.below hB)
      have KT := Lib.hid (KT.out.below hB)
      have HGU := Lib.hid (HGU.out.below hB)
      have HKU := Lib.hid (HKU.out.below hB)
      have HLU := Lib.hid (HLU.out.below hB)
      have KU := Lib.hid (KU.out.below hB)
      clear hB hqq
      have c0 := KS.out.cell 0
      have c1 := KS.out.cell 1
      have c2 := KS.out.cell 2
      simp only [List.getElem?_cons_succ, List.getElem?_cons_zero] at c0 c1 c2
      go_wp2_with fail
      refine (rtcheck_any what width _ _ _ G K L _ HG.out HK.out HL.out (by omega) (by omega) (by omega)).mono ?_
      rintro e w4 ⟨rfl, hB⟩
      have BB := Lib.hid (BB.out.trans (hB.mono BB.out.size))
      have HG := Lib.hid (HG.out.below hB)
      have HK := Lib.hid (HK.out.below hB)
      have HL := Lib.hid (HL.out.below hB)
      have HG2 := Lib.hid (HG2.out.below hB)
      have HK2 := Lib.hid (HK2.out.below hB)
      have HL2 := Lib.hid (HL2.out.below hB)
      have HA := Lib.hid (HA.out.below hB)
      have KS := Lib.hid (KS.out.below hB)
      have KT := Lib.hid (KT.out.below hB)
      have HGU := Lib.hid (HGU.out.below hB)
      have HKU := Lib.hid (HKU.out.below hB)
      have HLU := Lib.hid (HLU.out.below hB)
      have KU := Lib.hid (KU.out.below hB)
      clear hB c0 c1 c2
      obtain ⟨c1, hc1⟩ : ∃ z, z = checkT what width G K L := ⟨_, rfl⟩
      rw [← hc1]
      have NC1 := Lib.hid hc1
      clear hc1
      by_cases h1 : c1 = 0
      · subst h1
        have Z1 := Lib.hid NC1.out.symm
        have d0 := KT.out.cell 0
        have d1 := KT.out.cell 1
        have d2 := KT.out.cell 2
        simp only [List.getElem?_cons_succ, List.getElem?_cons_zero] at d0 d1 d2
        go_wp2_with fail
        refine (rtcheck_any what width _ _ _ G2 K2 L2 _ HG2.out HK2.out HL2.out (by omega) (by omega) (by omega)).mono ?_
        rintro e w5 ⟨rfl, hB⟩
        have BB := Lib.hid (BB.out.trans (hB.mono BB.out.size))
        have HG := Lib.hid (HG.out.below hB)
        have HK := Lib.hid (HK.out.below hB)
        have HL := Lib.hid (HL.out.below hB)
        have HG2 := Lib.hid (HG2.out.below hB)
        have HK2 := Lib.hid (HK2.out.below hB)
        have HL2 := Lib.hid (HL2.out.below hB)
        have HA := Lib.hid (HA.out.below hB)
        have KS := Lib.hid (KS.out.below hB)
        have KT := Lib.hid (KT.out.below hB)
        have HGU := Lib.hid (HGU.out.below hB)
        have HKU := Lib.hid (HKU.out.below hB)
        have HLU := Lib.hid (HLU.out.below hB)
        have KU := Lib.hid (KU.out.below hB)
        clear hB d0 d1 d2
        obtain ⟨c2, hc2⟩ : ∃ z, z = checkT what width G2 K2 L2 := ⟨_, rfl⟩
        rw [← hc2]
        have NC2 := Lib.hid hc2
        clear hc2
        have e2 : ce = c2 := by rw [NCE.out, NC2.out]; unfold thenC; rw [if_pos Z1.out]
        by_cases h2 : c2 = 0
        · subst h2 e2
          have Z2 := Lib.hid NC2.out.symm
          have HSM := Lib.hid (show sameT GU KU0 LU (thenG what G G2 K2) (thenK what G K G2 K2) (thenL what L L2) = true by rw [EGU.out, EKU.out, ELU.out, okR_yes, okR_yes, okR_yes]; exact same_self _ _ _)
          have c0 := KS.out.cell 0
          have c1 := KS.out.cell 1
          have c2 := KS.out.cell 2
          have d0 := KT.out.cell 0
          have d1 := KT.out.cell 1
          have d2 := KT.out.cell 2
          have u0 := KU.out.cell 0
          have u1 := KU.out.cell 1
          have u2 := KU.out.cell 2
          simp only [List.getElem?_cons_succ, List.getElem?_cons_zero] at c0 c1 c2 d0 d1 d2 u0 u1 u2
          go_wp2_with fail
          go_region_held3 (fun w' => w'.cell? ⟨w.heap.size, 0, none⟩ = some (.slice pG G.length cG) ∧ w'.cell? ⟨w.heap.size, 1, none⟩ = some (.slice pK K.length cK) ∧ w'.cell? ⟨w.heap.size, 2, none⟩ = some (.slice pL L.length cL) ∧ w'.cell? ⟨w.heap.size + 1, 0, none⟩ = some (.slice pG2 G2.length cG2) ∧ w'.cell? ⟨w.heap.size + 1, 1, none⟩ = some (.slice pK2 K2.length cK2) ∧ w'.cell? ⟨w.heap.size + 1, 2, none⟩ = some (.slice pL2 L2.length cL2) ∧ w'.cell? ⟨nU, 0, none⟩ = some (.slice pGU GU.length cGU) ∧ w'.cell? ⟨nU, 1, none⟩ = some (.slice pKU KU0.length cKU) ∧ w'.cell? ⟨nU, 2, none⟩ = some (.slice pLU LU.length cLU) ∧ Below w5.heap.size w5 w')
            (first
              | exact ⟨KS.out.cell 0, KS.out.cell 1, KS.out.cell 2, KT.out.cell 0, KT.out.cell 1, KT.out.cell 2, KU.out.cell 0, KU.out.cell 1, KU.out.cell 2, (Below.refl _ _).drew⟩
              | (go_split_ands; exact ⟨keepc (by assumption) hB, keepc (by assumption) hB, keepc (by assumption) hB, keepc (by assumption) hB, keepc (by assumption) hB, keepc (by assumption) hB, keepc (by assumption) hB, keepc (by assumption) hB, keepc (by assumption) hB, bel_then (by assumption) hB⟩))
            (first
              | (go_at_call 40; go_split_ands; refine (rthen_any what _ _ _ _ _ _ G K G2 K2 L L2 _ (HG.out.below (by assumption)) (HK.out.below (by assumption)) (HL.out.below (by assumption)) (HG2.out.below (by assumption)) (HK2.out.below (by assumption)) (HL2.out.below (by assumption)) (by omega) (by omega) (by omega) (by omega) (by omega) (by omega)).mono ?_; rintro e w50 ⟨r1, r2, r3, rfl, hR1, hR2, hR3, hB⟩; have HR1 := Lib.hid hR1; have HR2 := Lib.hid hR2; have HR3 := Lib.hid hR3; clear hR1 hR2 hR3)
              | (go_at_call 39; go_split_ands; refine (rtsame_any _ _ _ _ _ _ GU KU0 (thenG what G G2 K2) (thenK what G K G2 K2) LU (thenL what L L2) _ (HGU.out.below (by assumption)) (HKU.out.below (by assumption)) (HLU.out.below (by assumption)) HR1.out HR2.out HR3.out (by omega) (by omega) (by omega) (by have := thenG_len (what := what) lG lG2 lK2; omega) (by have := thenK_len (what := what) lG lG2 lK2 lK; omega) (by have := thenL_len (what := what) lL lL2; omega)).mono ?_; rintro e w51 ⟨rfl, hB⟩; rw [HSM.out]))
          all_goals
            go_split_ands
            have BF := Lib.hid (show Below w5.heap.size w5 _ by assumption)
            have hB := BF.out
            have BB := Lib.hid (BB.out.trans (hB.mono BB.out.size))
            have HG := Lib.hid (HG.out.below hB)
            have HK := Lib.hid (HK.out.below hB)
            have HL := Lib.hid (HL.out.below hB)
            have HG2 := Lib.hid (HG2.out.below hB)
            have HK2 := Lib.hid (HK2.out.below hB)
            have HL2 := Lib.hid (HL2.out.below hB)
            have HA := Lib.hid (HA.out.below hB)
            have KS := Lib.hid (KS.out.below hB)
            have KT := Lib.hid (KT.out.below hB)
            have HGU := Lib.hid (HGU.out.below hB)
            have HKU := Lib.hid (HKU.out.below hB)
            have HLU := Lib.hid (HLU.out.below hB)
            have KU := Lib.hid (KU.out.below hB)
            clear hB
            have HEG := Lib.hid (show thenG what G G2 K2 = GU by rw [EGU.out, okR_yes])
            have HEK := Lib.hid (show thenK what G K G2 K2 = KU0 by rw [EKU.out, okR_yes])
            have HEL := Lib.hid (show thenL what L L2 = LU by rw [ELU.out, okR_yes])
            have Z3 := Lib.hid (show checkT what width GU KU0 LU = 0 by rw [← HEG.out, ← HEK.out, ← HEL.out]; exact then_check QG.out QK.out QG2.out QK2.out Z1.out Z2.out)
            clear c0 c1 c2 d0 d1 d2 u0 u1 u2
            cases hv : valueE what width A with
            | false =>
              have F1 := Lib.hid (show applyC what width G K L A = 2 by unfold applyC; rw [if_pos Z1.out, hv, if_neg (by decide)])
              have F2 := Lib.hid (show applyC what width GU KU0 LU A = 2 by unfold applyC; rw [if_pos Z3.out, hv, if_neg (by decide)])
              have F3 := Lib.hid (show applyR what width G K L A = [] by unfold applyR; rw [F1.out, if_neg (by decide)])
              clear hv
              have c0 := KS.out.cell 0
              have c1 := KS.out.cell 1
              have c2 := KS.out.cell 2
              simp only [List.getElem?_cons_succ, List.getElem?_cons_zero] at c0 c1 c2
              go_wp2_with fail
              refine (tapply_any what width _ _ _ _ G K A L _ HG.out HK.out HL.out HA.out (by omega) (by omega) (by omega) (by omega)).mono ?_
              rintro e w7 ⟨vB, rfl, hW, hB⟩
              have BB := Lib.hid (BB.out.trans (hB.mono BB.out.size))
              have HG := Lib.hid (HG.out.below hB)
              have HK := Lib.hid (HK.out.below hB)
              have HL := Lib.hid (HL.out.below hB)
              have HG2 := Lib.hid (HG2.out.below hB)
              have HK2 := Lib.hid (HK2.out.below hB)
              have HL2 := Lib.hid (HL2.out.below hB)
              have HA := Lib.hid (HA.out.below hB)
              have KS := Lib.hid (KS.out.below hB)
              have KT := Lib.hid (KT.out.below hB)
              have HGU := Lib.hid (HGU.out.below hB)
              have HKU := Lib.hid (HKU.out.below hB)
              have HLU := Lib.hid (HLU.out.below hB)
              have KU := Lib.hid (KU.out.below hB)
              rw [F3.out] at hW
              rw [F1.out]
              obtain ⟨B, hBn⟩ : ∃ B : List Nat, B = [] := ⟨_, rfl⟩
              rw [← hBn] at hW
              have lB : B.length ≤ 1024 := by rw [hBn]; simp
              clear hBn
              have HB := Lib.hid hW
              obtain ⟨pB, cB, rfl⟩ := ws_len hW
              clear hW hB
              clear c0 c1 c2
              have d0 := KT.out.cell 0
              have d1 := KT.out.cell 1
              have d2 := KT.out.cell 2
              simp only [List.getElem?_cons_succ, List.getElem?_cons_zero] at d0 d1 d2
              go_wp2_with fail
              refine (tapply_any what width _ _ _ _ G2 K2 B L2 _ HG2.out HK2.out HL2.out HB.out (by omega) (by omega) (by omega) (by omega)).mono ?_
              rintro e w8 ⟨vC, rfl, hW, hB⟩
              have BB := Lib.hid (BB.out.trans (hB.mono BB.out.size))
              have HG := Lib.hid (HG.out.below hB)
              have HK := Lib.hid (HK.out.below hB)
              have HL := Lib.hid (HL.out.below hB)
              have HG2 := Lib.hid (HG2.out.below hB)
              have HK2 := Lib.hid (HK2.out.below hB)
              have HL2 := Lib.hid (HL2.out.below hB)
              have HA := Lib.hid (HA.out.below hB)
              have KS := Lib.hid (KS.out.below hB)
              have KT := Lib.hid (KT.out.below hB)
              have HGU := Lib.hid (HGU.out.below hB)
              have HKU := Lib.hid (HKU.out.below hB)
              have HLU := Lib.hid (HLU.out.below hB)
              have KU := Lib.hid (KU.out.below hB)
              have HB := Lib.hid (HB.out.below hB)
              obtain ⟨cc, hcc⟩ : ∃ z, z = applyC what width G2 K2 L2 B := ⟨_, rfl⟩
              rw [← hcc]
              clear hcc
              obtain ⟨C, hC⟩ : ∃ z, z = applyR what width G2 K2 L2 B := ⟨_, rfl⟩
              rw [← hC] at hW
              clear hC
              have HC := Lib.hid hW
              obtain ⟨pC, cC, rfl⟩ := ws_len hW
              clear hW hB
              clear d0 d1 d2
              have u0 := KU.out.cell 0
              have u1 := KU.out.cell 1
              have u2 := KU.out.cell 2
              simp only [List.getElem?_cons_succ, List.getElem?_cons_zero] at u0 u1 u2
              go_wp2_with fail
              refine (tapply_any what width _ _ _ _ GU KU0 A LU _ HGU.out HKU.out HLU.out HA.out (by omega) (by omega) (by omega) (by omega)).mono ?_
              rintro e w9 ⟨vD, rfl, hW, hB⟩
              have BB := Lib.hid (BB.out.trans (hB.mono BB.out.size))
              have HG := Lib.hid (HG.out.below hB)
              have HK := Lib.hid (HK.out.below hB)
              have HL := Lib.hid (HL.out.below hB)
              have HG2 := Lib.hid (HG2.out.below hB)
              have HK2 := Lib.hid (HK2.out.below hB)
              have HL2 := Lib.hid (HL2.out.below hB)
              have HA := Lib.hid (HA.out.below hB)
              have KS := Lib.hid (KS.out.below hB)
              have KT := Lib.hid (KT.out.below hB)
              have HGU := Lib.hid (HGU.out.below hB)
              have HKU := Lib.hid (HKU.out.below hB)
              have HLU := Lib.hid (HLU.out.below hB)
              have KU := Lib.hid (KU.out.below hB)
              have HB := Lib.hid (HB.out.below hB)
              have HC := Lib.hid (HC.out.below hB)
              rw [F2.out]
              obtain ⟨D, hD⟩ : ∃ z, z = applyR what width GU KU0 LU A := ⟨_, rfl⟩
              rw [← hD] at hW
              clear hD
              have HD := Lib.hid hW
              obtain ⟨pD, cD, rfl⟩ := ws_len hW
              clear hW hB
              clear u0 u1 u2
              go_wp2_with fail
              go_ret
              exact ⟨rfl, BB.out⟩
            | true =>
              have VA := Lib.hid hv
              clear hv
              have VB := Lib.hid (show valueE what width (applyE what width G K L A) = true from apply_value QG.out QK.out QA.out Z1.out VA.out)
              have HCD := Lib.hid (show applyE what width G2 K2 L2 (applyE what width G K L A) = applyE what width GU KU0 LU A by rw [← HEG.out, ← HEK.out, ← HEL.out]; exact then_apply QG.out QK.out QG2.out QK2.out QA.out Z1.out Z2.out VA.out)
              have c0 := KS.out.cell 0
              have c1 := KS.out.cell 1
              have c2 := KS.out.cell 2
              simp only [List.getElem?_cons_succ, List.getElem?_cons_zero] at c0 c1 c2
              go_wp2_with fail
              refine (tapply_any what width _ _ _ _ G K A L _ HG.out HK.out HL.out HA.out (by omega) (by omega) (by omega) (by omega)).mono ?_
              rintro e w7 ⟨vB, rfl, hW, hB⟩
              have BB := Lib.hid (BB.out.trans (hB.mono BB.out.size))
              have HG := Lib.hid (HG.out.below hB)
              have HK := Lib.hid (HK.out.below hB)
              have HL := Lib.hid (HL.out.below hB)
              have HG2 := Lib.hid (HG2.out.below hB)
              have HK2 := Lib.hid (HK2.out.below hB)
              have HL2 := Lib.hid (HL2.out.below hB)
              have HA := Lib.hid (HA.out.below hB)
              have KS := Lib.hid (KS.out.below hB)
              have KT := Lib.hid (KT.out.below hB)
              have HGU := Lib.hid (HGU.out.below hB)
              have HKU := Lib.hid (HKU.out.below hB)
              have HLU := Lib.hid (HLU.out.below hB)
              have KU := Lib.hid (KU.out.below hB)
              rw [apply_zero Z1.out VA.out]
              rw [apply_is Z1.out VA.out] at hW
              obtain ⟨B, hB⟩ : ∃ z, z = applyE what width G K L A := ⟨_, rfl⟩
              rw [← hB] at hW
              have EB := Lib.hid hB
              have lB : B.length ≤ 1024 := by rw [hB, value_len VB.out]; exact wordsN_le what width
              clear hB
              have VB2 := Lib.hid (show valueE what width B = true by rw [EB.out]; exact VB.out)
              have HB := Lib.hid hW
              obtain ⟨pB, cB, rfl⟩ := ws_len hW
              clear hW hB
              clear c0 c1 c2
              have d0 := KT.out.cell 0
              have d1 := KT.out.cell 1
              have d2 := KT.out.cell 2
              simp only [List.getElem?_cons_succ, List.getElem?_cons_zero] at d0 d1 d2
              go_wp2_with fail
              refine (tapply_any what width _ _ _ _ G2 K2 B L2 _ HG2.out HK2.out HL2.out HB.out (by omega) (by omega) (by omega) (by omega)).mono ?_
              rintro e w8 ⟨vC, rfl, hW, hB⟩
              have BB := Lib.hid (BB.out.trans (hB.mono BB.out.size))
              have HG := Lib.hid (HG.out.below hB)
              have HK := Lib.hid (HK.out.below hB)
              have HL := Lib.hid (HL.out.below hB)
              have HG2 := Lib.hid (HG2.out.below hB)
              have HK2 := Lib.hid (HK2.out.below hB)
              have HL2 := Lib.hid (HL2.out.below hB)
              have HA := Lib.hid (HA.out.below hB)
              have KS := Lib.hid (KS.out.below hB)
              have KT := Lib.hid (KT.out.below hB)
              have HGU := Lib.hid (HGU.out.below hB)
              have HKU := Lib.hid (HKU.out.below hB)
              have HLU := Lib.hid (HLU.out.below hB)
              have KU := Lib.hid (KU.out.below hB)
              have HB := Lib.hid (HB.out.below hB)
              rw [apply_zero Z2.out VB2.out]
              rw [apply_is Z2.out VB2.out] at hW
              obtain ⟨C, hC⟩ : ∃ z, z = applyE what width G2 K2 L2 B := ⟨_, rfl⟩
              rw [← hC] at hW
              have EC := Lib.hid hC
              have lC : C.length ≤ 1024 := by rw [hC, value_len (apply_value QG2.out QK2.out HB.out.1 Z2.out VB2.out)]; exact wordsN_le what width
              clear hC
              have HC := Lib.hid hW
              obtain ⟨pC, cC, rfl⟩ := ws_len hW
              clear hW hB
              clear d0 d1 d2
              have u0 := KU.out.cell 0
              have u1 := KU.out.cell 1
              have u2 := KU.out.cell 2
              simp only [List.getElem?_cons_succ, List.getElem?_cons_zero] at u0 u1 u2
              go_wp2_with fail
              refine (tapply_any what width _ _ _ _ GU KU0 A LU _ HGU.out HKU.out HLU.out HA.out (by omega) (by omega) (by omega) (by omega)).mono ?_
              rintro e w9 ⟨vD, rfl, hW, hB⟩
              have BB := Lib.hid (BB.out.trans (hB.mono BB.out.size))
              have HG := Lib.hid (HG.out.below hB)
              have HK := Lib.hid (HK.out.below hB)
              have HL := Lib.hid (HL.out.below hB)
              have HG2 := Lib.hid (HG2.out.below hB)
              have HK2 := Lib.hid (HK2.out.below hB)
              have HL2 := Lib.hid (HL2.out.below hB)
              have HA := Lib.hid (HA.out.below hB)
              have KS := Lib.hid (KS.out.below hB)
              have KT := Lib.hid (KT.out.below hB)
              have HGU := Lib.hid (HGU.out.below hB)
              have HKU := Lib.hid (HKU.out.below hB)
              have HLU := Lib.hid (HLU.out.below hB)
              have KU := Lib.hid (KU.out.below hB)
              have HB := Lib.hid (HB.out.below hB)
              have HC := Lib.hid (HC.out.below hB)
              rw [apply_zero Z3.out VA.out]
              rw [apply_is Z3.out VA.out] at hW
              obtain ⟨D, hD⟩ : ∃ z, z = applyE what width GU KU0 LU A := ⟨_, rfl⟩
              rw [← hD] at hW
              have ED := Lib.hid hD
              have lD : D.length ≤ 1024 := by rw [hD, value_len (apply_value HGU.out.1 HKU.out.1 QA.out Z3.out VA.out)]; exact wordsN_le what width
              clear hD
              have HD := Lib.hid hW
              obtain ⟨pD, cD, rfl⟩ := ws_len hW
              clear hW hB
              clear u0 u1 u2
              go_wp2_with fail
              refine (words_same _ _ C D _ HC.out HD.out (by omega) (by rw [EC.out, EB.out, ED.out, HCD.out])).mono ?_
              rintro e w10 ⟨rfl, nq, hww⟩
              have hB := bel_of_drewN hww
              clear hww
              have BB := Lib.hid (BB.out.trans (hB.mono BB.out.size))
              have HG := Lib.hid (HG.out.below hB)
              have HK := Lib.hid (HK.out.below hB)
              have HL := Lib.hid (HL.out.below hB)
              have HG2 := Lib.hid (HG2.out.below hB)
              have HK2 := Lib.hid (HK2.out.below hB)
              have HL2 := Lib.hid (HL2.out.below hB)
              have HA := Lib.hid (HA.out.below hB)
              have KS := Lib.hid (KS.out.below hB)
              have KT := Lib.hid (KT.out.below hB)
              have HGU := Lib.hid (HGU.out.below hB)
              have HKU := Lib.hid (HKU.out.below hB)
              have HLU := Lib.hid (HLU.out.below hB)
              have KU := Lib.hid (KU.out.below hB)
              have HB := Lib.hid (HB.out.below hB)
              have HC := Lib.hid (HC.out.below hB)
              have HD := Lib.hid (HD.out.below hB)
              clear hB
              go_wp2_with fail
              go_ret
              exact ⟨rfl, BB.out⟩
        · have HNE := Lib.hid (show ce ≠ 0 from fun h => h2 (e2.symm.trans h))
          subst e2
          have hb : (ce != 0) = true := by simp; omega
          clear h2
          have u0 := KU.out.cell 0
          have u1 := KU.out.cell 1
          have u2 := KU.out.cell 2
          simp only [List.getElem?_cons_succ, List.getElem?_cons_zero] at u0 u1 u2
          have ect : (ce == ce) = true := beq_self_eq_true ce
          go_wp2_with fail
          refine (rtsame_any _ _ _ _ _ _ GU KU0 [] [] LU [] _ HGU.out HKU.out HLU.out (ws_none _) (ws_none _) (codes_none _) (by omega) (by omega) (by omega) (by simp) (by simp) (by simp)).mono ?_
          rintro e w6 ⟨rfl, hB⟩
          have BB := Lib.hid (BB.out.trans (hB.mono BB.out.size))
          have HG := Lib.hid (HG.out.below hB)
          have HK := Lib.hid (HK.out.below hB)
          have HL := Lib.hid (HL.out.below hB)
          have HG2 := Lib.hid (HG2.out.below hB)
          have HK2 := Lib.hid (HK2.out.below hB)
          have HL2 := Lib.hid (HL2.out.below hB)
          have HA := Lib.hid (HA.out.below hB)
          have KS := Lib.hid (KS.out.below hB)
          have KT := Lib.hid (KT.out.below hB)
          have HGU := Lib.hid (HGU.out.below hB)
          have HKU := Lib.hid (HKU.out.below hB)
          have HLU := Lib.hid (HLU.out.below hB)
          have KU := Lib.hid (KU.out.below hB)
          clear hB u0 u1 u2
          rw [show sameT GU KU0 LU [] [] [] = true by rw [EGU.out, EKU.out, ELU.out, okR_no HNE.out, okR_no HNE.out, okR_no HNE.out]; exact same_self _ _ _]
          go_wp2_with fail
          go_ret
          exact ⟨rfl, BB.out⟩
      · have e1 : ce = c1 := by rw [NCE.out, NC1.out]; unfold thenC; rw [if_neg (fun h => h1 (NC1.out.trans h))]
        have HNE := Lib.hid (show ce ≠ 0 from fun h => h1 (e1.symm.trans h))
        subst e1
        have hb : (ce != 0) = true := by simp; omega
        have hb2 : (ce == 0) = false := by simp; omega
        clear h1
        have u0 := KU.out.cell 0
        have u1 := KU.out.cell 1
        have u2 := KU.out.cell 2
        simp only [List.getElem?_cons_succ, List.getElem?_cons_zero] at u0 u1 u2
        have ect : (ce == ce) = true := beq_self_eq_true ce
        go_wp2_with fail
        refine (rtsame_any _ _ _ _ _ _ GU KU0 [] [] LU [] _ HGU.out HKU.out HLU.out (ws_none _) (ws_none _) (codes_none _) (by omega) (by omega) (by omega) (by simp) (by simp) (by simp)).mono ?_
        rintro e w5 ⟨rfl, hB⟩
        have BB := Lib.hid (BB.out.trans (hB.mono BB.out.size))
        have HG := Lib.hid (HG.out.below hB)
        have HK := Lib.hid (HK.out.below hB)
        have HL := Lib.hid (HL.out.below hB)
        have HG2 := Lib.hid (HG2.out.below hB)
        have HK2 := Lib.hid (HK2.out.below hB)
        have HL2 := Lib.hid (HL2.out.below hB)
        have HA := Lib.hid (HA.out.below hB)
        have KS := Lib.hid (KS.out.below hB)
        have KT := Lib.hid (KT.out.below hB)
        have HGU := Lib.hid (HGU.out.below hB)
        have HKU := Lib.hid (HKU.out.below hB)
        have HLU := Lib.hid (HLU.out.below hB)
        have KU := Lib.hid (KU.out.below hB)
        clear hB u0 u1 u2
        rw [show sameT GU KU0 LU [] [] [] = true by rw [EGU.out, EKU.out, ELU.out, okR_no HNE.out, okR_no HNE.out, okR_no HNE.out]; exact same_self _ _ _]
        go_wp2_with fail
        go_ret
        exact ⟨rfl, BB.out⟩

end Go.Proofs.Ytflkelnfdoihlaa
