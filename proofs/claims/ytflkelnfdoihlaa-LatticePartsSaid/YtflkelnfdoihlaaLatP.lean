/-
  The law LatticeParts: its walk. Written by wip/gen/mkwlat.py.
-/
import Derived.Test.YtflkelnfdoihlaaLatLaw
namespace Go.Proofs.Ytflkelnfdoihlaa
open Go.RowKit

set_option maxHeartbeats 25600000 in
set_option maxRecDepth 100000 in
theorem latticeParts_walk (what width : Int) (vA : Value) (A : List Nat) (w : World) (hA : Ws w vA A) (m1 : A.length ≤ maxLen) :
    Calls Try.prog 3 #[.int .i64 what, .int .i64 width, vA] w fun e w' => e = .returned (.bool true) ∧ Below w.heap.size w w' := by
  have m1 : A.length ≤ 9223372036854775807 := m1
  have QA := Lib.hid hA.1
  have HA := Lib.hid hA
  obtain ⟨pA, cA, rfl⟩ := ws_len hA
  have BB := Lib.hid (Below.refl w.heap.size w)
  clear hA
  go_enter Try.func3, Try.ntmps3
  go_wp2_with fail
  refine (lawake_any w).mono ?_
  rintro e w1 ⟨rfl, hB⟩
  have BB := Lib.hid (BB.out.trans (hB.mono BB.out.size))
  have HA := Lib.hid (HA.out.below hB)
  clear hB
  have HS := Lib.hid (Sets.one 22 HA.out)
  have hB := (Below.refl w1.heap.size w1).alloc (Nat.le_refl _) (.cells #[.slice pA A.length cA] 22)
  go_wp2_with fail
  have BB := Lib.hid (BB.out.trans (hB.mono BB.out.size))
  have HA := Lib.hid (HA.out.below hB)
  clear hB
  refine (lfew_any width _ [A] _ HS.out (by simp; omega) (by simp)).mono ?_
  rintro e w2 ⟨rfl, hww⟩
  subst w2
  clear HS
  cases hfw : fewE width [A] with
  | false =>
    go_wp2_with fail
    go_ret
    exact ⟨rfl, BB.out⟩
  | true =>
    obtain ⟨hl, hwd⟩ := few_iff hfw
    have lA : A.length ≤ 70 := hl A (by simp)
    have HWD := Lib.hid hwd
    clear hl hwd hfw
    go_wp2_with fail
    refine (lwords_any what width _).mono ?_
    rintro e w3 ⟨rfl, hww⟩
    subst w3
    go_wp2_with fail
    refine (rlwords_any what width _).mono ?_
    rintro e w4 ⟨rfl, hww⟩
    subst w4
    have ewn : (((wordsN what width : Nat) : Int) == ((wordsN what width : Nat) : Int)) = true := beq_self_eq_true _
    generalize wordsN what width = wn at *
    go_wp2_with fail
    refine (bottom_any what width _).mono ?_
    rintro e w5 ⟨vR, rfl, hW, hB⟩
    have BB := Lib.hid (BB.out.trans (hB.mono BB.out.size))
    have HA := Lib.hid (HA.out.below hB)
    obtain ⟨R, hR⟩ : ∃ z, z = bottomE what width := ⟨_, rfl⟩
    have lR : R.length ≤ 1024 := by rw [hR, bottom_len]; exact wordsN_le what width
    rw [← hR] at hW
    have ER := Lib.hid hR
    have HR := Lib.hid hW
    obtain ⟨pR, cR, rfl⟩ := ws_len hW
    clear hW hB hR
    go_wp2_with fail
    refine (rbottom_any what width _).mono ?_
    rintro e w6 ⟨vS, rfl, hW, hB⟩
    have BB := Lib.hid (BB.out.trans (hB.mono BB.out.size))
    have HA := Lib.hid (HA.out.below hB)
    have HR := Lib.hid (HR.out.below hB)
    obtain ⟨S, hS⟩ : ∃ z, z = bottomE what width := ⟨_, rfl⟩
    have lS : S.length ≤ 1024 := by rw [hS, bottom_len]; exact wordsN_le what width
    rw [← hS] at hW
    have ES := Lib.hid hS
    have HS := Lib.hid hW
    obtain ⟨pS, cS, rfl⟩ := ws_len hW
    clear hW hB hS
    go_wp2_with fail
    refine (words_same _ _ _ _ _ HR.out HS.out (by omega) (by rw [ER.out, ES.out])).mono ?_
    rintro e w7 ⟨rfl, nq, hww⟩
    have hB := bel_of_drewN hww
    clear hww
    have BB := Lib.hid (BB.out.trans (hB.mono BB.out.size))
    have HA := Lib.hid (HA.out.below hB)
    have HR := Lib.hid (HR.out.below hB)
    have HS := Lib.hid (HS.out.below hB)
    clear hB
    go_wp2_with fail
    refine (top_any what width _).mono ?_
    rintro e w8 ⟨vT, rfl, hW, hB⟩
    have BB := Lib.hid (BB.out.trans (hB.mono BB.out.size))
    have HA := Lib.hid (HA.out.below hB)
    have HR := Lib.hid (HR.out.below hB)
    have HS := Lib.hid (HS.out.below hB)
    obtain ⟨T, hT⟩ : ∃ z, z = topE what width := ⟨_, rfl⟩
    have lT : T.length ≤ 1024 := by rw [hT, top_len]; exact wordsN_le what width
    rw [← hT] at hW
    have ET := Lib.hid hT
    have HT := Lib.hid hW
    obtain ⟨pT, cT, rfl⟩ := ws_len hW
    clear hW hB hT
    go_wp2_with fail
    refine (rtop_any what width _).mono ?_
    rintro e w9 ⟨vU, rfl, hW, hB⟩
    have BB := Lib.hid (BB.out.trans (hB.mono BB.out.size))
    have HA := Lib.hid (HA.out.below hB)
    have HR := Lib.hid (HR.out.below hB)
    have HS := Lib.hid (HS.out.below hB)
    have HT := Lib.hid (HT.out.below hB)
    obtain ⟨U, hU⟩ : ∃ z, z = topE what width := ⟨_, rfl⟩
    have lU : U.length ≤ 1024 := by rw [hU, top_len]; exact wordsN_le what width
    rw [← hU] at hW
    have EU := Lib.hid hU
    have HU := Lib.hid hW
    obtain ⟨pU, cU, rfl⟩ := ws_len hW
    clear hW hB hU
    go_wp2_with fail
    refine (words_same _ _ _ _ _ HT.out HU.out (by omega) (by rw [ET.out, EU.out])).mono ?_
    rintro e w10 ⟨rfl, nq, hww⟩
    have hB := bel_of_drewN hww
    clear hww
    have BB := Lib.hid (BB.out.trans (hB.mono BB.out.size))
    have HA := Lib.hid (HA.out.below hB)
    have HR := Lib.hid (HR.out.below hB)
    have HS := Lib.hid (HS.out.below hB)
    have HT := Lib.hid (HT.out.below hB)
    have HU := Lib.hid (HU.out.below hB)
    clear hB
    go_wp2_with fail
    refine (lval_any what width _ A _ HA.out (by omega)).mono ?_
    rintro e w11 ⟨rfl, hB⟩
    have BB := Lib.hid (BB.out.trans (hB.mono BB.out.size))
    have HA := Lib.hid (HA.out.below hB)
    have HR := Lib.hid (HR.out.below hB)
    have HS := Lib.hid (HS.out.below hB)
    have HT := Lib.hid (HT.out.below hB)
    have HU := Lib.hid (HU.out.below hB)
    clear hB
    go_wp2_with fail
    refine (rval_any what width _ A _ HA.out (by omega)).mono ?_
    rintro e w12 ⟨rfl, hB⟩
    have BB := Lib.hid (BB.out.trans (hB.mono BB.out.size))
    have HA := Lib.hid (HA.out.below hB)
    have HR := Lib.hid (HR.out.below hB)
    have HS := Lib.hid (HS.out.below hB)
    have HT := Lib.hid (HT.out.below hB)
    have HU := Lib.hid (HU.out.below hB)
    clear hB
    obtain ⟨vb, hvb⟩ : ∃ z, z = valueE what width A := ⟨_, rfl⟩
    rw [← hvb]
    have evb : (vb == vb) = true := beq_self_eq_true vb
    clear hvb
    go_wp2_with fail
    refine (lheight_any what width _).mono ?_
    rintro e w13 ⟨rfl, hww⟩
    subst w13
    go_wp2_with fail
    refine (rlheight_any what width _).mono ?_
    rintro e w14 ⟨rfl, hww⟩
    subst w14
    obtain ⟨he, hhe⟩ : ∃ z, z = heightE what width := ⟨_, rfl⟩
    rw [← hhe]
    have ehe : (he == he) = true := beq_self_eq_true he
    clear hhe
    go_wp2_with fail
    go_ret
    exact ⟨ret_bool (by first | rfl | exact ehe | simp), BB.out⟩

end Go.Proofs.Ytflkelnfdoihlaa
