/-
  The law WordsetMakes: its walk. Written by wip/gen/mkwa.py.
-/
import Derived.Test.YtdifegcpfpdngaaDoorWAsks
import Derived.Test.YtdifegcpfpdngaaDoorIntsIn
namespace Go.Proofs.YtdifegcpfpdngaaDoor
open Go.RowKit

theorem ints_of {H : Type} {enc : TypeId × Value → H} {w : World} {base : Nat} {spare : Nat → Bool} {held : Bool} {fuel : Nat} {o : Option Addr} {n c : Nat} {x : DataW H × List MemPlace}
    (h : DataW.trod enc Tryd.prog w base spare held fuel 46 [.slice o n c] = some x) : ∃ L, IntsAt w (.slice o n c) L ∧ L.length ≤ maxLen := by
  obtain ⟨L, ⟨o', c', e, _, hc⟩, hm⟩ := nums_of h
  exact ⟨L, ⟨o', c', e, hc⟩, hm⟩
theorem full_fits (width : Int) : fitsE (fullE width) width = true := by
  unfold fitsE
  rw [decide_eq_true (fullE_len width), Bool.true_and, ← fits_eq _ width (fullE_lt width) (fullE_len width), subE_iff (fullE_lt width) (fullE_lt width)]
  exact fun i => sub_refl _ (wAt_lt (fullE_lt width) i)

set_option maxHeartbeats 12800000 in
set_option maxRecDepth 100000 in
theorem wordsetMakes_walk (width : Int) (vL vA : Value) (l : List Int) (A : List Nat) (w : World) (h1 : IntsAt w vL l) (h2 : Ws w vA A) (m1 : l.length ≤ maxLen) (m2 : A.length ≤ maxLen) (ht : TabZ w) :
    Calls Tryd.prog 5 #[.int .i64 width, vL, vA] w fun e w' => e = .returned (.bool true) ∧ Below w.heap.size w w' := by
  have m1 : l.length ≤ 9223372036854775807 := m1
  have m2 : A.length ≤ 9223372036854775807 := m2
  have HL := Lib.hid h1
  have HA := Lib.hid h2
  obtain ⟨pL, cL, rfl⟩ := ints_len h1
  obtain ⟨pA, cA, rfl⟩ := ws_len h2
  have BB := Lib.hid (Below.refl w.heap.size w)
  have HT := Lib.hid ht
  have hsz := sizeE_le width
  clear h1 h2 ht
  go_enter Tryd.func5, Tryd.ntmps5
  go_wp2_with fail
  refine (wawake_any w HT.out).mono ?_
  rintro e w1 ⟨rfl, hB⟩
  have BB := Lib.hid (BB.out.trans (hB.mono BB.out.size))
  have HA := Lib.hid (HA.out.below hB)
  have HL := Lib.hid (HL.out.below hB)
  have HT := Lib.hid (HT.out.below hB)
  clear hB
  by_cases hw : 200 < width ∧ width < 1024
  · obtain ⟨hwa, hwb⟩ := hw
    go_wp2_with fail
    go_ret
    exact ⟨rfl, BB.out⟩
  have hl60 : l.length ≤ 60 ∨ 60 < l.length := by omega
  have hA17 : A.length ≤ 17 ∨ 17 < A.length := by omega
  have HF := Lib.hid (full_len width hw)
  have HNR := Lib.hid (near_bd width)
  have hw' : (decide (200 < width) && decide (width < 1024)) = false := by simp; omega
  have hw2 : width ≤ 200 ∨ (200 < width ∧ 1024 ≤ width) := by omega
  clear hw hw'
  by_cases hl61 : 60 < l.length
  · rcases hw2 with hw2 | ⟨hw2, hw3⟩
    · go_wp2_with fail
      go_ret
      exact ⟨rfl, BB.out⟩
    · go_wp2_with fail
      go_ret
      exact ⟨rfl, BB.out⟩
  by_cases hA18 : 17 < A.length
  · have hl62 : l.length ≤ 60 := by omega
    clear hl61
    rcases hw2 with hw2 | ⟨hw2, hw3⟩
    · go_wp2_with fail
      go_ret
      exact ⟨rfl, BB.out⟩
    · go_wp2_with fail
      go_ret
      exact ⟨rfl, BB.out⟩
  have hl62 : l.length ≤ 60 := by omega
  have hA19 : A.length ≤ 17 := by omega
  clear hl61 hA18 hl60 hA17
  have HFL := HF
  clear HF
  rcases hw2 with hw2 | ⟨hw2, hw3⟩
  · go_wp2_with fail
    refine (full_any width _).mono ?_
    rintro e w2 ⟨vF, rfl, hW, hB⟩
    have BB := Lib.hid (BB.out.trans (hB.mono BB.out.size))
    have HA := Lib.hid (HA.out.below hB)
    have HL := Lib.hid (HL.out.below hB)
    have HT := Lib.hid (HT.out.below hB)
    obtain ⟨F, hF⟩ : ∃ z, z = fullE width := ⟨_, rfl⟩
    have lF : F.length ≤ 16 := by rw [hF, fullE_len]; exact hsz
    rw [← hF] at hW
    have EF := Lib.hid hF
    have HF := Lib.hid hW
    obtain ⟨pF, cF, rfl⟩ := ws_len hW
    clear hW hB hF
    go_wp2_with fail
    refine (size_any _ _).mono ?_
    rintro e w3 ⟨rfl, hww⟩
    subst w3
    go_wp2_with fail
    refine (rsize_any _ _).mono ?_
    rintro e w4 ⟨rfl, hww⟩
    subst w4
    obtain ⟨sz, hsq⟩ : ∃ z, z = (near width + 63) / 64 := ⟨_, rfl⟩
    rw [← hsq]
    have hbb : (sz == sz) = true := beq_self_eq_true sz
    clear hsq
    go_wp2_with fail
    refine (of_any width _ l _ HL.out (by omega)).mono ?_
    rintro e w5 ⟨vU, rfl, hW, hB⟩
    have BB := Lib.hid (BB.out.trans (hB.mono BB.out.size))
    have HA := Lib.hid (HA.out.below hB)
    have HL := Lib.hid (HL.out.below hB)
    have HT := Lib.hid (HT.out.below hB)
    have HF := Lib.hid (HF.out.below hB)
    obtain ⟨U, hU⟩ : ∃ z, z = ofE width l := ⟨_, rfl⟩
    have lU : U.length ≤ 16 := by rw [hU, show ofE width l = ofK width l l.length by unfold ofK ofE; rw [List.take_length], ofK_len]; exact hsz
    rw [← hU] at hW
    have EU := Lib.hid hU
    have HU := Lib.hid hW
    obtain ⟨pU, cU, rfl⟩ := ws_len hW
    clear hW hB hU
    go_wp2_with fail
    refine (rof_any width _ l _ HL.out (by omega)).mono ?_
    rintro e w6 ⟨vV, rfl, hW, hB⟩
    have BB := Lib.hid (BB.out.trans (hB.mono BB.out.size))
    have HA := Lib.hid (HA.out.below hB)
    have HL := Lib.hid (HL.out.below hB)
    have HT := Lib.hid (HT.out.below hB)
    have HF := Lib.hid (HF.out.below hB)
    have HU := Lib.hid (HU.out.below hB)
    obtain ⟨V, hV⟩ : ∃ z, z = ofE width l := ⟨_, rfl⟩
    have lV : V.length ≤ 16 := by rw [hV, show ofE width l = ofK width l l.length by unfold ofK ofE; rw [List.take_length], ofK_len]; exact hsz
    rw [← hV] at hW
    have EV := Lib.hid hV
    have HV := Lib.hid hW
    obtain ⟨pV, cV, rfl⟩ := ws_len hW
    clear hW hB hV
    go_wp2_with fail
    refine (words_same _ _ _ _ _ HU.out HV.out (by omega) (by rw [EU.out, EV.out])).mono ?_
    rintro e w7 ⟨rfl, nq, hww⟩
    have hB := bel_of_drewN hww
    clear hww
    have BB := Lib.hid (BB.out.trans (hB.mono BB.out.size))
    have HA := Lib.hid (HA.out.below hB)
    have HL := Lib.hid (HL.out.below hB)
    have HT := Lib.hid (HT.out.below hB)
    have HF := Lib.hid (HF.out.below hB)
    have HU := Lib.hid (HU.out.below hB)
    have HV := Lib.hid (HV.out.below hB)
    clear hB
    go_wp2_with fail
    refine (len_any _ _ _ HF.out (by omega)).mono ?_
    rintro e w8 ⟨rfl, hww⟩
    subst w8
    rw [show ((lenE F : Nat) : Int) = near width by rw [EF.out]; exact HFL.out]
    go_wp2_with fail
    refine (width_any _ _).mono ?_
    rintro e w9 ⟨rfl, hww⟩
    subst w9
    obtain ⟨nw, hnw⟩ : ∃ z, z = near width := ⟨_, rfl⟩
    rw [← hnw]
    have hb2 : (nw == nw) = true := beq_self_eq_true nw
    clear hnw
    go_wp2_with fail
    refine (fits_any width _ _ _ HF.out (by omega)).mono ?_
    rintro e w10 ⟨rfl, hB⟩
    have BB := Lib.hid (BB.out.trans (hB.mono BB.out.size))
    have HA := Lib.hid (HA.out.below hB)
    have HL := Lib.hid (HL.out.below hB)
    have HT := Lib.hid (HT.out.below hB)
    have HF := Lib.hid (HF.out.below hB)
    have HU := Lib.hid (HU.out.below hB)
    have HV := Lib.hid (HV.out.below hB)
    clear hB
    rw [show fitsE F width = true by rw [EF.out]; exact full_fits width]
    go_wp2_with fail
    refine (fits_any width _ _ _ HA.out (by omega)).mono ?_
    rintro e w11 ⟨rfl, hB⟩
    have BB := Lib.hid (BB.out.trans (hB.mono BB.out.size))
    have HA := Lib.hid (HA.out.below hB)
    have HL := Lib.hid (HL.out.below hB)
    have HT := Lib.hid (HT.out.below hB)
    have HF := Lib.hid (HF.out.below hB)
    have HU := Lib.hid (HU.out.below hB)
    have HV := Lib.hid (HV.out.below hB)
    clear hB
    go_wp2_with fail
    refine (rfits_any width _ _ _ HA.out (by omega)).mono ?_
    rintro e w12 ⟨rfl, hB⟩
    have BB := Lib.hid (BB.out.trans (hB.mono BB.out.size))
    have HA := Lib.hid (HA.out.below hB)
    have HL := Lib.hid (HL.out.below hB)
    have HT := Lib.hid (HT.out.below hB)
    have HF := Lib.hid (HF.out.below hB)
    have HU := Lib.hid (HU.out.below hB)
    have HV := Lib.hid (HV.out.below hB)
    clear hB
    obtain ⟨fb, hfb⟩ : ∃ z, z = fitsE A width := ⟨_, rfl⟩
    rw [← hfb]
    have hb3 : (fb == fb) = true := beq_self_eq_true fb
    go_wp2_with fail
    go_ret
    exact ⟨ret_bool (by first | rfl | exact hb3 | simp), BB.out⟩
  · go_wp2_with fail
    refine (full_any width _).mono ?_
    rintro e w2 ⟨vF, rfl, hW, hB⟩
    have BB := Lib.hid (BB.out.trans (hB.mono BB.out.size))
    have HA := Lib.hid (HA.out.below hB)
    have HL := Lib.hid (HL.out.below hB)
    have HT := Lib.hid (HT.out.below hB)
    obtain ⟨F, hF⟩ : ∃ z, z = fullE width := ⟨_, rfl⟩
    have lF : F.length ≤ 16 := by rw [hF, fullE_len]; exact hsz
    rw [← hF] at hW
    have EF := Lib.hid hF
    have HF := Lib.hid hW
    obtain ⟨pF, cF, rfl⟩ := ws_len hW
    clear hW hB hF
    go_wp2_with fail
    refine (size_any _ _).mono ?_
    rintro e w3 ⟨rfl, hww⟩
    subst w3
    go_wp2_with fail
    refine (rsize_any _ _).mono ?_
    rintro e w4 ⟨rfl, hww⟩
    subst w4
    obtain ⟨sz, hsq⟩ : ∃ z, z = (near width + 63) / 64 := ⟨_, rfl⟩
    rw [← hsq]
    have hbb : (sz == sz) = true := beq_self_eq_true sz
    clear hsq
    go_wp2_with fail
    refine (of_any width _ l _ HL.out (by omega)).mono ?_
    rintro e w5 ⟨vU, rfl, hW, hB⟩
    have BB := Lib.hid (BB.out.trans (hB.mono BB.out.size))
    have HA := Lib.hid (HA.out.below hB)
    have HL := Lib.hid (HL.out.below hB)
    have HT := Lib.hid (HT.out.below hB)
    have HF := Lib.hid (HF.out.below hB)
    obtain ⟨U, hU⟩ : ∃ z, z = ofE width l := ⟨_, rfl⟩
    have lU : U.length ≤ 16 := by rw [hU, show ofE width l = ofK width l l.length by unfold ofK ofE; rw [List.take_length], ofK_len]; exact hsz
    rw [← hU] at hW
    have EU := Lib.hid hU
    have HU := Lib.hid hW
    obtain ⟨pU, cU, rfl⟩ := ws_len hW
    clear hW hB hU
    go_wp2_with fail
    refine (rof_any width _ l _ HL.out (by omega)).mono ?_
    rintro e w6 ⟨vV, rfl, hW, hB⟩
    have BB := Lib.hid (BB.out.trans (hB.mono BB.out.size))
    have HA := Lib.hid (HA.out.below hB)
    have HL := Lib.hid (HL.out.below hB)
    have HT := Lib.hid (HT.out.below hB)
    have HF := Lib.hid (HF.out.below hB)
    have HU := Lib.hid (HU.out.below hB)
    obtain ⟨V, hV⟩ : ∃ z, z = ofE width l := ⟨_, rfl⟩
    have lV : V.length ≤ 16 := by rw [hV, show ofE width l = ofK width l l.length by unfold ofK ofE; rw [List.take_length], ofK_len]; exact hsz
    rw [← hV] at hW
    have EV := Lib.hid hV
    have HV := Lib.hid hW
    obtain ⟨pV, cV, rfl⟩ := ws_len hW
    clear hW hB hV
    go_wp2_with fail
    refine (words_same _ _ _ _ _ HU.out HV.out (by omega) (by rw [EU.out, EV.out])).mono ?_
    rintro e w7 ⟨rfl, nq, hww⟩
    have hB := bel_of_drewN hww
    clear hww
    have BB := Lib.hid (BB.out.trans (hB.mono BB.out.size))
    have HA := Lib.hid (HA.out.below hB)
    have HL := Lib.hid (HL.out.below hB)
    have HT := Lib.hid (HT.out.below hB)
    have HF := Lib.hid (HF.out.below hB)
    have HU := Lib.hid (HU.out.below hB)
    have HV := Lib.hid (HV.out.below hB)
    clear hB
    go_wp2_with fail
    refine (len_any _ _ _ HF.out (by omega)).mono ?_
    rintro e w8 ⟨rfl, hww⟩
    subst w8
    rw [show ((lenE F : Nat) : Int) = near width by rw [EF.out]; exact HFL.out]
    go_wp2_with fail
    refine (width_any _ _).mono ?_
    rintro e w9 ⟨rfl, hww⟩
    subst w9
    obtain ⟨nw, hnw⟩ : ∃ z, z = near width := ⟨_, rfl⟩
    rw [← hnw]
    have hb2 : (nw == nw) = true := beq_self_eq_true nw
    clear hnw
    go_wp2_with fail
    refine (fits_any width _ _ _ HF.out (by omega)).mono ?_
    rintro e w10 ⟨rfl, hB⟩
    have BB := Lib.hid (BB.out.trans (hB.mono BB.out.size))
    have HA := Lib.hid (HA.out.below hB)
    have HL := Lib.hid (HL.out.below hB)
    have HT := Lib.hid (HT.out.below hB)
    have HF := Lib.hid (HF.out.below hB)
    have HU := Lib.hid (HU.out.below hB)
    have HV := Lib.hid (HV.out.below hB)
    clear hB
    rw [show fitsE F width = true by rw [EF.out]; exact full_fits width]
    go_wp2_with fail
    refine (fits_any width _ _ _ HA.out (by omega)).mono ?_
    rintro e w11 ⟨rfl, hB⟩
    have BB := Lib.hid (BB.out.trans (hB.mono BB.out.size))
    have HA := Lib.hid (HA.out.below hB)
    have HL := Lib.hid (HL.out.below hB)
    have HT := Lib.hid (HT.out.below hB)
    have HF := Lib.hid (HF.out.below hB)
    have HU := Lib.hid (HU.out.below hB)
    have HV := Lib.hid (HV.out.below hB)
    clear hB
    go_wp2_with fail
    refine (rfits_any width _ _ _ HA.out (by omega)).mono ?_
    rintro e w12 ⟨rfl, hB⟩
    have BB := Lib.hid (BB.out.trans (hB.mono BB.out.size))
    have HA := Lib.hid (HA.out.below hB)
    have HL := Lib.hid (HL.out.below hB)
    have HT := Lib.hid (HT.out.below hB)
    have HF := Lib.hid (HF.out.below hB)
    have HU := Lib.hid (HU.out.below hB)
    have HV := Lib.hid (HV.out.below hB)
    clear hB
    obtain ⟨fb, hfb⟩ : ∃ z, z = fitsE A width := ⟨_, rfl⟩
    rw [← hfb]
    have hb3 : (fb == fb) = true := beq_self_eq_true fb
    go_wp2_with fail
    go_ret
    exact ⟨ret_bool (by first | rfl | exact hb3 | simp), BB.out⟩

end Go.Proofs.YtdifegcpfpdngaaDoor
