/-
  The law WordsetAsks: its walk. Written by wip/gen/mkwa.py.
-/
import Derived.Test.YtdifegcpfpdngaaDoorWLaws
import Derived.Test.YtdifegcpfpdngaaDoorRef10b
namespace Go.Proofs.YtdifegcpfpdngaaDoor
open Go.RowKit

theorem ints_len {w : World} {v : Value} {zs : List Int} (h : IntsAt w v zs) : ∃ p cap, v = .slice p zs.length cap := by
  obtain ⟨p, c, rfl, _⟩ := h
  exact ⟨_, _, rfl⟩
theorem bel_of_drewN {w w' : World} {n : Nat} (h : w' = w.drewN n) : Below w.heap.size w w' := by
  subst h
  exact bel_drewN (Below.refl _ _) n
theorem ints_same (v1 v2 : Value) (xs : List Int) (w : World) (h1 : IntsAt w v1 xs) (h2 : IntsAt w v2 xs) (hx : xs.length ≤ 9223372036854775807) :
    Calls Tryd.prog 40 #[v1, v2] w fun e w' => e = .returned (.bool true) ∧ ∃ n, w' = w.drewN n :=
  (ints_any v1 v2 xs xs w h1 h2 hx hx).mono fun _ _ ⟨he, hn⟩ => ⟨by rw [he]; simp, hn⟩
theorem words_same (v1 v2 : Value) (xs ys : List Nat) (w : World) (h1 : Ws w v1 xs) (h2 : Ws w v2 ys) (hx : xs.length ≤ 100000) (e : xs = ys) :
    Calls Tryd.prog 29 #[v1, v2] w fun e w' => e = .returned (.bool true) ∧ ∃ n, w' = w.drewN n := by
  subst e
  exact (same_any v1 v2 xs xs w h1 h2 (by omega) (by omega)).mono fun _ _ ⟨he, hn⟩ => ⟨by rw [he]; simp, hn⟩

set_option maxHeartbeats 12800000 in
set_option maxRecDepth 100000 in
theorem wordsetAsks_walk (vA vB : Value) (n : Int) (A B : List Nat) (w : World) (h1 : Ws w vA A) (h2 : Ws w vB B) (m1 : A.length ≤ maxLen) (m2 : B.length ≤ maxLen) (hn : (Lit.int .i64 n).wf = true) (ht : TabZ w) :
    Calls Tryd.prog 6 #[vA, vB, .int .i64 n] w fun e w' => e = .returned (.bool true) ∧ Below w.heap.size w w' := by
  have m1 : A.length ≤ 9223372036854775807 := m1
  have m2 : B.length ≤ 9223372036854775807 := m2
  have HNB := Lib.hid (show -9223372036854775808 ≤ n ∧ n ≤ 9223372036854775807 by
    simp only [Lit.wf, Bool.and_eq_true, decide_eq_true_eq] at hn
    exact ⟨hn.1, hn.2⟩)
  have QA := Lib.hid h1.1
  have QB := Lib.hid h2.1
  have HA := Lib.hid h1
  have HB := Lib.hid h2
  obtain ⟨pA, cA, rfl⟩ := ws_len h1
  obtain ⟨pB, cB, rfl⟩ := ws_len h2
  have BB := Lib.hid (Below.refl w.heap.size w)
  have HT := Lib.hid ht
  clear h1 h2 ht hn
  go_enter Tryd.func6, Tryd.ntmps6
  go_wp2_with fail
  refine (wawake_any w HT.out).mono ?_
  rintro e w1 ⟨rfl, hB⟩
  have BB := Lib.hid (BB.out.trans (hB.mono BB.out.size))
  have HA := Lib.hid (HA.out.below hB)
  have HB := Lib.hid (HB.out.below hB)
  have HT := Lib.hid (HT.out.below hB)
  clear hB
  go_wp2_with fail
  refine (few_any _ _ _ _ _ HA.out HB.out).mono ?_
  rintro e w2 ⟨rfl, hww⟩
  subst w2
  by_cases hfw : ¬ (A.length ≤ 4 ∧ B.length ≤ 4)
  · have hd : (decide (A.length ≤ 4) && decide (B.length ≤ 4)) = false := by simp; omega
    rw [hd]
    go_wp2_with fail
    go_ret
    exact ⟨rfl, BB.out⟩
  obtain ⟨hA4, hB4⟩ := Classical.not_not.1 hfw
  clear hfw
  have hd : (decide (A.length ≤ 4) && decide (B.length ≤ 4)) = true := by simp; omega
  rw [hd]
  clear hd
  go_wp2_with fail
  refine (rlist_any _ _ _ HA.out (by omega)).mono ?_
  rintro e w3 ⟨vL, rfl, hW, hB⟩
  have BB := Lib.hid (BB.out.trans (hB.mono BB.out.size))
  have HA := Lib.hid (HA.out.below hB)
  have HB := Lib.hid (HB.out.below hB)
  have HT := Lib.hid (HT.out.below hB)
  obtain ⟨L, hL⟩ : ∃ z, z = (setE A).map Int.ofNat := ⟨_, rfl⟩
  have lL : L.length = lenE A := by rw [hL, List.length_map, setE_len]
  have bL : lenE A ≤ 256 := by have := lenE_le A; omega
  have HLL := Lib.hid lL
  have lL2 : L.length ≤ 256 := by omega
  clear lL
  rw [← hL] at hW
  have EL := Lib.hid hL
  have HL := Lib.hid hW
  obtain ⟨pL, cL, rfl⟩ := ints_len hW
  clear hW hB hL
  go_wp2_with fail
  refine (has_any n _ _ _ HA.out HNB.out).mono ?_
  rintro e w4 ⟨rfl, hww⟩
  subst w4
  obtain ⟨bh, hbh⟩ : ∃ b, b = hasE A n := ⟨_, rfl⟩
  rw [← hbh]
  have Hbh := Lib.hid hbh
  clear hbh
  go_wp2_with fail
  refine (rhas_any n _ _ _ HA.out HNB.out).mono ?_
  rintro e w5 ⟨rfl, hww⟩
  subst w5
  rw [← Hbh.out]
  have hne : (bh != bh) = false := bne_self_eq_false bh
  go_wp2_with fail
  refine (list_any _ _ _ HA.out (by omega) HT.out).mono ?_
  rintro e w6 ⟨vK, rfl, hW, hB⟩
  have BB := Lib.hid (BB.out.trans (hB.mono BB.out.size))
  have HA := Lib.hid (HA.out.below hB)
  have HB := Lib.hid (HB.out.below hB)
  have HT := Lib.hid (HT.out.below hB)
  have HL := Lib.hid (HL.out.below hB)
  obtain ⟨K, hK⟩ : ∃ z, z = (setE A).map Int.ofNat := ⟨_, rfl⟩
  have eLK : K = L := by rw [hK, EL.out]
  subst eLK
  clear hne
  rw [← hK] at hW
  have EK := Lib.hid hK
  have HK := Lib.hid hW
  obtain ⟨pK, cK, rfl⟩ := ints_len hW
  clear hW hB hK
  go_wp2_with fail
  refine (ints_same _ _ _ _ HK.out HL.out (by omega)).mono ?_
  rintro e w7 ⟨rfl, nq, hww⟩
  have hB := bel_of_drewN hww
  clear hww
  have BB := Lib.hid (BB.out.trans (hB.mono BB.out.size))
  have HA := Lib.hid (HA.out.below hB)
  have HB := Lib.hid (HB.out.below hB)
  have HT := Lib.hid (HT.out.below hB)
  have HL := Lib.hid (HL.out.below hB)
  have HK := Lib.hid (HK.out.below hB)
  clear hB
  go_wp2_with fail
  refine (len_any _ _ _ HA.out (by omega)).mono ?_
  rintro e w8 ⟨rfl, hww⟩
  subst w8
  have hne2 : (((lenE A : Nat) : Int) != (K.length : Int)) = false := by rw [HLL.out]; simp
  go_wp2_with fail
  refine (union_any _ _ _ _ _ HA.out HB.out (by omega) (by omega)).mono ?_
  rintro e w9 ⟨vU, rfl, hW, hB⟩
  have BB := Lib.hid (BB.out.trans (hB.mono BB.out.size))
  have HA := Lib.hid (HA.out.below hB)
  have HB := Lib.hid (HB.out.below hB)
  have HT := Lib.hid (HT.out.below hB)
  have HL := Lib.hid (HL.out.below hB)
  have HK := Lib.hid (HK.out.below hB)
  obtain ⟨U, hU⟩ : ∃ z, z = bothE orN A B := ⟨_, rfl⟩
  have lU : U.length ≤ 4 := by rw [hU, bothE_len]; omega
  rw [← hU] at hW
  have EU := Lib.hid hU
  have HU := Lib.hid hW
  obtain ⟨pU, cU, rfl⟩ := ws_len hW
  clear hW hB hU
  go_wp2_with fail
  refine (rboth_any 1 (fun x y => x || y) (.inl ⟨rfl, rfl⟩) _ _ _ _ _ HA.out HB.out (by omega) (by omega)).mono ?_
  rintro e w10 ⟨vV, rfl, hW, hB⟩
  have BB := Lib.hid (BB.out.trans (hB.mono BB.out.size))
  have HA := Lib.hid (HA.out.below hB)
  have HB := Lib.hid (HB.out.below hB)
  have HT := Lib.hid (HT.out.below hB)
  have HL := Lib.hid (HL.out.below hB)
  have HK := Lib.hid (HK.out.below hB)
  have HU := Lib.hid (HU.out.below hB)
  obtain ⟨V, hV⟩ : ∃ z, z = bothE orN A B := ⟨_, rfl⟩
  have lV : V.length ≤ 4 := by rw [hV, bothE_len]; omega
  rw [bothF_all (fun x y => x || y) orN orN_lt (fun x y j _ _ => or_bits x y j) A B QA.out QB.out] at hW
  rw [← hV] at hW
  have EV := Lib.hid hV
  have HV := Lib.hid hW
  obtain ⟨pV, cV, rfl⟩ := ws_len hW
  clear hW hB hV
  go_wp2_with fail
  refine (words_same _ _ _ _ _ HU.out HV.out (by omega) (by rw [EU.out, EV.out])).mono ?_
  rintro e w11 ⟨rfl, nq, hww⟩
  have hB := bel_of_drewN hww
  clear hww
  have BB := Lib.hid (BB.out.trans (hB.mono BB.out.size))
  have HA := Lib.hid (HA.out.below hB)
  have HB := Lib.hid (HB.out.below hB)
  have HT := Lib.hid (HT.out.below hB)
  have HL := Lib.hid (HL.out.below hB)
  have HK := Lib.hid (HK.out.below hB)
  have HU := Lib.hid (HU.out.below hB)
  have HV := Lib.hid (HV.out.below hB)
  clear hB
  go_wp2_with fail
  refine (inter_any _ _ _ _ _ HA.out HB.out (by omega) (by omega)).mono ?_
  rintro e w12 ⟨vI, rfl, hW, hB⟩
  have BB := Lib.hid (BB.out.trans (hB.mono BB.out.size))
  have HA := Lib.hid (HA.out.below hB)
  have HB := Lib.hid (HB.out.below hB)
  have HT := Lib.hid (HT.out.below hB)
  have HL := Lib.hid (HL.out.below hB)
  have HK := Lib.hid (HK.out.below hB)
  have HU := Lib.hid (HU.out.below hB)
  have HV := Lib.hid (HV.out.below hB)
  obtain ⟨I, hI⟩ : ∃ z, z = bothE andN A B := ⟨_, rfl⟩
  have lI : I.length ≤ 4 := by rw [hI, bothE_len]; omega
  rw [← hI] at hW
  have EI := Lib.hid hI
  have HI := Lib.hid hW
  obtain ⟨pI, cI, rfl⟩ := ws_len hW
  clear hW hB hI
  go_wp2_with fail
  refine (rboth_any 2 (fun x y => x && y) (.inr (.inl ⟨rfl, rfl⟩)) _ _ _ _ _ HA.out HB.out (by omega) (by omega)).mono ?_
  rintro e w13 ⟨vJ, rfl, hW, hB⟩
  have BB := Lib.hid (BB.out.trans (hB.mono BB.out.size))
  have HA := Lib.hid (HA.out.below hB)
  have HB := Lib.hid (HB.out.below hB)
  have HT := Lib.hid (HT.out.below hB)
  have HL := Lib.hid (HL.out.below hB)
  have HK := Lib.hid (HK.out.below hB)
  have HU := Lib.hid (HU.out.below hB)
  have HV := Lib.hid (HV.out.below hB)
  have HI := Lib.hid (HI.out.below hB)
  obtain ⟨J, hJ⟩ : ∃ z, z = bothE andN A B := ⟨_, rfl⟩
  have lJ : J.length ≤ 4 := by rw [hJ, bothE_len]; omega
  rw [bothF_all (fun x y => x && y) andN andN_lt (fun x y j _ _ => and_bits x y j) A B QA.out QB.out] at hW
  rw [← hJ] at hW
  have EJ := Lib.hid hJ
  have HJ := Lib.hid hW
  obtain ⟨pJ, cJ, rfl⟩ := ws_len hW
  clear hW hB hJ
  go_wp2_with fail
  refine (words_same _ _ _ _ _ HI.out HJ.out (by omega) (by rw [EI.out, EJ.out])).mono ?_
  rintro e w14 ⟨rfl, nq, hww⟩
  have hB := bel_of_drewN hww
  clear hww
  have BB := Lib.hid (BB.out.trans (hB.mono BB.out.size))
  have HA := Lib.hid (HA.out.below hB)
  have HB := Lib.hid (HB.out.below hB)
  have HT := Lib.hid (HT.out.below hB)
  have HL := Lib.hid (HL.out.below hB)
  have HK := Lib.hid (HK.out.below hB)
  have HU := Lib.hid (HU.out.below hB)
  have HV := Lib.hid (HV.out.below hB)
  have HI := Lib.hid (HI.out.below hB)
  have HJ := Lib.hid (HJ.out.below hB)
  clear hB
  go_wp2_with fail
  refine (minus_any _ _ _ _ _ HA.out HB.out (by omega) (by omega)).mono ?_
  rintro e w15 ⟨vM, rfl, hW, hB⟩
  have BB := Lib.hid (BB.out.trans (hB.mono BB.out.size))
  have HA := Lib.hid (HA.out.below hB)
  have HB := Lib.hid (HB.out.below hB)
  have HT := Lib.hid (HT.out.below hB)
  have HL := Lib.hid (HL.out.below hB)
  have HK := Lib.hid (HK.out.below hB)
  have HU := Lib.hid (HU.out.below hB)
  have HV := Lib.hid (HV.out.below hB)
  have HI := Lib.hid (HI.out.below hB)
  have HJ := Lib.hid (HJ.out.below hB)
  obtain ⟨M, hM⟩ : ∃ z, z = bothE minN A B := ⟨_, rfl⟩
  have lM : M.length ≤ 4 := by rw [hM, bothE_len]; omega
  rw [← hM] at hW
  have EM := Lib.hid hM
  have HM := Lib.hid hW
  obtain ⟨pM, cM, rfl⟩ := ws_len hW
  clear hW hB hM
  go_wp2_with fail
  refine (rboth_any 3 (fun x y => x && !y) (.inr (.inr ⟨rfl, rfl⟩)) _ _ _ _ _ HA.out HB.out (by omega) (by omega)).mono ?_
  rintro e w16 ⟨vN, rfl, hW, hB⟩
  have BB := Lib.hid (BB.out.trans (hB.mono BB.out.size))
  have HA := Lib.hid (HA.out.below hB)
  have HB := Lib.hid (HB.out.below hB)
  have HT := Lib.hid (HT.out.below hB)
  have HL := Lib.hid (HL.out.below hB)
  have HK := Lib.hid (HK.out.below hB)
  have HU := Lib.hid (HU.out.below hB)
  have HV := Lib.hid (HV.out.below hB)
  have HI := Lib.hid (HI.out.below hB)
  have HJ := Lib.hid (HJ.out.below hB)
  have HM := Lib.hid (HM.out.below hB)
  obtain ⟨N, hN⟩ : ∃ z, z = bothE minN A B := ⟨_, rfl⟩
  have lN : N.length ≤ 4 := by rw [hN, bothE_len]; omega
  rw [bothF_all (fun x y => x && !y) minN minN_lt (fun x y j hx hy => minN_bit x y j hx hy) A B QA.out QB.out] at hW
  rw [← hN] at hW
  have EN := Lib.hid hN
  have HN := Lib.hid hW
  obtain ⟨pN, cN, rfl⟩ := ws_len hW
  clear hW hB hN
  go_wp2_with fail
  refine (words_same _ _ _ _ _ HM.out HN.out (by omega) (by rw [EM.out, EN.out])).mono ?_
  rintro e w17 ⟨rfl, nq, hww⟩
  have hB := bel_of_drewN hww
  clear hww
  have BB := Lib.hid (BB.out.trans (hB.mono BB.out.size))
  have HA := Lib.hid (HA.out.below hB)
  have HB := Lib.hid (HB.out.below hB)
  have HT := Lib.hid (HT.out.below hB)
  have HL := Lib.hid (HL.out.below hB)
  have HK := Lib.hid (HK.out.below hB)
  have HU := Lib.hid (HU.out.below hB)
  have HV := Lib.hid (HV.out.below hB)
  have HI := Lib.hid (HI.out.below hB)
  have HJ := Lib.hid (HJ.out.below hB)
  have HM := Lib.hid (HM.out.below hB)
  have HN := Lib.hid (HN.out.below hB)
  clear hB
  go_wp2_with fail
  refine (within_s _ _ _ _ _ HA.out HB.out (by omega) (by omega)).mono ?_
  rintro e w18 ⟨rfl, hB⟩
  have BB := Lib.hid (BB.out.trans (hB.mono BB.out.size))
  have HA := Lib.hid (HA.out.below hB)
  have HB := Lib.hid (HB.out.below hB)
  have HT := Lib.hid (HT.out.below hB)
  have HL := Lib.hid (HL.out.below hB)
  have HK := Lib.hid (HK.out.below hB)
  have HU := Lib.hid (HU.out.below hB)
  have HV := Lib.hid (HV.out.below hB)
  have HI := Lib.hid (HI.out.below hB)
  have HJ := Lib.hid (HJ.out.below hB)
  have HM := Lib.hid (HM.out.below hB)
  have HN := Lib.hid (HN.out.below hB)
  clear hB
  obtain ⟨bs, hbs⟩ : ∃ b, b = subE A B := ⟨_, rfl⟩
  rw [← hbs]
  have Hbs := Lib.hid hbs
  clear hbs
  go_wp2_with fail
  refine (rboth_any 3 (fun x y => x && !y) (.inr (.inr ⟨rfl, rfl⟩)) _ _ _ _ _ HA.out HB.out (by omega) (by omega)).mono ?_
  rintro e w19 ⟨vR, rfl, hW, hB⟩
  have BB := Lib.hid (BB.out.trans (hB.mono BB.out.size))
  have HA := Lib.hid (HA.out.below hB)
  have HB := Lib.hid (HB.out.below hB)
  have HT := Lib.hid (HT.out.below hB)
  have HL := Lib.hid (HL.out.below hB)
  have HK := Lib.hid (HK.out.below hB)
  have HU := Lib.hid (HU.out.below hB)
  have HV := Lib.hid (HV.out.below hB)
  have HI := Lib.hid (HI.out.below hB)
  have HJ := Lib.hid (HJ.out.below hB)
  have HM := Lib.hid (HM.out.below hB)
  have HN := Lib.hid (HN.out.below hB)
  obtain ⟨R, hR⟩ : ∃ z, z = bothE minN A B := ⟨_, rfl⟩
  have lR : R.length ≤ 4 := by rw [hR, bothE_len]; omega
  rw [bothF_all (fun x y => x && !y) minN minN_lt (fun x y j hx hy => minN_bit x y j hx hy) A B QA.out QB.out] at hW
  rw [← hR] at hW
  have ER := Lib.hid hR
  have HR := Lib.hid hW
  obtain ⟨pR, cR, rfl⟩ := ws_len hW
  clear hW hB hR
  go_wp2_with fail
  refine (rlist_any _ _ _ HR.out (by omega)).mono ?_
  rintro e w20 ⟨vP, rfl, hW, hB⟩
  have BB := Lib.hid (BB.out.trans (hB.mono BB.out.size))
  have HA := Lib.hid (HA.out.below hB)
  have HB := Lib.hid (HB.out.below hB)
  have HT := Lib.hid (HT.out.below hB)
  have HL := Lib.hid (HL.out.below hB)
  have HK := Lib.hid (HK.out.below hB)
  have HU := Lib.hid (HU.out.below hB)
  have HV := Lib.hid (HV.out.below hB)
  have HI := Lib.hid (HI.out.below hB)
  have HJ := Lib.hid (HJ.out.below hB)
  have HM := Lib.hid (HM.out.below hB)
  have HN := Lib.hid (HN.out.below hB)
  have HR := Lib.hid (HR.out.below hB)
  obtain ⟨P, hP⟩ : ∃ z, z = (setE R).map Int.ofNat := ⟨_, rfl⟩
  have lP : P.length = lenE R := by rw [hP, List.length_map, setE_len]
  have HPL := Lib.hid lP
  have bP : P.length ≤ 256 := by have := lenE_le R; omega
  clear lP
  rw [← hP] at hW
  have EP := Lib.hid hP
  have HP := Lib.hid hW
  obtain ⟨pP, cP, rfl⟩ := ints_len hW
  clear hW hB hP
  have hz : ((P.length : Int) == 0) = bs := by
    rw [Hbs.out, HPL.out, ER.out]
    unfold subE
    rw [Bool.eq_iff_iff]
    simp
  have hbb : (bs == bs) = true := beq_self_eq_true bs
  go_wp2_with fail
  go_ret
  exact ⟨ret_bool (by first | rfl | exact hbb | simp), BB.out⟩

end Go.Proofs.YtdifegcpfpdngaaDoor
