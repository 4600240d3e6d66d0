/-
  The law LatticeJoins: its walk. Written by wip/gen/mkwlat.py.
-/
import Derived.Test.YtflkelnfdoihlaaLatLaw
namespace Go.Proofs.Ytflkelnfdoihlaa
open Go.RowKit

set_option maxHeartbeats 25600000 in
set_option maxRecDepth 100000 in
theorem latticeJoins_walk (what width : Int) (vA vB : Value) (x y : Nat) (A B : List Nat) (w : World) (hA : Ws w vA A) (hB : Ws w vB B) (m1 : A.length ≤ maxLen) (m2 : B.length ≤ maxLen) (hx : x < 18446744073709551616) (hy : y < 18446744073709551616) :
    Calls Try.prog 4 #[.int .i64 what, .int .i64 width, vA, vB, .int .u64 (x : Nat), .int .u64 (y : Nat)] w fun e w' => e = .returned (.bool true) ∧ Below w.heap.size w w' := by
  have m1 : A.length ≤ 9223372036854775807 := m1
  have m2 : B.length ≤ 9223372036854775807 := m2
  have QA := Lib.hid hA.1
  have HA := Lib.hid hA
  obtain ⟨pA, cA, rfl⟩ := ws_len hA
  have QB := Lib.hid hB.1
  have HB := Lib.hid hB
  obtain ⟨pB, cB, rfl⟩ := ws_len hB
  have BB := Lib.hid (Below.refl w.heap.size w)
  clear hA hB
  go_enter Try.func4, Try.ntmps4
  go_wp2_with fail
  refine (lawake_any w).mono ?_
  rintro e w1 ⟨rfl, hB⟩
  have BB := Lib.hid (BB.out.trans (hB.mono BB.out.size))
  have HA := Lib.hid (HA.out.below hB)
  have HB := Lib.hid (HB.out.below hB)
  clear hB
  have HS := Lib.hid (Sets.two 22 HA.out HB.out)
  have hB := (Below.refl w1.heap.size w1).alloc (Nat.le_refl _) (.cells #[.slice pA A.length cA, .slice pB B.length cB] 22)
  go_wp2_with fail
  have BB := Lib.hid (BB.out.trans (hB.mono BB.out.size))
  have HA := Lib.hid (HA.out.below hB)
  have HB := Lib.hid (HB.out.below hB)
  clear hB
  refine (lfew_any width _ [A, B] _ HS.out (by simp; omega) (by simp)).mono ?_
  rintro e w2 ⟨rfl, hww⟩
  subst w2
  clear HS
  cases hfw : fewE width [A, B] with
  | false =>
    go_wp2_with fail
    go_ret
    exact ⟨rfl, BB.out⟩
  | true =>
    obtain ⟨hl, hwd⟩ := few_iff hfw
    have lA : A.length ≤ 70 := hl A (by simp)
    have lB : B.length ≤ 70 := hl B (by simp)
    have HWD := Lib.hid hwd
    clear hl hwd hfw
    go_wp2_with fail
    refine (ljoin_any what width _ _ A B _ HA.out HB.out (by omega) (by omega)).mono ?_
    rintro e w3 ⟨vC, rfl, hW, hB⟩
    have BB := Lib.hid (BB.out.trans (hB.mono BB.out.size))
    have HA := Lib.hid (HA.out.below hB)
    have HB := Lib.hid (HB.out.below hB)
    obtain ⟨ce, hce⟩ : ∃ z, z = checkE what width [A, B] := ⟨_, rfl⟩
    rw [← hce] at hW ⊢
    obtain ⟨C, hC⟩ : ∃ z, z = (if ce = 0 then joinE what A B else []) := ⟨_, rfl⟩
    rw [← hC] at hW
    have EC := Lib.hid hC
    have NCE := Lib.hid hce
    have HC := Lib.hid hW
    obtain ⟨pC, cC, rfl⟩ := ws_len hW
    clear hW hB hC hce
    go_wp2_with fail
    refine (lrank_any what width _ A _ HA.out (by omega)).mono ?_
    rintro e w4 ⟨rfl, hB⟩
    have BB := Lib.hid (BB.out.trans (hB.mono BB.out.size))
    have HA := Lib.hid (HA.out.below hB)
    have HB := Lib.hid (HB.out.below hB)
    have HC := Lib.hid (HC.out.below hB)
    clear hB
    obtain ⟨cf, hcf⟩ : ∃ z, z = checkE what width [A] := ⟨_, rfl⟩
    obtain ⟨rn, hrn⟩ : ∃ z, z = rankR what width A := ⟨_, rfl⟩
    rw [← hcf, ← hrn]
    have NCF := Lib.hid hcf
    have NRN := Lib.hid hrn
    clear hcf hrn
    go_wp2_with fail
    refine (lword_any what x y _ hx hy).mono ?_
    rintro e w5 ⟨rfl, hB⟩
    have BB := Lib.hid (BB.out.trans (hB.mono BB.out.size))
    have HA := Lib.hid (HA.out.below hB)
    have HB := Lib.hid (HB.out.below hB)
    have HC := Lib.hid (HC.out.below hB)
    clear hB
    go_wp2_with fail
    refine (rlword_any what x y _ hx hy).mono ?_
    rintro e w6 ⟨rfl, hB⟩
    have BB := Lib.hid (BB.out.trans (hB.mono BB.out.size))
    have HA := Lib.hid (HA.out.below hB)
    have HB := Lib.hid (HB.out.below hB)
    have HC := Lib.hid (HC.out.below hB)
    clear hB
    obtain ⟨wz, hwz⟩ : ∃ z, z = wordE what x y := ⟨_, rfl⟩
    rw [← hwz]
    have ewz : (((wz : Nat) : Int) != ((wz : Nat) : Int)) = false := bne_self_eq_false _
    clear hwz
    go_wp2_with fail
    refine (rlis_any what width _).mono ?_
    rintro e w7 ⟨rfl, hww⟩
    subst w7
    cases hL : isL what width with
    | false =>
      have e1 : ce = 10 := by rw [NCE.out]; exact check_none hL
      have e2 : cf = 10 := by rw [NCF.out]; exact check_none hL
      have e3 : rn = 0 := by rw [NRN.out]; unfold rankR; rw [check_none hL, if_neg (by decide)]
      have e4 : C = [] := by rw [EC.out, e1, if_neg (by decide)]
      have HLB := Lib.hid (lb_none (a := A) (b := B) hL)
      subst e1 e2 e3 e4
      clear hL
      go_wp2_with fail
      refine (lbelow_s what width _ _ A B _ HA.out HB.out (by omega) (by omega)).mono ?_
      rintro e w8 ⟨rfl, hB⟩
      have BB := Lib.hid (BB.out.trans (hB.mono BB.out.size))
      have HA := Lib.hid (HA.out.below hB)
      have HB := Lib.hid (HB.out.below hB)
      have HC := Lib.hid (HC.out.below hB)
      clear hB
      rw [HLB.out]
      go_wp2_with fail
      go_ret
      exact ⟨rfl, BB.out⟩
    | true =>
      have hwl := isL_width hL
      have HL := Lib.hid hL
      clear hL
      go_wp2_with fail
      refine (rval_any what width _ A _ HA.out (by omega)).mono ?_
      rintro e w8 ⟨rfl, hB⟩
      have BB := Lib.hid (BB.out.trans (hB.mono BB.out.size))
      have HA := Lib.hid (HA.out.below hB)
      have HB := Lib.hid (HB.out.below hB)
      have HC := Lib.hid (HC.out.below hB)
      clear hB
      go_wp2_with fail
      refine (rval_any what width _ B _ HB.out (by omega)).mono ?_
      rintro e w9 ⟨rfl, hB⟩
      have BB := Lib.hid (BB.out.trans (hB.mono BB.out.size))
      have HA := Lib.hid (HA.out.below hB)
      have HB := Lib.hid (HB.out.below hB)
      have HC := Lib.hid (HC.out.below hB)
      clear hB
      cases hva : valueE what width A with
      | false =>
        have e2 : cf = 2 := by rw [NCF.out]; exact check_one_bad HL.out hva
        have e3 : rn = 0 := by rw [NRN.out]; unfold rankR; rw [check_one_bad HL.out hva, if_neg (by decide)]
        have e1 : ce = 2 := by rw [NCE.out]; exact check_two HL.out (by rw [hva, Bool.false_and])
        have e4 : C = [] := by rw [EC.out, e1, if_neg (by decide)]
        have HLB := Lib.hid (lb_bad (a := A) (b := B) HL.out (by rw [hva, Bool.false_and]))
        subst e1 e2 e3 e4
        clear hva
        go_wp2_with fail
        refine (lbelow_s what width _ _ A B _ HA.out HB.out (by omega) (by omega)).mono ?_
        rintro e w10 ⟨rfl, hB⟩
        have BB := Lib.hid (BB.out.trans (hB.mono BB.out.size))
        have HA := Lib.hid (HA.out.below hB)
        have HB := Lib.hid (HB.out.below hB)
        have HC := Lib.hid (HC.out.below hB)
        clear hB
        rw [HLB.out]
        go_wp2_with fail
        go_ret
        exact ⟨rfl, BB.out⟩
      | true =>
        have e2 : cf = 0 := by rw [NCF.out]; exact check_one HL.out hva
        have e3 : rn = rankE what width A := by rw [NRN.out]; unfold rankR; rw [check_one HL.out hva, if_pos rfl]
        have HVA := Lib.hid hva
        subst e2
        clear hva
        go_wp2_with fail
        refine (rlrank_any what width _ A _ HA.out (by omega) hwl).mono ?_
        rintro e w10 ⟨rfl, hB⟩
        have BB := Lib.hid (BB.out.trans (hB.mono BB.out.size))
        have HA := Lib.hid (HA.out.below hB)
        have HB := Lib.hid (HB.out.below hB)
        have HC := Lib.hid (HC.out.below hB)
        clear hB
        rw [← e3]
        have ern : (rn != rn) = false := bne_self_eq_false _
        clear e3
        cases hvb : valueE what width B with
        | false =>
          have e1 : ce = 2 := by rw [NCE.out]; exact check_two HL.out (by rw [hvb, Bool.and_false])
          have e4 : C = [] := by rw [EC.out, e1, if_neg (by decide)]
          have HLB := Lib.hid (lb_bad (a := A) (b := B) HL.out (by rw [hvb, Bool.and_false]))
          subst e1 e4
          clear hvb
          go_wp2_with fail
          refine (lbelow_s what width _ _ A B _ HA.out HB.out (by omega) (by omega)).mono ?_
          rintro e w11 ⟨rfl, hB⟩
          have BB := Lib.hid (BB.out.trans (hB.mono BB.out.size))
          have HA := Lib.hid (HA.out.below hB)
          have HB := Lib.hid (HB.out.below hB)
          have HC := Lib.hid (HC.out.below hB)
          clear hB
          rw [HLB.out]
          go_wp2_with fail
          go_ret
          exact ⟨rfl, BB.out⟩
        | true =>
          have e1 : ce = 0 := by rw [NCE.out]; exact check_both HL.out HVA.out hvb
          have e4 : C = joinE what A B := by rw [EC.out, e1, if_pos rfl]
          have HAB := Lib.hid (show A.length = B.length by rw [value_len HVA.out, value_len hvb])
          have HLB := Lib.hid (lb_good (a := A) (b := B) HL.out HVA.out hvb)
          have lC : C.length ≤ 70 := by rw [e4, joinE_len what HAB.out]; exact lA
          have EC2 := Lib.hid e4
          subst e1
          clear hvb e4
          go_wp2_with fail
          refine (rljoin_any what _ _ A B _ HA.out HB.out (by omega) HAB.out).mono ?_
          rintro e w11 ⟨vD, rfl, hW, hB⟩
          have BB := Lib.hid (BB.out.trans (hB.mono BB.out.size))
          have HA := Lib.hid (HA.out.below hB)
          have HB := Lib.hid (HB.out.below hB)
          have HC := Lib.hid (HC.out.below hB)
          obtain ⟨D, hD⟩ : ∃ z, z = joinE what A B := ⟨_, rfl⟩
          have lD : D.length ≤ 70 := by rw [hD, joinE_len what HAB.out]; exact lA
          rw [← hD] at hW
          have ED := Lib.hid hD
          have HD := Lib.hid hW
          obtain ⟨pD, cD, rfl⟩ := ws_len hW
          clear hW hB hD
          go_wp2_with fail
          refine (words_same _ _ _ _ _ HC.out HD.out (by omega) (by rw [EC2.out, ED.out])).mono ?_
          rintro e w12 ⟨rfl, nq, hww⟩
          have hB := bel_of_drewN hww
          clear hww
          have BB := Lib.hid (BB.out.trans (hB.mono BB.out.size))
          have HA := Lib.hid (HA.out.below hB)
          have HB := Lib.hid (HB.out.below hB)
          have HC := Lib.hid (HC.out.below hB)
          have HD := Lib.hid (HD.out.below hB)
          clear hB
          go_wp2_with fail
          refine (lbelow_s what width _ _ A B _ HA.out HB.out (by omega) (by omega)).mono ?_
          rintro e w13 ⟨rfl, hB⟩
          have BB := Lib.hid (BB.out.trans (hB.mono BB.out.size))
          have HA := Lib.hid (HA.out.below hB)
          have HB := Lib.hid (HB.out.below hB)
          have HC := Lib.hid (HC.out.below hB)
          have HD := Lib.hid (HD.out.below hB)
          clear hB
          rw [HLB.out]
          go_wp2_with fail
          refine (rlbelow_any what _ _ A B _ HA.out HB.out (by omega) HAB.out).mono ?_
          rintro e w14 ⟨rfl, hB⟩
          have BB := Lib.hid (BB.out.trans (hB.mono BB.out.size))
          have HA := Lib.hid (HA.out.below hB)
          have HB := Lib.hid (HB.out.below hB)
          have HC := Lib.hid (HC.out.below hB)
          have HD := Lib.hid (HD.out.below hB)
          clear hB
          obtain ⟨bb, hbb⟩ : ∃ z, z = belowE what A B := ⟨_, rfl⟩
          rw [← hbb]
          have ebb : (bb == bb) = true := beq_self_eq_true bb
          clear hbb
          go_wp2_with fail
          go_ret
          exact ⟨ret_bool (by first | rfl | exact ebb | simp), BB.out⟩

theorem latticeJoins_walk' (what width : Int) (vA vB : Value) (x y : Int) (A B : List Nat) (w : World) (hA : Ws w vA A) (hB : Ws w vB B) (m1 : A.length ≤ maxLen) (m2 : B.length ≤ maxLen) (hx : (Lit.int .u64 x).wf = true) (hy : (Lit.int .u64 y).wf = true) :
    Calls Try.prog 4 #[.int .i64 what, .int .i64 width, vA, vB, .int .u64 x, .int .u64 y] w fun e w' => e = .returned (.bool true) ∧ Below w.heap.size w w' := by
  have h1 := wfu64 hx
  have h2 := wfu64 hy
  obtain ⟨n, rfl⟩ : ∃ n : Nat, x = n := ⟨x.toNat, by omega⟩
  obtain ⟨m, rfl⟩ : ∃ n : Nat, y = n := ⟨y.toNat, by omega⟩
  exact latticeJoins_walk what width vA vB n m A B w hA hB m1 m2 (by omega) (by omega)

end Go.Proofs.Ytflkelnfdoihlaa
