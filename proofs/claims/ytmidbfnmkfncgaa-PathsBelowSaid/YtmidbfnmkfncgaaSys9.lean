/-
  soughlaw17.SystemChecks: its walk. Written by wip/gen/mksys9.py.
-/
import Derived.Test.YtmidbfnmkfncgaaSys8
namespace Go.Proofs.Ytmidbfnmkfncgaa
open Go.RowKit

theorem out_bad {s : SysT} {v : Int} {a : List Nat} (h : checkV s v ≠ 0) : outC s v a = checkV s v ∧ outL s v a = [] := by
  unfold outC outL
  rw [if_neg h, if_neg h]
  exact ⟨rfl, rfl⟩
theorem out_dom {s : SysT} {v : Int} {a : List Nat} (h : checkV s v = 0) (hv : valueE s.what s.width a = false) : outC s v a = 2 ∧ outL s v a = [] := by
  obtain ⟨h0, hn⟩ := cv_zero h
  have ok := okS_of h0
  have hn := nodeE_iff.1 hn
  have hc := ok.tr v.toNat (by have := ok.tl; omega)
  have e : applyC s.what s.width (trAt s.T v.toNat).g (trAt s.T v.toNat).k (trAt s.T v.toNat).l a = 2 := by unfold applyC; rw [if_pos hc, hv, if_neg (by decide)]
  unfold outC outL
  rw [if_pos h, if_pos h]
  refine ⟨e, ?_⟩
  unfold applyR
  rw [e, if_neg (by decide)]
theorem out_ok {s : SysT} {v : Int} {a : List Nat} (h : checkV s v = 0) (hv : valueE s.what s.width a = true) : outC s v a = 0 ∧ outL s v a = applyT s v.toNat a := by
  obtain ⟨h0, hn⟩ := cv_zero h
  have ok := okS_of h0
  have hn := nodeE_iff.1 hn
  have hc := ok.tr v.toNat (by have := ok.tl; omega)
  unfold outC outL
  rw [if_pos h, if_pos h]
  exact ⟨apply_zero hc hv, by rw [apply_is hc hv]; rfl⟩

set_option maxHeartbeats 3200000 in
set_option maxRecDepth 100000 in
theorem systemChecks_walk (s : SysT) (ve vn vi vt : Value) (v : Int) (vx : Value) (x : List Nat) (w : World) (hL : SysL w ve vn vi vt s) (hb : SysB s) (hx : Ws w vx x) (hm : x.length ≤ 9223372036854775807) :
    Calls Try.prog 3 #[.agg #[.int .i64 s.what, .int .i64 s.width, .int .i64 s.nodes, ve, vn, vi, vt], .int .i64 v, vx] w fun e w' => e = .returned (.bool true) ∧ Below w.heap.size w w' := by
  have HS := Lib.hid hL
  obtain ⟨pe, ce, rfl⟩ := hL.1.len
  obtain ⟨pn, cn, rfl⟩ := hL.2.1.len
  obtain ⟨pi, ci, rfl⟩ := ws_len hL.2.2.1
  obtain ⟨pt, ct, rfl⟩ := hL.2.2.2.len
  have KB := Lib.hid (Bk.new w 27 [.int .i64 s.what, .int .i64 s.width, .int .i64 s.nodes, .slice pe s.E.length ce, .slice pn s.N.length cn, .slice pi s.I.length ci, .slice pt s.T.length ct])
  have BB := Lib.hid ((Below.refl w.heap.size w).alloc (Nat.le_refl _) (.cells #[.int .i64 s.what, .int .i64 s.width, .int .i64 s.nodes, .slice pe s.E.length ce, .slice pn s.N.length cn, .slice pi s.I.length ci, .slice pt s.T.length ct] 27))
  have HY := Lib.hid (HS.out.below BB.out)
  clear hL
  have HF := Lib.hid hb
  have HX := Lib.hid (hx.below BB.out)
  obtain ⟨px, cx, rfl⟩ := ws_len hx
  have LX := Lib.hid (And.intro hx.1 (ltS_of HS.out))
  clear hx hb HS
  go_enter Try.func3, Try.ntmps3
  go_wp2_with fail
  refine (saw_any _).mono ?_
  rintro e w1 ⟨rfl, hB⟩
  have BB := Lib.hid (BB.out.trans (hB.mono BB.out.size))
  have HY := Lib.hid (HY.out.below hB)
  have HX := Lib.hid (HX.out.below hB)
  have KB := Lib.hid (KB.out.below hB)
  obtain ⟨c0, c1, c2, c3, c4, c5, c6⟩ := KB.out.seven
  clear hB
  go_wp2_with fail
  refine (rsmall_any s _ _ _ _ _ HY.out HF.out).mono ?_
  rintro e w2 ⟨⟨b, rfl, hbT⟩, hB⟩
  have BB := Lib.hid (BB.out.trans (hB.mono BB.out.size))
  have HY := Lib.hid (HY.out.below hB)
  have HX := Lib.hid (HX.out.below hB)
  have KB := Lib.hid (KB.out.below hB)
  clear c0 c1 c2 c3 c4 c5 c6
  obtain ⟨c0, c1, c2, c3, c4, c5, c6⟩ := KB.out.seven
  clear hB
  cases b with
  | false =>
    clear hbT
    go_wp2_with fail
    go_ret
    exact ⟨rfl, BB.out⟩
  | true =>
    have SM := Lib.hid (hbT rfl)
    clear hbT
    have SF := Lib.hid SM.out.f
    by_cases hx20 : (20 : Int) < x.length
    · go_wp2_with fail
      go_ret
      exact ⟨rfl, BB.out⟩
    have lx : (x.length : Int) ≤ 20 := by omega
    clear hx20
    obtain ⟨ce, hce⟩ : ∃ z, z = checkS s := ⟨_, rfl⟩
    have NC := Lib.hid hce
    clear hce
    go_wp2_with fail
    refine (rscheck_any s _ _ _ _ _ HY.out SF.out).mono ?_
    rintro e w3 ⟨rfl, hB⟩
    have BB := Lib.hid (BB.out.trans (hB.mono BB.out.size))
    have HY := Lib.hid (HY.out.below hB)
    have HX := Lib.hid (HX.out.below hB)
    have KB := Lib.hid (KB.out.below hB)
    clear c0 c1 c2 c3 c4 c5 c6
    obtain ⟨c0, c1, c2, c3, c4, c5, c6⟩ := KB.out.seven
    clear hB
    rw [← NC.out]
    obtain ⟨la, hla⟩ : ∃ z, z = okL (checkV s v) (startE s v) := ⟨_, rfl⟩
    have NA := Lib.hid hla
    clear hla
    obtain ⟨lb, hlb⟩ : ∃ z, z = outL s v x := ⟨_, rfl⟩
    have NB := Lib.hid hlb
    clear hlb
    obtain ⟨lc, hlc⟩ : ∃ z, z = okV (checkS s) (bottomS s) := ⟨_, rfl⟩
    have NL := Lib.hid hlc
    clear hlc
    obtain ⟨ea, hea⟩ : ∃ z, z = checkV s v := ⟨_, rfl⟩
    have NE := Lib.hid hea
    clear hea
    obtain ⟨eb, heb⟩ : ∃ z, z = outC s v x := ⟨_, rfl⟩
    have NF := Lib.hid heb
    clear heb
    go_wp2_with fail
    refine (sStart_any s _ _ _ _ v _ HY.out SF.out).mono ?_
    rintro e w4 ⟨ua, rfl, hVa, hB⟩
    have BB := Lib.hid (BB.out.trans (hB.mono BB.out.size))
    have HY := Lib.hid (HY.out.below hB)
    have HX := Lib.hid (HX.out.below hB)
    have KB := Lib.hid (KB.out.below hB)
    clear c0 c1 c2 c3 c4 c5 c6
    obtain ⟨c0, c1, c2, c3, c4, c5, c6⟩ := KB.out.seven
    clear hB
    rw [← NA.out] at hVa
    rw [← NE.out]
    have HA := Lib.hid hVa
    obtain ⟨pa, ca, rfl⟩ := ws_len hVa
    clear hVa
    go_wp2_with fail
    refine (sOut_any s _ _ _ _ v _ x _ HY.out SF.out HX.out (by omega)).mono ?_
    rintro e w5 ⟨ub, rfl, hVb, hB⟩
    have BB := Lib.hid (BB.out.trans (hB.mono BB.out.size))
    have HY := Lib.hid (HY.out.below hB)
    have HX := Lib.hid (HX.out.below hB)
    have HA := Lib.hid (HA.out.below hB)
    have KB := Lib.hid (KB.out.below hB)
    clear c0 c1 c2 c3 c4 c5 c6
    obtain ⟨c0, c1, c2, c3, c4, c5, c6⟩ := KB.out.seven
    clear hB
    rw [← NB.out] at hVb
    rw [← NF.out]
    have HB := Lib.hid hVb
    obtain ⟨pb, cb, rfl⟩ := ws_len hVb
    clear hVb
    go_wp2_with fail
    refine (sBottom_any s _ _ _ _ _ HY.out SF.out).mono ?_
    rintro e w6 ⟨uc, rfl, hVc, hB⟩
    have BB := Lib.hid (BB.out.trans (hB.mono BB.out.size))
    have HY := Lib.hid (HY.out.below hB)
    have HX := Lib.hid (HX.out.below hB)
    have HA := Lib.hid (HA.out.below hB)
    have HB := Lib.hid (HB.out.below hB)
    have KB := Lib.hid (KB.out.below hB)
    clear c0 c1 c2 c3 c4 c5 c6
    obtain ⟨c0, c1, c2, c3, c4, c5, c6⟩ := KB.out.seven
    clear hB
    rw [← NL.out] at hVc
    rw [← NC.out]
    have HC := Lib.hid hVc
    obtain ⟨pc, cc, rfl⟩ := hVc.len
    clear hVc
    go_wp2_with fail
    refine (scheck_any s _ _ _ _ _ HY.out SF.out).mono ?_
    rintro e w7 ⟨rfl, hB⟩
    have BB := Lib.hid (BB.out.trans (hB.mono BB.out.size))
    have HY := Lib.hid (HY.out.below hB)
    have HX := Lib.hid (HX.out.below hB)
    have HA := Lib.hid (HA.out.below hB)
    have HB := Lib.hid (HB.out.below hB)
    have HC := Lib.hid (HC.out.below hB)
    have KB := Lib.hid (KB.out.below hB)
    clear c0 c1 c2 c3 c4 c5 c6
    obtain ⟨c0, c1, c2, c3, c4, c5, c6⟩ := KB.out.seven
    clear hB
    rw [← NC.out]
    have ec1 : (ce != ce) = false := bne_self_eq_false ce
    by_cases h0 : ce = 0
    case neg =>
      have hz : checkS s ≠ 0 := by rw [← NC.out]; exact h0
      have q1 : ea = ce := by rw [NE.out, NC.out]; exact cv_bad v hz
      have q2 : eb = ce ∧ lb = [] := by rw [NF.out, NB.out, NC.out, ← cv_bad v hz]; exact out_bad (by rw [cv_bad v hz]; exact hz)
      have q3 : la = [] := by rw [NA.out]; exact okL_no (by rw [cv_bad v hz]; exact hz) _
      have q4 : lc = [] := by rw [NL.out]; exact okV_no hz _
      have q5 : (ce == ce) = true := beq_self_eq_true ce
      have q6 : (ce != 0) = true := by simpa using h0
      obtain ⟨q2, q2'⟩ := q2
      clear NE NF NA NB NL NC HA HB HC
      subst q1 q2 q2' q3 q4
      clear h0 hz
      go_wp2_with fail
      go_ret
      exact ⟨ret_bool (by simp), BB.out⟩
    have hcs : checkS s = 0 := by rw [← NC.out]; exact h0
    have OK := Lib.hid (okS_of hcs)
    have HLC := Lib.hid (show lc = bottomS s by rw [NL.out, hcs]; exact okV_yes _)
    have hlcl : lc.length ≤ 256 := by rw [HLC.out]; unfold bottomS; rw [List.length_replicate]; have := OK.out.n2; omega
    have HCS := Lib.hid hcs
    have HLB := Lib.hid (show ValsB 9223372036854775807 (bottomS s) from fun j hj => by
      have e : lsAt (bottomS s) j = bottomE s.what s.width := by
        unfold bottomS at hj ⊢
        rw [List.length_replicate] at hj
        unfold lsAt
        simp [hj]
      rw [e, bottom_len]
      have := wordsN_le s.what s.width
      omega)
    clear hcs
    subst h0
    go_wp2_with fail
    refine (rsbottom_any s _ _ _ _ _ HY.out SF.out OK.out).mono ?_
    rintro e w8 ⟨ud, rfl, hVd, hB⟩
    have BB := Lib.hid (BB.out.trans (hB.mono BB.out.size))
    have HY := Lib.hid (HY.out.below hB)
    have HX := Lib.hid (HX.out.below hB)
    have HA := Lib.hid (HA.out.below hB)
    have HB := Lib.hid (HB.out.below hB)
    have HC := Lib.hid (HC.out.below hB)
    have KB := Lib.hid (KB.out.below hB)
    clear c0 c1 c2 c3 c4 c5 c6
    obtain ⟨c0, c1, c2, c3, c4, c5, c6⟩ := KB.out.seven
    clear hB
    have HD := Lib.hid hVd
    obtain ⟨pd, cd, rfl⟩ := hVd.len
    clear hVd
    go_wp2_with fail
    refine (rvsame_any _ _ lc (bottomS s) _ HC.out HD.out (by omega) (by rw [← HLC.out]; omega) (by rw [HLC.out]; exact HLB.out) HLB.out).mono ?_
    rintro e w9 ⟨rfl, hB⟩
    have BB := Lib.hid (BB.out.trans (hB.mono BB.out.size))
    have HY := Lib.hid (HY.out.below hB)
    have HX := Lib.hid (HX.out.below hB)
    have HA := Lib.hid (HA.out.below hB)
    have HB := Lib.hid (HB.out.below hB)
    have HC := Lib.hid (HC.out.below hB)
    have HD := Lib.hid (HD.out.below hB)
    have KB := Lib.hid (KB.out.below hB)
    clear c0 c1 c2 c3 c4 c5 c6
    obtain ⟨c0, c1, c2, c3, c4, c5, c6⟩ := KB.out.seven
    clear hB
    rw [decide_eq_true HLC.out]
    by_cases hn : nodeE s.nodes v = true
    case neg =>
      have hb1 : nodeE s.nodes v = false := by simpa using hn
      have hz : checkV s v = 1 := by rw [cv_ok v HCS.out, if_neg hn]
      have q1 : ea = 1 := by rw [NE.out]; exact hz
      have q2 : eb = 1 ∧ lb = [] := by rw [NF.out, NB.out, ← hz]; exact out_bad (by rw [hz]; decide)
      have q3 : la = [] := by rw [NA.out]; exact okL_no (by rw [hz]; decide) _
      have hv : v < 0 ∨ (0 ≤ v ∧ s.nodes ≤ v) := by have := mt nodeE_iff.2 hn; omega
      obtain ⟨q2, q2'⟩ := q2
      clear NE NF NA NB NL HA HB HC HD hz hb1 hn
      subst q1 q2 q2' q3
      rcases hv with hv | ⟨hv, hv2⟩
      all_goals
        go_wp2_with fail
        go_ret
        exact ⟨ret_bool (by simp), BB.out⟩
    have hz : checkV s v = 0 := by rw [cv_ok v HCS.out, if_pos hn]
    obtain ⟨hv1, hv2⟩ := nodeE_iff.1 hn
    have HZ := Lib.hid hz
    have q1 : ea = 0 := by rw [NE.out]; exact hz
    have q3 : la = startE s v := by rw [NA.out, hz]; exact okL_yes _
    have NA2 := Lib.hid q3
    have hal : la.length ≤ 1024 := by rw [q3]; exact value_le (start_value OK.out v)
    subst q1
    clear hz hn q3 NE
    go_wp2_with fail
    refine (rval_any s.what s.width _ x _ HX.out (by omega)).mono ?_
    rintro e w10 ⟨rfl, hB⟩
    have BB := Lib.hid (BB.out.trans (hB.mono BB.out.size))
    have HY := Lib.hid (HY.out.below hB)
    have HX := Lib.hid (HX.out.below hB)
    have HA := Lib.hid (HA.out.below hB)
    have HB := Lib.hid (HB.out.below hB)
    have HC := Lib.hid (HC.out.below hB)
    have HD := Lib.hid (HD.out.below hB)
    have KB := Lib.hid (KB.out.below hB)
    clear c0 c1 c2 c3 c4 c5 c6
    obtain ⟨c0, c1, c2, c3, c4, c5, c6⟩ := KB.out.seven
    clear hB
    cases hva : valueE s.what s.width x with
    | false =>
      obtain ⟨r2, r2'⟩ := out_dom HZ.out hva
      have q2 : eb = 2 := by rw [NF.out]; exact r2
      have q4 : lb = [] := by rw [NB.out]; exact r2'
      clear NF NB HB HC HD hva r2 r2'
      subst q2 q4
      go_wp2_with fail
      go_ret
      exact ⟨ret_bool (by simp), BB.out⟩
    | true =>
      obtain ⟨r2, r2'⟩ := out_ok HZ.out hva
      have q2 : eb = 0 := by rw [NF.out]; exact r2
      obtain ⟨n, rfl⟩ : ∃ n : Nat, v = n := ⟨v.toNat, by omega⟩
      have q4 : lb = applyT s n x := by rw [NB.out]; exact r2'
      have NB2 := Lib.hid q4
      have hnn : n < s.nodes.toNat := by omega
      have VX := Lib.hid hva
      have hbl : lb.length ≤ 1024 := by rw [q4]; exact value_le (applyT_value OK.out LX.out.2 hnn LX.out.1 hva)
      clear r2
      subst q2
      clear q4 r2' NF hva
      go_wp2_with fail
      refine (rsstart_any s _ _ _ _ (n : Int) _ HY.out SF.out).mono ?_
      rintro e w11 ⟨ue, rfl, hVe, hB⟩
      have BB := Lib.hid (BB.out.trans (hB.mono BB.out.size))
      have HY := Lib.hid (HY.out.below hB)
      have HX := Lib.hid (HX.out.below hB)
      have HA := Lib.hid (HA.out.below hB)
      have HB := Lib.hid (HB.out.below hB)
      have HC := Lib.hid (HC.out.below hB)
      have HD := Lib.hid (HD.out.below hB)
      have KB := Lib.hid (KB.out.below hB)
      clear c0 c1 c2 c3 c4 c5 c6
      obtain ⟨c0, c1, c2, c3, c4, c5, c6⟩ := KB.out.seven
      clear hB
      rw [← NA2.out] at hVe
      have HE := Lib.hid hVe
      obtain ⟨pe2, ce2, rfl⟩ := ws_len hVe
      clear hVe
      go_wp2_with fail
      refine (same_any _ _ la la _ HA.out HE.out (by omega) (by omega)).mono ?_
      rintro e w12 ⟨rfl, nq, hww⟩
      have hB := bel_of_drewN hww
      clear hww
      have BB := Lib.hid (BB.out.trans (hB.mono BB.out.size))
      have HY := Lib.hid (HY.out.below hB)
      have HX := Lib.hid (HX.out.below hB)
      have HA := Lib.hid (HA.out.below hB)
      have HB := Lib.hid (HB.out.below hB)
      have HC := Lib.hid (HC.out.below hB)
      have HD := Lib.hid (HD.out.below hB)
      have HE := Lib.hid (HE.out.below hB)
      have KB := Lib.hid (KB.out.below hB)
      clear c0 c1 c2 c3 c4 c5 c6
      obtain ⟨c0, c1, c2, c3, c4, c5, c6⟩ := KB.out.seven
      clear hB
      rw [decide_eq_true rfl]
      go_wp2_with fail
      refine (rsout_any s _ _ _ _ n _ x _ HY.out SF.out HX.out (by omega) OK.out hnn VX.out).mono ?_
      rintro e w13 ⟨uf, rfl, hVf, hB⟩
      have BB := Lib.hid (BB.out.trans (hB.mono BB.out.size))
      have HY := Lib.hid (HY.out.below hB)
      have HX := Lib.hid (HX.out.below hB)
      have HA := Lib.hid (HA.out.below hB)
      have HB := Lib.hid (HB.out.below hB)
      have HC := Lib.hid (HC.out.below hB)
      have HD := Lib.hid (HD.out.below hB)
      have HE := Lib.hid (HE.out.below hB)
      have KB := Lib.hid (KB.out.below hB)
      clear c0 c1 c2 c3 c4 c5 c6
      obtain ⟨c0, c1, c2, c3, c4, c5, c6⟩ := KB.out.seven
      clear hB
      rw [← NB2.out] at hVf
      have HG := Lib.hid hVf
      obtain ⟨pf2, cf2, rfl⟩ := ws_len hVf
      clear hVf
      go_wp2_with fail
      refine (same_any _ _ lb lb _ HB.out HG.out (by omega) (by omega)).mono ?_
      rintro e w14 ⟨rfl, nq2, hww⟩
      have hB := bel_of_drewN hww
      clear hww
      have BB := Lib.hid (BB.out.trans (hB.mono BB.out.size))
      clear hB
      rw [decide_eq_true rfl]
      go_wp2_with fail
      go_ret
      exact ⟨rfl, BB.out⟩


end Go.Proofs.Ytmidbfnmkfncgaa
