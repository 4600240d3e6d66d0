/-
  soughlaw17.SystemRises: its walk. Written by wip/gen/mksys7.py.
-/
import Derived.Test.YtmidbfnmkfncgaaPk2
namespace Go.Proofs.Ytmidbfnmkfncgaa
open Go.RowKit

theorem vals_small {s : SysT} {a : List (List Nat)} (h : valuesE s a = true) : ValsB 100000 a := fun j hj => by
  have := value_le (values_at h j (by rw [← values_len h]; exact hj))
  omega
theorem below_yes {s : SysT} {a b : List (List Nat)} (h : sbelowE s a b = true) : checkS s = 0 ∧ valuesE s a = true ∧ valuesE s b = true ∧ belowS s a b = true := by
  unfold sbelowE at h
  simp only [Bool.and_eq_true, decide_eq_true_eq] at h
  exact h
theorem below_mk {s : SysT} {a b : List (List Nat)} (h0 : checkS s = 0) (h1 : valuesE s a = true) (h2 : valuesE s b = true) (h3 : belowS s a b = true) : sbelowE s a b = true := by
  unfold sbelowE
  rw [h0, h1, h2, h3]
  rfl

set_option maxHeartbeats 3200000 in
set_option maxRecDepth 100000 in
theorem systemRises_walk (s : SysT) (ve vn vi vt : Value) (va vb : Value) (a b : List (List Nat)) (w : World) (hL : SysL w ve vn vi vt s) (hb : SysB s) (ha : Vals w va a) (hb2 : Vals w vb b) (hna : a.length ≤ 9223372036854775807) (hnb : b.length ≤ 9223372036854775807) (hma : ValsB 9223372036854775807 a) (hmb : ValsB 9223372036854775807 b) :
    Calls Try.prog 4 #[.agg #[.int .i64 s.what, .int .i64 s.width, .int .i64 s.nodes, ve, vn, vi, vt], va, vb] w fun e w' => e = .returned (.bool true) ∧ Below w.heap.size w w' := by
  have HS := Lib.hid hL
  obtain ⟨pe, ce, rfl⟩ := hL.1.len
  obtain ⟨pn, cn, rfl⟩ := hL.2.1.len
  obtain ⟨pi, ci, rfl⟩ := ws_len hL.2.2.1
  obtain ⟨pt, ct, rfl⟩ := hL.2.2.2.len
  have KB := Lib.hid (Bk.new w 27 [.int .i64 s.what, .int .i64 s.width, .int .i64 s.nodes, .slice pe s.E.length ce, .slice pn s.N.length cn, .slice pi s.I.length ci, .slice pt s.T.length ct])
  have BB := Lib.hid ((Below.refl w.heap.size w).alloc (Nat.le_refl _) (.cells #[.int .i64 s.what, .int .i64 s.width, .int .i64 s.nodes, .slice pe s.E.length ce, .slice pn s.N.length cn, .slice pi s.I.length ci, .slice pt s.T.length ct] 27))
  have HY := Lib.hid (HS.out.below BB.out)
  clear hL
  have HF := Lib.hid hb
  have HMA := Lib.hid hma
  have HMB := Lib.hid hmb
  have HA := Lib.hid (ha.below BB.out)
  have HB := Lib.hid (hb2.below BB.out)
  obtain ⟨pa, ca, rfl⟩ := ha.len
  obtain ⟨pb, cb, rfl⟩ := hb2.len
  have HVL := Lib.hid (And.intro (ltA_of ha) (And.intro (ltA_of hb2) (ltS_of HS.out)))
  clear ha hb2 hma hmb hb HS
  go_enter Try.func4, Try.ntmps4
  go_wp2_with fail
  refine (saw_any _).mono ?_
  rintro e w1 ⟨rfl, hB⟩
  have BB := Lib.hid (BB.out.trans (hB.mono BB.out.size))
  have HY := Lib.hid (HY.out.below hB)
  have HA := Lib.hid (HA.out.below hB)
  have HB := Lib.hid (HB.out.below hB)
  have KB := Lib.hid (KB.out.below hB)
  obtain ⟨c0, c1, c2, c3, c4, c5, c6⟩ := KB.out.seven
  clear hB
  go_wp2_with fail
  refine (rsmall_any s _ _ _ _ _ HY.out HF.out).mono ?_
  rintro e w2 ⟨⟨b, rfl, hbT⟩, hB⟩
  have BB := Lib.hid (BB.out.trans (hB.mono BB.out.size))
  have HY := Lib.hid (HY.out.below hB)
  have HA := Lib.hid (HA.out.below hB)
  have HB := Lib.hid (HB.out.below hB)
  have KB := Lib.hid (KB.out.below hB)
  clear c0 c1 c2 c3 c4 c5 c6
  obtain ⟨c0, c1, c2, c3, c4, c5, c6⟩ := KB.out.seven
  clear hB
  cases b with
  | false =>
    clear hbT
    go_wp2_with fail
    go_ret
    exact ⟨rfl, BB.out⟩
  | true =>
    have SM := Lib.hid (hbT rfl)
    clear hbT
    have SF := Lib.hid SM.out.f
    go_wp2_with fail
    refine (rfew_any _ a _ HA.out hna HMA.out).mono ?_
    rintro e w3 ⟨⟨b, rfl, hbT⟩, hww⟩
    subst w3
    cases b with
    | false =>
      clear hbT
      go_wp2_with fail
      go_ret
      exact ⟨rfl, BB.out⟩
    | true =>
      have FA := Lib.hid (hbT rfl)
      clear hbT
      go_wp2_with fail
      refine (rfew_any _ b _ HB.out hnb HMB.out).mono ?_
      rintro e w4 ⟨⟨b, rfl, hbT⟩, hww⟩
      subst w4
      cases b with
      | false =>
        clear hbT
        go_wp2_with fail
        go_ret
        exact ⟨rfl, BB.out⟩
      | true =>
        have FB := Lib.hid (hbT rfl)
        clear hbT
        have la : a.length ≤ 12 := FA.out.1
        have lb : b.length ≤ 12 := FB.out.1
        have VA := Lib.hid (show ValsB 100000 a from fun j hj => by have := FA.out.2 j hj; omega)
        have VB := Lib.hid (show ValsB 100000 b from fun j hj => by have := FB.out.2 j hj; omega)
        go_wp2_with fail
        refine (sBelow_any s _ _ _ _ _ _ a b _ HY.out SF.out HA.out HB.out (by omega) VA.out (by omega) VB.out).mono ?_
        rintro e w5 ⟨rfl, hB⟩
        have BB := Lib.hid (BB.out.trans (hB.mono BB.out.size))
        have HY := Lib.hid (HY.out.below hB)
        have HA := Lib.hid (HA.out.below hB)
        have HB := Lib.hid (HB.out.below hB)
        have KB := Lib.hid (KB.out.below hB)
        clear c0 c1 c2 c3 c4 c5 c6
        obtain ⟨c0, c1, c2, c3, c4, c5, c6⟩ := KB.out.seven
        clear hB
        cases hbe : sbelowE s a b with
        | false =>
          clear hbe
          go_wp2_with fail
          go_ret
          exact ⟨rfl, BB.out⟩
        | true =>
          obtain ⟨hc0, hv1, hv2, hbs⟩ := below_yes hbe
          have hok := okS_of hc0
          have QC := Lib.hid hc0
          have QA := Lib.hid (sc_ok hc0 hv1)
          have QB := Lib.hid (sc_ok hc0 hv2)
          have SA := Lib.hid (step_values hok HVL.out.2.2 HVL.out.1 hv1)
          have SB := Lib.hid (step_values hok HVL.out.2.2 HVL.out.2.1 hv2)
          have QD := Lib.hid (below_mk hc0 SA.out.1 SB.out.1 (step_up_s hok HVL.out.2.2 HVL.out.1 HVL.out.2.1 hv1 hv2 hbs))
          have n1 : s.nodes.toNat ≤ 256 := by have := hok.n2; omega
          clear hbe hc0 hv1 hv2 hbs hok
          go_wp2_with fail
          refine (sStep_any s _ _ _ _ _ a _ HY.out SF.out HA.out (by omega) VA.out).mono ?_
          rintro e w6 ⟨uc, rfl, hVc, hB⟩
          have BB := Lib.hid (BB.out.trans (hB.mono BB.out.size))
          have HY := Lib.hid (HY.out.below hB)
          have HA := Lib.hid (HA.out.below hB)
          have HB := Lib.hid (HB.out.below hB)
          have KB := Lib.hid (KB.out.below hB)
          clear c0 c1 c2 c3 c4 c5 c6
          obtain ⟨c0, c1, c2, c3, c4, c5, c6⟩ := KB.out.seven
          clear hB
          rw [QA.out, okV_yes] at hVc
          rw [QA.out]
          have HC := Lib.hid hVc
          obtain ⟨pc, cc, rfl⟩ := hVc.len
          clear hVc
          go_wp2_with fail
          refine (sStep_any s _ _ _ _ _ b _ HY.out SF.out HB.out (by omega) VB.out).mono ?_
          rintro e w7 ⟨ud, rfl, hVd, hB⟩
          have BB := Lib.hid (BB.out.trans (hB.mono BB.out.size))
          have HY := Lib.hid (HY.out.below hB)
          have HA := Lib.hid (HA.out.below hB)
          have HB := Lib.hid (HB.out.below hB)
          have HC := Lib.hid (HC.out.below hB)
          have KB := Lib.hid (KB.out.below hB)
          clear c0 c1 c2 c3 c4 c5 c6
          obtain ⟨c0, c1, c2, c3, c4, c5, c6⟩ := KB.out.seven
          clear hB
          rw [QB.out, okV_yes] at hVd
          rw [QB.out]
          have HD := Lib.hid hVd
          obtain ⟨pd, cd, rfl⟩ := hVd.len
          clear hVd
          go_wp2_with fail
          refine (sBelow_any s _ _ _ _ _ _ (stepE s a) (stepE s b) _ HY.out SF.out HC.out HD.out (by rw [step_len]; omega) (vals_small SA.out.1) (by rw [step_len]; omega) (vals_small SB.out.1)).mono ?_
          rintro e w8 ⟨rfl, hB⟩
          have BB := Lib.hid (BB.out.trans (hB.mono BB.out.size))
          have HY := Lib.hid (HY.out.below hB)
          have HA := Lib.hid (HA.out.below hB)
          have HB := Lib.hid (HB.out.below hB)
          have HC := Lib.hid (HC.out.below hB)
          have HD := Lib.hid (HD.out.below hB)
          have KB := Lib.hid (KB.out.below hB)
          clear c0 c1 c2 c3 c4 c5 c6
          obtain ⟨c0, c1, c2, c3, c4, c5, c6⟩ := KB.out.seven
          clear hB
          rw [QD.out]
          go_wp2_with fail
          go_ret
          exact ⟨rfl, BB.out⟩


end Go.Proofs.Ytmidbfnmkfncgaa
