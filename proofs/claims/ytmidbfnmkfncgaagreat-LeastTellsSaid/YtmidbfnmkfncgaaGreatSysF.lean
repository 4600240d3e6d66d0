/-
  soughlaw18.LeastTells: its walk. Written by wip/gen/mksysF.py.
-/
import Derived.Test.YtmidbfnmkfncgaaGreatSysE
namespace Go.Proofs.YtmidbfnmkfncgaaGreat
open Go.RowKit

theorem small_words {s : SysT} (h : SmallS s) (ok : OkS s) : wordsN s.what s.width ≤ 1000 := by
  have h1 := (h.ok ok).2
  unfold wordsN
  split
  · split
    · omega
    · have := sizeE_le s.width; omega
  · omega

set_option maxHeartbeats 3200000 in
set_option maxRecDepth 100000 in
theorem leastTells_walk (s : SysT) (ve vn vi vt : Value) (k : Int) (w : World) (hL : SysL w ve vn vi vt s) (hb : SysB s) :
    Calls Tryz.prog 5 #[.agg #[.int .i64 s.what, .int .i64 s.width, .int .i64 s.nodes, ve, vn, vi, vt], .int .i64 k] w fun e w' => e = .returned (.bool true) ∧ Below w.heap.size w w' := by
  have HS := Lib.hid hL
  obtain ⟨pe, ce, rfl⟩ := hL.1.len
  obtain ⟨pn, cn, rfl⟩ := hL.2.1.len
  obtain ⟨pi, ci, rfl⟩ := ws_len hL.2.2.1
  obtain ⟨pt, ct, rfl⟩ := hL.2.2.2.len
  have KB := Lib.hid (Bk.new w 27 [.int .i64 s.what, .int .i64 s.width, .int .i64 s.nodes, .slice pe s.E.length ce, .slice pn s.N.length cn, .slice pi s.I.length ci, .slice pt s.T.length ct])
  have BB := Lib.hid ((Below.refl w.heap.size w).alloc (Nat.le_refl _) (.cells #[.int .i64 s.what, .int .i64 s.width, .int .i64 s.nodes, .slice pe s.E.length ce, .slice pn s.N.length cn, .slice pi s.I.length ci, .slice pt s.T.length ct] 27))
  have HY := Lib.hid (HS.out.below BB.out)
  clear hL
  have HF := Lib.hid hb
  have HVL := Lib.hid (ltS_of HS.out)
  clear hb HS
  go_enter Tryz.func5, Tryz.ntmps5
  go_wp2_with fail
  refine (law_any _).mono ?_
  rintro e w1 ⟨rfl, hB⟩
  have BB := Lib.hid (BB.out.trans (hB.mono BB.out.size))
  have HY := Lib.hid (HY.out.below hB)
  have KB := Lib.hid (KB.out.below hB)
  obtain ⟨c0, c1, c2, c3, c4, c5, c6⟩ := KB.out.seven
  clear hB
  go_wp2_with fail
  refine (rsmall_any s _ _ _ _ _ HY.out HF.out).mono ?_
  rintro e w2 ⟨⟨b, rfl, hbT⟩, hB⟩
  have BB := Lib.hid (BB.out.trans (hB.mono BB.out.size))
  have HY := Lib.hid (HY.out.below hB)
  have KB := Lib.hid (KB.out.below hB)
  clear c0 c1 c2 c3 c4 c5 c6
  obtain ⟨c0, c1, c2, c3, c4, c5, c6⟩ := KB.out.seven
  clear hB
  cases b with
  | false =>
    clear hbT
    go_wp2_with fail
    go_ret
    exact ⟨rfl, BB.out⟩
  | true =>
    have SM := Lib.hid (hbT rfl)
    clear hbT
    have SF := Lib.hid SM.out.f
    have HWD := Lib.hid (show OkS s → s.width ≤ 200 from fun h => by have := (SM.out.ok h).2; omega)
    obtain ⟨ce, hce⟩ : ∃ z, z = checkS s := ⟨_, rfl⟩
    have NC := Lib.hid hce
    clear hce
    by_cases h0 : ce = 0
    case neg =>
      have HNZ := Lib.hid (show checkS s ≠ 0 by rw [← NC.out]; exact h0)
      have q3 : (ce == ce) = true := beq_self_eq_true ce
      have q4 : (ce != 0) = true := by simpa using h0
      clear h0
      go_wp2_with fail
      refine (literate_any s _ _ _ _ k _ HY.out SF.out HWD.out).mono ?_
      rintro e w3 (⟨_, rfl, hB⟩ | ⟨h1, _⟩)
      case inr => exact absurd h1 HNZ.out
      rw [← NC.out]
      have BB := Lib.hid (BB.out.trans (hB.mono BB.out.size))
      have HY := Lib.hid (HY.out.below hB)
      have KB := Lib.hid (KB.out.below hB)
      clear c0 c1 c2 c3 c4 c5 c6
      obtain ⟨c0, c1, c2, c3, c4, c5, c6⟩ := KB.out.seven
      clear hB
      go_wp2_with fail
      refine (lsolve_any s _ _ _ _ _ HY.out SF.out HWD.out).mono ?_
      rintro e w4 (⟨_, rfl, hB⟩ | ⟨h1, _⟩)
      case inr => exact absurd h1 HNZ.out
      rw [← NC.out]
      have BB := Lib.hid (BB.out.trans (hB.mono BB.out.size))
      have HY := Lib.hid (HY.out.below hB)
      have KB := Lib.hid (KB.out.below hB)
      clear c0 c1 c2 c3 c4 c5 c6
      obtain ⟨c0, c1, c2, c3, c4, c5, c6⟩ := KB.out.seven
      clear hB
      go_wp2_with fail
      refine (rscheck_any s _ _ _ _ _ HY.out SF.out).mono ?_
      rintro e w5 ⟨rfl, hB⟩
      have BB := Lib.hid (BB.out.trans (hB.mono BB.out.size))
      have HY := Lib.hid (HY.out.below hB)
      have KB := Lib.hid (KB.out.below hB)
      clear c0 c1 c2 c3 c4 c5 c6
      obtain ⟨c0, c1, c2, c3, c4, c5, c6⟩ := KB.out.seven
      clear hB
      rw [← NC.out]
      go_wp2_with fail
      go_ret
      exact ⟨ret_bool (by simp), BB.out⟩
    have HC0 := Lib.hid (NC.out.symm.trans h0)
    have OK := Lib.hid (okS_of HC0.out)
    subst h0
    have hwn := small_words SM.out OK.out
    obtain ⟨pb1, pb2⟩ := prod_bd OK.out
    obtain ⟨ph, hph⟩ : ∃ z, z = s.nodes * heightE s.what s.width := ⟨_, rfl⟩
    have HPH := Lib.hid hph
    rw [← hph] at pb1 pb2
    clear hph
    go_wp2_with fail
    refine (literate_any s _ _ _ _ k _ HY.out SF.out HWD.out).mono ?_
    rintro e w3 (⟨h1, _, _⟩ | ⟨_, j, ua, rfl, hVa, hCa, hB⟩)
    case inl => exact absurd HC0.out h1
    have HA := Lib.hid hVa
    have CA := Lib.hid hCa
    obtain ⟨pa, ca, rfl⟩ := hVa.len
    clear hVa hCa
    have BB := Lib.hid (BB.out.trans (hB.mono BB.out.size))
    have HY := Lib.hid (HY.out.below hB)
    have KB := Lib.hid (KB.out.below hB)
    clear c0 c1 c2 c3 c4 c5 c6
    obtain ⟨c0, c1, c2, c3, c4, c5, c6⟩ := KB.out.seven
    clear hB
    go_wp2_with fail
    refine (lsolve_any s _ _ _ _ _ HY.out SF.out HWD.out).mono ?_
    rintro e w4 (⟨h1, _, _⟩ | ⟨_, n, ub, rfl, hVb, hCb, hB⟩)
    case inl => exact absurd HC0.out h1
    have HB := Lib.hid hVb
    have CB := Lib.hid hCb
    obtain ⟨pb, cb, rfl⟩ := hVb.len
    clear hVb hCb
    have BB := Lib.hid (BB.out.trans (hB.mono BB.out.size))
    have HY := Lib.hid (HY.out.below hB)
    have HA := Lib.hid (HA.out.below hB)
    have KB := Lib.hid (KB.out.below hB)
    clear c0 c1 c2 c3 c4 c5 c6
    obtain ⟨c0, c1, c2, c3, c4, c5, c6⟩ := KB.out.seven
    clear hB
    go_wp2_with fail
    refine (rscheck_any s _ _ _ _ _ HY.out SF.out).mono ?_
    rintro e w5 ⟨rfl, hB⟩
    have BB := Lib.hid (BB.out.trans (hB.mono BB.out.size))
    have HY := Lib.hid (HY.out.below hB)
    have HA := Lib.hid (HA.out.below hB)
    have HB := Lib.hid (HB.out.below hB)
    have KB := Lib.hid (KB.out.below hB)
    clear c0 c1 c2 c3 c4 c5 c6
    obtain ⟨c0, c1, c2, c3, c4, c5, c6⟩ := KB.out.seven
    clear hB
    rw [HC0.out]
    have LA := Lib.hid (iter_lens OK.out HVL.out j)
    have LB := Lib.hid (iter_lens OK.out HVL.out n)
    have hnb : (n : Int) ≤ ph := by rw [HPH.out]; exact steps_bound OK.out HVL.out (HWD.out OK.out) n (fun i hi => neP_on (CB.out.on i hi))
    have CB2 := Lib.hid (climb_lt (m := ph + 1) CB.out (by omega))
    obtain ⟨c, hc, hc0⟩ : ∃ c : Int, clampK s k = c ∧ ((k < 0 ∧ c = 0) ∨ (0 ≤ k ∧ ph + 1 < k ∧ c = ph + 1) ∨ (0 ≤ k ∧ k ≤ ph + 1 ∧ c = k)) := by
      refine ⟨_, rfl, ?_⟩
      unfold clampK mkK
      rw [← HPH.out]
      by_cases h1 : k < 0
      · left
        rw [if_pos h1, if_neg (by omega)]
        exact ⟨h1, rfl⟩
      · right
        rw [if_neg h1]
        by_cases h2 : ph + 1 < k
        · left; rw [if_pos h2]; exact ⟨by omega, h2, rfl⟩
        · right; rw [if_neg h2]; exact ⟨by omega, by omega, rfl⟩
    have CA2 := Lib.hid (show ClimbAt s (ltP c) j by rw [← hc]; exact CA.out)
    clear hc
    rcases hc0 with ⟨k1, hcv⟩ | ⟨k1, k2, hcv⟩ | ⟨k1, k2, hcv⟩
    all_goals
      have HCV := Lib.hid hcv
      clear hcv
      go_wp2_with fail
      go_region_held3 (fun w' => w'.cell? ⟨w.heap.size, 0, none⟩ = some (.int .i64 s.what) ∧ w'.cell? ⟨w.heap.size, 1, none⟩ = some (.int .i64 s.width) ∧ w'.cell? ⟨w.heap.size, 2, none⟩ = some (.int .i64 s.nodes) ∧ w'.cell? ⟨w.heap.size, 3, none⟩ = some (.slice pe s.E.length ce) ∧ w'.cell? ⟨w.heap.size, 4, none⟩ = some (.slice pn s.N.length cn) ∧ w'.cell? ⟨w.heap.size, 5, none⟩ = some (.slice pi s.I.length ci) ∧ w'.cell? ⟨w.heap.size, 6, none⟩ = some (.slice pt s.T.length ct) ∧ Below w5.heap.size w5 w')
        (first
          | exact ⟨c0, c1, c2, c3, c4, c5, c6, (Below.refl _ _).drew⟩
          | (go_split_ands; exact ⟨keepc (by assumption) hB, keepc (by assumption) hB, keepc (by assumption) hB, keepc (by assumption) hB, keepc (by assumption) hB, keepc (by assumption) hB, keepc (by assumption) hB, (show Below w5.heap.size w5 _ by assumption).trans (hB.mono (show Below w5.heap.size w5 _ by assumption).size)⟩))
        (first
          | (go_at_call 27; go_split_ands; refine (renough_any s _ _ _ _ _ (HY.out.below (by assumption))).mono ?_; rintro e v1 ⟨⟨m, rfl, _, hmo⟩, hB⟩; have hm := hmo OK.out; rw [← HPH.out] at hm; subst hm; clear hmo)
          | (go_at_call 26; go_split_ands; refine (rsolve18_any s _ _ _ _ _ _ (HY.out.below (by assumption)) SF.out OK.out hwn (by omega)).mono ?_; rintro e wS ⟨l, uS, rfl, hV, hA, hB⟩; have HD := Lib.hid hV; have CD := Lib.hid hA; obtain ⟨pS, cS, rfl⟩ := hV.len; clear hV hA))
      all_goals
        go_split_ands
        have hB := (show Below w5.heap.size w5 _ from by assumption)
        have BB := Lib.hid (BB.out.trans (hB.mono BB.out.size))
        have HY := Lib.hid (HY.out.below hB)
        have HA := Lib.hid (HA.out.below hB)
        have HB := Lib.hid (HB.out.below hB)
        have KB := Lib.hid (KB.out.below hB)
        clear c0 c1 c2 c3 c4 c5 c6
        obtain ⟨c0, c1, c2, c3, c4, c5, c6⟩ := KB.out.seven
        clear hB
        obtain ⟨z, hz, hCz⟩ : ∃ z, z = c ∧ ClimbAt s (ltP z) l := ⟨_, by have := HCV.out; (repeat' split) <;> omega, CD.out⟩
        obtain rfl : l = j := climb_unique (by rw [hz] at hCz; exact hCz) CA2.out
        clear hz hCz
        obtain ⟨wq, hwq⟩ : ∃ wq, wq = wS := ⟨_, rfl⟩
        subst hwq
        go_wp2_with fail
        go_region_held3 (fun w' => w'.cell? ⟨w.heap.size, 0, none⟩ = some (.int .i64 s.what) ∧ w'.cell? ⟨w.heap.size, 1, none⟩ = some (.int .i64 s.width) ∧ w'.cell? ⟨w.heap.size, 2, none⟩ = some (.int .i64 s.nodes) ∧ w'.cell? ⟨w.heap.size, 3, none⟩ = some (.slice pe s.E.length ce) ∧ w'.cell? ⟨w.heap.size, 4, none⟩ = some (.slice pn s.N.length cn) ∧ w'.cell? ⟨w.heap.size, 5, none⟩ = some (.slice pi s.I.length ci) ∧ w'.cell? ⟨w.heap.size, 6, none⟩ = some (.slice pt s.T.length ct) ∧ Below wq.heap.size wq w')
          (first
            | exact ⟨c0, c1, c2, c3, c4, c5, c6, (Below.refl _ _).drew⟩
            | (go_split_ands; exact ⟨keepc (by assumption) hB, keepc (by assumption) hB, keepc (by assumption) hB, keepc (by assumption) hB, keepc (by assumption) hB, keepc (by assumption) hB, keepc (by assumption) hB, (show Below wq.heap.size wq _ by assumption).trans (hB.mono (show Below wq.heap.size wq _ by assumption).size)⟩))
          (first
            | (go_at_call 27; go_split_ands; refine (renough_any s _ _ _ _ _ (HY.out.below (by assumption))).mono ?_; rintro e v1 ⟨⟨m, rfl, _, hmo⟩, hB⟩; have hm := hmo OK.out; rw [← HPH.out] at hm; subst hm; clear hmo)
            | (go_at_call 26; go_split_ands; refine (rsolve18_any s _ _ _ _ (ph + 1) _ (HY.out.below (by assumption)) SF.out OK.out hwn (by omega)).mono ?_; rintro e wS ⟨l2, uS, rfl, hV, hA, hB⟩; have HE := Lib.hid hV; have CE := Lib.hid hA; obtain ⟨pS, cS, rfl⟩ := hV.len; clear hV hA))
        all_goals
          obtain rfl : l2 = n := climb_unique CE.out CB2.out
          have hB := (show Below wq.heap.size wq _ from by go_split_ands; assumption)
          have BB := Lib.hid (BB.out.trans (hB.mono BB.out.size))
          have HA := Lib.hid (HA.out.below hB)
          have HB := Lib.hid (HB.out.below hB)
          have HD := Lib.hid (HD.out.below hB)
          clear hB
          have q3 : ((l2 : Int) == (l2 : Int)) = true := beq_self_eq_true _
          go_wp2_with fail
          refine (rvsame_any _ _ (iterE s l) (iterE s l) _ HA.out HD.out (by have := LA.out.1; omega) (by have := LA.out.1; omega) (fun i hi => by have := LA.out.2 i hi; omega) (fun i hi => by have := LA.out.2 i hi; omega)).mono ?_
          rintro e x1 ⟨rfl, hB⟩
          rw [decide_eq_true rfl]
          have BB := Lib.hid (BB.out.trans (hB.mono BB.out.size))
          have HB := Lib.hid (HB.out.below hB)
          have HE := Lib.hid (HE.out.below hB)
          clear hB
          go_wp2_with fail
          refine (rvsame_any _ _ (iterE s l2) (iterE s l2) _ HB.out HE.out (by have := LB.out.1; omega) (by have := LB.out.1; omega) (fun i hi => by have := LB.out.2 i hi; omega) (fun i hi => by have := LB.out.2 i hi; omega)).mono ?_
          rintro e x2 ⟨rfl, hB⟩
          rw [decide_eq_true rfl]
          have BB := Lib.hid (BB.out.trans (hB.mono BB.out.size))
          clear hB
          go_wp2_with fail
          go_ret
          exact ⟨ret_bool (by simp), BB.out⟩


end Go.Proofs.YtmidbfnmkfncgaaGreat
