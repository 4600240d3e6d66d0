/-
  transfer.Same, soughref16.Same: contracts.
-/
import Derived.Test.YtflkelnfdoihlaaTrE
namespace Go.Proofs.Ytflkelnfdoihlaa
open Go.RowKit

/-- Whether two Trans are alike. -/
def sameT (g k : List Nat) (L : List CodeT) (g2 k2 : List Nat) (L2 : List CodeT) : Bool := decide (g = g2) && (decide (k = k2) && codesQ L L2)

set_option maxHeartbeats 3200000 in
set_option maxRecDepth 100000 in
theorem tsame_any (vg vk vl vg2 vk2 vl2 : Value) (g k g2 k2 : List Nat) (L L2 : List CodeT) (w : World) (h1 : Ws w vg g) (h2 : Ws w vk k) (h3 : Codes w vl L) (h4 : Ws w vg2 g2) (h5 : Ws w vk2 k2) (h6 : Codes w vl2 L2)
    (m1 : g.length ≤ 1000000) (m2 : k.length ≤ 1000000) (m3 : L.length ≤ 1000000) (m4 : g2.length ≤ 1000000) (m5 : k2.length ≤ 1000000) (m6 : L2.length ≤ 1000000) :
    Calls Try.prog 38 #[.agg #[vg, vk, vl], .agg #[vg2, vk2, vl2]] w fun e w' => e = .returned (.bool (sameT g k L g2 k2 L2)) ∧ Below w.heap.size w w' := by
  have H1 := Lib.hid h1
  have H2 := Lib.hid h2
  have H3 := Lib.hid h3
  have H4 := Lib.hid h4
  have H5 := Lib.hid h5
  have H6 := Lib.hid h6
  obtain ⟨pg, cg, rfl⟩ := ws_len h1
  obtain ⟨pk, ck, rfl⟩ := ws_len h2
  obtain ⟨pl, cl, rfl⟩ := h3.len
  obtain ⟨pg2, cg2, rfl⟩ := ws_len h4
  obtain ⟨pk2, ck2, rfl⟩ := ws_len h5
  obtain ⟨pl2, cl2, rfl⟩ := h6.len
  have B0 := Lib.hid (((Below.refl w.heap.size w).alloc (Nat.le_refl _) (.cells #[.slice pg g.length cg, .slice pk k.length ck, .slice pl L.length cl] 45)).alloc (by simp) (.cells #[.slice pg2 g2.length cg2, .slice pk2 k2.length ck2, .slice pl2 L2.length cl2] 45))
  have KS := Lib.hid ((Bk.new w 45 [.slice pg g.length cg, .slice pk k.length ck, .slice pl L.length cl]).alloc (.cells #[.slice pg2 g2.length cg2, .slice pk2 k2.length ck2, .slice pl2 L2.length cl2] 45))
  have KT := Lib.hid (Bk.new' (w.alloc (.cells #[.slice pg g.length cg, .slice pk k.length ck, .slice pl L.length cl] 45)) 45 [.slice pg2 g2.length cg2, .slice pk2 k2.length ck2, .slice pl2 L2.length cl2] (g := w.heap.size + 1) (by simp))
  clear h1 h2 h3 h4 h5 h6
  have HD := Lib.hid (show sameT g k L g2 k2 L2 = (decide (g = g2) && (decide (k = k2) && codesQ L L2)) from rfl)
  go_enter Try.func38, Try.ntmps38
  go_wp2_with fail
  refine (sequal_any _ _ g g2 _ (H1.out.below B0.out) (H4.out.below B0.out) (by omega) (by omega)).mono ?_
  rintro e w1 ⟨rfl, nq, hww⟩
  have hB := bel_of_drewN hww
  have B1 := Lib.hid (B0.out.trans (hB.mono B0.out.size))
  have KS1 := Lib.hid (KS.out.below hB)
  have KT1 := Lib.hid (KT.out.below hB)
  have c1 := KS1.out.cell 1
  have c2 := KS1.out.cell 2
  have d1 := KT1.out.cell 1
  have d2 := KT1.out.cell 2
  simp only [List.getElem?_cons_succ, List.getElem?_cons_zero] at c1 c2 d1 d2
  clear hww hB
  by_cases hg : g = g2
  · have HD1 := Lib.hid (show sameT g k L g2 k2 L2 = (decide (k = k2) && codesQ L L2) by rw [HD.out, decide_eq_true hg]; rfl)
    rw [decide_eq_true hg]
    clear hg
    go_wp2_with fail
    refine (sequal_any _ _ k k2 _ (H2.out.below B1.out) (H5.out.below B1.out) (by omega) (by omega)).mono ?_
    rintro e w2 ⟨rfl, nq2, hww⟩
    have hB := bel_of_drewN hww
    have B2 := Lib.hid (B1.out.trans (hB.mono B1.out.size))
    have KS2 := Lib.hid (KS1.out.below hB)
    have KT2 := Lib.hid (KT1.out.below hB)
    clear c1 c2 d1 d2
    have c2 := KS2.out.cell 2
    have d2 := KT2.out.cell 2
    simp only [List.getElem?_cons_succ, List.getElem?_cons_zero] at c2 d2
    clear hww hB
    by_cases hk : k = k2
    · have HD2 := Lib.hid (show sameT g k L g2 k2 L2 = codesQ L L2 by rw [HD1.out, decide_eq_true hk]; rfl)
      rw [decide_eq_true hk]
      clear hk
      go_wp2_with fail
      refine (cequal_any _ _ L L2 _ (H3.out.below B2.out) (H6.out.below B2.out) m3 m6).mono ?_
      rintro e w3 ⟨rfl, hB⟩
      have B3 := Lib.hid (B2.out.trans (hB.mono B2.out.size))
      clear hB
      rw [← HD2.out]
      go_wp2_with fail
      go_ret
      exact ⟨rfl, B3.out⟩
    · have HD2 := Lib.hid (show sameT g k L g2 k2 L2 = false by rw [HD1.out, decide_eq_false hk]; rfl)
      rw [decide_eq_false hk]
      clear hk
      go_wp2_with fail
      go_ret
      exact ⟨ret_bool HD2.out.symm, B2.out⟩
  · have HD1 := Lib.hid (show sameT g k L g2 k2 L2 = false by rw [HD.out, decide_eq_false hg]; rfl)
    rw [decide_eq_false hg]
    clear hg
    go_wp2_with fail
    go_ret
    exact ⟨ret_bool HD1.out.symm, B1.out⟩

set_option maxHeartbeats 6400000 in
set_option maxRecDepth 100000 in
theorem rtsame_any (vg vk vl vg2 vk2 vl2 : Value) (g kk g2 k2 : List Nat) (L M : List CodeT) (w : World) (h1 : Ws w vg g) (h2 : Ws w vk kk) (h3 : Codes w vl L) (h4 : Ws w vg2 g2) (h5 : Ws w vk2 k2) (h6 : Codes w vl2 M)
    (m1 : g.length ≤ 1000000) (m2 : kk.length ≤ 1000000) (m3 : L.length ≤ 1000000) (m4 : g2.length ≤ 1000000) (m5 : k2.length ≤ 1000000) (m6 : M.length ≤ 1000000) :
    Calls Try.prog 39 #[.agg #[vg, vk, vl], .agg #[vg2, vk2, vl2]] w fun e w' => e = .returned (.bool (sameT g kk L g2 k2 M)) ∧ Below w.heap.size w w' := by
  have HG := Lib.hid h1
  have HK := Lib.hid h2
  have HG2 := Lib.hid h4
  have HK2 := Lib.hid h5
  obtain ⟨pg, cg, rfl⟩ := ws_len h1
  obtain ⟨pk, ck, rfl⟩ := ws_len h2
  obtain ⟨pl, cl, rfl, hc1⟩ := h3
  obtain ⟨pg2, cg2, rfl⟩ := ws_len h4
  obtain ⟨pk2, ck2, rfl⟩ := ws_len h5
  obtain ⟨pl2, cl2, rfl, hc2⟩ := h6
  have H1 := Lib.hid hc1
  have H2 := Lib.hid hc2
  have B0 := Lib.hid (((Below.refl w.heap.size w).alloc (Nat.le_refl _) (.cells #[.slice pg g.length cg, .slice pk kk.length ck, .slice pl L.length cl] 45)).alloc (by simp) (.cells #[.slice pg2 g2.length cg2, .slice pk2 k2.length ck2, .slice pl2 M.length cl2] 45))
  have KS := Lib.hid ((Bk.new w 45 [.slice pg g.length cg, .slice pk kk.length ck, .slice pl L.length cl]).alloc (.cells #[.slice pg2 g2.length cg2, .slice pk2 k2.length ck2, .slice pl2 M.length cl2] 45))
  have KT := Lib.hid (Bk.new' (w.alloc (.cells #[.slice pg g.length cg, .slice pk kk.length ck, .slice pl L.length cl] 45)) 45 [.slice pg2 g2.length cg2, .slice pk2 k2.length ck2, .slice pl2 M.length cl2] (g := w.heap.size + 1) (by simp))
  clear h1 h2 hc1 h4 h5 hc2
  obtain ⟨S, hS⟩ : ∃ S, S = sameT g kk L g2 k2 M := ⟨_, rfl⟩
  have HD := Lib.hid (show S = (decide (g = g2) && (decide (kk = k2) && codesQ L M)) from hS)
  rw [← hS]
  clear hS
  by_cases hl : L.length = M.length
  · have Hl := Lib.hid hl
    have hb : ((L.length : Int) != (M.length : Int)) = false := by simp [hl]
    have HT := Lib.hid (show (∀ j, j < L.length → codeQ (cdAt L j) (cdAt M j) = true) → codesQ L M = true from fun h => by
      unfold codesQ; rw [decide_eq_true hl, Bool.true_and, List.all_eq_true]
      exact fun j hj => h j (List.mem_range.1 hj))
    have HF := Lib.hid (show ∀ j, j < L.length → codeQ (cdAt L j) (cdAt M j) = false → S = false from fun j hj h => by
      have hq : codesQ L M = false := by
        unfold codesQ; rw [decide_eq_true hl, Bool.true_and, Bool.eq_false_iff]
        intro h2
        rw [List.all_eq_true] at h2
        have := h2 j (List.mem_range.2 hj)
        rw [h] at this; cases this
      rw [HD.out, hq, Bool.and_false, Bool.and_false])
    clear hl
    go_enter Try.func39, Try.ntmps39
    go_wp2_with fail
    go_loopw [16] (fun i wr => ∃ k : Nat, k ≤ L.length ∧ i = .int .i64 k ∧ Hid (∀ j, j < k → codeQ (cdAt L j) (cdAt M j) = true) ∧ Below w.heap.size w wr ∧ Bk wr w.heap.size 45 [.slice pg g.length cg, .slice pk kk.length ck, .slice pl L.length cl] ∧ Bk wr (w.heap.size + 1) 45 [.slice pg2 g2.length cg2, .slice pk2 k2.length ck2, .slice pl2 M.length cl2])
      (fun i _ => L.length - (intOf i).toNat)
    case atStart => exact ⟨0, Nat.zero_le _, rfl, Lib.hid (fun j h => by omega), B0.out, KS.out, KT.out⟩
    case round =>
      clear KS KT B0
      obtain ⟨k, hk, rfl, HA, hB, hks, hkt⟩ := hrel
      have HB := Lib.hid hB
      have KS := Lib.hid hks
      have KT := Lib.hid hkt
      have c2 := hks.cell 2
      have d2 := hkt.cell 2
      simp only [List.getElem?_cons_succ, List.getElem?_cons_zero] at c2 d2
      clear hB hks hkt
      by_cases hlt : k < L.length
      · have hltM : k < M.length := by have := Hl.out; omega
        obtain ⟨b1, f1, rfl, hd1⟩ := H1.out (by omega)
        obtain ⟨b2, f2, rfl, hd2⟩ := H2.out (by omega)
        have hd1 := hd1 k hlt
        have hd2 := hd2 k hltM
        have HFk := Lib.hid (HF.out k hlt)
        have HS := Lib.hid (show codeQ (cdAt L k) (cdAt M k) = true → ∀ j, j < k + 1 → codeQ (cdAt L j) (cdAt M j) = true from fun e j hj => by
          rcases (show j < k ∨ j = k from by omega) with h | rfl
          · exact HA.out j h
          · exact e)
        have hN := code_neq (cdAt L k) (cdAt M k)
        generalize cdAt L k = c at *
        generalize cdAt M k = d at *
        obtain ⟨q, hq⟩ : ∃ q, q = codeQ c d := ⟨_, rfl⟩
        rw [← hq] at hN
        have HQ := Lib.hid hq
        clear hq
        obtain ⟨v, o, av, ar, ai, bv, br, bi⟩ := c
        obtain ⟨v', o', av', ar', ai', bv', br', bi'⟩ := d
        have e0 := keepc (hd1 0 _ rfl) HB.out
        have e1 := keepc (hd1 1 _ rfl) HB.out
        have e2 := keepc (hd1 2 _ rfl) HB.out
        have e3 := keepc (hd1 3 _ rfl) HB.out
        have e4 := keepc (hd1 4 _ rfl) HB.out
        have e5 := keepc (hd1 5 _ rfl) HB.out
        have e6 := keepc (hd1 6 _ rfl) HB.out
        have e7 := keepc (hd1 7 _ rfl) HB.out
        have g0 := keepc (hd2 0 _ rfl) HB.out
        have g1 := keepc (hd2 1 _ rfl) HB.out
        have g2 := keepc (hd2 2 _ rfl) HB.out
        have g3 := keepc (hd2 3 _ rfl) HB.out
        have g4 := keepc (hd2 4 _ rfl) HB.out
        have g5 := keepc (hd2 5 _ rfl) HB.out
        have g6 := keepc (hd2 6 _ rfl) HB.out
        have g7 := keepc (hd2 7 _ rfl) HB.out
        simp only [Nat.add_zero] at e0 g0
        have hN : ∀ w, (binOp .neq 82 (.agg #[.int .i64 v, .int .i64 o, .int .i64 av, .int .i64 ar, .int .i64 ai, .int .i64 bv, .int .i64 br, .int .i64 bi]) (.agg #[.int .i64 v', .int .i64 o', .int .i64 av', .int .i64 ar', .int .i64 ai', .int .i64 bv', .int .i64 br', .int .i64 bi'])).run Try.prog w = .ok (.bool (!q)) w := hN
        have hki : (k : Int) < L.length := by omega
        have hkm : (k : Int) < M.length := by omega
        clear hd1 hd2
        cases q with
        | true =>
          have HS2 := Lib.hid (HS.out HQ.out.symm)
          go_wp2_with fail
          go_quiet (fail)
          go_wp2_with fail
          go_roundw
          case rel => exact ⟨k + 1, by omega, by go_num, HS2, bel_drewN HB.out _, KS.out.drewN _, KT.out.drewN _⟩
          case measure => simp [intOf]; omega
        | false =>
          have HV := Lib.hid (HFk.out HQ.out.symm)
          go_wp2_with fail
          go_quiet (fail)
          go_wp2_with fail
          go_ret
          exact ⟨ret_bool HV.out.symm, bel_drewN HB.out _⟩
      · obtain rfl : k = L.length := by omega
        have HD1 := Lib.hid (show S = (decide (g = g2) && decide (kk = k2)) by rw [HD.out, HT.out HA.out, Bool.and_true])
        have c0 := KS.out.cell 0
        have d0 := KT.out.cell 0
        simp only [List.getElem?_cons_zero] at c0 d0
        go_wp2_with fail
        refine (same_any _ _ g g2 _ (HG.out.below HB.out) (HG2.out.below HB.out) (by omega) (by omega)).mono ?_
        rintro e w2 ⟨rfl, nq2, hww⟩
        have hB := bel_of_drewN hww
        have B2 := Lib.hid (HB.out.trans (hB.mono HB.out.size))
        have c1 := (KS.out.below hB).cell 1
        have d1 := (KT.out.below hB).cell 1
        simp only [List.getElem?_cons_succ, List.getElem?_cons_zero] at c1 d1
        clear hww hB c0 d0 c2 d2
        by_cases hg : g = g2
        · have HD2 := Lib.hid (show S = decide (kk = k2) by rw [HD1.out, decide_eq_true hg]; rfl)
          rw [decide_eq_true hg]
          clear hg
          go_wp2_with fail
          refine (same_any _ _ kk k2 _ (HK.out.below B2.out) (HK2.out.below B2.out) (by omega) (by omega)).mono ?_
          rintro e w3 ⟨rfl, nq3, hww⟩
          have hB := bel_of_drewN hww
          have B3 := Lib.hid (B2.out.trans (hB.mono B2.out.size))
          clear hww hB
          rw [← HD2.out]
          go_wp2_with fail
          go_ret
          exact ⟨rfl, B3.out⟩
        · have HD2 := Lib.hid (show S = false by rw [HD1.out, decide_eq_false hg]; rfl)
          rw [decide_eq_false hg]
          clear hg
          go_wp2_with fail
          go_ret
          exact ⟨ret_bool HD2.out.symm, B2.out⟩
  · have hb : ((L.length : Int) != (M.length : Int)) = true := by simp; omega
    have HV := Lib.hid (show S = false by rw [HD.out, show codesQ L M = false by unfold codesQ; rw [decide_eq_false hl]; rfl, Bool.and_false, Bool.and_false])
    clear hl
    go_enter Try.func39, Try.ntmps39
    go_wp2_with fail
    go_ret
    exact ⟨ret_bool HV.out.symm, B0.out⟩

end Go.Proofs.Ytflkelnfdoihlaa
