/-
  soughref20.Along: contract; PathsAlong's walk. Written by wip/gen/mkpwB.py.
-/
import Derived.Test.YtfeipfemknnhhaaPwA
namespace Go.Proofs.Ytfeipfemknnhhaa
open Go.RowKit

theorem value_short {what width : Int} {a : List Nat} (h : valueE what width a = true) (hw : width ≤ 200) : a.length ≤ 1000 := by
  rw [value_len h]
  unfold wordsN
  split
  · split
    · omega
    · have := sizeE_le width; omega
  · omega

set_option maxHeartbeats 3200000 in
set_option maxRecDepth 100000 in
theorem r20along_any (s : SysT) (ve vn vi vt : Value) (vw : Value) (l : List Int) (w : World) (hL : SysL w ve vn vi vt s) (hb : SysF s) (hw : IntsAt w vw l) (hm : l.length ≤ 1000000) (hy : isWay s l = true) (hwid : s.width ≤ 200) :
    Calls Try.prog 16 #[.agg #[.int .i64 s.what, .int .i64 s.width, .int .i64 s.nodes, ve, vn, vi, vt], vw] w fun e w' => ∃ u, e = .returned u ∧ Ws w' u (alongW s l (l.length - 1)) ∧ Below w.heap.size w w' := by
  have HS := Lib.hid hL
  obtain ⟨pe, ce, rfl⟩ := hL.1.len
  obtain ⟨pn, cn, rfl⟩ := hL.2.1.len
  obtain ⟨pi, ci, rfl⟩ := ws_len hL.2.2.1
  obtain ⟨pt, ct, rfl⟩ := hL.2.2.2.len
  have KS := Lib.hid (Bk.new w 27 [.int .i64 s.what, .int .i64 s.width, .int .i64 s.nodes, .slice pe s.E.length ce, .slice pn s.N.length cn, .slice pi s.I.length ci, .slice pt s.T.length ct])
  have B0 := Lib.hid ((Below.refl w.heap.size w).alloc (Nat.le_refl _) (.cells #[.int .i64 s.what, .int .i64 s.width, .int .i64 s.nodes, .slice pe s.E.length ce, .slice pn s.N.length cn, .slice pi s.I.length ci, .slice pt s.T.length ct] 27))
  have HS0 := Lib.hid (HS.out.below B0.out)
  clear hL
  have HF := Lib.hid hb
  clear hb

  have HLS := Lib.hid (ltS_of HS.out)
  have HWY := Lib.hid hy
  have HC0 := Lib.hid (way_yes hy).1
  have OK := Lib.hid (okS_of HC0.out)
  have hl1 := (way_yes hy).2.1
  obtain ⟨pw, cw, rfl, hwd⟩ := hw
  obtain ⟨bw, ow, rfl, hwe⟩ := hwd hl1
  have HWD := Lib.hid (show ∀ j, j < l.length → w.cell? ⟨bw, ow + j, none⟩ = some (.int .i64 (wAtI l j)) from hwe)
  obtain ⟨n, hn⟩ : ∃ n, n + 1 = l.length := ⟨l.length - 1, by omega⟩
  have HN := Lib.hid hn
  have HE := Lib.hid (show alongW s l (l.length - 1) = alongW s l n by rw [show l.length - 1 = n by omega])
  obtain ⟨z, hz⟩ : ∃ z, z = wAtI l 0 := ⟨_, rfl⟩
  have HZ := Lib.hid hz
  have z2 := keepc (show w.cell? ⟨bw, ow, none⟩ = some (.int .i64 z) by
    have h := HWD.out 0 hl1
    rw [← hz, Nat.add_zero] at h
    exact h) B0.out
  have hl2 : (0 : Int) < l.length := by omega
  have K0 := KS
  have hnM : n ≤ 1000000 := by omega
  clear hz hn hwd hwe hy
  obtain ⟨c0, c1, c2, c3, c4, c5, c6⟩ := K0.out.seven
  go_enter Try.func16, Try.ntmps16
  go_wp2_with fail
  go_region_held3 (fun w' => w'.cell? ⟨w.heap.size, 0, none⟩ = some (.int .i64 s.what) ∧ w'.cell? ⟨w.heap.size, 1, none⟩ = some (.int .i64 s.width) ∧ w'.cell? ⟨w.heap.size, 2, none⟩ = some (.int .i64 s.nodes) ∧ w'.cell? ⟨w.heap.size, 3, none⟩ = some (.slice pe s.E.length ce) ∧ w'.cell? ⟨w.heap.size, 4, none⟩ = some (.slice pn s.N.length cn) ∧ w'.cell? ⟨w.heap.size, 5, none⟩ = some (.slice pi s.I.length ci) ∧ w'.cell? ⟨w.heap.size, 6, none⟩ = some (.slice pt s.T.length ct) ∧ w'.cell? ⟨bw, ow, none⟩ = some (.int .i64 z) ∧ Bk w' w.heap.size 27 [.int .i64 s.what, .int .i64 s.width, .int .i64 s.nodes, .slice pe s.E.length ce, .slice pn s.N.length cn, .slice pi s.I.length ci, .slice pt s.T.length ct] ∧ Below w.heap.size w w')
    (first
      | exact ⟨c0, c1, c2, c3, c4, c5, c6, z2, K0.out.drew, B0.out.drew⟩
      | (go_split_ands; exact ⟨keepc (by assumption) hB, keepc (by assumption) hB, keepc (by assumption) hB, keepc (by assumption) hB, keepc (by assumption) hB, keepc (by assumption) hB, keepc (by assumption) hB, keepc (by assumption) hB, Bk.below (by assumption) hB, (show Below w.heap.size w _ by assumption).trans (hB.mono (show Below w.heap.size w _ by assumption).size)⟩))
    (first
      | (go_at_call 40; go_split_ands; refine (rsstart_any s _ _ _ _ z _ (HS.out.below (by assumption)) HF.out).mono ?_; rintro e v1 ⟨u, rfl, hW, hB⟩; have HW1 := Lib.hid hW; clear hW))
  go_split_ands
  have B3 := Lib.hid (show Below w.heap.size w _ from by assumption)
  have K3 := Lib.hid (show Bk _ w.heap.size 27 [.int .i64 s.what, .int .i64 s.width, .int .i64 s.nodes, .slice pe s.E.length ce, .slice pn s.N.length cn, .slice pi s.I.length ci, .slice pt s.T.length ct] from by assumption)
  have HW3 := Lib.hid (show Ws v1 u (alongW s l 0) by have h := HW1.out; rw [HZ.out] at h; exact h)
  clear c0 c1 c2 c3 c4 c5 c6 z2
  go_wp2_with fail
  go_loopw [5, 6] (fun a i wr => ∃ k : Nat, k ≤ n ∧ i = .int .i64 k ∧ Ws wr a (alongW s l k) ∧ Below w.heap.size w wr ∧ Bk wr w.heap.size 27 [.int .i64 s.what, .int .i64 s.width, .int .i64 s.nodes, .slice pe s.E.length ce, .slice pn s.N.length cn, .slice pi s.I.length ci, .slice pt s.T.length ct])
    (fun _ i _ => n - (intOf i).toNat)
  case atStart => exact ⟨0, Nat.zero_le _, rfl, HW3.out, B3.out, K3.out⟩
  case round =>
    obtain ⟨k, hk, rfl, hWk, hB, hK⟩ := hrel
    have BW := Lib.hid hB
    have KW := Lib.hid hK
    have HWk := Lib.hid (hWk.below (Below.refl _ _).drew)
    have HWk0 := Lib.hid hWk
    obtain ⟨c0, c1, c2, c3, c4, c5, c6⟩ := hK.seven
    clear hB hK hWk
    by_cases hlt : k < n
    · have hki : (k : Int) + 1 < l.length := by have := HN.out; omega
      have hkl : (k : Int) < l.length := by omega
      have hvk := along_value HWY.out HLS.out k (by have := HN.out; omega)
      have HVK := Lib.hid hvk.1
      have HNX := Lib.hid (show alongW s l (k + 1) = applyT s (wAtI l k).toNat (alongW s l k) from rfl)
      have hnd := way_node HWY.out k (by have := HN.out; omega)
      have d0 := keepc (HWD.out k (by have := HN.out; omega)) BW.out
      generalize wAtI l k = xi at *
      obtain ⟨x, rfl⟩ := Int.eq_ofNat_of_zero_le hnd.1
      have hxn : x < s.nodes.toNat := by have := hnd.2; omega
      rw [Int.toNat_natCast] at HNX
      clear hvk hnd
      go_wp2_with fail
      go_region_held3 (fun w' => w'.cell? ⟨w.heap.size, 0, none⟩ = some (.int .i64 s.what) ∧ w'.cell? ⟨w.heap.size, 1, none⟩ = some (.int .i64 s.width) ∧ w'.cell? ⟨w.heap.size, 2, none⟩ = some (.int .i64 s.nodes) ∧ w'.cell? ⟨w.heap.size, 3, none⟩ = some (.slice pe s.E.length ce) ∧ w'.cell? ⟨w.heap.size, 4, none⟩ = some (.slice pn s.N.length cn) ∧ w'.cell? ⟨w.heap.size, 5, none⟩ = some (.slice pi s.I.length ci) ∧ w'.cell? ⟨w.heap.size, 6, none⟩ = some (.slice pt s.T.length ct) ∧ w'.cell? ⟨bw, ow + k, none⟩ = some (.int .i64 (x : Nat)) ∧ Bk w' w.heap.size 27 [.int .i64 s.what, .int .i64 s.width, .int .i64 s.nodes, .slice pe s.E.length ce, .slice pn s.N.length cn, .slice pi s.I.length ci, .slice pt s.T.length ct] ∧ Below w.heap.size w w')
        (first
          | exact ⟨c0, c1, c2, c3, c4, c5, c6, d0, KW.out.drew, BW.out.drew⟩
          | (go_split_ands; exact ⟨keepc (by assumption) hB, keepc (by assumption) hB, keepc (by assumption) hB, keepc (by assumption) hB, keepc (by assumption) hB, keepc (by assumption) hB, keepc (by assumption) hB, keepc (by assumption) hB, Bk.below (by assumption) hB, (show Below w.heap.size w _ by assumption).trans (hB.mono (show Below w.heap.size w _ by assumption).size)⟩))
        (first
          | (go_at_call 41; go_split_ands; refine (rsout_any s _ _ _ _ x _ (alongW s l k) _ (HS.out.below (by assumption)) HF.out HWk.out (value_short HVK.out hwid) OK.out hxn HVK.out).mono ?_; rintro e v2 ⟨u2, rfl, hW2, hB⟩; rw [← HNX.out] at hW2; have HW2 := Lib.hid hW2; clear hW2))
      go_split_ands
      have B4 := Lib.hid (show Below w.heap.size w _ from by assumption)
      have K4 := Lib.hid (show Bk _ w.heap.size 27 [.int .i64 s.what, .int .i64 s.width, .int .i64 s.nodes, .slice pe s.E.length ce, .slice pn s.N.length cn, .slice pi s.I.length ci, .slice pt s.T.length ct] from by assumption)
      go_wp2_with fail
      go_roundw
      case rel => exact ⟨k + 1, by omega, by go_num, HW2.out, B4.out, K4.out⟩
      case measure => simp [intOf]; omega
    · obtain rfl : k = n := by omega
      have hki : (l.length : Int) ≤ (k : Int) + 1 := by have := HN.out; omega
      go_wp2_with fail
      go_ret
      exact ⟨_, rfl, by rw [HE.out]; exact HWk0.out, BW.out⟩

set_option maxHeartbeats 3200000 in
set_option maxRecDepth 100000 in
theorem pathsAlong_walk (s : SysT) (ve vn vi vt : Value) (vw : Value) (l : List Int) (w : World) (hL : SysL w ve vn vi vt s) (hb : SysB s) (hw : Nums w vw l) (hn : l.length ≤ 9223372036854775807) :
    Calls Try.prog 4 #[.agg #[.int .i64 s.what, .int .i64 s.width, .int .i64 s.nodes, ve, vn, vi, vt], vw] w fun e w' => e = .returned (.bool true) ∧ Below w.heap.size w w' := by
  have HS := Lib.hid hL
  obtain ⟨pe, ce, rfl⟩ := hL.1.len
  obtain ⟨pn, cn, rfl⟩ := hL.2.1.len
  obtain ⟨pi, ci, rfl⟩ := ws_len hL.2.2.1
  obtain ⟨pt, ct, rfl⟩ := hL.2.2.2.len
  have KB := Lib.hid (Bk.new w 27 [.int .i64 s.what, .int .i64 s.width, .int .i64 s.nodes, .slice pe s.E.length ce, .slice pn s.N.length cn, .slice pi s.I.length ci, .slice pt s.T.length ct])
  have BB := Lib.hid ((Below.refl w.heap.size w).alloc (Nat.le_refl _) (.cells #[.int .i64 s.what, .int .i64 s.width, .int .i64 s.nodes, .slice pe s.E.length ce, .slice pn s.N.length cn, .slice pi s.I.length ci, .slice pt s.T.length ct] 27))
  have HY := Lib.hid (HS.out.below BB.out)
  clear hL
  have HF := Lib.hid hb
  have HW := Lib.hid (hw.below BB.out)
  obtain ⟨pw, cw, rfl, hwc, hwd⟩ := hw
  have hcw := hn
  have HVL := Lib.hid (ltS_of HS.out)
  clear hb HS hwc hwd
  go_enter Try.func4, Try.ntmps4
  go_wp2_with fail
  refine (paw_any _).mono ?_
  rintro e w1 ⟨rfl, hB⟩
  have BB := Lib.hid (BB.out.trans (hB.mono BB.out.size))
  have HY := Lib.hid (HY.out.below hB)
  have HW := Lib.hid (HW.out.below hB)
  have KB := Lib.hid (KB.out.below hB)
  obtain ⟨c0, c1, c2, c3, c4, c5, c6⟩ := KB.out.seven
  clear hB
  go_wp2_with fail
  refine (rsmall_any s _ _ _ _ _ HY.out HF.out).mono ?_
  rintro e w2 ⟨⟨b, rfl, hbT⟩, hB⟩
  have BB := Lib.hid (BB.out.trans (hB.mono BB.out.size))
  have HY := Lib.hid (HY.out.below hB)
  have HW := Lib.hid (HW.out.below hB)
  have KB := Lib.hid (KB.out.below hB)
  clear c0 c1 c2 c3 c4 c5 c6
  obtain ⟨c0, c1, c2, c3, c4, c5, c6⟩ := KB.out.seven
  clear hB
  cases b with
  | false =>
    clear hbT
    go_wp2_with fail
    go_ret
    exact ⟨rfl, BB.out⟩
  | true =>
    have SM := Lib.hid (hbT rfl)
    clear hbT
    have SF := Lib.hid SM.out.f
    by_cases hl : (30 : Int) < l.length
    · go_wp2_with fail
      go_ret
      exact ⟨rfl, BB.out⟩
    have hl' : (l.length : Int) ≤ 30 := by omega
    have hlN : l.length ≤ 30 := by omega
    clear hl
    cases hq : isWay s l with
    | true =>
      have HWY := Lib.hid hq
      have HC0 := Lib.hid (way_yes hq).1
      clear hq
      go_wp2_with fail
      refine (palong_any s _ _ _ _ _ l _ HY.out SF.out HW.out (by omega) HWY.out).mono ?_
      rintro e w3 ⟨ua, rfl, hV, hB⟩
      have BB := Lib.hid (BB.out.trans (hB.mono BB.out.size))
      have HY := Lib.hid (HY.out.below hB)
      have HW := Lib.hid (HW.out.below hB)
      have KB := Lib.hid (KB.out.below hB)
      clear c0 c1 c2 c3 c4 c5 c6
      obtain ⟨c0, c1, c2, c3, c4, c5, c6⟩ := KB.out.seven
      clear hB
      have HA := Lib.hid hV
      obtain ⟨pa, ca, rfl⟩ := ws_len hV
      clear hV
      go_wp2_with fail
      refine (rscheck_any s _ _ _ _ _ HY.out SF.out).mono ?_
      rintro e w4 ⟨rfl, hB⟩
      have BB := Lib.hid (BB.out.trans (hB.mono BB.out.size))
      have HY := Lib.hid (HY.out.below hB)
      have HW := Lib.hid (HW.out.below hB)
      have HA := Lib.hid (HA.out.below hB)
      have KB := Lib.hid (KB.out.below hB)
      clear c0 c1 c2 c3 c4 c5 c6
      obtain ⟨c0, c1, c2, c3, c4, c5, c6⟩ := KB.out.seven
      clear hB
      rw [HC0.out]
      go_wp2_with fail
      refine (r20is_any s _ _ _ _ _ l _ HY.out SF.out (nums_at HW.out) (by omega) HC0.out).mono ?_
      rintro e w5 ⟨rfl, hB⟩
      have BB := Lib.hid (BB.out.trans (hB.mono BB.out.size))
      have HY := Lib.hid (HY.out.below hB)
      have HW := Lib.hid (HW.out.below hB)
      have HA := Lib.hid (HA.out.below hB)
      have KB := Lib.hid (KB.out.below hB)
      clear c0 c1 c2 c3 c4 c5 c6
      obtain ⟨c0, c1, c2, c3, c4, c5, c6⟩ := KB.out.seven
      clear hB
      rw [HWY.out]
      go_wp2_with fail
      refine (pis_any s _ _ _ _ _ l _ HY.out SF.out HW.out (by omega)).mono ?_
      rintro e w6 ⟨rfl, hB⟩
      have BB := Lib.hid (BB.out.trans (hB.mono BB.out.size))
      have HY := Lib.hid (HY.out.below hB)
      have HW := Lib.hid (HW.out.below hB)
      have HA := Lib.hid (HA.out.below hB)
      have KB := Lib.hid (KB.out.below hB)
      clear c0 c1 c2 c3 c4 c5 c6
      obtain ⟨c0, c1, c2, c3, c4, c5, c6⟩ := KB.out.seven
      clear hB
      rw [HWY.out]
      go_wp2_with fail
      refine (r20along_any s _ _ _ _ _ l _ HY.out SF.out (nums_at HW.out) (by omega) HWY.out (by have := (SM.out.ok (okS_of HC0.out)).2; omega)).mono ?_
      rintro e w7 ⟨ub, rfl, hV, hB⟩
      have BB := Lib.hid (BB.out.trans (hB.mono BB.out.size))
      have HY := Lib.hid (HY.out.below hB)
      have HW := Lib.hid (HW.out.below hB)
      have HA := Lib.hid (HA.out.below hB)
      have KB := Lib.hid (KB.out.below hB)
      clear c0 c1 c2 c3 c4 c5 c6
      obtain ⟨c0, c1, c2, c3, c4, c5, c6⟩ := KB.out.seven
      clear hB
      have HB2 := Lib.hid hV
      obtain ⟨pb, cb, rfl⟩ := ws_len hV
      clear hV
      have hl1 := (way_yes HWY.out).2.1
      have HVA := Lib.hid (show (alongW s l (l.length - 1)).length ≤ 100000 by have := value_le (along_value HWY.out HVL.out (l.length - 1) (by omega)).1; omega)
      clear hl1
      go_wp2_with fail
      refine (words_same _ _ _ _ _ HA.out HB2.out HVA.out rfl).mono ?_
      rintro e w8 ⟨rfl, nq, rfl⟩
      go_wp2_with fail
      go_ret
      exact ⟨rfl, bel_drewN BB.out _⟩
    | false =>
      have HNO := Lib.hid hq
      clear hq
      obtain ⟨qe, hqe⟩ : ∃ z, z = checkS s := ⟨_, rfl⟩
      have NC := Lib.hid hqe
      clear hqe
      by_cases h0 : qe = 0
      case neg =>
        have hnb : (qe != 0) = true := by simpa using h0
        have HQ := Lib.hid (show alongB qe = qe from if_neg h0)
        clear h0
        go_wp2_with fail
        refine (palong_bad s _ _ _ _ _ l _ HY.out SF.out HW.out (by omega) HNO.out).mono ?_
        rintro e w3 ⟨rfl, hB⟩
        have BB := Lib.hid (BB.out.trans (hB.mono BB.out.size))
        have HY := Lib.hid (HY.out.below hB)
        have HW := Lib.hid (HW.out.below hB)
        have KB := Lib.hid (KB.out.below hB)
        clear c0 c1 c2 c3 c4 c5 c6
        obtain ⟨c0, c1, c2, c3, c4, c5, c6⟩ := KB.out.seven
        clear hB
        rw [← NC.out, HQ.out]
        go_wp2_with fail
        refine (rscheck_any s _ _ _ _ _ HY.out SF.out).mono ?_
        rintro e w4 ⟨rfl, hB⟩
        have BB := Lib.hid (BB.out.trans (hB.mono BB.out.size))
        have HY := Lib.hid (HY.out.below hB)
        have HW := Lib.hid (HW.out.below hB)
        have KB := Lib.hid (KB.out.below hB)
        clear c0 c1 c2 c3 c4 c5 c6
        obtain ⟨c0, c1, c2, c3, c4, c5, c6⟩ := KB.out.seven
        clear hB
        rw [← NC.out]
        go_wp2_with fail
        refine (pis_any s _ _ _ _ _ l _ HY.out SF.out HW.out (by omega)).mono ?_
        rintro e w5 ⟨rfl, hB⟩
        have BB := Lib.hid (BB.out.trans (hB.mono BB.out.size))
        have HY := Lib.hid (HY.out.below hB)
        have HW := Lib.hid (HW.out.below hB)
        have KB := Lib.hid (KB.out.below hB)
        clear c0 c1 c2 c3 c4 c5 c6
        obtain ⟨c0, c1, c2, c3, c4, c5, c6⟩ := KB.out.seven
        clear hB
        rw [HNO.out]
        go_wp2_with fail
        go_ret
        exact ⟨rfl, BB.out⟩
      subst h0
      go_wp2_with fail
      refine (palong_bad s _ _ _ _ _ l _ HY.out SF.out HW.out (by omega) HNO.out).mono ?_
      rintro e w3 ⟨rfl, hB⟩
      have BB := Lib.hid (BB.out.trans (hB.mono BB.out.size))
      have HY := Lib.hid (HY.out.below hB)
      have HW := Lib.hid (HW.out.below hB)
      have KB := Lib.hid (KB.out.below hB)
      clear c0 c1 c2 c3 c4 c5 c6
      obtain ⟨c0, c1, c2, c3, c4, c5, c6⟩ := KB.out.seven
      clear hB
      rw [← NC.out, show alongB 0 = 1 from rfl]
      go_wp2_with fail
      refine (rscheck_any s _ _ _ _ _ HY.out SF.out).mono ?_
      rintro e w4 ⟨rfl, hB⟩
      have BB := Lib.hid (BB.out.trans (hB.mono BB.out.size))
      have HY := Lib.hid (HY.out.below hB)
      have HW := Lib.hid (HW.out.below hB)
      have KB := Lib.hid (KB.out.below hB)
      clear c0 c1 c2 c3 c4 c5 c6
      obtain ⟨c0, c1, c2, c3, c4, c5, c6⟩ := KB.out.seven
      clear hB
      rw [← NC.out]
      go_wp2_with fail
      refine (r20is_any s _ _ _ _ _ l _ HY.out SF.out (nums_at HW.out) (by omega) NC.out.symm).mono ?_
      rintro e w5 ⟨rfl, hB⟩
      have BB := Lib.hid (BB.out.trans (hB.mono BB.out.size))
      have HY := Lib.hid (HY.out.below hB)
      have HW := Lib.hid (HW.out.below hB)
      have KB := Lib.hid (KB.out.below hB)
      clear c0 c1 c2 c3 c4 c5 c6
      obtain ⟨c0, c1, c2, c3, c4, c5, c6⟩ := KB.out.seven
      clear hB
      rw [HNO.out]
      go_wp2_with fail
      refine (pis_any s _ _ _ _ _ l _ HY.out SF.out HW.out (by omega)).mono ?_
      rintro e w6 ⟨rfl, hB⟩
      have BB := Lib.hid (BB.out.trans (hB.mono BB.out.size))
      have HY := Lib.hid (HY.out.below hB)
      have HW := Lib.hid (HW.out.below hB)
      have KB := Lib.hid (KB.out.below hB)
      clear c0 c1 c2 c3 c4 c5 c6
      obtain ⟨c0, c1, c2, c3, c4, c5, c6⟩ := KB.out.seven
      clear hB
      rw [HNO.out]
      go_wp2_with fail
      go_ret
      exact ⟨rfl, BB.out⟩


end Go.Proofs.Ytfeipfemknnhhaa
