/-
  paths.Along of a way; soughlaw20.awake; PathsBelow's walk. Written by wip/gen/mksysQ.py.
-/
import Derived.Test.YtfeipfemknnhhaaSysP
import Derived.Test.YtfeipfemknnhhaaSys9
import Derived.Test.YtfeipfemknnhhaaPk2
namespace Go.Proofs.Ytfeipfemknnhhaa
open Go.RowKit

set_option maxHeartbeats 3200000 in
set_option maxRecDepth 100000 in
theorem palong_any (s : SysT) (ve vn vi vt : Value) (vw : Value) (l : List Int) (w : World) (hL : SysL w ve vn vi vt s) (hb : SysF s) (hw : Nums w vw l) (hm : l.length ≤ 1000000) (hy : isWay s l = true) :
    Calls Try.prog 10 #[.agg #[.int .i64 s.what, .int .i64 s.width, .int .i64 s.nodes, ve, vn, vi, vt], vw] w fun e w' => ∃ u, e = .returned (.tuple #[u, .int .i64 0]) ∧ Ws w' u (alongW s l (l.length - 1)) ∧ Below w.heap.size w w' := by
  have HS := Lib.hid hL
  obtain ⟨pe, ce, rfl⟩ := hL.1.len
  obtain ⟨pn, cn, rfl⟩ := hL.2.1.len
  obtain ⟨pi, ci, rfl⟩ := ws_len hL.2.2.1
  obtain ⟨pt, ct, rfl⟩ := hL.2.2.2.len
  have KS := Lib.hid (Bk.new w 27 [.int .i64 s.what, .int .i64 s.width, .int .i64 s.nodes, .slice pe s.E.length ce, .slice pn s.N.length cn, .slice pi s.I.length ci, .slice pt s.T.length ct])
  have B0 := Lib.hid ((Below.refl w.heap.size w).alloc (Nat.le_refl _) (.cells #[.int .i64 s.what, .int .i64 s.width, .int .i64 s.nodes, .slice pe s.E.length ce, .slice pn s.N.length cn, .slice pi s.I.length ci, .slice pt s.T.length ct] 27))
  have HS0 := Lib.hid (HS.out.below B0.out)
  clear hL
  have HF := Lib.hid hb
  clear hb

  have HLS := Lib.hid (ltS_of HS.out)
  have HW := Lib.hid hw
  have HWY := Lib.hid hy
  have HC0 := Lib.hid (way_yes hy).1
  have OK := Lib.hid (okS_of HC0.out)
  have hl1 := (way_yes hy).2.1
  obtain ⟨pw, cw, rfl, hwc, hwd⟩ := hw
  obtain ⟨bw, ow, rfl, hwe⟩ := hwd hl1
  have HWD := Lib.hid (show ∀ j, j < l.length → w.cell? ⟨bw, ow + j, none⟩ = some (.int .i64 (wAtI l j)) from hwe)
  obtain ⟨n, hn⟩ : ∃ n, n + 1 = l.length := ⟨l.length - 1, by omega⟩
  have HN := Lib.hid hn
  have HE := Lib.hid (show alongW s l (l.length - 1) = alongW s l n by rw [show l.length - 1 = n by omega])
  have hsub : IntKind.i64.wrap ((l.length : Int) - 1) = (n : Int) := by rw [show (l.length : Int) - 1 = (n : Int) by omega]; exact IntWalk.i64_in _ (by omega)
  have hsub2 : wrap64 ((l.length : Int) - 1) = (n : Int) := by rw [← IntWalk.i64_left]; exact hsub
  have hncw : (n : Int) ≤ (cw : Int) := by omega
  obtain ⟨z, hz⟩ : ∃ z, z = wAtI l 0 := ⟨_, rfl⟩
  have HZ := Lib.hid hz
  have z0 : w.cell? ⟨bw, ow, none⟩ = some (.int .i64 z) := by
    have h := HWD.out 0 hl1
    rw [← hz, Nat.add_zero] at h
    exact h
  have HZC := Lib.hid (show checkV s z = 0 by
    rw [cv_ok z HC0.out, HZ.out, if_pos (nodeE_iff.2 (way_node HWY.out 0 hl1))])
  have hl2 : (0 : Int) < l.length := by omega
  have K0 := KS
  have hnM : n ≤ 1000000 := by omega
  clear hz hn hwd hwe hy
  go_enter Try.func10, Try.ntmps10
  go_wp2_with fail
  refine (scheck_any s _ _ _ _ _ HS0.out HF.out).mono ?_
  rintro e w1 ⟨rfl, hB⟩
  rw [HC0.out]
  have B1 := Lib.hid (B0.out.trans (hB.mono B0.out.size))
  have K1 := Lib.hid (K0.out.below hB)
  obtain ⟨c0, c1, c2, c3, c4, c5, c6⟩ := K1.out.seven
  clear hB

  go_wp2_with fail
  refine (pis_any s _ _ _ _ _ l _ (HS.out.below B1.out) HF.out (HW.out.below B1.out) hm).mono ?_
  rintro e w2 ⟨rfl, hB⟩
  rw [HWY.out]
  clear c0 c1 c2 c3 c4 c5 c6
  have B2 := Lib.hid (B1.out.trans (hB.mono B1.out.size))
  have K2 := Lib.hid (K1.out.below hB)
  obtain ⟨c0, c1, c2, c3, c4, c5, c6⟩ := K2.out.seven
  clear hB

  have z2 := keepc z0 B2.out
  go_wp2_with fail
  go_region_held3 (fun w' => w'.cell? ⟨w.heap.size, 0, none⟩ = some (.int .i64 s.what) ∧ w'.cell? ⟨w.heap.size, 1, none⟩ = some (.int .i64 s.width) ∧ w'.cell? ⟨w.heap.size, 2, none⟩ = some (.int .i64 s.nodes) ∧ w'.cell? ⟨w.heap.size, 3, none⟩ = some (.slice pe s.E.length ce) ∧ w'.cell? ⟨w.heap.size, 4, none⟩ = some (.slice pn s.N.length cn) ∧ w'.cell? ⟨w.heap.size, 5, none⟩ = some (.slice pi s.I.length ci) ∧ w'.cell? ⟨w.heap.size, 6, none⟩ = some (.slice pt s.T.length ct) ∧ w'.cell? ⟨bw, ow, none⟩ = some (.int .i64 z) ∧ Bk w' w.heap.size 27 [.int .i64 s.what, .int .i64 s.width, .int .i64 s.nodes, .slice pe s.E.length ce, .slice pn s.N.length cn, .slice pi s.I.length ci, .slice pt s.T.length ct] ∧ Below w.heap.size w w')
    (first
      | exact ⟨c0, c1, c2, c3, c4, c5, c6, z2, K2.out.drew, B2.out.drew⟩
      | (go_split_ands; exact ⟨keepc (by assumption) hB, keepc (by assumption) hB, keepc (by assumption) hB, keepc (by assumption) hB, keepc (by assumption) hB, keepc (by assumption) hB, keepc (by assumption) hB, keepc (by assumption) hB, Bk.below (by assumption) hB, (show Below w.heap.size w _ by assumption).trans (hB.mono (show Below w.heap.size w _ by assumption).size)⟩))
    (first
      | (go_at_call 27; go_split_ands; refine (sStart_any s _ _ _ _ z _ (HS.out.below (by assumption)) HF.out).mono ?_; rintro e v1 ⟨u, rfl, hW, hB⟩; rw [HZC.out] at hW ⊢; rw [okL_yes] at hW; have HW1 := Lib.hid hW; clear hW))
  go_split_ands
  have B3 := Lib.hid (show Below w.heap.size w _ from by assumption)
  have K3 := Lib.hid (show Bk _ w.heap.size 27 [.int .i64 s.what, .int .i64 s.width, .int .i64 s.nodes, .slice pe s.E.length ce, .slice pn s.N.length cn, .slice pi s.I.length ci, .slice pt s.T.length ct] from by assumption)
  have HW3 := Lib.hid (show Ws v1 u (alongW s l 0) by have h := HW1.out; rw [HZ.out] at h; exact h)
  clear c0 c1 c2 c3 c4 c5 c6 z0 z2
  go_wp2_with fail
  go_loopw [7, 34] (fun a i wr => ∃ k : Nat, k ≤ n ∧ i = .int .i64 k ∧ Ws wr a (alongW s l k) ∧ Below w.heap.size w wr ∧ Bk wr w.heap.size 27 [.int .i64 s.what, .int .i64 s.width, .int .i64 s.nodes, .slice pe s.E.length ce, .slice pn s.N.length cn, .slice pi s.I.length ci, .slice pt s.T.length ct])
    (fun _ i _ => n - (intOf i).toNat)
  case atStart => exact ⟨0, Nat.zero_le _, rfl, HW3.out, B3.out, K3.out⟩
  case round =>
    obtain ⟨k, hk, rfl, hWk, hB, hK⟩ := hrel
    have BW := Lib.hid hB
    have KW := Lib.hid hK
    have HWk := Lib.hid hWk
    obtain ⟨c0, c1, c2, c3, c4, c5, c6⟩ := hK.seven
    clear hB hK hWk
    by_cases hlt : k < n
    · have hki : (k : Int) < n := by omega
      have d0 := keepc (HWD.out k (by have := HN.out; omega)) BW.out
      have hvk := along_value HWY.out HLS.out k (by have := HN.out; omega)
      have HVK := Lib.hid hvk.1
      have HNX := Lib.hid (show alongW s l (k + 1) = applyT s (wAtI l k).toNat (alongW s l k) from rfl)
      have HCV := Lib.hid (show checkV s (wAtI l k) = 0 by
        rw [cv_ok _ HC0.out, if_pos (nodeE_iff.2 (way_node HWY.out k (by have := HN.out; omega)))])
      have HO := Lib.hid (out_ok HCV.out HVK.out)
      generalize wAtI l k = x at *
      clear hvk
      go_wp2_with fail
      refine (sOut_any s _ _ _ _ x _ (alongW s l k) _ (HS.out.below BW.out) HF.out HWk.out (by have := value_le HVK.out; omega)).mono ?_
      rintro e v2 ⟨u2, rfl, hW2, hB⟩
      rw [HO.out.1]
      rw [HO.out.2, ← HNX.out] at hW2
      have HW2 := Lib.hid hW2
      have B4 := Lib.hid (BW.out.trans (hB.mono BW.out.size))
      have K4 := Lib.hid (KW.out.below hB)
      clear hW2 hB
      go_wp2_with fail
      go_roundw
      case rel => exact ⟨k + 1, by omega, by go_num, HW2.out, B4.out, K4.out⟩
      case measure => simp [intOf]; omega
    · obtain rfl : k = n := by omega
      go_wp2_with fail
      go_ret2
      exact ⟨_, rfl, by rw [HE.out]; exact HWk.out, BW.out⟩

def alongB (c : Int) : Int := if c = 0 then 1 else c

set_option maxHeartbeats 3200000 in
set_option maxRecDepth 100000 in
theorem palong_bad (s : SysT) (ve vn vi vt : Value) (vw : Value) (l : List Int) (w : World) (hL : SysL w ve vn vi vt s) (hb : SysF s) (hw : Nums w vw l) (hm : l.length ≤ 1000000) (hy : isWay s l = false) :
    Calls Try.prog 10 #[.agg #[.int .i64 s.what, .int .i64 s.width, .int .i64 s.nodes, ve, vn, vi, vt], vw] w fun e w' => e = .returned (.tuple #[.slice none 0 0, .int .i64 (alongB (checkS s))]) ∧ Below w.heap.size w w' := by
  have HS := Lib.hid hL
  obtain ⟨pe, ce, rfl⟩ := hL.1.len
  obtain ⟨pn, cn, rfl⟩ := hL.2.1.len
  obtain ⟨pi, ci, rfl⟩ := ws_len hL.2.2.1
  obtain ⟨pt, ct, rfl⟩ := hL.2.2.2.len
  have KS := Lib.hid (Bk.new w 27 [.int .i64 s.what, .int .i64 s.width, .int .i64 s.nodes, .slice pe s.E.length ce, .slice pn s.N.length cn, .slice pi s.I.length ci, .slice pt s.T.length ct])
  have B0 := Lib.hid ((Below.refl w.heap.size w).alloc (Nat.le_refl _) (.cells #[.int .i64 s.what, .int .i64 s.width, .int .i64 s.nodes, .slice pe s.E.length ce, .slice pn s.N.length cn, .slice pi s.I.length ci, .slice pt s.T.length ct] 27))
  have HS0 := Lib.hid (HS.out.below B0.out)
  clear hL
  have HF := Lib.hid hb
  clear hb

  have HW := Lib.hid hw
  have HNO := Lib.hid hy
  obtain ⟨pw, cw, rfl, _, _⟩ := hw
  obtain ⟨qe, hqe⟩ : ∃ z, z = checkS s := ⟨_, rfl⟩
  have NC := Lib.hid hqe
  rw [← hqe]
  have K0 := KS
  clear hqe hy
  go_enter Try.func10, Try.ntmps10
  go_wp2_with fail
  refine (scheck_any s _ _ _ _ _ HS0.out HF.out).mono ?_
  rintro e w1 ⟨rfl, hB⟩
  rw [← NC.out]
  have B1 := Lib.hid (B0.out.trans (hB.mono B0.out.size))
  have K1 := Lib.hid (K0.out.below hB)
  obtain ⟨c0, c1, c2, c3, c4, c5, c6⟩ := K1.out.seven
  clear hB

  by_cases h0 : qe = 0
  case neg =>
    have hnb : (qe != 0) = true := by simpa using h0
    have HQ := Lib.hid (show alongB qe = qe from if_neg h0)
    clear h0
    go_wp2_with fail
    go_ret2
    exact ⟨by rw [HQ.out]; rfl, B1.out⟩
  subst h0
  go_wp2_with fail
  refine (pis_any s _ _ _ _ _ l _ (HS.out.below B1.out) HF.out (HW.out.below B1.out) hm).mono ?_
  rintro e w2 ⟨rfl, hB⟩
  rw [HNO.out]
  clear c0 c1 c2 c3 c4 c5 c6
  have B2 := Lib.hid (B1.out.trans (hB.mono B1.out.size))
  have K2 := Lib.hid (K1.out.below hB)
  obtain ⟨c0, c1, c2, c3, c4, c5, c6⟩ := K2.out.seven
  clear hB

  go_wp2_with fail
  go_ret2
  exact ⟨rfl, B2.out⟩


theorem aw_way : isWay awS [0] = true := by decide +kernel
theorem aw_along : alongW awS [0] (([0] : List Int).length - 1) = [2] := by decide +kernel
theorem aw_sys7 (w : World) : SysL (((((((w.alloc (.cells #[.int .i64 0] 3)).alloc (.cells #[.int .u64 2] 41)).alloc (.cells #[.int .u64 0] 41)).alloc (.cells #[.int .u64 0] 41)).alloc (.cells #[.slice (some ⟨w.heap.size + 1 + 1, 0, none⟩) 1 1, .slice (some ⟨w.heap.size + 1 + 1 + 1, 0, none⟩) 1 1, .slice none 0 0] 44)).alloc (.cells #[.int .i64 1, .int .i64 2, .int .i64 1, .slice none 0 0, .slice (some ⟨w.heap.size, 0, none⟩) 1 1, .slice (some ⟨w.heap.size + 1, 0, none⟩) 1 1, .slice (some ⟨w.heap.size + 1 + 1 + 1 + 1, 0, none⟩) 1 1] 27)).alloc (.cells #[.int .i64 0] 3)) (.slice none 0 0) (.slice (some ⟨w.heap.size, 0, none⟩) 1 1) (.slice (some ⟨w.heap.size + 1, 0, none⟩) 1 1) (.slice (some ⟨w.heap.size + 1 + 1 + 1 + 1, 0, none⟩) 1 1) awS ∧ Nums (((((((w.alloc (.cells #[.int .i64 0] 3)).alloc (.cells #[.int .u64 2] 41)).alloc (.cells #[.int .u64 0] 41)).alloc (.cells #[.int .u64 0] 41)).alloc (.cells #[.slice (some ⟨w.heap.size + 1 + 1, 0, none⟩) 1 1, .slice (some ⟨w.heap.size + 1 + 1 + 1, 0, none⟩) 1 1, .slice none 0 0] 44)).alloc (.cells #[.int .i64 1, .int .i64 2, .int .i64 1, .slice none 0 0, .slice (some ⟨w.heap.size, 0, none⟩) 1 1, .slice (some ⟨w.heap.size + 1, 0, none⟩) 1 1, .slice (some ⟨w.heap.size + 1 + 1 + 1 + 1, 0, none⟩) 1 1] 27)).alloc (.cells #[.int .i64 0] 3)) (.slice (some ⟨w.heap.size + 1 + 1 + 1 + 1 + 1 + 1, 0, none⟩) 1 1) [0] ∧ Below w.heap.size w (((((((w.alloc (.cells #[.int .i64 0] 3)).alloc (.cells #[.int .u64 2] 41)).alloc (.cells #[.int .u64 0] 41)).alloc (.cells #[.int .u64 0] 41)).alloc (.cells #[.slice (some ⟨w.heap.size + 1 + 1, 0, none⟩) 1 1, .slice (some ⟨w.heap.size + 1 + 1 + 1, 0, none⟩) 1 1, .slice none 0 0] 44)).alloc (.cells #[.int .i64 1, .int .i64 2, .int .i64 1, .slice none 0 0, .slice (some ⟨w.heap.size, 0, none⟩) 1 1, .slice (some ⟨w.heap.size + 1, 0, none⟩) 1 1, .slice (some ⟨w.heap.size + 1 + 1 + 1 + 1, 0, none⟩) 1 1] 27)).alloc (.cells #[.int .i64 0] 3)) := by
  have k0 : Bk (((((((w.alloc (.cells #[.int .i64 0] 3)).alloc (.cells #[.int .u64 2] 41)).alloc (.cells #[.int .u64 0] 41)).alloc (.cells #[.int .u64 0] 41)).alloc (.cells #[.slice (some ⟨w.heap.size + 1 + 1, 0, none⟩) 1 1, .slice (some ⟨w.heap.size + 1 + 1 + 1, 0, none⟩) 1 1, .slice none 0 0] 44)).alloc (.cells #[.int .i64 1, .int .i64 2, .int .i64 1, .slice none 0 0, .slice (some ⟨w.heap.size, 0, none⟩) 1 1, .slice (some ⟨w.heap.size + 1, 0, none⟩) 1 1, .slice (some ⟨w.heap.size + 1 + 1 + 1 + 1, 0, none⟩) 1 1] 27)).alloc (.cells #[.int .i64 0] 3)) (w.heap.size) 3 [.int .i64 0] := (((((((Bk.new' w 3 [.int .i64 0] (g := w.heap.size) (by simp)).alloc _).alloc _).alloc _).alloc _).alloc _).alloc _)
  have k1 : Bk (((((((w.alloc (.cells #[.int .i64 0] 3)).alloc (.cells #[.int .u64 2] 41)).alloc (.cells #[.int .u64 0] 41)).alloc (.cells #[.int .u64 0] 41)).alloc (.cells #[.slice (some ⟨w.heap.size + 1 + 1, 0, none⟩) 1 1, .slice (some ⟨w.heap.size + 1 + 1 + 1, 0, none⟩) 1 1, .slice none 0 0] 44)).alloc (.cells #[.int .i64 1, .int .i64 2, .int .i64 1, .slice none 0 0, .slice (some ⟨w.heap.size, 0, none⟩) 1 1, .slice (some ⟨w.heap.size + 1, 0, none⟩) 1 1, .slice (some ⟨w.heap.size + 1 + 1 + 1 + 1, 0, none⟩) 1 1] 27)).alloc (.cells #[.int .i64 0] 3)) (w.heap.size + 1) 41 [.int .u64 2] := ((((((Bk.new' (w.alloc (.cells #[.int .i64 0] 3)) 41 [.int .u64 2] (g := w.heap.size + 1) (by simp)).alloc _).alloc _).alloc _).alloc _).alloc _)
  have k2 : Bk (((((((w.alloc (.cells #[.int .i64 0] 3)).alloc (.cells #[.int .u64 2] 41)).alloc (.cells #[.int .u64 0] 41)).alloc (.cells #[.int .u64 0] 41)).alloc (.cells #[.slice (some ⟨w.heap.size + 1 + 1, 0, none⟩) 1 1, .slice (some ⟨w.heap.size + 1 + 1 + 1, 0, none⟩) 1 1, .slice none 0 0] 44)).alloc (.cells #[.int .i64 1, .int .i64 2, .int .i64 1, .slice none 0 0, .slice (some ⟨w.heap.size, 0, none⟩) 1 1, .slice (some ⟨w.heap.size + 1, 0, none⟩) 1 1, .slice (some ⟨w.heap.size + 1 + 1 + 1 + 1, 0, none⟩) 1 1] 27)).alloc (.cells #[.int .i64 0] 3)) (w.heap.size + 1 + 1) 41 [.int .u64 0] := (((((Bk.new' ((w.alloc (.cells #[.int .i64 0] 3)).alloc (.cells #[.int .u64 2] 41)) 41 [.int .u64 0] (g := w.heap.size + 1 + 1) (by simp)).alloc _).alloc _).alloc _).alloc _)
  have k3 : Bk (((((((w.alloc (.cells #[.int .i64 0] 3)).alloc (.cells #[.int .u64 2] 41)).alloc (.cells #[.int .u64 0] 41)).alloc (.cells #[.int .u64 0] 41)).alloc (.cells #[.slice (some ⟨w.heap.size + 1 + 1, 0, none⟩) 1 1, .slice (some ⟨w.heap.size + 1 + 1 + 1, 0, none⟩) 1 1, .slice none 0 0] 44)).alloc (.cells #[.int .i64 1, .int .i64 2, .int .i64 1, .slice none 0 0, .slice (some ⟨w.heap.size, 0, none⟩) 1 1, .slice (some ⟨w.heap.size + 1, 0, none⟩) 1 1, .slice (some ⟨w.heap.size + 1 + 1 + 1 + 1, 0, none⟩) 1 1] 27)).alloc (.cells #[.int .i64 0] 3)) (w.heap.size + 1 + 1 + 1) 41 [.int .u64 0] := ((((Bk.new' (((w.alloc (.cells #[.int .i64 0] 3)).alloc (.cells #[.int .u64 2] 41)).alloc (.cells #[.int .u64 0] 41)) 41 [.int .u64 0] (g := w.heap.size + 1 + 1 + 1) (by simp)).alloc _).alloc _).alloc _)
  have k4 : Bk (((((((w.alloc (.cells #[.int .i64 0] 3)).alloc (.cells #[.int .u64 2] 41)).alloc (.cells #[.int .u64 0] 41)).alloc (.cells #[.int .u64 0] 41)).alloc (.cells #[.slice (some ⟨w.heap.size + 1 + 1, 0, none⟩) 1 1, .slice (some ⟨w.heap.size + 1 + 1 + 1, 0, none⟩) 1 1, .slice none 0 0] 44)).alloc (.cells #[.int .i64 1, .int .i64 2, .int .i64 1, .slice none 0 0, .slice (some ⟨w.heap.size, 0, none⟩) 1 1, .slice (some ⟨w.heap.size + 1, 0, none⟩) 1 1, .slice (some ⟨w.heap.size + 1 + 1 + 1 + 1, 0, none⟩) 1 1] 27)).alloc (.cells #[.int .i64 0] 3)) (w.heap.size + 1 + 1 + 1 + 1) 44 [.slice (some ⟨w.heap.size + 1 + 1, 0, none⟩) 1 1, .slice (some ⟨w.heap.size + 1 + 1 + 1, 0, none⟩) 1 1, .slice none 0 0] := (((Bk.new' ((((w.alloc (.cells #[.int .i64 0] 3)).alloc (.cells #[.int .u64 2] 41)).alloc (.cells #[.int .u64 0] 41)).alloc (.cells #[.int .u64 0] 41)) 44 [.slice (some ⟨w.heap.size + 1 + 1, 0, none⟩) 1 1, .slice (some ⟨w.heap.size + 1 + 1 + 1, 0, none⟩) 1 1, .slice none 0 0] (g := w.heap.size + 1 + 1 + 1 + 1) (by simp)).alloc _).alloc _)
  have k5 : Bk (((((((w.alloc (.cells #[.int .i64 0] 3)).alloc (.cells #[.int .u64 2] 41)).alloc (.cells #[.int .u64 0] 41)).alloc (.cells #[.int .u64 0] 41)).alloc (.cells #[.slice (some ⟨w.heap.size + 1 + 1, 0, none⟩) 1 1, .slice (some ⟨w.heap.size + 1 + 1 + 1, 0, none⟩) 1 1, .slice none 0 0] 44)).alloc (.cells #[.int .i64 1, .int .i64 2, .int .i64 1, .slice none 0 0, .slice (some ⟨w.heap.size, 0, none⟩) 1 1, .slice (some ⟨w.heap.size + 1, 0, none⟩) 1 1, .slice (some ⟨w.heap.size + 1 + 1 + 1 + 1, 0, none⟩) 1 1] 27)).alloc (.cells #[.int .i64 0] 3)) (w.heap.size + 1 + 1 + 1 + 1 + 1) 27 [.int .i64 1, .int .i64 2, .int .i64 1, .slice none 0 0, .slice (some ⟨w.heap.size, 0, none⟩) 1 1, .slice (some ⟨w.heap.size + 1, 0, none⟩) 1 1, .slice (some ⟨w.heap.size + 1 + 1 + 1 + 1, 0, none⟩) 1 1] := ((Bk.new' (((((w.alloc (.cells #[.int .i64 0] 3)).alloc (.cells #[.int .u64 2] 41)).alloc (.cells #[.int .u64 0] 41)).alloc (.cells #[.int .u64 0] 41)).alloc (.cells #[.slice (some ⟨w.heap.size + 1 + 1, 0, none⟩) 1 1, .slice (some ⟨w.heap.size + 1 + 1 + 1, 0, none⟩) 1 1, .slice none 0 0] 44)) 27 [.int .i64 1, .int .i64 2, .int .i64 1, .slice none 0 0, .slice (some ⟨w.heap.size, 0, none⟩) 1 1, .slice (some ⟨w.heap.size + 1, 0, none⟩) 1 1, .slice (some ⟨w.heap.size + 1 + 1 + 1 + 1, 0, none⟩) 1 1] (g := w.heap.size + 1 + 1 + 1 + 1 + 1) (by simp)).alloc _)
  have k6 : Bk (((((((w.alloc (.cells #[.int .i64 0] 3)).alloc (.cells #[.int .u64 2] 41)).alloc (.cells #[.int .u64 0] 41)).alloc (.cells #[.int .u64 0] 41)).alloc (.cells #[.slice (some ⟨w.heap.size + 1 + 1, 0, none⟩) 1 1, .slice (some ⟨w.heap.size + 1 + 1 + 1, 0, none⟩) 1 1, .slice none 0 0] 44)).alloc (.cells #[.int .i64 1, .int .i64 2, .int .i64 1, .slice none 0 0, .slice (some ⟨w.heap.size, 0, none⟩) 1 1, .slice (some ⟨w.heap.size + 1, 0, none⟩) 1 1, .slice (some ⟨w.heap.size + 1 + 1 + 1 + 1, 0, none⟩) 1 1] 27)).alloc (.cells #[.int .i64 0] 3)) (w.heap.size + 1 + 1 + 1 + 1 + 1 + 1) 3 [.int .i64 0] := (Bk.new' ((((((w.alloc (.cells #[.int .i64 0] 3)).alloc (.cells #[.int .u64 2] 41)).alloc (.cells #[.int .u64 0] 41)).alloc (.cells #[.int .u64 0] 41)).alloc (.cells #[.slice (some ⟨w.heap.size + 1 + 1, 0, none⟩) 1 1, .slice (some ⟨w.heap.size + 1 + 1 + 1, 0, none⟩) 1 1, .slice none 0 0] 44)).alloc (.cells #[.int .i64 1, .int .i64 2, .int .i64 1, .slice none 0 0, .slice (some ⟨w.heap.size, 0, none⟩) 1 1, .slice (some ⟨w.heap.size + 1, 0, none⟩) 1 1, .slice (some ⟨w.heap.size + 1 + 1 + 1 + 1, 0, none⟩) 1 1] 27)) 3 [.int .i64 0] (g := w.heap.size + 1 + 1 + 1 + 1 + 1 + 1) (by simp))
  have one : ∀ (g z : Nat), z < 18446744073709551616 → Bk (((((((w.alloc (.cells #[.int .i64 0] 3)).alloc (.cells #[.int .u64 2] 41)).alloc (.cells #[.int .u64 0] 41)).alloc (.cells #[.int .u64 0] 41)).alloc (.cells #[.slice (some ⟨w.heap.size + 1 + 1, 0, none⟩) 1 1, .slice (some ⟨w.heap.size + 1 + 1 + 1, 0, none⟩) 1 1, .slice none 0 0] 44)).alloc (.cells #[.int .i64 1, .int .i64 2, .int .i64 1, .slice none 0 0, .slice (some ⟨w.heap.size, 0, none⟩) 1 1, .slice (some ⟨w.heap.size + 1, 0, none⟩) 1 1, .slice (some ⟨w.heap.size + 1 + 1 + 1 + 1, 0, none⟩) 1 1] 27)).alloc (.cells #[.int .i64 0] 3)) g 41 [.int .u64 (z : Nat)] → Ws (((((((w.alloc (.cells #[.int .i64 0] 3)).alloc (.cells #[.int .u64 2] 41)).alloc (.cells #[.int .u64 0] 41)).alloc (.cells #[.int .u64 0] 41)).alloc (.cells #[.slice (some ⟨w.heap.size + 1 + 1, 0, none⟩) 1 1, .slice (some ⟨w.heap.size + 1 + 1 + 1, 0, none⟩) 1 1, .slice none 0 0] 44)).alloc (.cells #[.int .i64 1, .int .i64 2, .int .i64 1, .slice none 0 0, .slice (some ⟨w.heap.size, 0, none⟩) 1 1, .slice (some ⟨w.heap.size + 1, 0, none⟩) 1 1, .slice (some ⟨w.heap.size + 1 + 1 + 1 + 1, 0, none⟩) 1 1] 27)).alloc (.cells #[.int .i64 0] 3)) (.slice (some ⟨g, 0, none⟩) 1 1) [z] := fun g z hz h =>
    Bk.ws (a := [z]) h rfl (by intro y hy; rw [List.mem_singleton.1 hy]; exact hz)
  refine ⟨⟨⟨none, 0, rfl, by simp [awS]⟩, ⟨_, _, rfl, fun _ => ⟨_, 0, rfl, fun j hj => ?_⟩⟩, one _ 2 (by decide) k1, ⟨_, _, rfl, fun _ => ⟨_, 0, rfl, fun j hj => ?_⟩⟩⟩, ⟨_, _, rfl, Nat.le_refl _, fun _ => ⟨_, 0, rfl, fun j hj => ?_⟩⟩, ?_⟩
  · have h0 : j = 0 := by have h : j < 1 := hj; omega
    subst h0
    exact k0.cell 0
  · have h0 : j = 0 := by have h : j < 1 := hj; omega
    subst h0
    exact ⟨_, _, _, k4.cell 0, k4.cell 1, k4.cell 2, one _ 0 (by decide) k2, one _ 0 (by decide) k3, ⟨none, 0, rfl, by simp [trAt, awS]⟩⟩
  · have h0 : j = 0 := by have h : j < 1 := hj; omega
    subst h0
    exact k6.cell 0
  · exact (((((((Below.refl w.heap.size w).alloc (Nat.le_refl _) _).alloc (by simp <;> omega) _).alloc (by simp <;> omega) _).alloc (by simp <;> omega) _).alloc (by simp <;> omega) _).alloc (by simp <;> omega) _).alloc (by simp <;> omega) _

set_option maxHeartbeats 3200000 in
set_option maxRecDepth 100000 in
theorem paw_any (w : World) :
    Calls Try.prog 7 #[] w fun e w' => e = .returned (.bool true) ∧ Below w.heap.size w w' := by
  obtain ⟨f1, f2, f3⟩ := aw_sys7 w
  have F1 := Lib.hid f1
  have F2 := Lib.hid f2
  have F3 := Lib.hid f3
  clear f1 f2 f3
  go_enter Try.func7, Try.ntmps7
  go_wp2_with fail
  refine (palong_any awS _ _ _ _ _ [0] _ F1.out awS_f F2.out (by decide) aw_way).mono ?_
  rintro e w1 ⟨u, rfl, hW, hB⟩
  rw [aw_along] at hW
  have BB := Lib.hid (F3.out.trans (hB.mono F3.out.size))
  obtain ⟨p, c2, rfl, q⟩ := ws_row hW
  obtain ⟨ad, rfl, r⟩ := q (by decide)
  have e1 : w1.cell? ad = some (.int .u64 2) := by
    have h := r 0 (by decide)
    rw [show ad.add 0 = ad by cases ad with | mk b o s => cases s <;> rfl] at h
    exact h
  clear hB q r hW
  go_wp2_with fail
  go_ret
  exact ⟨ret_bool (by first | rfl | simp), BB.out⟩

set_option maxHeartbeats 3200000 in
set_option maxRecDepth 100000 in
theorem pathsBelow_walk (s : SysT) (ve vn vi vt : Value) (vw : Value) (l : List Int) (w : World) (hL : SysL w ve vn vi vt s) (hb : SysB s) (hw : Nums w vw l) (hn : l.length ≤ 9223372036854775807) :
    Calls Try.prog 3 #[.agg #[.int .i64 s.what, .int .i64 s.width, .int .i64 s.nodes, ve, vn, vi, vt], vw] w fun e w' => e = .returned (.bool true) ∧ Below w.heap.size w w' := by
  have HS := Lib.hid hL
  obtain ⟨pe, ce, rfl⟩ := hL.1.len
  obtain ⟨pn, cn, rfl⟩ := hL.2.1.len
  obtain ⟨pi, ci, rfl⟩ := ws_len hL.2.2.1
  obtain ⟨pt, ct, rfl⟩ := hL.2.2.2.len
  have KB := Lib.hid (Bk.new w 27 [.int .i64 s.what, .int .i64 s.width, .int .i64 s.nodes, .slice pe s.E.length ce, .slice pn s.N.length cn, .slice pi s.I.length ci, .slice pt s.T.length ct])
  have BB := Lib.hid ((Below.refl w.heap.size w).alloc (Nat.le_refl _) (.cells #[.int .i64 s.what, .int .i64 s.width, .int .i64 s.nodes, .slice pe s.E.length ce, .slice pn s.N.length cn, .slice pi s.I.length ci, .slice pt s.T.length ct] 27))
  have HY := Lib.hid (HS.out.below BB.out)
  clear hL
  have HF := Lib.hid hb
  have HW := Lib.hid (hw.below BB.out)
  obtain ⟨pw, cw, rfl, hwc, hwd⟩ := hw
  have HVL := Lib.hid (ltS_of HS.out)
  have hcw := hn
  clear hb HS hwc hwd
  go_enter Try.func3, Try.ntmps3
  go_wp2_with fail
  refine (paw_any _).mono ?_
  rintro e w1 ⟨rfl, hB⟩
  have BB := Lib.hid (BB.out.trans (hB.mono BB.out.size))
  have HY := Lib.hid (HY.out.below hB)
  have HW := Lib.hid (HW.out.below hB)
  have KB := Lib.hid (KB.out.below hB)
  obtain ⟨c0, c1, c2, c3, c4, c5, c6⟩ := KB.out.seven
  clear hB
  go_wp2_with fail
  refine (rsmall_any s _ _ _ _ _ HY.out HF.out).mono ?_
  rintro e w2 ⟨⟨b, rfl, hbT⟩, hB⟩
  have BB := Lib.hid (BB.out.trans (hB.mono BB.out.size))
  have HY := Lib.hid (HY.out.below hB)
  have HW := Lib.hid (HW.out.below hB)
  have KB := Lib.hid (KB.out.below hB)
  clear c0 c1 c2 c3 c4 c5 c6
  obtain ⟨c0, c1, c2, c3, c4, c5, c6⟩ := KB.out.seven
  clear hB
  cases b with
  | false =>
    clear hbT
    go_wp2_with fail
    go_ret
    exact ⟨rfl, BB.out⟩
  | true =>
    have SM := Lib.hid (hbT rfl)
    clear hbT
    have SF := Lib.hid SM.out.f
    by_cases hl : (30 : Int) < l.length
    · go_wp2_with fail
      go_ret
      exact ⟨rfl, BB.out⟩
    have hl' : (l.length : Int) ≤ 30 := by omega
    have hlN : l.length ≤ 30 := by omega
    clear hl
    go_wp2_with fail
    refine (pis_any s _ _ _ _ _ l _ HY.out SF.out HW.out (by omega)).mono ?_
    rintro e w3 ⟨rfl, hB⟩
    have BB := Lib.hid (BB.out.trans (hB.mono BB.out.size))
    have HY := Lib.hid (HY.out.below hB)
    have HW := Lib.hid (HW.out.below hB)
    have KB := Lib.hid (KB.out.below hB)
    clear c0 c1 c2 c3 c4 c5 c6
    obtain ⟨c0, c1, c2, c3, c4, c5, c6⟩ := KB.out.seven
    clear hB
    cases hq : isWay s l with
    | false =>
      clear hq
      go_wp2_with fail
      go_ret
      exact ⟨rfl, BB.out⟩
    | true =>
      have HWY := Lib.hid hq
      have HC0 := Lib.hid (way_yes hq).1
      have OK := Lib.hid (okS_of HC0.out)
      have hl1 := (way_yes hq).2.1
      have HWS := Lib.hid (SM.out.ok OK.out)
      clear hq
      go_wp2_with fail
      refine (palong_any s _ _ _ _ _ l _ HY.out SF.out HW.out (by omega) HWY.out).mono ?_
      rintro e w4 ⟨ua, rfl, hV, hB⟩
      have BB := Lib.hid (BB.out.trans (hB.mono BB.out.size))
      have HY := Lib.hid (HY.out.below hB)
      have HW := Lib.hid (HW.out.below hB)
      have KB := Lib.hid (KB.out.below hB)
      clear c0 c1 c2 c3 c4 c5 c6
      obtain ⟨c0, c1, c2, c3, c4, c5, c6⟩ := KB.out.seven
      clear hB
      have HA := Lib.hid hV
      obtain ⟨pa, ca, rfl⟩ := ws_len hV
      clear hV
      go_wp2_with fail
      refine (lsolve_any s _ _ _ _ _ HY.out SF.out (fun _ => by have := HWS.out.2; omega)).mono ?_
      rintro e w5 (⟨h1, _, _⟩ | ⟨_, k, u, rfl, hV, hAT, hB⟩)
      · exact absurd HC0.out h1
      have BB := Lib.hid (BB.out.trans (hB.mono BB.out.size))
      have HY := Lib.hid (HY.out.below hB)
      have HW := Lib.hid (HW.out.below hB)
      have HA := Lib.hid (HA.out.below hB)
      have KB := Lib.hid (KB.out.below hB)
      clear c0 c1 c2 c3 c4 c5 c6
      obtain ⟨c0, c1, c2, c3, c4, c5, c6⟩ := KB.out.seven
      have HX := Lib.hid hV
      have HAT := Lib.hid hAT
      clear hB hAT
      obtain ⟨n, hn1⟩ : ∃ n, n + 1 = l.length := ⟨l.length - 1, by omega⟩
      have VX := Lib.hid (iter_ok OK.out HVL.out k)
      have hst : iterE s k = stepE s (iterE s k) := neP_off HAT.out.off
      have hbel := along_below HWY.out HVL.out VX.out.2 VX.out.1 hst n (by omega)
      have hav := along_value HWY.out HVL.out n (by omega)
      have hnd := way_node HWY.out n (by omega)
      have n1 := OK.out.n1
      have hxn : (wAtI l n).toNat < (iterE s k).length := by rw [values_len VX.out.1]; omega
      have hvx := values_at VX.out.1 (wAtI l n).toNat (by rw [← values_len VX.out.1]; exact hxn)
      have HFIN := Lib.hid (show (decide (checkE s.what s.width [alongW s l (l.length - 1), lsAt (iterE s k) (wAtI l n).toNat] = 0) && belowE s.what (alongW s l (l.length - 1)) (lsAt (iterE s k) (wAtI l n).toNat)) = true by
        rw [show l.length - 1 = n by omega, check_both OK.out.is hav.1 hvx, hbel]; rfl)
      have HL1 := Lib.hid (show (alongW s l (l.length - 1)).length ≤ 100000 by
        rw [show l.length - 1 = n by omega]; have := value_le hav.1; omega)
      have HL2 := Lib.hid (show (lsAt (iterE s k) (wAtI l n).toNat).length ≤ 100000 by have := value_le hvx; omega)
      obtain ⟨px, cx, rfl, hd⟩ := hV
      obtain ⟨bx, ox, rfl, he⟩ := hd (by omega)
      obtain ⟨vr, d1, hR⟩ := he (wAtI l n).toNat hxn
      have HR := Lib.hid hR
      obtain ⟨_, _, h5, _, hwd⟩ := HW.out
      simp only [Value.slice.injEq, true_and] at h5
      obtain ⟨rfl, rfl⟩ := h5
      obtain ⟨bw, ow, rfl, hwe⟩ := hwd hl1
      have d0 : w5.cell? ⟨bw, ow + n, none⟩ = some (.int .i64 (wAtI l n)) := hwe n (by omega)
      obtain ⟨ni, hni⟩ : ∃ z : Int, z = (n : Int) := ⟨_, rfl⟩
      have hn0 : 0 ≤ ni := by omega
      have hnl : ni < l.length := by omega
      have hsub : IntKind.i64.wrap ((l.length : Int) - 1) = ni := by rw [show (l.length : Int) - 1 = ni by omega]; exact IntWalk.i64_in _ (by omega)
      rw [show n = ni.toNat by omega] at d0
      have d0 : w5.cell? ⟨bw, ow + ni.toNat, none⟩ = some (.int .i64 (wAtI l n)) := by rw [d0, show ni.toNat = n by omega]
      obtain ⟨la, hla⟩ : ∃ z, z = alongW s l (l.length - 1) := ⟨_, rfl⟩
      rw [← hla] at HFIN HL1 HA ⊢
      obtain ⟨x, hx⟩ : ∃ z, z = wAtI l n := ⟨_, rfl⟩
      rw [← hx] at HFIN HL2 HR hnd hxn d0 d1
      obtain ⟨nx, hnx⟩ : ∃ z, z = (iterE s k).length := ⟨_, rfl⟩
      rw [← hnx] at hxn ⊢
      have hx0 : 0 ≤ x := hnd.1
      have hxl : x < (nx : Int) := by omega
      obtain ⟨lr, hlr⟩ : ∃ z, z = lsAt (iterE s k) x.toNat := ⟨_, rfl⟩
      rw [← hlr] at HFIN HL2 HR
      obtain ⟨pr, cr, rfl⟩ := ws_len HR.out
      clear hd he hR hbel hav hvx hst hwd hwe hn1 hni hla hx hnx hlr hnd hxn n1
      go_wp2_with fail
      go_region_held3 (fun w' => w'.cell? ⟨w.heap.size, 0, none⟩ = some (.int .i64 s.what) ∧ w'.cell? ⟨w.heap.size, 1, none⟩ = some (.int .i64 s.width) ∧ w'.cell? ⟨bw, ow + ni.toNat, none⟩ = some (.int .i64 x) ∧ w'.cell? ⟨bx, ox + x.toNat, none⟩ = some (.slice pr lr.length cr) ∧ Below w5.heap.size w5 w')
        (first
          | exact ⟨c0, c1, d0, d1, (Below.refl _ _).drew⟩
          | (go_split_ands; exact ⟨keepc (by assumption) hB, keepc (by assumption) hB, keepc (by assumption) hB, keepc (by assumption) hB, bel_then (by assumption) hB⟩))
        (first
          | (go_at_call 12; go_split_ands; refine (lbelow_any s.what s.width _ _ la lr _ (HA.out.below (by assumption)) (HR.out.below (by assumption)) HL1.out HL2.out).mono ?_; rintro e w' ⟨rfl, hB⟩; rw [HFIN.out]))
      go_split_ands
      have hB := (show Below w5.heap.size w5 _ from by assumption)
      have BB := Lib.hid (BB.out.trans (hB.mono BB.out.size))
      clear hB
      go_wp2_with fail
      go_ret
      exact ⟨rfl, BB.out⟩


end Go.Proofs.Ytfeipfemknnhhaa
