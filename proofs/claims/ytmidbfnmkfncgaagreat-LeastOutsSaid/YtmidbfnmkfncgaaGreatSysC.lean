/-
  soughref17.Values, Below, Step: contracts. Written by wip/gen/mksysC.py.
-/
import Derived.Test.YtmidbfnmkfncgaaGreatSysA
import Derived.Test.YtmidbfnmkfncgaaGreatPk3
namespace Go.Proofs.YtmidbfnmkfncgaaGreat
open Go.RowKit

set_option maxHeartbeats 3200000 in
set_option maxRecDepth 100000 in
theorem rvalues_any (s : SysT) (ve vn vi vt : Value) (va : Value) (a : List (List Nat)) (w : World) (hL : SysL w ve vn vi vt s) (ha : Vals w va a) (hn : a.length ≤ 100000) (hm : ValsB 100000 a) :
    Calls Tryz.prog 15 #[.agg #[.int .i64 s.what, .int .i64 s.width, .int .i64 s.nodes, ve, vn, vi, vt], va] w fun e w' => e = .returned (.bool (valuesE s a)) ∧ Below w.heap.size w w' := by
  have HS := Lib.hid hL
  obtain ⟨pe, ce, rfl⟩ := hL.1.len
  obtain ⟨pn, cn, rfl⟩ := hL.2.1.len
  obtain ⟨pi, ci, rfl⟩ := ws_len hL.2.2.1
  obtain ⟨pt, ct, rfl⟩ := hL.2.2.2.len
  have KS := Lib.hid (Bk.new w 27 [.int .i64 s.what, .int .i64 s.width, .int .i64 s.nodes, .slice pe s.E.length ce, .slice pn s.N.length cn, .slice pi s.I.length ci, .slice pt s.T.length ct])
  have B0 := Lib.hid ((Below.refl w.heap.size w).alloc (Nat.le_refl _) (.cells #[.int .i64 s.what, .int .i64 s.width, .int .i64 s.nodes, .slice pe s.E.length ce, .slice pn s.N.length cn, .slice pi s.I.length ci, .slice pt s.T.length ct] 27))
  have HS0 := Lib.hid (HS.out.below B0.out)
  clear hL

  have HM := Lib.hid hm
  have HA := Lib.hid (ha.below B0.out)
  obtain ⟨pa, ca, rfl⟩ := ha.len
  clear ha hm
  have HD := Lib.hid (show valuesE s a = (decide ((a.length : Int) = s.nodes) && a.all (valueE s.what s.width)) from rfl)
  obtain ⟨q, hq⟩ : ∃ q, q = valuesE s a := ⟨_, rfl⟩
  rw [← hq] at HD ⊢
  clear hq
  by_cases hl : (a.length : Int) = s.nodes
  case neg =>
    have hnb : ((a.length : Int) != s.nodes) = true := by simpa using hl
    have HV := Lib.hid (show q = false by rw [HD.out, decide_eq_false hl]; rfl)
    clear hl
    go_enter Tryz.func15, Tryz.ntmps15
    go_wp2_with fail
    go_ret
    exact ⟨ret_bool HV.out.symm, B0.out⟩
  have hnb : ((a.length : Int) != s.nodes) = false := by simpa using hl
  have HV := Lib.hid (show q = a.all (valueE s.what s.width) by rw [HD.out, decide_eq_true hl]; rfl)
  clear hl
  obtain ⟨_, _, h5, hac⟩ := HA.out
  simp only [Value.slice.injEq, true_and] at h5
  obtain ⟨rfl, rfl⟩ := h5
  have HAC := Lib.hid hac
  clear hac
  go_enter Tryz.func15, Tryz.ntmps15
  go_wp2_with fail
  clear hnb
  go_loopw [14] (fun i wr => ∃ k : Nat, k ≤ a.length ∧ i = .int .i64 k ∧ Hid (∀ i, i < k → valueE s.what s.width (lsAt a i) = true) ∧ Below (w.alloc (.cells #[.int .i64 s.what, .int .i64 s.width, .int .i64 s.nodes, .slice pe s.E.length ce, .slice pn s.N.length cn, .slice pi s.I.length ci, .slice pt s.T.length ct] 27)).heap.size (w.alloc (.cells #[.int .i64 s.what, .int .i64 s.width, .int .i64 s.nodes, .slice pe s.E.length ce, .slice pn s.N.length cn, .slice pi s.I.length ci, .slice pt s.T.length ct] 27)) wr)
    (fun i _ => a.length - (intOf i).toNat)
  case atStart => exact ⟨0, Nat.zero_le _, rfl, Lib.hid (fun i h => by omega), Below.refl _ _⟩
  case round =>
    obtain ⟨k, hk, rfl, HI, hB⟩ := hrel
    have BW := Lib.hid hB
    have KW := Lib.hid (KS.out.below hB)
    have BB := Lib.hid (B0.out.trans (hB.mono B0.out.size))
    obtain ⟨c0, c1, c2, c3, c4, c5, c6⟩ := KW.out.seven
    clear hB
    by_cases hlt : k < a.length
    · obtain ⟨b, off, rfl, hd⟩ := HAC.out (by omega)
      obtain ⟨u, d0, hW⟩ := hd k hlt
      replace d0 := keepc d0 BW.out
      have HW := Lib.hid (hW.below BW.out)
      have HX := Lib.hid (HM.out k hlt)
      obtain ⟨pu, cu, rfl⟩ := ws_len hW
      have hki : (k : Int) < a.length := by omega
      have H0k := Lib.hid (show valueE s.what s.width (lsAt a k) = false → q = false from fun h => by rw [HV.out]; exact all_not_get [] k hlt h)
      have HSk := Lib.hid (show valueE s.what s.width (lsAt a k) = true → ∀ i, i < k + 1 → valueE s.what s.width (lsAt a i) = true from fun e i hi => by
        rcases (show i < k ∨ i = k by omega) with h | rfl
        · exact HI.out i h
        · exact e)
      clear hd hW
      generalize lsAt a k = x at *
      go_wp2_with fail
      refine (rval_any s.what s.width _ x _ HW.out HX.out).mono ?_
      rintro e w2 ⟨rfl, hB⟩
      have BW2 := Lib.hid (BW.out.trans (hB.mono BW.out.size))
      have BB2 := Lib.hid (BB.out.trans (hB.mono BB.out.size))
      clear hB
      cases hs : valueE s.what s.width x with
      | true =>
        have HS2 := Lib.hid (HSk.out hs)
        clear hs
        go_wp2_with fail
        go_roundw
        case rel => exact ⟨k + 1, by omega, by go_num, HS2, BW2.out⟩
        case measure => simp [intOf]; omega
      | false =>
        have HQ := Lib.hid (H0k.out hs)
        clear hs
        go_wp2_with fail
        go_ret
        exact ⟨ret_bool HQ.out.symm, BB2.out⟩
    · obtain rfl : k = a.length := by omega
      have HQ := Lib.hid (show q = true by rw [HV.out]; exact all_of_get [] HI.out)
      go_wp2_with fail
      go_ret
      exact ⟨ret_bool HQ.out.symm, BB.out⟩

set_option maxHeartbeats 3200000 in
set_option maxRecDepth 100000 in
theorem rbelow17_any (s : SysT) (ve vn vi vt : Value) (va vb : Value) (a b : List (List Nat)) (w : World) (hL : SysL w ve vn vi vt s) (ha : Vals w va a) (hbb : Vals w vb b) (hna : a.length ≤ 100000) (hma : ValsB 100000 a) (hva : valuesE s a = true) (hvb : valuesE s b = true) :
    Calls Tryz.prog 18 #[.agg #[.int .i64 s.what, .int .i64 s.width, .int .i64 s.nodes, ve, vn, vi, vt], va, vb] w fun e w' => e = .returned (.bool (belowS s a b)) ∧ Below w.heap.size w w' := by
  have HS := Lib.hid hL
  obtain ⟨pe, ce, rfl⟩ := hL.1.len
  obtain ⟨pn, cn, rfl⟩ := hL.2.1.len
  obtain ⟨pi, ci, rfl⟩ := ws_len hL.2.2.1
  obtain ⟨pt, ct, rfl⟩ := hL.2.2.2.len
  have KS := Lib.hid (Bk.new w 27 [.int .i64 s.what, .int .i64 s.width, .int .i64 s.nodes, .slice pe s.E.length ce, .slice pn s.N.length cn, .slice pi s.I.length ci, .slice pt s.T.length ct])
  have B0 := Lib.hid ((Below.refl w.heap.size w).alloc (Nat.le_refl _) (.cells #[.int .i64 s.what, .int .i64 s.width, .int .i64 s.nodes, .slice pe s.E.length ce, .slice pn s.N.length cn, .slice pi s.I.length ci, .slice pt s.T.length ct] 27))
  have HS0 := Lib.hid (HS.out.below B0.out)
  clear hL

  have HMA := Lib.hid hma
  have HVA := Lib.hid hva
  have HVB := Lib.hid hvb
  have HA := Lib.hid (ha.below B0.out)
  have HB := Lib.hid (hbb.below B0.out)
  obtain ⟨pa, ca, rfl⟩ := ha.len
  obtain ⟨pb, cb, rfl⟩ := hbb.len
  have HLN := Lib.hid (show a.length = b.length by rw [values_len hva, values_len hvb])
  have heq : ((a.length : Int) == (b.length : Int)) = true := by rw [HLN.out]; exact beq_self_eq_true _
  clear ha hbb hma hva hvb
  obtain ⟨q, hq⟩ : ∃ q, q = belowS s a b := ⟨_, rfl⟩
  have HQ := Lib.hid hq
  rw [← hq]
  clear hq
  obtain ⟨_, _, h5, hac⟩ := HA.out
  simp only [Value.slice.injEq, true_and] at h5
  obtain ⟨rfl, rfl⟩ := h5
  obtain ⟨_, _, h5, hbc⟩ := HB.out
  simp only [Value.slice.injEq, true_and] at h5
  obtain ⟨rfl, rfl⟩ := h5
  have HAC := Lib.hid hac
  have HBC := Lib.hid hbc
  clear hac hbc
  go_enter Tryz.func18, Tryz.ntmps18
  go_wp2_with fail
  obtain ⟨w1, hw1⟩ : ∃ w1, w1 = w.alloc (.cells #[.int .i64 s.what, .int .i64 s.width, .int .i64 s.nodes, .slice pe s.E.length ce, .slice pn s.N.length cn, .slice pi s.I.length ci, .slice pt s.T.length ct] 27) := ⟨_, rfl⟩
  rw [← hw1] at KS B0 HAC HBC ⊢
  have HW1 := Lib.hid hw1
  clear hw1
  go_loopw [10] (fun i wr => ∃ k : Nat, k ≤ a.length ∧ i = .int .i64 k ∧ Hid (∀ i, i < k → belowE s.what (lsAt a i) (lsAt b i) = true) ∧ Below w1.heap.size w1 wr)
    (fun i _ => a.length - (intOf i).toNat)
  case atStart => exact ⟨0, Nat.zero_le _, rfl, Lib.hid (fun i h => by omega), Below.refl _ _⟩
  case round =>
    obtain ⟨k, hk, rfl, HI, hB⟩ := hrel
    have BW := Lib.hid hB
    have KW := Lib.hid (KS.out.below hB)
    obtain ⟨c0, c1, c2, c3, c4, c5, c6⟩ := KW.out.seven
    clear hB
    by_cases hlt : k < a.length
    · have hltb : k < b.length := by have := HLN.out; omega
      obtain ⟨ba, oa, rfl, hda⟩ := HAC.out (by omega)
      obtain ⟨bb, ob, rfl, hdb⟩ := HBC.out (by omega)
      obtain ⟨u1, d0, hW1⟩ := hda k hlt
      obtain ⟨u2, d1, hW2⟩ := hdb k hltb
      replace d0 := keepc d0 BW.out
      replace d1 := keepc d1 BW.out
      have HW1 := Lib.hid (hW1.below BW.out.drew)
      have HW2 := Lib.hid (hW2.below BW.out.drew)
      obtain ⟨p1, k1, rfl⟩ := ws_len hW1
      obtain ⟨p2, k2, rfl⟩ := ws_len hW2
      have HX1 := Lib.hid (HMA.out k hlt)
      have HXL := Lib.hid (show (lsAt a k).length = (lsAt b k).length by rw [value_len (values_at HVA.out k (by rw [← values_len HVA.out]; exact hlt)), value_len (values_at HVB.out k (by rw [← values_len HVB.out]; exact hltb))])
      have hki : (k : Int) < a.length := by omega
      have hkb : (k : Int) < b.length := by omega
      have H0k := Lib.hid (show belowE s.what (lsAt a k) (lsAt b k) = false → q = false from fun h => by
        rw [HQ.out]
        unfold belowS
        rw [Bool.and_eq_false_iff]
        right
        rw [Bool.eq_false_iff]
        intro h2
        rw [List.all_eq_true.1 h2 k (List.mem_range.2 hlt)] at h
        cases h)
      have HSk := Lib.hid (show belowE s.what (lsAt a k) (lsAt b k) = true → ∀ i, i < k + 1 → belowE s.what (lsAt a i) (lsAt b i) = true from fun e i hi => by
        rcases (show i < k ∨ i = k by omega) with h | rfl
        · exact HI.out i h
        · exact e)
      clear hda hdb hW1 hW2
      generalize lsAt a k = x at *
      generalize lsAt b k = y at *
      go_wp2_with fail
      go_region_held3 (fun w' => w'.cell? ⟨w.heap.size, 0, none⟩ = some (.int .i64 s.what) ∧ w'.cell? ⟨ba, oa + k, none⟩ = some (.slice p1 x.length k1) ∧ w'.cell? ⟨bb, ob + k, none⟩ = some (.slice p2 y.length k2) ∧ Below w1.heap.size w1 w')
        (first
          | exact ⟨c0, d0, d1, BW.out.drew⟩
          | (go_split_ands; exact ⟨keepc (by assumption) hB, keepc (by assumption) hB, keepc (by assumption) hB, (show Below w1.heap.size w1 _ by assumption).trans (hB.mono (show Below w1.heap.size w1 _ by assumption).size)⟩))
        (first
          | (go_at_call 51; refine (rlbelow_any s.what _ _ x y _ HW1.out HW2.out HX1.out HXL.out).mono ?_; rintro e w' ⟨rfl, hB⟩))
      go_split_ands
      have B5 := Lib.hid (show Below w1.heap.size w1 _ from by assumption)
      have BB := Lib.hid (B0.out.trans (B5.out.mono B0.out.size))
      cases hs : belowE s.what x y with
      | true =>
        have HS2 := Lib.hid (HSk.out hs)
        clear hs
        go_wp2_with fail
        go_roundw
        case rel => exact ⟨k + 1, by omega, by go_num, HS2, B5.out⟩
        case measure => simp [intOf]; omega
      | false =>
        have HV := Lib.hid (H0k.out hs)
        clear hs
        go_wp2_with fail
        go_ret
        exact ⟨ret_bool HV.out.symm, BB.out⟩
    · obtain rfl : k = a.length := by omega
      have BB := Lib.hid (B0.out.trans (BW.out.mono B0.out.size))
      have HV := Lib.hid (show q = true by
        rw [HQ.out]
        unfold belowS
        rw [decide_eq_true HLN.out, Bool.true_and, List.all_eq_true]
        exact fun i hi => HI.out i (List.mem_range.1 hi))
      go_wp2_with fail
      go_ret
      exact ⟨ret_bool HV.out.symm, BB.out⟩


def stK (s : SysT) (a : List (List Nat)) (k : Nat) : List (List Nat) := (List.range k).map fun v : Nat => stepK s a s.E.length (v : Int)
theorem stK_len (s : SysT) (a : List (List Nat)) (k : Nat) : (stK s a k).length = k := by simp [stK]
theorem stK_succ (s : SysT) (a : List (List Nat)) (k : Nat) : stK s a (k + 1) = stK s a k ++ [stepK s a s.E.length (k : Int)] := by unfold stK; rw [List.range_succ, List.map_append]; rfl

set_option maxHeartbeats 3200000 in
set_option maxRecDepth 100000 in
theorem rstep_any (s : SysT) (ve vn vi vt : Value) (va : Value) (a : List (List Nat)) (w : World) (hL : SysL w ve vn vi vt s) (hb : SysF s) (hok : OkS s) (ha : Vals w va a) (hna : a.length ≤ 100000) (hma : ValsB 1000 a) (hva : valuesE s a = true) (hwn : wordsN s.what s.width ≤ 1000) :
    Calls Tryz.prog 16 #[.agg #[.int .i64 s.what, .int .i64 s.width, .int .i64 s.nodes, ve, vn, vi, vt], va] w fun e w' => ∃ u, e = .returned u ∧ Vals w' u (stepE s a) ∧ Below w.heap.size w w' := by
  have HS := Lib.hid hL
  obtain ⟨pe, ce, rfl⟩ := hL.1.len
  obtain ⟨pn, cn, rfl⟩ := hL.2.1.len
  obtain ⟨pi, ci, rfl⟩ := ws_len hL.2.2.1
  obtain ⟨pt, ct, rfl⟩ := hL.2.2.2.len
  have KS := Lib.hid (Bk.new w 27 [.int .i64 s.what, .int .i64 s.width, .int .i64 s.nodes, .slice pe s.E.length ce, .slice pn s.N.length cn, .slice pi s.I.length ci, .slice pt s.T.length ct])
  have B0 := Lib.hid ((Below.refl w.heap.size w).alloc (Nat.le_refl _) (.cells #[.int .i64 s.what, .int .i64 s.width, .int .i64 s.nodes, .slice pe s.E.length ce, .slice pn s.N.length cn, .slice pi s.I.length ci, .slice pt s.T.length ct] 27))
  have HS0 := Lib.hid (HS.out.below B0.out)
  clear hL
  have HF := Lib.hid hb
  clear hb

  obtain ⟨i0, hi, hz0, hz1, hz2⟩ := info_parts lists_info
  have HMA := Lib.hid hma
  have HVA := Lib.hid hva
  have OK := Lib.hid hok
  have HLA := Lib.hid (ltA_of ha)
  have HLS := Lib.hid (ltS_of HS.out)
  have HA := Lib.hid ha
  obtain ⟨pa, ca, rfl⟩ := ha.len
  obtain ⟨n, hn⟩ : ∃ n : Nat, s.nodes = n := ⟨s.nodes.toNat, by have := hok.n1; omega⟩
  have hn2 : n ≤ 256 := by have := hok.n2; omega
  have hel : s.E.length ≤ 1024 := hok.el
  have HN := Lib.hid hn
  have HEQ := Lib.hid (show stepE s a = stK s a n by unfold stepE stK; rw [hn]; rfl)
  obtain ⟨_, _, h5, hEc⟩ := HS.out.1
  simp only [Value.slice.injEq, true_and] at h5
  obtain ⟨rfl, rfl⟩ := h5
  have HEC := Lib.hid hEc
  obtain ⟨_, _, h5, hac⟩ := HA.out
  simp only [Value.slice.injEq, true_and] at h5
  obtain ⟨rfl, rfl⟩ := h5
  have HAC := Lib.hid hac
  have hAn1 : a.length ≤ n := by have := values_len hva; omega
  have hAn2 : n ≤ a.length := by have := values_len hva; omega
  clear hn hok ha hma hva hEc hac
  go_enter Tryz.func16, Tryz.ntmps16
  go_wp2_with fail
  go_loopw [5, 6] (fun o i wr => ∃ v : Nat, v ≤ n ∧ i = .int .i64 v ∧ Rw wr (w.heap.size + 1) o (stK s a v) ∧ Below w.heap.size w wr ∧ Bk wr w.heap.size 27 [.int .i64 s.what, .int .i64 s.width, .int .i64 s.nodes, .slice pe s.E.length ce, .slice pn s.N.length cn, .slice pi s.I.length ci, .slice pt s.T.length ct])
    (fun _ i _ => n - (intOf i).toNat)
  case atStart => exact ⟨0, Nat.zero_le _, rfl, Rw.nil _ _, B0.out, KS.out⟩
  case round =>
    obtain ⟨v, hv, rfl, hr, hB, hK⟩ := hrel
    have HR := Lib.hid hr
    have BW := Lib.hid hB
    have KW := Lib.hid hK
    obtain ⟨c0, c1, c2, c3, c4, c5, c6⟩ := hK.seven
    clear hr hB hK
    by_cases hlt : v < n
    · have hlt2 : (v : Int) < s.nodes := by have := HN.out; omega
      go_wp2_with fail
      refine (rsstart_any s _ _ _ _ (v : Int) _ (HS.out.below BW.out) HF.out).mono ?_
      rintro e w3 ⟨u, rfl, hW, hB⟩
      have HR3 := Lib.hid (HR.out.below hB)
      have HW := Lib.hid (show Ws w3 u (stepK s a 0 (v : Int)) by rw [stepK_zero]; exact hW)
      have B3 := Lib.hid (BW.out.trans (hB.mono BW.out.size))
      have K3 := Lib.hid (KW.out.below hB)
      clear hW hB c0 c1 c2 c3 c4 c5 c6
      obtain ⟨c0, c1, c2, c3, c4, c5, c6⟩ := K3.out.seven
      obtain ⟨po, co, rfl⟩ := HR3.out.len
      go_wp2_with fail
      go_loopw [7, 22] (fun o i wr => ∃ (k : Nat) (p : Option Addr) (c : Nat), k ≤ s.E.length ∧ i = .int .i64 k ∧ o = .slice p (stepK s a k (v : Int)).length c ∧ Ws wr (.slice p (stepK s a k (v : Int)).length c) (stepK s a k (v : Int)) ∧ Rw wr (w.heap.size + 1) (.slice po (stK s a v).length co) (stK s a v) ∧ Below w.heap.size w wr ∧ Bk wr w.heap.size 27 [.int .i64 s.what, .int .i64 s.width, .int .i64 s.nodes, .slice pe s.E.length ce, .slice pn s.N.length cn, .slice pi s.I.length ci, .slice pt s.T.length ct])
        (fun _ i _ => s.E.length - (intOf i).toNat)
      case atStart =>
        obtain ⟨p, c, rfl⟩ := ws_len HW.out
        exact ⟨0, p, c, Nat.zero_le _, rfl, rfl, HW.out, HR3.out, B3.out, K3.out⟩
      case round =>
        clear c0 c1 c2 c3 c4 c5 c6 HR3 HW B3 K3 BW KW HR
        obtain ⟨k, p, c, hk, rfl, rfl, hw, hr, hB, hK⟩ := hrel
        have HX := Lib.hid hw
        have HR := Lib.hid hr
        have BW := Lib.hid hB
        have KW := Lib.hid hK
        obtain ⟨c0, c1, c2, c3, c4, c5, c6⟩ := hK.seven
        clear hw hr hB hK
        by_cases hke : k < s.E.length
        · obtain ⟨be, oe, rfl, hd⟩ := HEC.out (by omega)
          obtain ⟨D0, D1⟩ := hd k hke
          replace D0 := keepc D0 BW.out
          replace D1 := keepc D1 BW.out
          have hbd := OK.out.ed k hke
          have g0 : (edAt s.E k).1 = (((edAt s.E k).1.toNat : Nat) : Int) := by omega
          have g9 : (edAt s.E k).2 = (((edAt s.E k).2.toNat : Nat) : Int) := by omega
          have HED := Lib.hid (show edAt s.E k = ((((edAt s.E k).1.toNat : Nat) : Int), (((edAt s.E k).2.toNat : Nat) : Int)) from Prod.ext g0 g9)
          have hxn : (edAt s.E k).1.toNat < n := by have := HN.out; omega
          rw [g0] at D0
          rw [g9] at D1
          clear hd hbd g0 g9
          generalize (edAt s.E k).1.toNat = x at *
          generalize (edAt s.E k).2.toNat = y at *
          have HST := Lib.hid (stepK_succ s a k (v : Int) hke)
          have hki : (k : Int) < s.E.length := by omega
          have bal := (Below.refl wr.heap.size wr).alloc (Nat.le_refl _) (.cells #[.int .i64 (x : Nat), .int .i64 (y : Nat)] 68)
          have B4 := Lib.hid (BW.out.alloc BW.out.size (.cells #[.int .i64 (x : Nat), .int .i64 (y : Nat)] 68))
          have K4 := Lib.hid (KW.out.below bal)
          have HR4 := Lib.hid (HR.out.below bal)
          have HX4 := Lib.hid (HX.out.below bal)
          have KE := Lib.hid (Bk.new wr 68 [.int .i64 (x : Nat), .int .i64 (y : Nat)])
          have BAL := Lib.hid bal
          clear c0 c1 c2 c3 c4 c5 c6 bal
          by_cases hyv : y = v
          · subst hyv
            have HST2 := Lib.hid (show stepK s a (k + 1) (y : Int) = joinE s.what (stepK s a k (y : Int)) (applyT s x (lsAt a x)) by rw [HST.out, HED.out]; unfold alongE; rw [if_pos rfl, Int.toNat_natCast])
            have HSV := Lib.hid (stepK_value OK.out HLS.out HLA.out HVA.out (y : Int) k (by omega))
            have HVX := Lib.hid (values_at HVA.out x (by have := HN.out; omega))
            have HAV := Lib.hid (applyT_value OK.out HLS.out (v := x) (by have := HN.out; omega) (HLA.out x (by omega)) HVX.out)
            have HLN := Lib.hid (show (stepK s a k (y : Int)).length = (applyT s x (lsAt a x)).length by rw [value_len HSV.out.1, value_len HAV.out])
            have HLL := Lib.hid (show (stepK s a k (y : Int)).length ≤ 100000 by rw [value_len HSV.out.1]; omega)
            have HXB := Lib.hid (HMA.out x (by omega))
            obtain ⟨ba, oa, rfl, hda⟩ := HAC.out (by omega)
            obtain ⟨vx, E0, hXw⟩ := hda x (by omega)
            have e0 := keepc E0 B4.out
            have HXW := Lib.hid hXw
            obtain ⟨px, cx, rfl⟩ := ws_len hXw
            obtain ⟨c0, c1, c2, c3, c4, c5, c6⟩ := K4.out.seven
            have x0 := KE.out.cell 0
            simp only [List.getElem?_cons_zero] at x0
            have hxa : (x : Int) < a.length := by omega
            clear hda hXw E0
            go_wp2_with fail
            go_region_held3 (fun w' => w'.cell? ⟨w.heap.size, 0, none⟩ = some (.int .i64 s.what) ∧ w'.cell? ⟨w.heap.size, 1, none⟩ = some (.int .i64 s.width) ∧ w'.cell? ⟨w.heap.size, 2, none⟩ = some (.int .i64 s.nodes) ∧ w'.cell? ⟨w.heap.size, 3, none⟩ = some (.slice (some ⟨be, oe, none⟩) s.E.length ce) ∧ w'.cell? ⟨w.heap.size, 4, none⟩ = some (.slice pn s.N.length cn) ∧ w'.cell? ⟨w.heap.size, 5, none⟩ = some (.slice pi s.I.length ci) ∧ w'.cell? ⟨w.heap.size, 6, none⟩ = some (.slice pt s.T.length ct) ∧ w'.cell? ⟨wr.heap.size, 0, none⟩ = some (.int .i64 (x : Nat)) ∧ w'.cell? ⟨ba, oa + x, none⟩ = some (.slice px (lsAt a x).length cx) ∧ Below w.heap.size w w' ∧ Below wr.heap.size wr w')
              (first
                | exact ⟨c0, c1, c2, c3, c4, c5, c6, x0, e0, B4.out.drew, BAL.out.drew⟩
                | (go_split_ands; exact ⟨keepc (by assumption) hB, keepc (by assumption) hB, keepc (by assumption) hB, keepc (by assumption) hB, keepc (by assumption) hB, keepc (by assumption) hB, keepc (by assumption) hB, keepc (by assumption) hB, keepc (by assumption) hB, (show Below w.heap.size w _ by assumption).trans (hB.mono (show Below w.heap.size w _ by assumption).size), (show Below wr.heap.size wr _ by assumption).trans (hB.mono (show Below wr.heap.size wr _ by assumption).size)⟩))
              (first
                | (go_at_call 30; go_split_ands; refine (rsout_any s _ _ _ _ x _ (lsAt a x) _ (HS.out.below (by assumption)) HF.out (HXW.out.below (by assumption)) HXB.out OK.out (by have := HN.out; omega) HVX.out).mono ?_; rintro e w5 ⟨u5, rfl, hW5, hB⟩; have HW5 := Lib.hid hW5; obtain ⟨p5, c5', rfl⟩ := ws_len hW5; clear hW5)
                | (go_at_call 49; go_split_ands; refine (rljoin_any s.what _ _ (stepK s a k (y : Int)) (applyT s x (lsAt a x)) _ (HX.out.below (by assumption)) HW5.out HLL.out HLN.out).mono ?_; rintro e w6 ⟨u6, rfl, hW6, hB⟩; rw [← HST2.out] at hW6; have HW6 := Lib.hid hW6; obtain ⟨p6, c6', rfl⟩ := ws_len hW6; clear hW6))
            go_split_ands
            have B7 := Lib.hid (show Below w.heap.size w _ from by assumption)
            have BR := (show Below wr.heap.size wr _ from by assumption)
            have K7 := Lib.hid (KW.out.below BR)
            have HR7 := Lib.hid (HR.out.below BR)
            clear BR
            go_wp2_with fail
            go_roundw
            case rel => exact ⟨k + 1, _, _, by omega, by go_num, rfl, HW6.out, HR7.out, B7.out, K7.out⟩
            case measure => simp [intOf]; omega
          · have hyb : ((y : Int) == (v : Int)) = false := by simp; omega
            have HST2 := Lib.hid (show stepK s a (k + 1) (v : Int) = stepK s a k (v : Int) by rw [HST.out, HED.out]; unfold alongE; rw [if_neg (by show ¬ ((y : Int) = v); omega)])
            have x1 := KE.out.cell 1
            simp only [List.getElem?_cons_succ, List.getElem?_cons_zero] at x1
            clear hyv
            go_wp2_with fail
            go_roundw
            case rel => exact ⟨k + 1, p, c, by omega, by go_num, by rw [HST2.out], by rw [HST2.out]; exact HX4.out, HR4.out, B4.out, K4.out⟩
            case measure => simp [intOf]; omega
        · obtain rfl : k = s.E.length := by omega
          have bal := (Below.refl wr.heap.size wr).alloc (Nat.le_refl _) (.cells #[.slice p (stepK s a s.E.length (v : Int)).length c] 24)
          have HR4 := Lib.hid (HR.out.below bal)
          have HW4 := Lib.hid (HX.out.below bal)
          have B4 := Lib.hid (BW.out.trans (bal.mono BW.out.size))
          have K4 := Lib.hid (KW.out.below bal)
          have hs3 : w.heap.size + 1 ≤ wr.heap.size := KW.out.lt
          clear bal
          go_wp2_with (at_builtin; refine wpList_append_rw rfl _ _ rfl (w.heap.size + 1) _ _ rfl HR4.out ⟨wr.heap.size, 0, none⟩ 1 _ (stepK s a s.E.length (v : Int)) rfl (cell_one_new _ _ _) HW4.out (by rw [stK_len]; omega) (by simp; omega) ?_; intro g5 cap5 w5 hR5 hgrow)
          have hown := HR4.out.own
          have HR5 := Lib.hid (show Rw w5 (w.heap.size + 1) (.slice (some ⟨g5, 0, none⟩) ((stK s a v).length + 1) cap5) (stK s a (v + 1)) by
            rw [stK_succ]
            exact hR5)
          have B5 := Lib.hid (B4.out.grown hgrow (by simp; omega) (fun k hk => by have := (hown k hk).1; omega))
          have K5 := Lib.hid (K4.out.keep hgrow (by intro h; have := (hown _ h.symm).1; omega))
          clear hR5 hgrow hown
          go_wp2_with fail
          go_roundw
          case rel => exact ⟨v + 1, by omega, by go_num, HR5.out, B5.out, K5.out⟩
          case measure => simp [intOf]; omega
    · obtain rfl : v = n := by omega
      have hlt2 : ¬ ((v : Int) < s.nodes) := by have := HN.out; omega
      go_wp2_with fail
      go_ret
      exact ⟨_, rfl, by rw [HEQ.out]; exact HR.out.vals, BW.out⟩


end Go.Proofs.YtmidbfnmkfncgaaGreat
