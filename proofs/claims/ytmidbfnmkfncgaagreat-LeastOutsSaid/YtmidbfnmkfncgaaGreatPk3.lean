/-
  Contracts and lemmas, many texts in one.
-/
import Derived.BigQuiet
import Derived.Deep.QuietTactic
import Derived.Test.YtmidbfnmkfncgaaGreatPk2

namespace Go.Proofs.YtmidbfnmkfncgaaGreat
open Go.RowKit

def botK (s : SysT) (k : Nat) : List (List Nat) := List.replicate k (bottomE s.what s.width)
theorem botK_len (s : SysT) (k : Nat) : (botK s k).length = k := by simp [botK]
theorem botK_succ (s : SysT) (k : Nat) : botK s (k + 1) = botK s k ++ [bottomE s.what s.width] := by unfold botK; rw [List.replicate_succ']
theorem ws_take {w : World} {p : Option Addr} {n c : Nat} {a : List Nat} (h : Ws w (.slice p n c) a) (h0 : 0 < a.length) : ∃ ad, p = some ad ∧ ∀ j u, (u64s a)[j]? = some u → w.cell? (ad.add j) = some u := by
  obtain ⟨p', c', e, q⟩ := ws_row h
  simp only [Value.slice.injEq] at e
  obtain ⟨rfl, _, rfl⟩ := e
  obtain ⟨ad, rfl, hc⟩ := q h0
  refine ⟨ad, rfl, fun j u hj => ?_⟩
  have hlt : j < a.length := by
    rcases Nat.lt_or_ge j a.length with h | h
    · exact h
    · rw [List.getElem?_eq_none (by simpa [u64s] using h)] at hj; cases hj
  rw [u64s_at a j hlt] at hj
  injection hj with hj
  subst hj
  exact hc j hlt

set_option maxHeartbeats 3200000 in
set_option maxRecDepth 100000 in
theorem rsstart_any (s : SysT) (ve vn vi vt : Value) (v : Int) (w : World) (hL : SysL w ve vn vi vt s) (hb : SysF s) :
    Calls Tryz.prog 48 #[.agg #[.int .i64 s.what, .int .i64 s.width, .int .i64 s.nodes, ve, vn, vi, vt], .int .i64 v] w fun e w' => ∃ u, e = .returned u ∧ Ws w' u (startE s v) ∧ Below w.heap.size w w' := by
  have HS := Lib.hid hL
  obtain ⟨pe, ce, rfl⟩ := hL.1.len
  obtain ⟨pn, cn, rfl⟩ := hL.2.1.len
  obtain ⟨pi, ci, rfl⟩ := ws_len hL.2.2.1
  obtain ⟨pt, ct, rfl⟩ := hL.2.2.2.len
  have KS := Lib.hid (Bk.new w 27 [.int .i64 s.what, .int .i64 s.width, .int .i64 s.nodes, .slice pe s.E.length ce, .slice pn s.N.length cn, .slice pi s.I.length ci, .slice pt s.T.length ct])
  have B0 := Lib.hid ((Below.refl w.heap.size w).alloc (Nat.le_refl _) (.cells #[.int .i64 s.what, .int .i64 s.width, .int .i64 s.nodes, .slice pe s.E.length ce, .slice pn s.N.length cn, .slice pi s.I.length ci, .slice pt s.T.length ct] 27))
  have HS0 := Lib.hid (HS.out.below B0.out)
  clear hL
  have HF := Lib.hid hb
  clear hb

  obtain ⟨i0, hi, hz0, hz1, hz2⟩ := info_parts u64_info
  have HD := Lib.hid (show startE s v = if inE s.N v = true then s.I else bottomE s.what s.width from rfl)
  obtain ⟨q, hq⟩ : ∃ q, q = startE s v := ⟨_, rfl⟩
  rw [← hq] at HD ⊢
  clear hq
  have HZ := Lib.hid HS.out.2.2.1.1
  have hli : s.I.length ≤ 1000 := HF.out.il
  by_cases hpos : 0 < s.I.length
  · have HU := Lib.hid (own_bare64 (w.alloc (.cells #[.int .i64 s.what, .int .i64 s.width, .int .i64 s.nodes, .slice pe s.E.length ce, .slice pn s.N.length cn, .slice pi s.I.length ci, .slice pt s.T.length ct] 27)) w.heap.size (by simp))
    simp only [World.size_alloc] at HU
    have BA := Lib.hid (B0.out.alloc (by simp) (.cells #[] 45))
    have HIX := Lib.hid (HS0.out.2.2.1.below ((Below.refl _ _).alloc (Nat.le_refl _) (.cells #[] 45)))
    obtain ⟨ad, rfl, hq⟩ := ws_take HIX.out hpos
    have HQ := Lib.hid hq
    clear hq
    go_enter Tryz.func48, Tryz.ntmps48
    go_wp2_with fail
    refine (in7_any _ s.N v _ HS0.out.2.1 (by have := HF.out.nl; omega)).mono ?_
    rintro e w1 ⟨rfl, hww⟩
    subst w1
    cases hin : inE s.N v with
    | true =>
      have HV := Lib.hid (show q = s.I by rw [HD.out, hin, if_pos rfl])
      clear hin
      go_wp2_with (at_builtin; refine wpList_append_own _ rfl _ _ 24 rfl w.heap.size 45 i0 (.int .u64 0) 1 8 Tryz.underlying24 hi hz0 hz1 hz2 rfl (by decide) _ 0 [] rfl HU.out ad s.I.length ci (u64s s.I) rfl ?c1 ?c2 ?c3 ?c4 ?c5 ?c6 ?_)
      case c1 => simp [u64s]
      case c2 => exact HQ.out
      case c3 => exact fun u hu => by obtain ⟨_, _, rfl⟩ := List.mem_map.1 hu; rfl
      case c4 => unfold maxLen; omega
      case c5 => omega
      case c6 => simp; omega
      intro v' w1 hown hgrow _
      have HO := Lib.hid (show Own w1 w.heap.size v' s.I by unfold Own; simpa using hown)
      have B1 := Lib.hid (BA.out.grown hgrow (by simp; omega) (fun k hk => (HU.out.lt k hk).1))
      clear hown hgrow
      go_wp2_with fail
      go_ret
      exact ⟨_, rfl, by rw [HV.out]; exact Ws.of_owns HO.out HZ.out, B1.out⟩
    | false =>
      have HV := Lib.hid (show q = bottomE s.what s.width by rw [HD.out, hin, if_neg (by decide)])
      clear hin
      go_wp2_with fail
      refine (rbottom_any s.what s.width _).mono ?_
      rintro e w1 ⟨u, rfl, hW, hB⟩
      have HW := Lib.hid hW
      have B1 := Lib.hid (B0.out.trans (hB.mono B0.out.size))
      clear hW hB
      go_wp2_with fail
      go_ret
      exact ⟨_, rfl, by rw [HV.out]; exact HW.out, B1.out⟩
  · have h0 : s.I.length = 0 := by omega
    have HI0 := Lib.hid (show s.I = [] from List.eq_nil_of_length_eq_zero h0)
    rw [h0] at KS B0 HS0 ⊢
    clear h0 hpos hli HS
    have HU := Lib.hid (own_bare64 (w.alloc (.cells #[.int .i64 s.what, .int .i64 s.width, .int .i64 s.nodes, .slice pe s.E.length ce, .slice pn s.N.length cn, .slice pi 0 ci, .slice pt s.T.length ct] 27)) w.heap.size (by simp))
    simp only [World.size_alloc] at HU
    have BA := Lib.hid (B0.out.alloc (by simp) (.cells #[] 45))
    have hpp : (pi = none) ∨ (∃ ad, pi = some ad) := by cases pi; exact .inl rfl; exact .inr ⟨_, rfl⟩
    rcases hpp with rfl | ⟨ad, rfl⟩
    all_goals
      go_enter Tryz.func48, Tryz.ntmps48
      go_wp2_with fail
      refine (in7_any _ s.N v _ HS0.out.2.1 (by have := HF.out.nl; omega)).mono ?_
      rintro e w1 ⟨rfl, hww⟩
      subst w1
      cases hin : inE s.N v with
      | true =>
        have HV := Lib.hid (show q = s.I by rw [HD.out, hin, if_pos rfl])
        clear hin
        go_wp2_with fail
        go_ret
        exact ⟨_, rfl, by rw [HV.out]; exact Ws.of_owns (a := s.I) (by rw [HI0.out]; exact HU.out) HZ.out, BA.out⟩
      | false =>
        have HV := Lib.hid (show q = bottomE s.what s.width by rw [HD.out, hin, if_neg (by decide)])
        clear hin
        go_wp2_with fail
        refine (rbottom_any s.what s.width _).mono ?_
        rintro e w1 ⟨u, rfl, hW, hB⟩
        have HW := Lib.hid hW
        have B1 := Lib.hid (B0.out.trans (hB.mono B0.out.size))
        clear hW hB
        go_wp2_with fail
        go_ret
        exact ⟨_, rfl, by rw [HV.out]; exact HW.out, B1.out⟩

set_option maxHeartbeats 3200000 in
set_option maxRecDepth 100000 in
theorem rsout_any (s : SysT) (ve vn vi vt : Value) (n : Nat) (va : Value) (a : List Nat) (w : World) (hL : SysL w ve vn vi vt s) (hb : SysF s) (ha : Ws w va a) (hn : a.length ≤ 1000) (hok : OkS s) (hnt : n < s.nodes.toNat) (hva : valueE s.what s.width a = true) :
    Calls Tryz.prog 30 #[.agg #[.int .i64 s.what, .int .i64 s.width, .int .i64 s.nodes, ve, vn, vi, vt], .int .i64 (n : Nat), va] w fun e w' => ∃ u, e = .returned u ∧ Ws w' u (applyT s n a) ∧ Below w.heap.size w w' := by
  have HS := Lib.hid hL
  obtain ⟨pe, ce, rfl⟩ := hL.1.len
  obtain ⟨pn, cn, rfl⟩ := hL.2.1.len
  obtain ⟨pi, ci, rfl⟩ := ws_len hL.2.2.1
  obtain ⟨pt, ct, rfl⟩ := hL.2.2.2.len
  have KS := Lib.hid (Bk.new w 27 [.int .i64 s.what, .int .i64 s.width, .int .i64 s.nodes, .slice pe s.E.length ce, .slice pn s.N.length cn, .slice pi s.I.length ci, .slice pt s.T.length ct])
  have B0 := Lib.hid ((Below.refl w.heap.size w).alloc (Nat.le_refl _) (.cells #[.int .i64 s.what, .int .i64 s.width, .int .i64 s.nodes, .slice pe s.E.length ce, .slice pn s.N.length cn, .slice pi s.I.length ci, .slice pt s.T.length ct] 27))
  have HS0 := Lib.hid (HS.out.below B0.out)
  clear hL
  have HF := Lib.hid hb
  clear hb

  have HA := Lib.hid (ha.below B0.out)
  obtain ⟨pa, ca, rfl⟩ := ws_len ha
  clear ha
  have hnt : n < s.T.length := by have := hok.tl; omega
  have hni : (n : Int) < s.T.length := by omega
  have HCT := Lib.hid (hok.tr n hnt)
  have HVA := Lib.hid hva
  have K1 := KS
  have HS1 := HS0
  clear hok hva
  obtain ⟨c0, c1, c2, c3, c4, c5, c6⟩ := K1.out.seven
  obtain ⟨_, _, h5, hTc⟩ := HS1.out.2.2.2
  simp only [Value.slice.injEq, true_and] at h5
  obtain ⟨rfl, rfl⟩ := h5
  obtain ⟨bt, ot, rfl, hd⟩ := hTc (by omega)
  obtain ⟨vg, vk, vl, d0, d1, d2, hV⟩ := hd n hnt
  have HTV := Lib.hid (hV.below (Below.refl _ _).drew)
  have HA1 := Lib.hid (HA.out.below (Below.refl _ _).drew)
  have HBd := Lib.hid (HF.out.tr n hnt)
  obtain ⟨pg, cg, rfl⟩ := ws_len hV.1
  obtain ⟨pk, ck, rfl⟩ := ws_len hV.2.1
  obtain ⟨pl, cl, rfl⟩ := hV.2.2.len
  clear hd hV hTc
  go_enter Tryz.func30, Tryz.ntmps30
  go_wp2_with fail
  go_region_held3 (fun w' => w'.cell? ⟨w.heap.size, 0, none⟩ = some (.int .i64 s.what) ∧ w'.cell? ⟨w.heap.size, 6, none⟩ = some (.slice (some ⟨bt, ot, none⟩) s.T.length ct) ∧ w'.cell? ⟨bt, ot + n * 3, none⟩ = some (.slice pg (trAt s.T n).g.length cg) ∧ w'.cell? ⟨bt, ot + n * 3 + 1, none⟩ = some (.slice pk (trAt s.T n).k.length ck) ∧ w'.cell? ⟨bt, ot + n * 3 + 2, none⟩ = some (.slice pl (trAt s.T n).l.length cl) ∧ Below w.heap.size w w')
    (first
      | exact ⟨c0, c6, d0, d1, d2, B0.out.drew⟩
      | (go_split_ands; exact ⟨keepc (by assumption) hB, keepc (by assumption) hB, keepc (by assumption) hB, keepc (by assumption) hB, keepc (by assumption) hB, bel_then (by assumption) hB⟩))
    (first
      | (go_at_call 67; refine (rapply_any s.what s.width _ _ _ _ (trAt s.T n).g (trAt s.T n).k a (trAt s.T n).l _ HTV.out.1 HTV.out.2.1 HTV.out.2.2 HA1.out HBd.out.1 HBd.out.2.1 (by have := HBd.out.2.2; omega) hn HVA.out HCT.out).mono ?_; rintro e w' ⟨u, rfl, hW, hB⟩; have HW := Lib.hid (show Ws w' u (applyT s n a) from hW); clear hW))
  go_split_ands
  have B2 := Lib.hid (show Below w.heap.size w _ from by assumption)
  go_wp2_with fail
  go_ret
  exact ⟨_, rfl, HW.out, B2.out⟩

set_option maxHeartbeats 3200000 in
set_option maxRecDepth 100000 in
theorem rvsame_any (va vb : Value) (a b : List (List Nat)) (w : World) (ha : Vals w va a) (hb : Vals w vb b) (hna : a.length ≤ 9223372036854775807) (hnb : b.length ≤ 9223372036854775807) (hma : ValsB 9223372036854775807 a) (hmb : ValsB 9223372036854775807 b) :
    Calls Tryz.prog 17 #[va, vb] w fun e w' => e = .returned (.bool (decide (a = b))) ∧ Below w.heap.size w w' := by
  obtain ⟨q, hq⟩ : ∃ q, q = decide (a = b) := ⟨_, rfl⟩
  have HQ := Lib.hid hq
  rw [← hq]
  clear hq
  have B0 := Lib.hid (Below.refl w.heap.size w)
  have HMA := Lib.hid hma
  have HMB := Lib.hid hmb
  obtain ⟨pa, ca, rfl, hac⟩ := ha
  obtain ⟨pb, cb, rfl, hbc⟩ := hb
  have HAC := Lib.hid hac
  have HBC := Lib.hid hbc
  clear hma hmb hac hbc
  by_cases hl : a.length = b.length
  case neg =>
    have hb1 : ((a.length : Int) != (b.length : Int)) = true := by simp; omega
    have HV := Lib.hid (show q = false by rw [HQ.out]; exact decide_eq_false (by rintro rfl; exact hl rfl))
    clear hl
    go_enter Tryz.func17, Tryz.ntmps17
    go_wp2_with fail
    go_ret
    exact ⟨ret_bool HV.out.symm, B0.out⟩
  have hb1 : ((a.length : Int) != (b.length : Int)) = false := by simp [hl]
  have HLN := Lib.hid hl
  clear hl
  go_enter Tryz.func17, Tryz.ntmps17
  go_wp2_with fail
  go_loopw [13] (fun i wr => ∃ k : Nat, k ≤ a.length ∧ i = .int .i64 k ∧ Hid (∀ i, i < k → lsAt a i = lsAt b i) ∧ Below w.heap.size w wr)
    (fun i _ => a.length - (intOf i).toNat)
  case atStart => exact ⟨0, Nat.zero_le _, rfl, Lib.hid (fun i h => by omega), B0.out⟩
  case round =>
    obtain ⟨k, hk, rfl, HI, hB⟩ := hrel
    have B4 := Lib.hid hB
    clear hB
    by_cases hlt : k < a.length
    · have hltb : k < b.length := by have := HLN.out; omega
      obtain ⟨ba, oa, rfl, hda⟩ := HAC.out (by omega)
      obtain ⟨bb, ob, rfl, hdb⟩ := HBC.out (by omega)
      obtain ⟨u1, d0, hW1⟩ := hda k hlt
      obtain ⟨u2, d1, hW2⟩ := hdb k hltb
      replace d0 := keepc d0 B4.out
      replace d1 := keepc d1 B4.out
      have HW1 := Lib.hid (hW1.below B4.out.drew)
      have HW2 := Lib.hid (hW2.below B4.out.drew)
      obtain ⟨p1, k1, rfl⟩ := ws_len hW1
      obtain ⟨p2, k2, rfl⟩ := ws_len hW2
      have HX1 := Lib.hid (HMA.out k hlt)
      have HX2 := Lib.hid (HMB.out k hltb)
      have hki : (k : Int) < a.length := by omega
      have hkb : (k : Int) < b.length := by omega
      have H0k := Lib.hid (show lsAt a k ≠ lsAt b k → q = false from fun h => by
        rw [HQ.out]; exact decide_eq_false (by rintro rfl; exact h rfl))
      have HSk := Lib.hid (show lsAt a k = lsAt b k → ∀ i, i < k + 1 → lsAt a i = lsAt b i from fun e i hi => by
        rcases (show i < k ∨ i = k by omega) with h | rfl
        · exact HI.out i h
        · exact e)
      clear hda hdb hW1 hW2
      generalize lsAt a k = x at *
      generalize lsAt b k = y at *
      go_wp2_with fail
      go_region_held3 (fun w' => w'.cell? ⟨ba, oa + k, none⟩ = some (.slice p1 x.length k1) ∧ w'.cell? ⟨bb, ob + k, none⟩ = some (.slice p2 y.length k2) ∧ Below w.heap.size w w')
        (first
          | exact ⟨d0, d1, B4.out.drew⟩
          | (go_split_ands; exact ⟨keepc (by assumption) hB, keepc (by assumption) hB, bel_then (by assumption) hB⟩))
        (first
          | (go_at_call 50; refine (same_any _ _ x y _ HW1.out HW2.out HX1.out HX2.out).mono ?_; rintro e w' ⟨rfl, nq, hww⟩; have hB := bel_of_drewN hww; clear hww))
      go_split_ands
      have B5 := Lib.hid (show Below w.heap.size w _ from by assumption)
      by_cases hs : x = y
      · have HS2 := Lib.hid (HSk.out hs)
        rw [decide_eq_true hs]
        clear hs
        go_wp2_with fail
        go_roundw
        case rel => exact ⟨k + 1, by omega, by go_num, HS2, B5.out⟩
        case measure => simp [intOf]; omega
      · have HV := Lib.hid (H0k.out hs)
        rw [decide_eq_false hs]
        clear hs
        go_wp2_with fail
        go_ret
        exact ⟨ret_bool HV.out.symm, B5.out⟩
    · obtain rfl : k = a.length := by omega
      have HV := Lib.hid (show q = true by
        rw [HQ.out]
        refine decide_eq_true (List.ext_getElem HLN.out fun i h1 h2 => ?_)
        have := HI.out i h1
        unfold lsAt at this
        rw [List.getElem?_eq_getElem h1, List.getElem?_eq_getElem h2] at this
        exact this)
      go_wp2_with fail
      go_ret
      exact ⟨ret_bool HV.out.symm, B4.out⟩

set_option maxHeartbeats 3200000 in
set_option maxRecDepth 100000 in
theorem rsbottom_any (s : SysT) (ve vn vi vt : Value) (w : World) (hL : SysL w ve vn vi vt s) (hb : SysF s) (hok : OkS s) :
    Calls Tryz.prog 65 #[.agg #[.int .i64 s.what, .int .i64 s.width, .int .i64 s.nodes, ve, vn, vi, vt]] w fun e w' => ∃ u, e = .returned u ∧ Vals w' u (bottomS s) ∧ Below w.heap.size w w' := by
  have HS := Lib.hid hL
  obtain ⟨pe, ce, rfl⟩ := hL.1.len
  obtain ⟨pn, cn, rfl⟩ := hL.2.1.len
  obtain ⟨pi, ci, rfl⟩ := ws_len hL.2.2.1
  obtain ⟨pt, ct, rfl⟩ := hL.2.2.2.len
  have KS := Lib.hid (Bk.new w 27 [.int .i64 s.what, .int .i64 s.width, .int .i64 s.nodes, .slice pe s.E.length ce, .slice pn s.N.length cn, .slice pi s.I.length ci, .slice pt s.T.length ct])
  have B0 := Lib.hid ((Below.refl w.heap.size w).alloc (Nat.le_refl _) (.cells #[.int .i64 s.what, .int .i64 s.width, .int .i64 s.nodes, .slice pe s.E.length ce, .slice pn s.N.length cn, .slice pi s.I.length ci, .slice pt s.T.length ct] 27))
  have HS0 := Lib.hid (HS.out.below B0.out)
  clear hL
  have HF := Lib.hid hb
  clear hb

  obtain ⟨i0, hi, hz0, hz1, hz2⟩ := info_parts lists_info
  obtain ⟨n, hn⟩ : ∃ n : Nat, s.nodes = n := ⟨s.nodes.toNat, by have := hok.n1; omega⟩
  have hn2 : n ≤ 256 := by have := hok.n2; omega
  have HN := Lib.hid hn
  have HEQ := Lib.hid (show bottomS s = botK s n by unfold bottomS botK; rw [hn]; rfl)
  clear hn hok
  go_enter Tryz.func65, Tryz.ntmps65
  go_wp2_with fail
  go_loopw [3, 4] (fun o i wr => ∃ k : Nat, k ≤ n ∧ i = .int .i64 k ∧ Rw wr (w.heap.size + 1) o (botK s k) ∧ Below w.heap.size w wr ∧ Bk wr w.heap.size 27 [.int .i64 s.what, .int .i64 s.width, .int .i64 s.nodes, .slice pe s.E.length ce, .slice pn s.N.length cn, .slice pi s.I.length ci, .slice pt s.T.length ct])
    (fun _ i _ => n - (intOf i).toNat)
  case atStart => exact ⟨0, Nat.zero_le _, rfl, Rw.nil _ _, B0.out, KS.out⟩
  case round =>
    obtain ⟨k, hk, rfl, hr, hB, hK⟩ := hrel
    have HR := Lib.hid hr
    have BW := Lib.hid hB
    have K2 := Lib.hid hK
    obtain ⟨c0, c1, c2, c3, c4, c5, c6⟩ := hK.seven
    clear hr hB hK
    by_cases hlt : k < n
    · have hlt2 : (k : Int) < s.nodes := by have := HN.out; omega
      go_wp2_with fail
      refine (rbottom_any s.what s.width _).mono ?_
      rintro e w3 ⟨u, rfl, hW, hB⟩
      have HR3 := Lib.hid (HR.out.below hB)
      have HW := Lib.hid hW
      have B3 := Lib.hid (BW.out.trans (hB.mono BW.out.size))
      have K3 := Lib.hid (K2.out.below hB)
      obtain ⟨pu, cu, rfl⟩ := ws_len hW
      clear hW hB c0 c1 c2 c3 c4 c5 c6
      have ba := (Below.refl w3.heap.size w3).alloc (Nat.le_refl _) (.cells #[.slice pu (bottomE s.what s.width).length cu] 24)
      have HR4 := Lib.hid (HR3.out.below ba)
      have HW4 := Lib.hid (HW.out.below ba)
      have B4 := Lib.hid (B3.out.trans (ba.mono B3.out.size))
      have K4 := Lib.hid (K3.out.below ba)
      have hs3 : w.heap.size + 1 ≤ w3.heap.size := K3.out.lt
      clear ba
      obtain ⟨po, co, rfl⟩ := HR4.out.len
      go_wp2_with (at_builtin; refine wpList_append_rw rfl _ _ rfl (w.heap.size + 1) _ _ rfl HR4.out ⟨w3.heap.size, 0, none⟩ 1 _ (bottomE s.what s.width) rfl (cell_one_new _ _ _) HW4.out (by rw [botK_len]; omega) (by simp; omega) ?_; intro g5 cap5 w5 hR5 hgrow)
      have hown := HR4.out.own
      have HR5 := Lib.hid (show Rw w5 (w.heap.size + 1) (.slice (some ⟨g5, 0, none⟩) ((botK s k).length + 1) cap5) (botK s (k + 1)) by
        rw [botK_succ]
        exact hR5)
      have B5 := Lib.hid (B4.out.grown hgrow (by simp; omega) (fun k hk => by have := (hown k hk).1; omega))
      have K5 := Lib.hid (K4.out.keep hgrow (by intro h; have := (hown _ h.symm).1; omega))
      clear hR5 hgrow hown
      go_wp2_with fail
      go_roundw
      case rel => exact ⟨k + 1, by omega, by go_num, HR5.out, B5.out, K5.out⟩
      case measure => simp [intOf]; omega
    · obtain rfl : k = n := by omega
      have hlt2 : ¬ ((k : Int) < s.nodes) := by have := HN.out; omega
      go_wp2_with fail
      go_ret
      exact ⟨_, rfl, by rw [HEQ.out]; exact HR.out.vals, BW.out⟩


end Go.Proofs.YtmidbfnmkfncgaaGreat

namespace Go.Proofs.YtmidbfnmkfncgaaGreat
open Go.RowKit Go.ChangeShapes Go.WideShapes

set_option maxRecDepth 100000 in
theorem vals_in {H : Type} {enc : TypeId × Value → H} {w : World} {base : Nat} {spare : Nat → Bool} {held : Bool} {fuel : Nat} {o : Option Addr} {n c : Nat} {x : DataW H × List MemPlace}
    (h : DataW.trod enc Tryz.prog w base spare held fuel 28 [.slice o n c] = some x) : ∃ L, Vals w (.slice o n c) L ∧ L.length ≤ maxLen ∧ ValsB maxLen L := by
  rcases Go.Deep.open_slice Tryz.underlying28 h with h | ⟨a, len, cap, m, k, D, Pl, hcs, hb, hl, hm, hmm, hx, hi⟩
  · have h := h.1
    simp only [List.cons.injEq, Value.slice.injEq, and_true] at h
    obtain ⟨rfl, rfl, rfl⟩ := h
    exact ⟨[], ⟨none, 0, rfl, by simp⟩, by simp, fun j hj => by simp at hj⟩
  · simp only [List.cons.injEq, Value.slice.injEq, and_true] at hcs
    obtain ⟨rfl, rfl, rfl⟩ := hcs
    have hC : Tryz.prog.cellsOf 24 = 1 := by kernel_rfl
    have hx : ∀ i, ∃ t : List Nat, t.length ≤ maxLen ∧ (i < n → a.spot = none ∧ ∃ u, w.cell? ⟨a.block, a.off + i, none⟩ = some u ∧ Ws w u t) := fun i => by
      by_cases hlt : i < n
      · have hn : n ≤ m := by rw [hmm]; split <;> omega
        have hsp : a.spot = none := by
          obtain ⟨cs', hc, ht'⟩ := hi 0 (by omega)
          rw [hC] at hc
          obtain ⟨_, hcl, hat⟩ := World.cells?_some hc
          have hfirst := hat 0 (by omega)
          rw [List.getElem?_eq_getElem (by omega)] at hfirst
          have := spot_of hfirst
          simpa [Addr.add] using this
        obtain ⟨cs', hc, ht'⟩ := hi i (by omega)
        rw [hC] at hc
        obtain ⟨_, hcl, hat⟩ := World.cells?_some hc
        obtain ⟨u, rfl⟩ := list1 hcl
        obtain ⟨L, hL, hLm⟩ := words_in ht'
        have hfirst := hat 0 (by omega)
        rw [Go.Deep.add_add, add_plain _ _ hsp] at hfirst
        exact ⟨L, hLm, fun _ => ⟨hsp, u, by simpa using hfirst, hL⟩⟩
      · exact ⟨[], by simp, fun h => absurd h hlt⟩
    refine ⟨(List.range n).map fun i => (hx i).choose, ⟨some a, c, by simp, fun h0 => ?_⟩, by simp; omega, fun j hj => ?_⟩
    · have hsp : a.spot = none := ((hx 0).choose_spec.2 (by simpa using h0)).1
      refine ⟨a.block, a.off, by cases a; simp at hsp; subst hsp; rfl, fun j hj => ?_⟩
      have hj' : j < n := by simpa using hj
      have e : lsAt ((List.range n).map fun i => (hx i).choose) j = (hx j).choose := by
        unfold lsAt
        rw [List.getElem?_map, List.getElem?_range hj']
        rfl
      rw [e]
      exact ((hx j).choose_spec.2 hj').2
    · have hj' : j < n := by simpa using hj
      have e : lsAt ((List.range n).map fun i => (hx i).choose) j = (hx j).choose := by
        unfold lsAt
        rw [List.getElem?_map, List.getElem?_range hj']
        rfl
      rw [e]
      exact (hx j).choose_spec.1

end Go.Proofs.YtmidbfnmkfncgaaGreat

namespace Go.Proofs.YtmidbfnmkfncgaaGreat
open Go.RowKit

set_option maxHeartbeats 1600000 in
set_option maxRecDepth 100000 in
theorem sequal_any (v1 v2 : Value) (xs ys : List Nat) (w : World) (h1 : Ws w v1 xs) (h2 : Ws w v2 ys) (hx : xs.length ≤ 9223372036854775807) (hy : ys.length ≤ 9223372036854775807) :
    Calls Tryz.prog 47 #[v1, v2] w fun e w' => e = .returned (.bool (decide (xs = ys))) ∧ ∃ n, w' = w.drewN n := by
  obtain ⟨o1, c1, rfl, hc1⟩ := ws_row h1
  obtain ⟨o2, c2, rfl, hc2⟩ := ws_row h2
  clear h1 h2
  by_cases hl : xs.length = ys.length
  · have Hl := Lib.hid hl
    have hl1 : xs.length ≤ ys.length := by omega
    have hl2 : ys.length ≤ xs.length := by omega
    have hb : ((xs.length : Int) != (ys.length : Int)) = false := by simp [hl]
    clear hl
    have H1 := Lib.hid hc1
    have H2 := Lib.hid hc2
    clear hc1 hc2
    go_enter Tryz.func47, Tryz.ntmps47
    go_wp2
    go_loopw [13] (fun i wr => ∃ k nq : Nat, k ≤ xs.length ∧ i = .int .i64 k ∧ (∀ j, j < k → xs[j]?.getD 0 = ys[j]?.getD 0) ∧ wr = w.drewN nq)
      (fun i _ => xs.length - (intOf i).toNat)
    case atStart => exact ⟨0, 0, Nat.zero_le _, rfl, by simp, rfl⟩
    case round =>
      obtain ⟨k, nq, hk, rfl, hall, rfl⟩ := hrel
      have Hall := Lib.hid hall
      clear hall
      by_cases hlt : k < xs.length
      · obtain ⟨a, rfl, hc1⟩ := H1.out (by omega)
        obtain ⟨b, rfl, hc2⟩ := H2.out (by omega)
        replace hc1 := hc1 k hlt
        replace hc2 := hc2 k (by omega)
        have Hs := Lib.hid (fun (h : ¬ ((xs[k]?.getD 0 : Nat) : Int) = ((ys[k]?.getD 0 : Nat) : Int)) => same_ne h)
        have Ht := Lib.hid (show xs[k]?.getD 0 = ys[k]?.getD 0 → ∀ j, j < k + 1 → xs[j]?.getD 0 = ys[j]?.getD 0 from fun e j hj => by
          rcases (show j < k ∨ j = k from by omega) with h | rfl
          · exact Hall.out j h
          · exact e)
        generalize xs[k]?.getD 0 = x at *
        generalize ys[k]?.getD 0 = y at *
        go_wp2
        go_quiet (fail)
        go_wp2
        · go_ret
          exact ⟨ret_bool (Hs.out (by have : ((x : Int) != (y : Int)) = true := by assumption
                                      simpa using this)).symm, _, World.drewN_drewN ..⟩
        · refine ⟨⟨k + 1, _, by omega, by go_num, Ht.out (by have : ((x : Int) != (y : Int)) = false := by assumption
                                                             simp at this; omega), rfl⟩, by simp [intOf]; omega⟩
      · obtain rfl : k = xs.length := by omega
        go_wp2
        go_ret
        exact ⟨ret_bool (same_eq Hl.out Hall.out).symm, nq, rfl⟩
  · have hb : ((xs.length : Int) != (ys.length : Int)) = true := by simp; omega
    clear hc1 hc2
    go_enter Tryz.func47, Tryz.ntmps47
    go_wp2
    go_ret
    exact ⟨ret_bool (decide_eq_false (by rintro rfl; exact hl rfl)).symm, 0, rfl⟩

theorem eq3_no {a b c d e f : Int} (h : a = b → c = d → ¬ e = f) : (a == b && (c == d && e == f)) = false := by
  rw [Bool.eq_false_iff]
  intro h2
  simp only [Bool.and_eq_true, beq_iff_eq] at h2
  exact h h2.1 h2.2.1 h2.2.2
theorem eq3_yes {a b c d e f : Int} (h : ¬ (a = b → c = d → ¬ e = f)) : (a == b && (c == d && e == f)) = true := by
  simp only [Bool.and_eq_true, beq_iff_eq]
  refine Classical.byContradiction fun h2 => h fun h3 h4 h5 => h2 ⟨h3, h4, h5⟩
theorem refF (f : Nat) (x a b y c d : Int) (w : World) : (Op.equalIn (f + 3) 49 (.agg #[.int .i64 x, .int .i64 a, .int .i64 b]) (.agg #[.int .i64 y, .int .i64 c, .int .i64 d])).run Tryz.prog w = .ok (x == y && (a == c && b == d)) w := by
  have u3 := Tryz.underlying3
  have a3 := Tryz.isAgg3
  have z3 := Tryz.sizeOf3
  have a8 := Tryz.isAgg47
  have z8 := Tryz.sizeOf47
  have hn := fun w => numF f a b c d w
  rw [run_equalIn_agg w (f + 2) _ _ _ refU refS]
  simp only [Program.fieldsOf, Tryz.underlying49]
  go_simp
  by_cases h0 : x = y <;> by_cases h1 : a = c <;> by_cases h2 : b = d <;> simp [h0, h1, h2]
theorem codeU : Tryz.prog.underlying 51 = some (.struct (Tryz.prog.fieldsOf 51)) := by kernel_rfl
theorem codeS : Tryz.prog.stoodInHeld 51 = false := by kernel_rfl
/-- Whether codes are alike. -/
def codeQ (c d : CodeT) : Bool := c.v == d.v && (c.o == d.o && ((c.av == d.av && (c.ar == d.ar && c.ai == d.ai)) && (c.bv == d.bv && (c.br == d.br && c.bi == d.bi))))
theorem codeQ_iff (c d : CodeT) : codeQ c d = true ↔ c = d := by
  obtain ⟨v, o, av, ar, ai, bv, br, bi⟩ := c
  obtain ⟨v', o', av', ar', ai', bv', br', bi'⟩ := d
  unfold codeQ
  simp only [Bool.and_eq_true, beq_iff_eq, CodeT.mk.injEq]
  constructor
  · rintro ⟨h1, h2, ⟨h3, h4, h5⟩, h6, h7, h8⟩; exact ⟨h1, h2, h3, h4, h5, h6, h7, h8⟩
  · rintro ⟨h1, h2, h3, h4, h5, h6, h7, h8⟩; exact ⟨h1, h2, ⟨h3, h4, h5⟩, h6, h7, h8⟩
theorem code_equal (c d : CodeT) (w : World) : (Op.equalIn 10000 51 (.agg (ccells c).toArray) (.agg (ccells d).toArray)).run Tryz.prog w = .ok (codeQ c d) w := by
  obtain ⟨v, o, av, ar, ai, bv, br, bi⟩ := c
  obtain ⟨v', o', av', ar', ai', bv', br', bi'⟩ := d
  have u3 := Tryz.underlying3
  have a3 := Tryz.isAgg3
  have z3 := Tryz.sizeOf3
  have a8 := Tryz.isAgg49
  have z8 := Tryz.sizeOf49
  have h1 := fun w => refF 9996 av ar ai av' ar' ai' w
  have h2 := fun w => refF 9996 bv br bi bv' br' bi' w
  unfold ccells codeQ
  rw [show (10000 : Nat) = 9999 + 1 from rfl, run_equalIn_agg w 9999 _ _ _ codeU codeS]
  simp only [Program.fieldsOf, Tryz.underlying51]
  go_simp
  by_cases g1 : v = v'
  · by_cases g2 : o = o'
    · by_cases g3 : av = av' → ar = ar' → ¬ai = ai'
      · rw [if_pos g1, if_pos g2, if_pos g3, eq3_no g3]; simp
      · by_cases g4 : bv = bv' → br = br' → ¬bi = bi'
        · rw [if_pos g1, if_pos g2, if_neg g3, if_pos g4, eq3_no g4]; simp
        · rw [if_pos g1, if_pos g2, if_neg g3, if_neg g4, eq3_yes g3, eq3_yes g4, g1, g2]; simp
    · rw [if_pos g1, if_neg g2]; simp [g2]
  · rw [if_neg g1]; simp [g1]
theorem code_neq (c d : CodeT) (w : World) : (binOp .neq 51 (.agg (ccells c).toArray) (.agg (ccells d).toArray)).run Tryz.prog w = .ok (.bool (!codeQ c d)) w := by
  rw [run_neq_struct, code_equal]; rfl
theorem lists_eq {L M : List CodeT} (hl : L.length = M.length) (h : ∀ j, j < L.length → cdAt L j = cdAt M j) : L = M := by
  refine List.ext_getElem hl fun j h1 h2 => ?_
  have := h j h1
  unfold cdAt at this
  rw [List.getElem?_eq_getElem h1, List.getElem?_eq_getElem h2] at this
  exact this
/-- Whether lists of codes are alike. -/
def codesQ (L M : List CodeT) : Bool := decide (L.length = M.length) && (List.range L.length).all fun j => codeQ (cdAt L j) (cdAt M j)
theorem codesQ_iff (L M : List CodeT) : codesQ L M = true ↔ L = M := by
  unfold codesQ
  rw [Bool.and_eq_true, decide_eq_true_eq, List.all_eq_true]
  constructor
  · rintro ⟨h1, h2⟩
    exact lists_eq h1 fun j hj => (codeQ_iff _ _).1 (h2 j (List.mem_range.2 hj))
  · rintro rfl
    exact ⟨rfl, fun j _ => (codeQ_iff _ _).2 rfl⟩


end Go.Proofs.YtmidbfnmkfncgaaGreat

namespace Go.Proofs.YtmidbfnmkfncgaaGreat
open Go.RowKit

/-- Whether two Trans are alike. -/
def sameT (g k : List Nat) (L : List CodeT) (g2 k2 : List Nat) (L2 : List CodeT) : Bool := decide (g = g2) && (decide (k = k2) && codesQ L L2)


set_option maxHeartbeats 6400000 in
set_option maxRecDepth 100000 in
theorem rtsame_any (vg vk vl vg2 vk2 vl2 : Value) (g kk g2 k2 : List Nat) (L M : List CodeT) (w : World) (h1 : Ws w vg g) (h2 : Ws w vk kk) (h3 : Codes w vl L) (h4 : Ws w vg2 g2) (h5 : Ws w vk2 k2) (h6 : Codes w vl2 M)
    (m1 : g.length ≤ 1000000) (m2 : kk.length ≤ 1000000) (m3 : L.length ≤ 1000000) (m4 : g2.length ≤ 1000000) (m5 : k2.length ≤ 1000000) (m6 : M.length ≤ 1000000) :
    Calls Tryz.prog 59 #[.agg #[vg, vk, vl], .agg #[vg2, vk2, vl2]] w fun e w' => e = .returned (.bool (sameT g kk L g2 k2 M)) ∧ Below w.heap.size w w' := by
  have HG := Lib.hid h1
  have HK := Lib.hid h2
  have HG2 := Lib.hid h4
  have HK2 := Lib.hid h5
  obtain ⟨pg, cg, rfl⟩ := ws_len h1
  obtain ⟨pk, ck, rfl⟩ := ws_len h2
  obtain ⟨pl, cl, rfl, hc1⟩ := h3
  obtain ⟨pg2, cg2, rfl⟩ := ws_len h4
  obtain ⟨pk2, ck2, rfl⟩ := ws_len h5
  obtain ⟨pl2, cl2, rfl, hc2⟩ := h6
  have H1 := Lib.hid hc1
  have H2 := Lib.hid hc2
  have B0 := Lib.hid (((Below.refl w.heap.size w).alloc (Nat.le_refl _) (.cells #[.slice pg g.length cg, .slice pk kk.length ck, .slice pl L.length cl] 44)).alloc (by simp) (.cells #[.slice pg2 g2.length cg2, .slice pk2 k2.length ck2, .slice pl2 M.length cl2] 44))
  have KS := Lib.hid ((Bk.new w 44 [.slice pg g.length cg, .slice pk kk.length ck, .slice pl L.length cl]).alloc (.cells #[.slice pg2 g2.length cg2, .slice pk2 k2.length ck2, .slice pl2 M.length cl2] 44))
  have KT := Lib.hid (Bk.new' (w.alloc (.cells #[.slice pg g.length cg, .slice pk kk.length ck, .slice pl L.length cl] 44)) 44 [.slice pg2 g2.length cg2, .slice pk2 k2.length ck2, .slice pl2 M.length cl2] (g := w.heap.size + 1) (by simp))
  clear h1 h2 hc1 h4 h5 hc2
  obtain ⟨S, hS⟩ : ∃ S, S = sameT g kk L g2 k2 M := ⟨_, rfl⟩
  have HD := Lib.hid (show S = (decide (g = g2) && (decide (kk = k2) && codesQ L M)) from hS)
  rw [← hS]
  clear hS
  by_cases hl : L.length = M.length
  · have Hl := Lib.hid hl
    have hb : ((L.length : Int) != (M.length : Int)) = false := by simp [hl]
    have HT := Lib.hid (show (∀ j, j < L.length → codeQ (cdAt L j) (cdAt M j) = true) → codesQ L M = true from fun h => by
      unfold codesQ; rw [decide_eq_true hl, Bool.true_and, List.all_eq_true]
      exact fun j hj => h j (List.mem_range.1 hj))
    have HF := Lib.hid (show ∀ j, j < L.length → codeQ (cdAt L j) (cdAt M j) = false → S = false from fun j hj h => by
      have hq : codesQ L M = false := by
        unfold codesQ; rw [decide_eq_true hl, Bool.true_and, Bool.eq_false_iff]
        intro h2
        rw [List.all_eq_true] at h2
        have := h2 j (List.mem_range.2 hj)
        rw [h] at this; cases this
      rw [HD.out, hq, Bool.and_false, Bool.and_false])
    clear hl
    go_enter Tryz.func59, Tryz.ntmps59
    go_wp2_with fail
    go_loopw [16] (fun i wr => ∃ k : Nat, k ≤ L.length ∧ i = .int .i64 k ∧ Hid (∀ j, j < k → codeQ (cdAt L j) (cdAt M j) = true) ∧ Below w.heap.size w wr ∧ Bk wr w.heap.size 44 [.slice pg g.length cg, .slice pk kk.length ck, .slice pl L.length cl] ∧ Bk wr (w.heap.size + 1) 44 [.slice pg2 g2.length cg2, .slice pk2 k2.length ck2, .slice pl2 M.length cl2])
      (fun i _ => L.length - (intOf i).toNat)
    case atStart => exact ⟨0, Nat.zero_le _, rfl, Lib.hid (fun j h => by omega), B0.out, KS.out, KT.out⟩
    case round =>
      clear KS KT B0
      obtain ⟨k, hk, rfl, HA, hB, hks, hkt⟩ := hrel
      have HB := Lib.hid hB
      have KS := Lib.hid hks
      have KT := Lib.hid hkt
      have c2 := hks.cell 2
      have d2 := hkt.cell 2
      simp only [List.getElem?_cons_succ, List.getElem?_cons_zero] at c2 d2
      clear hB hks hkt
      by_cases hlt : k < L.length
      · have hltM : k < M.length := by have := Hl.out; omega
        obtain ⟨b1, f1, rfl, hd1⟩ := H1.out (by omega)
        obtain ⟨b2, f2, rfl, hd2⟩ := H2.out (by omega)
        have hd1 := hd1 k hlt
        have hd2 := hd2 k hltM
        have HFk := Lib.hid (HF.out k hlt)
        have HS := Lib.hid (show codeQ (cdAt L k) (cdAt M k) = true → ∀ j, j < k + 1 → codeQ (cdAt L j) (cdAt M j) = true from fun e j hj => by
          rcases (show j < k ∨ j = k from by omega) with h | rfl
          · exact HA.out j h
          · exact e)
        have hN := code_neq (cdAt L k) (cdAt M k)
        generalize cdAt L k = c at *
        generalize cdAt M k = d at *
        obtain ⟨q, hq⟩ : ∃ q, q = codeQ c d := ⟨_, rfl⟩
        rw [← hq] at hN
        have HQ := Lib.hid hq
        clear hq
        obtain ⟨v, o, av, ar, ai, bv, br, bi⟩ := c
        obtain ⟨v', o', av', ar', ai', bv', br', bi'⟩ := d
        have e0 := keepc (hd1 0 _ rfl) HB.out
        have e1 := keepc (hd1 1 _ rfl) HB.out
        have e2 := keepc (hd1 2 _ rfl) HB.out
        have e3 := keepc (hd1 3 _ rfl) HB.out
        have e4 := keepc (hd1 4 _ rfl) HB.out
        have e5 := keepc (hd1 5 _ rfl) HB.out
        have e6 := keepc (hd1 6 _ rfl) HB.out
        have e7 := keepc (hd1 7 _ rfl) HB.out
        have g0 := keepc (hd2 0 _ rfl) HB.out
        have g1 := keepc (hd2 1 _ rfl) HB.out
        have g2 := keepc (hd2 2 _ rfl) HB.out
        have g3 := keepc (hd2 3 _ rfl) HB.out
        have g4 := keepc (hd2 4 _ rfl) HB.out
        have g5 := keepc (hd2 5 _ rfl) HB.out
        have g6 := keepc (hd2 6 _ rfl) HB.out
        have g7 := keepc (hd2 7 _ rfl) HB.out
        simp only [Nat.add_zero] at e0 g0
        have hN : ∀ w, (binOp .neq 51 (.agg #[.int .i64 v, .int .i64 o, .int .i64 av, .int .i64 ar, .int .i64 ai, .int .i64 bv, .int .i64 br, .int .i64 bi]) (.agg #[.int .i64 v', .int .i64 o', .int .i64 av', .int .i64 ar', .int .i64 ai', .int .i64 bv', .int .i64 br', .int .i64 bi'])).run Tryz.prog w = .ok (.bool (!q)) w := hN
        have hki : (k : Int) < L.length := by omega
        have hkm : (k : Int) < M.length := by omega
        clear hd1 hd2
        cases q with
        | true =>
          have HS2 := Lib.hid (HS.out HQ.out.symm)
          go_wp2_with fail
          go_quiet (fail)
          go_wp2_with fail
          go_roundw
          case rel => exact ⟨k + 1, by omega, by go_num, HS2, bel_drewN HB.out _, KS.out.drewN _, KT.out.drewN _⟩
          case measure => simp [intOf]; omega
        | false =>
          have HV := Lib.hid (HFk.out HQ.out.symm)
          go_wp2_with fail
          go_quiet (fail)
          go_wp2_with fail
          go_ret
          exact ⟨ret_bool HV.out.symm, bel_drewN HB.out _⟩
      · obtain rfl : k = L.length := by omega
        have HD1 := Lib.hid (show S = (decide (g = g2) && decide (kk = k2)) by rw [HD.out, HT.out HA.out, Bool.and_true])
        have c0 := KS.out.cell 0
        have d0 := KT.out.cell 0
        simp only [List.getElem?_cons_zero] at c0 d0
        go_wp2_with fail
        refine (same_any _ _ g g2 _ (HG.out.below HB.out) (HG2.out.below HB.out) (by omega) (by omega)).mono ?_
        rintro e w2 ⟨rfl, nq2, hww⟩
        have hB := bel_of_drewN hww
        have B2 := Lib.hid (HB.out.trans (hB.mono HB.out.size))
        have c1 := (KS.out.below hB).cell 1
        have d1 := (KT.out.below hB).cell 1
        simp only [List.getElem?_cons_succ, List.getElem?_cons_zero] at c1 d1
        clear hww hB c0 d0 c2 d2
        by_cases hg : g = g2
        · have HD2 := Lib.hid (show S = decide (kk = k2) by rw [HD1.out, decide_eq_true hg]; rfl)
          rw [decide_eq_true hg]
          clear hg
          go_wp2_with fail
          refine (same_any _ _ kk k2 _ (HK.out.below B2.out) (HK2.out.below B2.out) (by omega) (by omega)).mono ?_
          rintro e w3 ⟨rfl, nq3, hww⟩
          have hB := bel_of_drewN hww
          have B3 := Lib.hid (B2.out.trans (hB.mono B2.out.size))
          clear hww hB
          rw [← HD2.out]
          go_wp2_with fail
          go_ret
          exact ⟨rfl, B3.out⟩
        · have HD2 := Lib.hid (show S = false by rw [HD1.out, decide_eq_false hg]; rfl)
          rw [decide_eq_false hg]
          clear hg
          go_wp2_with fail
          go_ret
          exact ⟨ret_bool HD2.out.symm, B2.out⟩
  · have hb : ((L.length : Int) != (M.length : Int)) = true := by simp; omega
    have HV := Lib.hid (show S = false by rw [HD.out, show codesQ L M = false by unfold codesQ; rw [decide_eq_false hl]; rfl, Bool.and_false, Bool.and_false])
    clear hl
    go_enter Tryz.func59, Tryz.ntmps59
    go_wp2_with fail
    go_ret
    exact ⟨ret_bool HV.out.symm, B0.out⟩

end Go.Proofs.YtmidbfnmkfncgaaGreat
