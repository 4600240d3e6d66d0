/-
  Lists of values: whether they are alike; system.Solves, least.Same, Solve: contracts. Written by wip/gen/mksysA.py.
-/
import Derived.Test.YtfeipfemknnhhaaSys7
import Derived.Test.YtfeipfemknnhhaaTrE
import Derived.Test.YtfeipfemknnhhaaLeastM
namespace Go.Proofs.Ytfeipfemknnhhaa
open Go.RowKit

set_option maxHeartbeats 3200000 in
set_option maxRecDepth 100000 in
theorem veqfunc_any (va vb : Value) (a b : List (List Nat)) (w : World) (ha : Vals w va a) (hb : Vals w vb b) (hna : a.length ≤ 9223372036854775807) (hnb : b.length ≤ 9223372036854775807) (hma : ValsB 9223372036854775807 a) (hmb : ValsB 9223372036854775807 b) :
    Calls Try.prog 62 #[va, vb, .func (.func 63) #[] #[]] w fun e w' => e = .returned (.bool (decide (a = b))) ∧ Below w.heap.size w w' := by
  obtain ⟨q, hq⟩ : ∃ q, q = decide (a = b) := ⟨_, rfl⟩
  have HQ := Lib.hid hq
  rw [← hq]
  clear hq
  have B0 := Lib.hid (Below.refl w.heap.size w)
  have HMA := Lib.hid hma
  have HMB := Lib.hid hmb
  obtain ⟨pa, ca, rfl, hac⟩ := ha
  obtain ⟨pb, cb, rfl, hbc⟩ := hb
  have HAC := Lib.hid hac
  have HBC := Lib.hid hbc
  clear hma hmb hac hbc
  by_cases hl : a.length = b.length
  case neg =>
    have hb1 : ((a.length : Int) != (b.length : Int)) = true := by simp; omega
    have HV := Lib.hid (show q = false by rw [HQ.out]; exact decide_eq_false (by rintro rfl; exact hl rfl))
    clear hl
    go_enter Try.func62, Try.ntmps62
    go_wp2_with fail
    go_ret
    exact ⟨ret_bool HV.out.symm, B0.out⟩
  have hb1 : ((a.length : Int) != (b.length : Int)) = false := by simp [hl]
  have HLN := Lib.hid hl
  clear hl
  go_enter Try.func62, Try.ntmps62
  go_wp2_with fail
  go_loopw [17] (fun i wr => ∃ k : Nat, k ≤ a.length ∧ i = .int .i64 k ∧ Hid (∀ i, i < k → lsAt a i = lsAt b i) ∧ Below w.heap.size w wr)
    (fun i _ => a.length - (intOf i).toNat)
  case atStart => exact ⟨0, Nat.zero_le _, rfl, Lib.hid (fun i h => by omega), B0.out⟩
  case round =>
    obtain ⟨k, hk, rfl, HI, hB⟩ := hrel
    have B4 := Lib.hid hB
    clear hB
    by_cases hlt : k < a.length
    · have hltb : k < b.length := by have := HLN.out; omega
      obtain ⟨ba, oa, rfl, hda⟩ := HAC.out (by omega)
      obtain ⟨bb, ob, rfl, hdb⟩ := HBC.out (by omega)
      obtain ⟨u1, d0, hW1⟩ := hda k hlt
      obtain ⟨u2, d1, hW2⟩ := hdb k hltb
      replace d0 := keepc d0 B4.out
      replace d1 := keepc d1 B4.out
      have HW1 := Lib.hid (hW1.below B4.out)
      have HW2 := Lib.hid (hW2.below B4.out)
      obtain ⟨p1, k1, rfl⟩ := ws_len hW1
      obtain ⟨p2, k2, rfl⟩ := ws_len hW2
      have HX1 := Lib.hid (HMA.out k hlt)
      have HX2 := Lib.hid (HMB.out k hltb)
      have hki : (k : Int) < a.length := by omega
      have hkb : (k : Int) < b.length := by omega
      have H0k := Lib.hid (show lsAt a k ≠ lsAt b k → q = false from fun h => by
        rw [HQ.out]; exact decide_eq_false (by rintro rfl; exact h rfl))
      have HSk := Lib.hid (show lsAt a k = lsAt b k → ∀ i, i < k + 1 → lsAt a i = lsAt b i from fun e i hi => by
        rcases (show i < k ∨ i = k by omega) with h | rfl
        · exact HI.out i h
        · exact e)
      clear hda hdb hW1 hW2
      generalize lsAt a k = x at *
      generalize lsAt b k = y at *
      go_wp2_with fail
      refine (sequal_any _ _ x y _ HW1.out HW2.out HX1.out HX2.out).mono ?_
      rintro e w5 ⟨rfl, nq, hww⟩
      have hB := bel_of_drewN hww
      have B5 := Lib.hid (B4.out.trans (hB.mono B4.out.size))
      clear hww hB
      by_cases hs : x = y
      · have HS2 := Lib.hid (HSk.out hs)
        rw [decide_eq_true hs]
        clear hs
        go_wp2_with fail
        go_roundw
        case rel => exact ⟨k + 1, by omega, by go_num, HS2, B5.out⟩
        case measure => simp [intOf]; omega
      · have HV := Lib.hid (H0k.out hs)
        rw [decide_eq_false hs]
        clear hs
        go_wp2_with fail
        go_ret
        exact ⟨ret_bool HV.out.symm, B5.out⟩
    · obtain rfl : k = a.length := by omega
      have HV := Lib.hid (show q = true by
        rw [HQ.out]
        refine decide_eq_true (List.ext_getElem HLN.out fun i h1 h2 => ?_)
        have := HI.out i h1
        unfold lsAt at this
        rw [List.getElem?_eq_getElem h1, List.getElem?_eq_getElem h2] at this
        exact this)
      go_wp2_with fail
      go_ret
      exact ⟨ret_bool HV.out.symm, B4.out⟩

set_option maxHeartbeats 3200000 in
set_option maxRecDepth 100000 in
theorem lsame_any (va vb : Value) (a b : List (List Nat)) (w : World) (ha : Vals w va a) (hb : Vals w vb b) (hna : a.length ≤ 9223372036854775807) (hnb : b.length ≤ 9223372036854775807) (hma : ValsB 9223372036854775807 a) (hmb : ValsB 9223372036854775807 b) :
    Calls Try.prog 31 #[va, vb] w fun e w' => e = .returned (.bool (decide (a = b))) ∧ Below w.heap.size w w' := by
  have HA := Lib.hid ha
  have HB := Lib.hid hb
  obtain ⟨pa, ca, rfl⟩ := ha.len
  obtain ⟨pb, cb, rfl⟩ := hb.len
  clear ha hb
  go_enter Try.func31, Try.ntmps31
  go_wp2_with fail
  refine (veqfunc_any _ _ a b _ HA.out HB.out hna hnb hma hmb).mono ?_
  rintro e w1 ⟨rfl, hB⟩
  have B1 := Lib.hid hB
  clear hB
  go_wp2_with fail
  go_ret
  exact ⟨rfl, B1.out⟩

set_option maxHeartbeats 3200000 in
set_option maxRecDepth 100000 in
theorem solve1_any (va vb : Value) (a b : List (List Nat)) (n : Int) (w : World) (ha : Vals w va a) (hb : Vals w vb b) (hna : a.length ≤ 9223372036854775807) (hnb : b.length ≤ 9223372036854775807) (hma : ValsB 9223372036854775807 a) (hmb : ValsB 9223372036854775807 b) :
    Calls Try.prog 30 #[va, vb, .int .i64 n] w fun e w' => e = .returned (.bool (!(decide (a = b)))) ∧ Below w.heap.size w w' := by
  have HA := Lib.hid ha
  have HB := Lib.hid hb
  obtain ⟨pa, ca, rfl⟩ := ha.len
  obtain ⟨pb, cb, rfl⟩ := hb.len
  clear ha hb
  go_enter Try.func30, Try.ntmps30
  go_wp2_with fail
  refine (lsame_any _ _ a b _ HA.out HB.out hna hnb hma hmb).mono ?_
  rintro e w1 ⟨rfl, hB⟩
  have B1 := Lib.hid hB
  clear hB
  obtain ⟨q, hq⟩ : ∃ q, q = decide (a = b) := ⟨_, rfl⟩
  have HQ := Lib.hid hq
  rw [← hq]
  clear hq
  go_wp2_with fail
  go_ret
  exact ⟨ret_bool (by rw [HQ.out]), B1.out⟩


def solvesE (s : SysT) (a : List (List Nat)) : Bool := decide (stepC s a = 0) && decide (a = stepE s a)



/-- A climb's end: the first of the Steps behind which it goes on no more. -/
structure ClimbAt (s : SysT) (P : List (List Nat) → List (List Nat) → Nat → Bool) (k : Nat) : Prop where
  on : ∀ j, j < k → P (iterE s j) (iterE s (j + 1)) j = true
  off : P (iterE s k) (iterE s (k + 1)) k = false
/-- What a climb tells. -/
def ClimbR (s : SysT) (P : List (List Nat) → List (List Nat) → Nat → Bool) (w : World) (e : Ending) (w' : World) : Prop :=
  (checkS s ≠ 0 ∧ e = .returned (.tuple #[.slice none 0 0, .int .i64 0, .int .i64 (checkS s)]) ∧ Below w.heap.size w w') ∨
  (checkS s = 0 ∧ ∃ k u, e = .returned (.tuple #[u, .int .i64 (k : Nat), .int .i64 0]) ∧ Vals w' u (iterE s k) ∧ ClimbAt s P k ∧ Below w.heap.size w w')
theorem iter_lens {s : SysT} (h : OkS s) (hs : LtS s) (k : Nat) : (iterE s k).length ≤ 256 ∧ ValsB 100000 (iterE s k) := by
  have hv := (iter_ok h hs k).1
  exact ⟨by rw [values_len hv]; have := h.n2; omega, vals_small hv⟩

set_option maxHeartbeats 3200000 in
set_option maxRecDepth 100000 in
theorem climb_any (F : FuncId) (lb : Array Value) (P : List (List Nat) → List (List Nat) → Nat → Bool) (N : Nat) (s : SysT) (ve vn vi vt : Value) (w : World)
    (el : ∀ args w, (callFunc F args).run Try.prog w = .ok (.enter F args) w) (hL : SysL w ve vn vi vt s) (hb : SysF s)
    (hf : ∀ a b k va vb w1, Vals w1 va a → Vals w1 vb b → a.length ≤ 9223372036854775807 → b.length ≤ 9223372036854775807 → ValsB 9223372036854775807 a → ValsB 9223372036854775807 b → Below w.heap.size w w1 →
      Calls Try.prog F (#[va, vb, .int .i64 (k : Nat)] ++ lb) w1 fun e w' => e = .returned (.bool (P a b k)) ∧ Below w1.heap.size w1 w')
    (hN : checkS s = 0 → P (iterE s N) (iterE s (N + 1)) N = false) (hNb : N ≤ 1000000) :
    Calls Try.prog 29 #[.agg #[.int .i64 s.what, .int .i64 s.width, .int .i64 s.nodes, ve, vn, vi, vt], .func (.func F) #[] lb] w fun e w' => ClimbR s P w e w' := by
  have HS := Lib.hid hL
  obtain ⟨pe, ce, rfl⟩ := hL.1.len
  obtain ⟨pn, cn, rfl⟩ := hL.2.1.len
  obtain ⟨pi, ci, rfl⟩ := ws_len hL.2.2.1
  obtain ⟨pt, ct, rfl⟩ := hL.2.2.2.len
  have KS := Lib.hid (Bk.new w 27 [.int .i64 s.what, .int .i64 s.width, .int .i64 s.nodes, .slice pe s.E.length ce, .slice pn s.N.length cn, .slice pi s.I.length ci, .slice pt s.T.length ct])
  have B0 := Lib.hid ((Below.refl w.heap.size w).alloc (Nat.le_refl _) (.cells #[.int .i64 s.what, .int .i64 s.width, .int .i64 s.nodes, .slice pe s.E.length ce, .slice pn s.N.length cn, .slice pi s.I.length ci, .slice pt s.T.length ct] 27))
  have HS0 := Lib.hid (HS.out.below B0.out)
  have HFF := Lib.hid hf
  have HLT := Lib.hid (ltS_of HS.out)
  clear hL hf
  have HF := Lib.hid hb
  clear hb

  obtain ⟨ce, hce⟩ : ∃ z, z = checkS s := ⟨_, rfl⟩
  have NC := Lib.hid hce
  clear hce
  go_enter Try.func29, Try.ntmps29
  by_cases h0 : ce = 0
  case neg =>
    have HNZ := Lib.hid h0
    have hnb : (ce != 0) = true := by simpa using h0
    clear h0 hN
    go_wp2_with fail
    refine wp_scope_via 1 ?_
    go_wp2_with fail
    refine (sBottom_any s _ _ _ _ _ HS0.out HF.out).mono ?_
    rintro e w1 ⟨u, rfl, hV, hB⟩
    rw [← NC.out] at hV ⊢
    have X1 := Lib.hid (B0.out.trans (hB.mono B0.out.size))
    rw [okV_no HNZ.out] at hV
    obtain ⟨pu, cu, rfl⟩ := hV.len
    clear hB hV
    go_wp2_with fail
    first | rw [via_ret] | skip
    go_ret3
    exact .inl ⟨by rw [← NC.out]; exact HNZ.out, by rw [← NC.out]; rfl, X1.out⟩
  have OK := Lib.hid (okS_of (NC.out.symm.trans h0))
  have HNO := Lib.hid (hN (NC.out.symm.trans h0))
  subst h0
  clear hN
  go_wp2_with fail
  refine wp_scope_inv (fun l a w' => l = 0 ∧ ∃ (k : Nat) (p : Option Addr) (c : Nat) (u3 u9 u10 u11 u12 u13 u14 u15 u16 u17 u18 u19 u20 u21 u22 u23 u24 u25 u26 u27 u28 u29 u30 u31 u32 u33 u34 u35 : Value), a = { tmps := #[.agg #[.int .i64 s.what, .int .i64 s.width, .int .i64 s.nodes, .slice pe s.E.length ce, .slice pn s.N.length cn, .slice pi s.I.length ci, .slice pt s.T.length ct], .func (.func F) #[] lb, .pointer (some ⟨w.heap.size, 0, none⟩), u3, .slice none 0 0, .int .i64 0, .int .i64 0, .int .i64 (k : Nat), .slice p (iterE s k).length c, u9, u10, u11, u12, u13, u14, u15, u16, u17, u18, u19, u20, u21, u22, u23, u24, u25, u26, u27, u28, u29, u30, u31, u32, u33, u34, u35], defers := [] } ∧ Vals w' (.slice p (iterE s k).length c) (iterE s k) ∧ Below w.heap.size w w' ∧ Bk w' w.heap.size 27 [.int .i64 s.what, .int .i64 s.width, .int .i64 s.nodes, .slice pe s.E.length ce, .slice pn s.N.length cn, .slice pi s.I.length ci, .slice pt s.T.length ct] ∧ ∀ j, j < k → P (iterE s j) (iterE s (j + 1)) j = true) (fun _ a _ => N + 1 - (intOf (a.tmps.getD 7 undef)).toNat) ?first ?pass
  case pass =>
    rintro l a wr ⟨rfl, k, p, c, u3, u9, u10, u11, u12, u13, u14, u15, u16, u17, u18, u19, u20, u21, u22, u23, u24, u25, u26, u27, u28, u29, u30, u31, u32, u33, u34, u35, rfl, hV, hX, hK, hon⟩
    refine ⟨_, rfl, ?_⟩
    have HVV := Lib.hid hV
    have XW := Lib.hid hX
    have KW := Lib.hid hK
    have ON := Lib.hid hon
    obtain ⟨c0, c1, c2, c3, c4, c5, c6⟩ := hK.seven
    clear hV hX hK hon
    go_wp2_with fail
    refine (sStep_any s _ _ _ _ _ (iterE s k) _ (HS.out.below XW.out) HF.out HVV.out (by have := (iter_lens OK.out HLT.out k).1; omega) (iter_lens OK.out HLT.out k).2).mono ?_
    rintro e w2 ⟨u, rfl, hV2, hB⟩
    rw [sc_ok NC.out.symm (iter_ok OK.out HLT.out k).1, okV_yes] at hV2
    rw [sc_ok NC.out.symm (iter_ok OK.out HLT.out k).1]
    have HVV2 := Lib.hid (HVV.out.below hB)
    have HVN := Lib.hid (show Vals w2 u (iterE s (k + 1)) from hV2)
    have X2 := Lib.hid (XW.out.trans (hB.mono XW.out.size))
    have K2 := Lib.hid (KW.out.below hB)
    obtain ⟨pu, cu, rfl⟩ := HVN.out.len
    clear hV2 hB c0 c1 c2 c3 c4 c5 c6
    have HC2 := Lib.hid (HFF.out (iterE s k) (iterE s (k + 1)) k _ _ w2 HVV2.out HVN.out (by have := (iter_lens OK.out HLT.out k).1; omega) (by have := (iter_lens OK.out HLT.out (k + 1)).1; omega) (fun j hj => by have := (iter_lens OK.out HLT.out k).2 j hj; omega) (fun j hj => by have := (iter_lens OK.out HLT.out (k + 1)).2 j hj; omega) X2.out)
    go_wp2_with fail
    refine HC2.out.mono ?_
    rintro e w3 ⟨rfl, hB⟩
    have HVN3 := Lib.hid (HVN.out.below hB)
    have HVV3 := Lib.hid (HVV2.out.below hB)
    have X3 := Lib.hid (X2.out.trans (hB.mono X2.out.size))
    have K3 := Lib.hid (K2.out.below hB)
    have Z3 := X3
    clear hB
    have hkl : k ≤ N := by
      rcases Nat.lt_or_ge N k with h | h
      · have := ON.out N h
        rw [HNO.out] at this
        cases this
      · exact h
    cases hp : P (iterE s k) (iterE s (k + 1)) k with
    | false =>
      have HAT := Lib.hid (show ClimbAt s P k from ⟨ON.out, hp⟩)
      clear hp
      go_wp2_with fail
      first | rw [jumps_ret] | skip
      go_ret3
      exact .inr ⟨NC.out.symm, k, _, rfl, HVV3.out, HAT.out, Z3.out⟩
    | true =>
      have ON2 := Lib.hid (show ∀ j, j < k + 1 → P (iterE s j) (iterE s (j + 1)) j = true from fun j hj => by
        rcases (show j < k ∨ j = k by omega) with h | rfl
        · exact ON.out j h
        · exact hp)
      clear hp
      go_wp2_with fail
      go_step3
      refine ⟨⟨rfl, k + 1, _, _, _, _, _, _, _, _, _, _, _, _, _, _, _, _, _, _, _, _, _, _, _, _, _, _, _, _, _, _, rfl, HVN3.out, X3.out, K3.out, ON2.out⟩, ?_⟩
      simp [intOf]; omega
  case first =>
    go_wp2_with fail
    refine (sBottom_any s _ _ _ _ _ HS0.out HF.out).mono ?_
    rintro e w1 ⟨u, rfl, hV, hB⟩
    rw [← NC.out] at hV ⊢
    have X1 := Lib.hid (B0.out.trans (hB.mono B0.out.size))
    have K1 := Lib.hid (KS.out.below hB)
    rw [okV_yes] at hV
    have HV1 := Lib.hid (show Vals w1 u (iterE s 0) from hV)
    obtain ⟨p1, k1, rfl⟩ := HV1.out.len
    obtain ⟨c0, c1, c2, c3, c4, c5, c6⟩ := K1.out.seven
    clear hB hV
    go_wp2_with fail
    go_step3
    obtain ⟨k, hk0⟩ : ∃ k : Nat, k = 0 := ⟨0, rfl⟩
    have HVV := HV1
    have XW := X1
    have KW := K1
    have ON := Lib.hid (show ∀ j, j < 0 → P (iterE s j) (iterE s (j + 1)) j = true from fun j hj => by omega)
    go_wp2_with fail
    refine (sStep_any s _ _ _ _ _ (iterE s 0) _ (HS.out.below XW.out) HF.out HVV.out (by have := (iter_lens OK.out HLT.out 0).1; omega) (iter_lens OK.out HLT.out 0).2).mono ?_
    rintro e w2 ⟨u, rfl, hV2, hB⟩
    rw [sc_ok NC.out.symm (iter_ok OK.out HLT.out 0).1, okV_yes] at hV2
    rw [sc_ok NC.out.symm (iter_ok OK.out HLT.out 0).1]
    have HVV2 := Lib.hid (HVV.out.below hB)
    have HVN := Lib.hid (show Vals w2 u (iterE s (0 + 1)) from hV2)
    have X2 := Lib.hid (XW.out.trans (hB.mono XW.out.size))
    have K2 := Lib.hid (KW.out.below hB)
    obtain ⟨pu, cu, rfl⟩ := HVN.out.len
    clear hV2 hB c0 c1 c2 c3 c4 c5 c6
    have HC2 := Lib.hid (HFF.out (iterE s 0) (iterE s (0 + 1)) 0 _ _ w2 HVV2.out HVN.out (by have := (iter_lens OK.out HLT.out 0).1; omega) (by have := (iter_lens OK.out HLT.out (0 + 1)).1; omega) (fun j hj => by have := (iter_lens OK.out HLT.out 0).2 j hj; omega) (fun j hj => by have := (iter_lens OK.out HLT.out (0 + 1)).2 j hj; omega) X2.out)
    go_wp2_with fail
    refine HC2.out.mono ?_
    rintro e w3 ⟨rfl, hB⟩
    have HVN3 := Lib.hid (HVN.out.below hB)
    have HVV3 := Lib.hid (HVV2.out.below hB)
    have X3 := Lib.hid (X2.out.trans (hB.mono X2.out.size))
    have K3 := Lib.hid (K2.out.below hB)
    have Z3 := X3
    clear hB
    have hkl : 0 ≤ N := by
      rcases Nat.lt_or_ge N 0 with h | h
      · have := ON.out N h
        rw [HNO.out] at this
        cases this
      · exact h
    cases hp : P (iterE s 0) (iterE s (0 + 1)) 0 with
    | false =>
      have HAT := Lib.hid (show ClimbAt s P 0 from ⟨ON.out, hp⟩)
      clear hp
      go_wp2_with fail
      first | rw [jumps_ret] | skip
      go_ret3
      exact .inr ⟨NC.out.symm, 0, _, rfl, HVV3.out, HAT.out, Z3.out⟩
    | true =>
      have ON2 := Lib.hid (show ∀ j, j < 0 + 1 → P (iterE s j) (iterE s (j + 1)) j = true from fun j hj => by
        rcases (show j < 0 ∨ j = 0 by omega) with h | rfl
        · exact ON.out j h
        · exact hp)
      clear hp
      go_wp2_with fail
      go_step3
      refine ⟨rfl, 0 + 1, _, _, _, _, _, _, _, _, _, _, _, _, _, _, _, _, _, _, _, _, _, _, _, _, _, _, _, _, _, _, rfl, HVN3.out, X3.out, K3.out, ON2.out⟩


end Go.Proofs.Ytfeipfemknnhhaa
