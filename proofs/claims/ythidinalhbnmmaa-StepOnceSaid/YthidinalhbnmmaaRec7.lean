/-
  A Log as a memory; soughlaw24: awake, StepOnce: its walk. Written by wip/gen/mkrec7.py.
-/
import Derived.Test.YthidinalhbnmmaaRec4
import Derived.Test.YthidinalhbnmmaaStpAll
import Derived.Test.YthidinalhbnmmaaStepLaw
namespace Go.Proofs.Ythidinalhbnmmaa
open Go.RowKit

def LgI (lb b g : Nat) (w : World) (zs : List Int) (n : Nat) (S : List Nat) : Prop := ∃ L v, Lg w 0 lb b g zs L v ∧ L.length = n ∧ S = lgB lb b g v
theorem LgI.noted {lb b g : Nat} {w w' : World} {zs' : List Int} {n : Nat} {L : List EvT} {v : Value} {e : EvT} (hl : L.length = n) (h : Noted w w' 0 lb b g zs' L v e) : Mvd (LgI lb b g) w w' zs' (n + 1) (lgB lb b g v) := by
  obtain ⟨v', h1, h2, h3⟩ := h
  exact ⟨lgB lb b g v', ⟨L ++ [e], v', h1, by rw [List.length_append, hl]; rfl, rfl⟩, h2, h3⟩
theorem logJ (lb b g : Nat) : MemJ 55 (.pointer (some ⟨lb, 0, none⟩)) (LgI lb b g) 101 100 102 51 41 (.pointer (some ⟨lb, 0, none⟩)) (.pointer (some ⟨lb, 0, none⟩)) (.pointer (some ⟨lb, 0, none⟩)) (.pointer (some ⟨lb, 0, none⟩)) (.pointer (some ⟨lb, 0, none⟩)) where
  load S a zs n w hn h := by obtain ⟨L, v, h, hl, rfl⟩ := h; exact (lload_any a 0 lb b g zs L v w h (by omega) (Nat.zero_le _)).mono fun e w' ⟨he, k⟩ => ⟨he, LgI.noted hl k⟩
  store S a u zs n w hn h := by obtain ⟨L, v, h, hl, rfl⟩ := h; exact (lstore_any a u 0 lb b g zs L v w h (by omega) (Nat.zero_le _)).mono fun e w' ⟨he, k⟩ => ⟨he, LgI.noted hl k⟩
  cas S a o u zs n w hn h := by obtain ⟨L, v, h, hl, rfl⟩ := h; exact (lcas_any a o u 0 lb b g zs L v w h (by omega) (Nat.zero_le _)).mono fun e w' ⟨he, k⟩ => ⟨he, LgI.noted hl k⟩
  add S a d zs n w hn h := by obtain ⟨L, v, h, hl, rfl⟩ := h; exact (ladd_any a d 0 lb b g zs L v w h (by omega) (Nat.zero_le _)).mono fun e w' ⟨he, k⟩ => ⟨he, LgI.noted hl k⟩
  len S zs n w _ h := by obtain ⟨L, v, h, hl, rfl⟩ := h; exact (llen_any 0 lb b g zs L v w h).mono fun e w' ⟨he, k⟩ => ⟨he, lgB lb b g v, ⟨L, v, k ▸ h, hl, rfl⟩, k ▸ .refl _ _, fun _ hk => .inl hk⟩
  el := enters_of Try.func101 (by kernel_rfl) rfl
  nl w := by kernel_rfl
  ml w := by kernel_rfl
  es := enters_of Try.func100 (by kernel_rfl) rfl
  ns w := by kernel_rfl
  ms w := by kernel_rfl
  ec := enters_of Try.func102 (by kernel_rfl) rfl
  nc w := by kernel_rfl
  mc w := by kernel_rfl
  ea := enters_of Try.func51 (by kernel_rfl) rfl
  na w := by kernel_rfl
  ma w := by kernel_rfl
  en := enters_of Try.func41 (by kernel_rfl) rfl
  nn w := by kernel_rfl
  mn w := by kernel_rfl
  keep T S zs n w w' h k hs := by
    obtain ⟨L, v, h, hl, rfl⟩ := h
    exact ⟨L, v, h.fr k hs, hl, rfl⟩
  lt S zs n w h s hs := by
    obtain ⟨L, v, h, hl, rfl⟩ := h
    exact h.lt s hs

theorem nxN_le (L : List InsT) (a : Int) (n : Nat) : n ≤ nxN L a n ∧ nxN L a n ≤ n + 1 := by
  unfold nxN doN
  split
  · omega
  · split <;> omega

set_option maxHeartbeats 3200000 in
set_option maxRecDepth 100000 in
theorem stepdone_any (b gi : Nat) (sl : Value) (L : List InsT) (rs : List Int) (at' d : Int) (m : Value) (w : World) (h : Pg w b sl rs at') (hL : Ins w sl L gi) (hdn : dn L at' = true) :
    Calls Try.prog 27 #[.pointer (some ⟨b, 0, none⟩), m, .int .i64 d] w fun e w' => e = .returned (.bool true) ∧ ∃ n, w' = w.drewN n := by
  have HP := Lib.hid h
  have HL := Lib.hid hL
  have HD := Lib.hid hdn
  clear h hL hdn
  go_enter Try.func27, Try.ntmps27
  go_wp2_with fail
  refine (done_any b gi _ rs L at' _ HP.out HL.out).mono ?_
  rintro e w1 ⟨rfl, n1, rfl⟩
  rw [HD.out]
  go_wp2_with fail
  refine (done_any b gi _ rs L at' _ (HP.out.fr ((Fr.refl [] w).drewN n1) (by simp)) (HL.out.fr ((Fr.refl [] w).drewN n1) (by simp))).mono ?_
  rintro e w1 ⟨rfl, n2, rfl⟩
  go_wp2_with fail
  go_ret
  exact ⟨ret_bool (by rw [HD.out]), n1 + n2, rfl⟩

set_option maxHeartbeats 3200000 in
set_option maxRecDepth 100000 in
theorem stepnone_any (m : Value) (d : Int) (w : World) :
    Calls Try.prog 27 #[.pointer none, m, .int .i64 d] w fun e w' => e = .returned (.bool true) ∧ ∃ n, w' = w.drewN n := by
  go_enter Try.func27, Try.ntmps27
  go_wp2_with fail
  refine (done_none _).mono ?_
  rintro e w1 ⟨rfl, n1, rfl⟩
  go_wp2_with fail
  refine (done_none _).mono ?_
  rintro e w1 ⟨rfl, n2, rfl⟩
  go_wp2_with fail
  go_ret
  exact ⟨rfl, n1 + n2, rfl⟩

set_option maxHeartbeats 3200000 in
set_option maxRecDepth 100000 in
theorem or_nil (w : World) :
    Calls Try.prog 93 #[Value.nilIface] w fun e w' => ∃ b g, e = .returned (.iface 24 (.pointer (some ⟨b, 0, none⟩))) ∧ Pm w' b g [] ∧ Below w.heap.size w w' ∧ w.heap.size ≤ b ∧ w.heap.size ≤ g := by
  go_enter Try.func93, Try.ntmps93
  go_wp2_with fail
  refine (newPlain_any _ _).mono ?_
  rintro e w1 ⟨b, g, rfl, hP, hB, hb, hg⟩
  rw [show List.replicate (memn 0) (0 : Int) = [] from rfl] at hP
  have HP := Lib.hid hP
  have HB := Lib.hid hB
  clear hP hB
  go_wp2_with fail
  go_ret
  exact ⟨b, g, rfl, HP.out, HB.out, hb, hg⟩

set_option maxHeartbeats 3200000 in
set_option maxRecDepth 100000 in
theorem stepnil_any (b gi : Nat) (sl : Value) (L : List InsT) (rs : List Int) (at' d : Int) (w : World) (h : Pg w b sl rs at') (hL : Ins w sl L gi) (hgi : 0 < L.length → gi ≠ b ∧ gi < w.heap.size) (hl : L.length ≤ 100000) :
    Calls Try.prog 27 #[.pointer (some ⟨b, 0, none⟩), Value.nilIface, .int .i64 d] w fun e w' => e = .returned (.bool (dn L (nxA L rs at'))) ∧ Pg w' b sl (nxR L d rs [] at') (nxA L rs at') ∧ Fr [b] w w' := by
  have HP := Lib.hid h
  have HL := Lib.hid hL
  have HG := Lib.hid hgi
  have hbl := h.1.lt
  obtain ⟨o, c, rfl, hle, hc⟩ := hL
  clear hgi
  cases hdn : dn L at' with
  | true =>
    have H1 := Lib.hid (show nxA L rs at' = at' by unfold nxA; rw [if_pos hdn])
    have H2 := Lib.hid (show nxR L d rs [] at' = rs by unfold nxR; rw [if_pos hdn])
    refine (stepdone_any b gi _ L rs at' d _ w HP.out HL.out hdn).mono ?_
    rintro e w' ⟨rfl, n, rfl⟩
    exact ⟨ret_bool (by rw [H1.out, hdn]), by rw [H1.out, H2.out]; exact HP.out.fr ((Fr.refl [] w).drewN n) (by simp), (Fr.refl _ w).drewN n⟩
  | false =>
    have hx : 0 ≤ at' ∧ at' < L.length := by
      unfold dn at hdn
      simp only [Bool.or_eq_false_iff, decide_eq_false_iff_not] at hdn
      omega
    obtain ⟨k, rfl⟩ : ∃ k : Nat, at' = k := ⟨at'.toNat, by omega⟩
    have hk : k < L.length := by omega
    obtain ⟨off, rfl, hd⟩ := hc (by omega)
    obtain ⟨c0, c1, c2, c3⟩ := hd k hk
    have H1 := Lib.hid (show nxA L rs k = doA (insAt L k) rs k by unfold nxA; rw [if_neg (by rw [hdn]; simp)]; rfl)
    have H2 := Lib.hid (show nxR L d rs [] k = doR (insAt L k) d rs [] by unfold nxR; rw [if_neg (by rw [hdn]; simp)]; rfl)
    have HD := Lib.hid hdn
    clear hdn hd hc
    generalize insAt L k = x at *
    have g0 := h.at'
    have g1 : w.cell? ⟨b, 0, none⟩ = some (.slice (some ⟨gi, off, none⟩) L.length c) := h.1.cell 0
    clear h
    go_enter Try.func27, Try.ntmps27
    go_wp2_with fail
    refine (done_any b gi _ rs L _ _ HP.out HL.out).mono ?_
    rintro e w1 ⟨rfl, n1, rfl⟩
    rw [HD.out]
    go_wp2_with fail
    go_region_with (first
      | (go_at_call 93; refine (or_nil _).mono ?_; rintro e w9 ⟨b9, g9, rfl, hM9, hB9, hb9, hg9⟩; have HM9 := Lib.hid hM9; have FB9 := Lib.hid (show Fr [] w w9 from ((Fr.refl [] w).drewN (n1 + 1)).trans (.of hB9)); have HN9 := Lib.hid (show w.heap.size ≤ b9 ∧ w.heap.size ≤ g9 from ⟨hb9, hg9⟩); clear hM9 hB9 hb9 hg9; have e0 := cell_fr c0 FB9.out (by simp); have e1 := cell_fr c1 FB9.out (by simp); have e2 := cell_fr c2 FB9.out (by simp); have e3 := cell_fr c3 FB9.out (by simp); have e4 := cell_fr g0 FB9.out (by simp); have e5 := cell_fr g1 FB9.out (by simp))
      | (go_at_call 95; refine (pdoj_any (plainJ b9 g9) [b9, g9] b _ rs [] 0 x _ d _ (HP.out.fr FB9.out (by simp)) ⟨HM9.out, rfl⟩ (by decide) (by have := HN9.out; simp; omega) (by omega)).mono ?_; rintro e w10 ⟨rfl, hP10, hV⟩; obtain ⟨S10, hI10, hF10, _⟩ := hV; have HP10 := Lib.hid hP10; have HF10 := Lib.hid hF10; clear hP10 hI10 hF10))
    all_goals
      have F10 := Lib.hid (show Fr [b] w w10 from (FB9.out.mono (by simp)).from HF10.out (fun i hi hl => by have := HN9.out; simp at hi; simp; omega))
      go_wp2_with fail
      refine (done_any b gi _ _ L _ _ HP10.out (HL.out.fr F10.out (fun h0 => by have := HG.out h0; simp; omega))).mono ?_
      rintro e w1 ⟨rfl, n2, rfl⟩
      go_wp2_with fail
      go_ret
      exact ⟨ret_bool (by rw [H1.out]), by rw [H1.out, H2.out]; exact HP10.out.fr ((Fr.refl [] _).drewN n2) (by simp), F10.out.drewN n2⟩

def L0 : List InsT := [⟨5, 0, 0, 5⟩, ⟨2, 0, 0, 0⟩, ⟨0, 0, 0, 0⟩]

set_option maxHeartbeats 1600000 in
set_option maxRecDepth 100000 in
theorem awake24j_any (w : World) : Calls Try.prog 24 #[] w fun e w' => e = .returned (.bool true) ∧ Below w.heap.size w w' := by
  go_enter Try.func24, Try.ntmps24
  go_wp2_with fail
  refine (newPlain_any _ _).mono ?_
  rintro e w1 ⟨b1, g1, rfl, hP, hB, hb, hg⟩
  rw [show List.replicate (memn 1) (0 : Int) = [0] from rfl] at hP
  have HM1 := Lib.hid hP
  have HB1 := Lib.hid hB
  have hbl := hP.1.lt
  have hgl := hP.2.1.lt
  clear hP hB
  go_wp2_with fail
  have hI : Ins (w1.alloc (.cells #[.int .i64 5, .int .i64 0, .int .i64 0, .int .u64 5, .int .i64 2, .int .i64 0, .int .i64 0, .int .u64 0, .int .i64 0, .int .i64 0, .int .i64 0, .int .u64 0] 166)) (.slice (some ⟨w1.heap.size, 0, none⟩) 3 3) L0 w1.heap.size := by
    have hk := Bk.new w1 166 [.int .i64 5, .int .i64 0, .int .i64 0, .int .u64 5, .int .i64 2, .int .i64 0, .int .i64 0, .int .u64 0, .int .i64 0, .int .i64 0, .int .i64 0, .int .u64 0]
    refine ⟨_, _, rfl, by decide, fun _ => ⟨0, rfl, fun j hj => ?_⟩⟩
    match j, hj with
    | 0, _ => exact ⟨hk.cell 0, hk.cell 1, hk.cell 2, hk.cell 3⟩
    | 1, _ => exact ⟨hk.cell 4, hk.cell 5, hk.cell 6, hk.cell 7⟩
    | 2, _ => exact ⟨hk.cell 8, hk.cell 9, hk.cell 10, hk.cell 11⟩
  refine (new_any L0 _ _ _ hI (by decide)).mono ?_
  rintro e w2 ⟨b, g, sl, rfl, hP, hL, hg2, hb2, hb3, hB2⟩
  have F2 : Fr [] w1 w2 := ((Fr.refl [] w1).alloc _).trans (.of hB2)
  have hg3 := hg2 (by decide)
  simp only [World.size_alloc] at hb2 hg3
  have HP2 := Lib.hid hP
  have HL2 := Lib.hid hL
  have HM2 := Lib.hid (show Pm w2 b1 g1 [0] from ⟨HM1.out.1.fr F2 (by simp), HM1.out.2.1.fr F2 (by simp), HM1.out.2.2⟩)
  have HB2 := Lib.hid (HB1.out.trans (F2.below.mono HB1.out.size))
  have HS := Lib.hid (show b ∉ [b1, g1] by simp; omega)
  have HG := Lib.hid (show 0 < L0.length → g ∉ b :: [b1, g1] from fun _ => by simp; omega)
  clear hI hg2 hP hL hB2 F2
  go_wp2_with fail
  refine (stepj_any (plainJ b1 g1) [b1, g1] b g sl L0 [0, 0, 0, 0] [0] 0 0 0 _ HP2.out HL2.out ⟨HM2.out, rfl⟩ (by decide) HS.out HG.out (by decide)).mono ?_
  rintro e w3 ⟨rfl, hP, hV⟩
  obtain ⟨S1, ⟨hM, rfl⟩, hF, _⟩ := hV
  rw [show dn L0 (nxA L0 [0, 0, 0, 0] 0) = false from by kernel_rfl]
  rw [show nxR L0 0 [0, 0, 0, 0] [0] 0 = [5, 0, 0, 0] from by kernel_rfl, show nxA L0 [0, 0, 0, 0] 0 = 1 from by kernel_rfl] at hP
  rw [show nxZ L0 [0, 0, 0, 0] [0] 0 = [0] from by kernel_rfl] at hM
  have HP3 := Lib.hid hP
  have HL3 := Lib.hid (HL2.out.fr hF HG.out)
  have HM3 := Lib.hid hM
  have HF3 := Lib.hid hF
  clear hP hM hF
  go_wp2_with fail
  refine (stepj_any (plainJ b1 g1) [b1, g1] b g sl L0 [5, 0, 0, 0] [0] 0 1 0 _ HP3.out HL3.out ⟨HM3.out, rfl⟩ (by decide) HS.out HG.out (by decide)).mono ?_
  rintro e w4 ⟨rfl, hP, hV⟩
  obtain ⟨S1, ⟨hM, rfl⟩, hF, _⟩ := hV
  rw [show dn L0 (nxA L0 [5, 0, 0, 0] 1) = true from by kernel_rfl]
  rw [show nxR L0 0 [5, 0, 0, 0] [0] 1 = [5, 0, 0, 0] from by kernel_rfl, show nxA L0 [5, 0, 0, 0] 1 = 2 from by kernel_rfl] at hP
  rw [show nxZ L0 [5, 0, 0, 0] [0] 1 = [5] from by kernel_rfl] at hM
  have HP4 := Lib.hid hP
  have HL4 := Lib.hid (HL3.out.fr hF HG.out)
  have HM4 := Lib.hid (show Pm w4 b1 g1 [5] from hM)
  have HF4 := Lib.hid (HF3.out.trans hF)
  clear hP hM hF
  go_wp2_with fail
  refine (load_any _ b1 g1 [5] _ HM4.out).mono ?_
  rintro e w5 ⟨rfl, hB⟩
  have HF5 := Lib.hid (show Fr [] w4 w5 from .of hB)
  clear hB
  rw [show ldv [5] 0 = 5 from by kernel_rfl]
  go_wp2_with fail
  refine (done_any b g sl _ L0 _ _ (HP4.out.fr HF5.out (by simp)) (HL4.out.fr HF5.out (by simp))).mono ?_
  rintro e w6 ⟨rfl, n6, hw6⟩
  rw [show dn L0 2 = true from by kernel_rfl]
  have HF6 := Lib.hid (show Fr [] w5 w6 by subst hw6; exact (Fr.refl [] _).drewN n6)
  clear hw6
  go_wp2_with fail
  refine (at_any b sl _ _ _ ((HP4.out.fr HF5.out (by simp)).fr HF6.out (by simp))).mono ?_
  rintro e w7 ⟨rfl, rfl⟩
  go_wp2_with fail
  go_ret
  have F : Fr [] w w7 := ((Fr.of HB2.out).from (HF4.out.trans ((HF5.out.trans HF6.out).mono (by simp))) (by simp; omega))
  exact ⟨rfl, F.below⟩



end Go.Proofs.Ythidinalhbnmmaa
