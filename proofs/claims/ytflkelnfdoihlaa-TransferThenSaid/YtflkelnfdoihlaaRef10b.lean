/-
  soughref10.Of, Fits; wordset.Fits: contracts.
-/
import Derived.Test.YtflkelnfdoihlaaRef10
namespace Go.Proofs.Ytflkelnfdoihlaa
open Go.RowKit

set_option maxHeartbeats 3200000 in
set_option maxRecDepth 100000 in
theorem rsetof_any (width : Int) (v : Value) (l : List Int) (w : World) (hl : IntsAt w v l) (hn : l.length ≤ 1000000) :
    Calls Try.prog 76 #[.int .i64 width, v] w fun e w' => ∃ u, e = .returned u ∧ Ws w' u (ofE width l) ∧ Below w.heap.size w w' := by
  have hs := sizeE_le width
  have hmk := make_u64 (sizeE width) ((near width + 63) / 64) (by rw [sizeE_int]) (by omega)
  obtain ⟨o, c, rfl, hc⟩ := hl
  have H1 := Lib.hid hc
  clear hc
  go_enter Try.func76, Try.ntmps76
  go_wp2_with (go_at_call 43; refine (rsize_any _ _).mono ?_; rintro e w1 ⟨rfl, hw1⟩; subst w1)
  clear hmk
  go_loopw [5, 13] (fun u i wr => ∃ k : Nat, k ≤ l.length ∧ i = .int .i64 k ∧ Ws wr u (ofK width l k) ∧ Below w.heap.size w wr)
    (fun _ i _ => l.length - (intOf i).toNat)
  case atStart =>
    refine ⟨0, Nat.zero_le _, rfl, ?_, (Below.refl _ _).alloc (Nat.le_refl _) _⟩
    rw [show ofK width l 0 = List.replicate (sizeE width) 0 from rfl, ← Array.toArray_toList (xs := Array.replicate (sizeE width) (Value.int IntKind.u64 0)), Array.toList_replicate, ← u64s_zero]
    exact (Bk.new _ _ _).ws (by simp) (fun z hz => by rw [List.eq_of_mem_replicate hz]; decide)
  case round =>
    obtain ⟨k, hk, rfl, hl, hB⟩ := hrel
    have HB := Lib.hid hB
    obtain ⟨p3, c3, rfl⟩ := ws_len hl
    have hlen := ofK_len width l k
    have HL := Lib.hid (show Ws wr (Value.slice p3 (sizeE width) c3) (ofK width l k) by rw [← hlen]; exact hl)
    rw [hlen]
    clear hl hB hlen
    by_cases hlt : k < l.length
    · obtain ⟨bb, off, rfl, q⟩ := H1.out (by omega)
      have hck := keepc (q k hlt) HB.out
      have HE := Lib.hid (ofK_succ width l k hlt)
      clear q
      generalize l[k]?.getD 0 = n at *
      by_cases h0 : 0 ≤ n
      · obtain ⟨m, rfl⟩ : ∃ m : Nat, n = m := ⟨n.toNat, by omega⟩
        go_wp2_with fail
        refine (width_any width _).mono ?_
        rintro e w1 ⟨rfl, hww⟩
        subst w1
        have HN := Lib.hid (near_bd width)
        by_cases h1 : (m : Int) < near width
        · have HS := Lib.hid (show ofK width l (k + 1) = withE (ofK width l k) m by rw [HE.out]; unfold ofStep; rw [if_pos ⟨by omega, h1⟩, Int.toNat_natCast])
          have hq : m / 64 < (ofK width l k).length := by have := sizeE_int width; rw [ofK_len]; omega
          have HWi := Lib.hid (with_any m _ (ofK width l k) wr HL.out hq (by rw [ofK_len]; omega))
          clear hq
          go_wp2_with fail
          refine HWi.out.mono ?_
          rintro e w2 ⟨u2, rfl, hW2, hB2⟩
          have HB2 := Lib.hid (HB.out.trans (hB2.mono HB.out.size))
          have HW2 := Lib.hid hW2
          rw [← HS.out] at HW2
          obtain ⟨p4, c4, rfl⟩ := ws_len hW2
          clear hW2 hB2
          go_wp2_with fail
          go_roundw
          case rel => exact ⟨k + 1, by omega, by go_num, HW2.out, HB2.out⟩
          case measure => simp [intOf]; omega
        · have HS := Lib.hid (show ofK width l (k + 1) = ofK width l k by rw [HE.out]; unfold ofStep; rw [if_neg (by omega)])
          have HK2 := HL
          rw [← HS.out] at HK2
          go_wp2_with fail
          go_roundw
          case rel => exact ⟨k + 1, by omega, by go_num, HK2.out, HB.out⟩
          case measure => simp [intOf]; omega
      · have HS := Lib.hid (show ofK width l (k + 1) = ofK width l k by rw [HE.out]; unfold ofStep; rw [if_neg (by omega)])
        have HK2 := HL
        rw [← HS.out] at HK2
        go_wp2_with fail
        go_roundw
        case rel => exact ⟨k + 1, by omega, by go_num, HK2.out, HB.out⟩
        case measure => simp [intOf]; omega
    · obtain rfl : k = l.length := by omega
      have HL2 := HL
      rw [show ofK width l l.length = ofE width l by unfold ofK ofE; rw [List.take_length]] at HL2
      go_wp2_with fail
      go_ret
      exact ⟨_, rfl, HL2.out, HB.out⟩

set_option maxHeartbeats 1600000 in
set_option maxRecDepth 100000 in
theorem fits_any (width : Int) (v : Value) (zs : List Nat) (w : World) (hw : Ws w v zs) (hx : zs.length ≤ 1000) :
    Calls Try.prog 48 #[v, .int .i64 width] w fun e w' => e = .returned (.bool (fitsE zs width)) ∧ Below w.heap.size w w' := by
  have hs := sizeE_le width
  have HZ := Lib.hid hw.1
  have H1 := Lib.hid hw
  obtain ⟨p, c, rfl⟩ := ws_len hw
  have B0 := Lib.hid (Below.refl w.heap.size w)
  clear hw
  by_cases hl : zs.length = sizeE width
  · have HR := Lib.hid (show fitsE zs width = subE zs (fullE width) by unfold fitsE; rw [fits_eq zs width HZ.out hl, decide_eq_true hl, Bool.true_and])
    have hb : ((zs.length : Int) == (near width + 63) / 64) = true := by rw [sizeE_int]; simp; omega
    clear hl
    go_enter Try.func48, Try.ntmps48
    go_wp2_with fail
    refine (size_any _ _).mono ?_
    rintro e w1 ⟨rfl, hww⟩
    subst w1
    go_wp2_with fail
    refine (full_any width w).mono ?_
    rintro e w3 ⟨u, rfl, hW, hB⟩
    have HW3 := Lib.hid hW
    have H3 := Lib.hid (H1.out.below hB)
    have B3 := Lib.hid hB
    obtain ⟨p3, c3, rfl⟩ := ws_len hW
    have hfl : (fullE width).length ≤ 16 := by rw [fullE_len]; exact hs
    clear hW hB
    go_wp2_with fail
    refine (within_any _ _ zs (fullE width) _ H3.out HW3.out (by omega) (by omega)).mono ?_
    rintro e w4 ⟨rfl, hB⟩
    have B4 := Lib.hid (B3.out.trans (hB.mono B3.out.size))
    clear hB
    have HR2 := Lib.hid (show (lenE (bothE minN zs (fullE width)) == 0) = fitsE zs width from HR.out.symm)
    rw [HR2.out]
    go_wp2_with fail
    go_ret
    exact ⟨rfl, B4.out⟩
  · have HR := Lib.hid (show fitsE zs width = false by unfold fitsE; rw [decide_eq_false hl, Bool.false_and])
    have hb : ((zs.length : Int) == (near width + 63) / 64) = false := by rw [sizeE_int]; simp; omega
    go_enter Try.func48, Try.ntmps48
    go_wp2_with fail
    refine (size_any _ _).mono ?_
    rintro e w1 ⟨rfl, hww⟩
    subst w1
    go_wp2_with fail
    go_ret
    exact ⟨ret_bool HR.out.symm, B0.out⟩

set_option maxHeartbeats 1600000 in
set_option maxRecDepth 100000 in
theorem rfits_any (width : Int) (v : Value) (zs : List Nat) (w : World) (hw : Ws w v zs) (hx : zs.length ≤ 1000) :
    Calls Try.prog 50 #[v, .int .i64 width] w fun e w' => e = .returned (.bool (fitsE zs width)) ∧ Below w.heap.size w w' := by
  have hs := sizeE_le width
  have H1 := Lib.hid hw
  obtain ⟨p, c, rfl⟩ := ws_len hw
  have B0 := Lib.hid (Below.refl w.heap.size w)
  clear hw
  by_cases hl : zs.length = sizeE width
  · have hb : ((zs.length : Int) != (near width + 63) / 64) = false := by rw [sizeE_int]; simp; omega
    have HF := Lib.hid (show (∀ n, n < 64 * zs.length → near width ≤ (n : Int) → hasE zs (n : Nat) = false) → fitsE zs width = true from fun h => by unfold fitsE; rw [decide_eq_true hl, Bool.true_and]; exact decide_eq_true h)
    have HG := Lib.hid (show ∀ n, n < 64 * zs.length → near width ≤ (n : Int) → hasE zs (n : Nat) = true → fitsE zs width = false from fun n h1 h2 h3 => by
      unfold fitsE; rw [decide_eq_true hl, Bool.true_and]; refine decide_eq_false fun h => ?_
      have := h n h1 h2
      rw [h3] at this; cases this)
    have HLn := Lib.hid hl
    clear hl
    go_enter Try.func50, Try.ntmps50
    go_wp2_with fail
    refine (rsize_any _ _).mono ?_
    rintro e w1 ⟨rfl, hww⟩
    subst w1
    go_wp2_with fail
    refine (width_any _ _).mono ?_
    rintro e w1 ⟨rfl, hww⟩
    subst w1
    obtain ⟨W, hW⟩ : ∃ W : Nat, near width = W := ⟨(near width).toNat, by have := near_bd width; omega⟩
    have HW := Lib.hid hW
    have hwb : W ≤ 64 * zs.length := by have := sizeE_int width; have := HLn.out; omega
    rw [hW] at HF HG
    clear hb hW
    go_wp2_with fail
    go_loopw [5] (fun i wr => ∃ k : Nat, W ≤ k ∧ k ≤ 64 * zs.length ∧ i = .int .i64 k ∧ Hid (∀ n, n < k → (W : Int) ≤ (n : Int) → hasE zs (n : Nat) = false) ∧ wr = w)
      (fun i _ => 64 * zs.length - (intOf i).toNat)
    case atStart => exact ⟨W, Nat.le_refl _, hwb, by rw [HW.out], Lib.hid (fun n h1 h2 => by omega), rfl⟩
    case round =>
      obtain ⟨k, hWk, hk, rfl, HA, rfl⟩ := hrel
      by_cases hlt : k < 64 * zs.length
      · have HS := Lib.hid (show hasE zs (k : Nat) = false → ∀ n, n < k + 1 → (W : Int) ≤ (n : Int) → hasE zs (n : Nat) = false from fun e n h1 h2 => by
          rcases (show n < k ∨ n = k by omega) with h | rfl
          · exact HA.out n h h2
          · exact e)
        have HG2 := Lib.hid (HG.out k hlt (by omega))
        go_wp2_with fail
        refine (rhas_any k _ _ _ H1.out (by omega)).mono ?_
        rintro e w1 ⟨rfl, hww⟩
        subst w1
        cases hb : hasE zs (k : Nat) with
        | false =>
          have HS2 := Lib.hid (HS.out hb)
          clear hb
          go_wp2_with fail
          go_roundw
          case rel => exact ⟨k + 1, by omega, by omega, by go_num, HS2, trivial⟩
          case measure => simp [intOf]; omega
        | true =>
          have HG3 := Lib.hid (HG2.out hb)
          clear hb
          go_wp2_with fail
          go_ret
          exact ⟨ret_bool HG3.out.symm, B0.out⟩
      · obtain rfl : k = 64 * zs.length := by omega
        have HF2 := Lib.hid (HF.out HA.out)
        go_wp2_with fail
        go_ret
        exact ⟨ret_bool HF2.out.symm, B0.out⟩
  · have HR := Lib.hid (show fitsE zs width = false by unfold fitsE; rw [decide_eq_false hl, Bool.false_and])
    have hb : ((zs.length : Int) != (near width + 63) / 64) = true := by rw [sizeE_int]; simp; omega
    go_enter Try.func50, Try.ntmps50
    go_wp2_with fail
    refine (rsize_any _ _).mono ?_
    rintro e w1 ⟨rfl, hww⟩
    subst w1
    go_wp2_with fail
    go_ret
    exact ⟨ret_bool HR.out.symm, B0.out⟩

end Go.Proofs.Ytflkelnfdoihlaa
