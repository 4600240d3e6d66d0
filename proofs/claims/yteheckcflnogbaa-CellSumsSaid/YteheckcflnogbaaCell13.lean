/-
  soughref30.Sum of any list; what CellSums looks at. Written by wip/gen/mkcell13.py.
-/
import Derived.Test.YteheckcflnogbaaCellM
import Derived.Test.YteheckcflnogbaaLatPk1
import Derived.Test.YteheckcflnogbaaCell6
namespace Go.Proofs.Yteheckcflnogbaa
open Go.RowKit

set_option maxHeartbeats 3200000 in
set_option maxRecDepth 100000 in
theorem rsum_own (what : Int) (v vl : Value) (a : List Nat) (ls : List (List Nat)) (f : Nat → Nat → Nat) (w : World) (h : Ws w v a) (hv : ∃ ad c, v = .slice (some ad) a.length c) (hl : Lls w vl ls) (ha : a.length ≤ 100000) (hll : ls.length ≤ 100000) (hf2 : ∀ x y, x < 18446744073709551616 → y < 18446744073709551616 → f x y < 18446744073709551616) (hf : ∀ (x y : Nat) (w : World), x < 18446744073709551616 → y < 18446744073709551616 → Calls Try.prog 31 #[.int .i64 what, .int .u64 x, .int .u64 y] w fun e w' => e = .returned (.int .u64 (f x y : Nat)) ∧ Below w.heap.size w w') :
    Calls Try.prog 86 #[.int .i64 what, v, vl] w fun e w' => ∃ u, e = .returned u ∧ Ow w' w.heap.size u a.length (sumE f a ls) ∧ small64 (sumE f a ls) ∧ Below w.heap.size w w' := by
  obtain ⟨i0, hi, hz0, hz1, hz2⟩ := info_parts u6_info
  have HRF := Lib.hid hf
  have HF2 := Lib.hid hf2
  have HB0 := Lib.hid ((Below.refl w.heap.size w).alloc (Nat.le_refl _) (.cells #[] 29))
  have HU := Lib.hid (ow_bare w w.heap.size (Nat.le_refl _))
  obtain ⟨ad, c, rfl⟩ := hv
  have HSA := Lib.hid (show small64 a from h.1)
  have HQ := Lib.hid (show ∀ j u, (ns a)[j]? = some u → w.cell? (ad.add j) = some u from fun j u hj => by
    have hlt : j < a.length := by
      rcases Nat.lt_or_ge j a.length with h | h
      · exact h
      · rw [List.getElem?_eq_none (by simpa [ns] using h)] at hj; cases hj
    rw [ns_at a j hlt] at hj
    injection hj with hj
    subst hj
    obtain ⟨_, ⟨h1, _⟩ | ⟨ad', c', h1, hc⟩⟩ := h
    · cases h1
    · injection h1 with h1
      injection h1 with h1
      subst h1
      exact hc j hlt)
  obtain ⟨ol, cl, rfl, hlc⟩ := hl
  have HL := Lib.hid hlc
  clear h hlc hf hf2
  go_enter Try.func86, Try.ntmps86
  go_wp2_with (at_builtin; refine wpList_append_own _ rfl _ _ 22 rfl w.heap.size 29 i0 (.int .u64 0) 1 8 Try.underlying22 hi hz0 hz1 hz2 rfl (by decide) _ 0 [] rfl HU.out ad a.length c (ns a) rfl ?c1 ?c2 ?c3 ?c4 ?c5 ?c6 ?_)
  case c1 => simp [ns]
  case c2 => exact fun j u hj => keepc (HQ.out j u hj) HB0.out
  case c3 => exact fun u hu => by obtain ⟨_, _, rfl⟩ := List.mem_map.1 hu; rfl
  case c4 => unfold maxLen; omega
  case c5 => omega
  case c6 => simp
  intro v' w1 hown hgrow hnil
  have HO := Lib.hid (show Ow w1 w.heap.size v' a.length a by unfold Ow; simpa using hown)
  have HB1 := Lib.hid (HB0.out.grown hgrow (by simp) (fun k hk => (HU.out.lt k hk).1))
  clear hgrow hown
  obtain ⟨ov, cv, rfl⟩ := own_slice HO.out
  clear hnil
  go_wp2_with fail
  go_loopw [16] (fun i wr => ∃ j : Nat, j ≤ ls.length ∧ i = .int .i64 j ∧ Ow wr w.heap.size (.slice ov a.length cv) a.length (sumE f a (ls.take j)) ∧ Hid (small64 (sumE f a (ls.take j))) ∧ Below w.heap.size w wr)
    (fun i _ => ls.length - (intOf i).toNat)
  case atStart => exact ⟨0, Nat.zero_le _, rfl, HO.out, Lib.hid HSA.out, HB1.out⟩
  case round =>
    obtain ⟨j, hj, rfl, hO, HSM, hB⟩ := hrel
    have HO := Lib.hid hO
    have HB := Lib.hid hB
    clear hO hB
    by_cases hlt : j < ls.length
    · obtain ⟨lb, lo, rfl, hd⟩ := HL.out (by omega)
      obtain ⟨vx, hvx, hx⟩ := hd j hlt
      have HSX := Lib.hid (show small64 (ls[j]?.getD []) from hx.1)
      have hvr := keepc hvx HB.out
      have HX := Lib.hid hx
      have HST := Lib.hid (sumE_take f a ls j hlt)
      have HZL := Lib.hid (sumE_len f a (ls.take j))
      have hji : (j : Int) < ls.length := by omega
      clear hd hvx hx
      generalize ls[j]?.getD [] = x at *
      generalize sumE f a (ls.take j) = z at *
      have HO0 := Lib.hid (show Ow wr w.heap.size (.slice ov a.length cv) a.length (joinK f z x 0) from HO.out)
      go_wp2_with fail
      go_loopw [22] (fun i wr => ∃ k : Nat, k ≤ a.length ∧ i = .int .i64 k ∧ Ow wr w.heap.size (.slice ov a.length cv) a.length (joinK f z x k) ∧ Below w.heap.size w wr)
        (fun i _ => a.length - (intOf i).toNat)
      case atStart => exact ⟨0, Nat.zero_le _, rfl, HO0.out, HB.out⟩
      case round =>
        obtain ⟨k, hk, rfl, hO, hB⟩ := hrel
        have HBQ := Lib.hid hB
        clear hB
        have hyl : (joinK f z x k).length = a.length := by rw [joinK_len, HZL.out]
        have HSY := Lib.hid (joinK_small HF2.out HSM.out HSX.out k)
        have HJS := Lib.hid (show joinK f z x (k + 1) = (joinK f z x k).set k (f ((joinK f z x k)[k]?.getD 0) (x[k]?.getD 0)) from rfl)
        by_cases hltk : k < a.length
        · generalize joinK f z x k = y at *
          have hO' : wr.ownsRow w.heap.size 29 1 (.slice ov a.length cv) a.length (ns y) := hO
          obtain ⟨g, cap, e, hgB, hcell⟩ := row_at30 hO' (by omega)
          injection e with e1 e2 e3
          subst e1 e3
          have hly : k < y.length := by omega
          have HRD := Lib.hid (hcell k _ (ns_at y k hly))
          have HCE := Lib.hid (show ∀ W : World, W.ownsRow w.heap.size 29 1 (.slice (some ⟨g, 0, none⟩) a.length cv) a.length (ns y) → W.cell? ⟨g, k, none⟩ = some (.int .u64 ((y[k]?.getD 0 : Nat) : Int)) from fun W hW => by
            have := hW.cells (g := g) rfl k _ (ns_at y k hly)
            rwa [Addr.add_lit, Nat.zero_add] at this)
          have HGB := Lib.hid hgB
          have HYK := Lib.hid (small_at HSY.out k)
          have HXK := Lib.hid (small_at HSX.out k)
          have HWX := Lib.hid (show wdA x k = ((x[k]?.getD 0 : Nat) : Int) from rfl)
          generalize y[k]?.getD 0 = yk at *
          generalize x[k]?.getD 0 = xk at *
          have HYL := Lib.hid hyl
          have HOQ := Lib.hid hO'
          have hki : (k : Int) < a.length := by omega
          clear hcell hO hO' e2 hgB
          go_wp2_with fail
          refine wp_region_held_drew (S := (fun _ => True)) (by kernel_rfl) ?_ (fun hHeld => ?_)
          · exact trivial
          refine take_at 0 (v := ?_) (some 25) rfl rfl (by kernel_rfl) (by kernel_rfl) (by kernel_rfl) (fun _ _ _ h => h) (Or.inl ⟨by rfl, ?_⟩) hHeld ?_
          rotate_left
          · (intro w hSw; (try dsimp only at hSw); go_simp; (try with_reducible rfl))
          simp only [Act.put, List.setIfInBounds_toArray, List.set_cons_zero, List.set_cons_succ]
          refine take_at 1 (v := ?_) (some 26) rfl rfl (by kernel_rfl) (by kernel_rfl) (by kernel_rfl) (fun _ _ _ h => h) (Or.inl ⟨by rfl, ?_⟩) hHeld ?_
          rotate_left
          · (intro w hSw; (try dsimp only at hSw); go_simp; (try with_reducible rfl))
          simp only [Act.put, List.setIfInBounds_toArray, List.set_cons_zero, List.set_cons_succ]
          refine take_at 2 (v := ?_) (some 27) rfl rfl (by kernel_rfl) (by kernel_rfl) (by kernel_rfl) (fun _ _ _ h => h) (Or.inl ⟨by rfl, ?_⟩) hHeld ?_
          rotate_left
          · (intro w hSw; (try dsimp only at hSw); go_simp; (try with_reducible rfl))
          simp only [Act.put, List.setIfInBounds_toArray, List.set_cons_zero, List.set_cons_succ]
          refine take_at 3 (v := ?_) (some 28) rfl rfl (by kernel_rfl) (by kernel_rfl) (by kernel_rfl) (fun _ _ _ h => h) (Or.inl ⟨by rfl, ?_⟩) hHeld ?_
          rotate_left
          · (intro w hSw; (try dsimp only at hSw); go_simp; (try with_reducible rfl))
          simp only [Act.put, List.setIfInBounds_toArray, List.set_cons_zero, List.set_cons_succ]
          refine take_at 4 (v := ?_) (some 29) rfl rfl (by kernel_rfl) (by kernel_rfl) (by kernel_rfl) (fun _ _ _ h => h) (Or.inl ⟨by rfl, ?_⟩) hHeld ?_
          rotate_left
          · (intro w hSw; (try dsimp only at hSw); go_simp; (try with_reducible rfl))
          simp only [Act.put, List.setIfInBounds_toArray, List.set_cons_zero, List.set_cons_succ]
          refine take_at 5 (v := ?_) (some 30) rfl rfl (by kernel_rfl) (by kernel_rfl) (by kernel_rfl) (fun _ _ _ h => h) (Or.inl ⟨by rfl, ?_⟩) hHeld ?_
          rotate_left
          · (intro w hSw; (try dsimp only at hSw); go_simp; (try with_reducible rfl))
          simp only [Act.put, List.setIfInBounds_toArray, List.set_cons_zero, List.set_cons_succ]
          refine take_at 7 (v := ?_) (some 32) rfl rfl (by kernel_rfl) (by kernel_rfl) (by kernel_rfl) (fun _ _ _ h => h) (Or.inl ⟨by rfl, ?_⟩) hHeld ?_
          rotate_left
          · (intro w hSw; (try dsimp only at hSw); go_simp; (try with_reducible rfl))
          simp only [Act.put, List.setIfInBounds_toArray, List.set_cons_zero, List.set_cons_succ]
          refine take_at 8 (v := ?_) (some 33) rfl rfl (by kernel_rfl) (by kernel_rfl) (by kernel_rfl) (fun _ _ _ h => h) (Or.inl ⟨by rfl, ?_⟩) hHeld ?_
          rotate_left
          · (intro w hSw; (try dsimp only at hSw); go_simp; (try with_reducible rfl))
          simp only [Act.put, List.setIfInBounds_toArray, List.set_cons_zero, List.set_cons_succ]
          refine wpAnyH_ready (rs := [6, 9]) (by kernel_rfl) (by simp) ?_
          refine AllReadyH.cons rfl (fun K hK => ?_) (AllReadyH.cons rfl (fun K hK => ?_) AllReadyH.nil)
          · have r0 : wr.drew.cell? ⟨g, k, none⟩ = some (.int .u64 (yk : Int)) := HRD.out
            go_simp
            refine hK.out _ _ trivial (fun hHeld => ?_)
            clear hK K r0
            try simp only [Act.put, List.setIfInBounds_toArray, List.set_cons_zero, List.set_cons_succ]
            refine wpAnyH_ready (rs := [9]) (by kernel_rfl) (by simp) ?_
            refine AllReadyH.cons rfl (fun K hK => ?_) AllReadyH.nil
            go_simp
            refine (rcword30_any vx x k _ (HX.out.below (show Below w.heap.size w wr.drew from ⟨HBQ.out.os, HBQ.out.tape, HBQ.out.output, HBQ.out.size, HBQ.out.block⟩))).mono ?_
            rintro e v1 ⟨rfl, hww⟩
            subst v1
            rw [HWX.out]
            go_wp2_with fail
            refine hK.out _ _ trivial (fun hHeld => ?_)
            clear hK K
            try simp only [Act.put, List.setIfInBounds_toArray, List.set_cons_zero, List.set_cons_succ]
            refine wpAnyH_ready (rs := [10]) (by kernel_rfl) (by simp) ?_
            refine AllReadyH.cons rfl (fun K hK => ?_) AllReadyH.nil
            go_simp
            refine (HRF.out yk xk _ HYK.out HXK.out).mono ?_
            rintro e v2 ⟨rfl, hB⟩
            replace hB : Below wr.heap.size wr v2 := ⟨hB.os, hB.tape, hB.output, hB.size, hB.block⟩
            have HO2 := Lib.hid (own_below HOQ.out hB)
            have HB2 := Lib.hid (HBQ.out.trans (hB.mono HBQ.out.size))
            clear hB
            go_wp2_with fail
            refine hK.out _ _ trivial (fun hHeld => ?_)
            clear hK K
            try simp only [Act.put, List.setIfInBounds_toArray, List.set_cons_zero, List.set_cons_succ]
            refine take_at 11 (v := ?_) (some 36) rfl rfl (by kernel_rfl) (by kernel_rfl) (by kernel_rfl) (fun _ _ _ h => h) (Or.inl ⟨by rfl, ?_⟩) hHeld ?_
            rotate_left
            · (intro w hSw; (try dsimp only at hSw); go_simp; (try with_reducible rfl))
            simp only [Act.put, List.setIfInBounds_toArray, List.set_cons_zero, List.set_cons_succ]
            refine wpAnyH_ready (rs := [12]) (by kernel_rfl) (by simp) ?_
            refine AllReadyH.cons rfl (fun K hK => ?_) AllReadyH.nil
            have r2 : v2.cell? ⟨g, k, none⟩ = some (.int .u64 (yk : Int)) := HCE.out _ HO2.out
            have fz : v2.frozen? ⟨g, k, none⟩ = false := ow_free HO2.out k
            go_simp
            refine hK.out _ _ trivial (fun hHeld => ?_)
            clear hK K r2 fz
            try simp only [Act.put, List.setIfInBounds_toArray, List.set_cons_zero, List.set_cons_succ]
            refine wpAnyH_done (by kernel_rfl) ?_ _
            go_split_ands
            have HO3 := Lib.hid (ow_set (i := k) (u := .int .u64 ((f yk xk : Nat) : Int)) HO2.out)
            have HB3 := Lib.hid (HB2.out.setCell (p := ⟨g, k, none⟩) HGB.out (.int .u64 ((f yk xk : Nat) : Int)))
            rw [ns_set] at HO3
            go_wp2_with fail
            go_roundw
            case rel => exact ⟨k + 1, by omega, by go_num, by unfold Ow; rw [show joinK f z x (k + 1) = y.set k (f yk xk) from HJS.out]; exact HO3.out, HB3.out⟩
            case measure => simp [intOf]; omega
          · go_simp
            refine (rcword30_any vx x k _ (HX.out.below (show Below w.heap.size w wr.drew from ⟨HBQ.out.os, HBQ.out.tape, HBQ.out.output, HBQ.out.size, HBQ.out.block⟩))).mono ?_
            rintro e v1 ⟨rfl, hww⟩
            subst v1
            rw [HWX.out]
            go_wp2_with fail
            refine hK.out _ _ trivial (fun hHeld => ?_)
            clear hK K
            try simp only [Act.put, List.setIfInBounds_toArray, List.set_cons_zero, List.set_cons_succ]
            refine wpAnyH_ready (rs := [6]) (by kernel_rfl) (by simp) ?_
            refine AllReadyH.cons rfl (fun K hK => ?_) AllReadyH.nil
            have r0 : wr.drew.cell? ⟨g, k, none⟩ = some (.int .u64 (yk : Int)) := HRD.out
            go_simp
            refine hK.out _ _ trivial (fun hHeld => ?_)
            clear hK K r0
            try simp only [Act.put, List.setIfInBounds_toArray, List.set_cons_zero, List.set_cons_succ]
            refine wpAnyH_ready (rs := [10]) (by kernel_rfl) (by simp) ?_
            refine AllReadyH.cons rfl (fun K hK => ?_) AllReadyH.nil
            go_simp
            refine (HRF.out yk xk _ HYK.out HXK.out).mono ?_
            rintro e v2 ⟨rfl, hB⟩
            replace hB : Below wr.heap.size wr v2 := ⟨hB.os, hB.tape, hB.output, hB.size, hB.block⟩
            have HO2 := Lib.hid (own_below HOQ.out hB)
            have HB2 := Lib.hid (HBQ.out.trans (hB.mono HBQ.out.size))
            clear hB
            go_wp2_with fail
            refine hK.out _ _ trivial (fun hHeld => ?_)
            clear hK K
            try simp only [Act.put, List.setIfInBounds_toArray, List.set_cons_zero, List.set_cons_succ]
            refine take_at 11 (v := ?_) (some 36) rfl rfl (by kernel_rfl) (by kernel_rfl) (by kernel_rfl) (fun _ _ _ h => h) (Or.inl ⟨by rfl, ?_⟩) hHeld ?_
            rotate_left
            · (intro w hSw; (try dsimp only at hSw); go_simp; (try with_reducible rfl))
            simp only [Act.put, List.setIfInBounds_toArray, List.set_cons_zero, List.set_cons_succ]
            refine wpAnyH_ready (rs := [12]) (by kernel_rfl) (by simp) ?_
            refine AllReadyH.cons rfl (fun K hK => ?_) AllReadyH.nil
            have r2 : v2.cell? ⟨g, k, none⟩ = some (.int .u64 (yk : Int)) := HCE.out _ HO2.out
            have fz : v2.frozen? ⟨g, k, none⟩ = false := ow_free HO2.out k
            go_simp
            refine hK.out _ _ trivial (fun hHeld => ?_)
            clear hK K r2 fz
            try simp only [Act.put, List.setIfInBounds_toArray, List.set_cons_zero, List.set_cons_succ]
            refine wpAnyH_done (by kernel_rfl) ?_ _
            go_split_ands
            have HO3 := Lib.hid (ow_set (i := k) (u := .int .u64 ((f yk xk : Nat) : Int)) HO2.out)
            have HB3 := Lib.hid (HB2.out.setCell (p := ⟨g, k, none⟩) HGB.out (.int .u64 ((f yk xk : Nat) : Int)))
            rw [ns_set] at HO3
            go_wp2_with fail
            go_roundw
            case rel => exact ⟨k + 1, by omega, by go_num, by unfold Ow; rw [show joinK f z x (k + 1) = y.set k (f yk xk) from HJS.out]; exact HO3.out, HB3.out⟩
            case measure => simp [intOf]; omega
        · obtain rfl : k = a.length := by omega
          have HOF := Lib.hid (show Ow wr w.heap.size (.slice ov a.length cv) a.length (sumE f a (ls.take (j + 1))) by rw [HST.out, HZL.out]; exact hO)
          have HSF := Lib.hid (show small64 (sumE f a (ls.take (j + 1))) by rw [HST.out, HZL.out]; exact HSY.out)
          clear hO
          go_wp2_with fail
          go_roundw
          case rel => exact ⟨j + 1, by omega, by go_num, HOF.out, HSF, HBQ.out⟩
          case measure => simp [intOf]; omega
    · obtain rfl : j = ls.length := by omega
      have HW := Lib.hid (show Ow wr w.heap.size (.slice ov a.length cv) a.length (sumE f a ls) ∧ small64 (sumE f a ls) by
        have h1 := HO.out
        have h2 := HSM.out
        rw [List.take_length] at h1 h2
        exact ⟨h1, h2⟩)
      go_wp2_with fail
      go_ret
      exact ⟨_, rfl, HW.out.1, HW.out.2, HB.out⟩

set_option maxHeartbeats 3200000 in
set_option maxRecDepth 100000 in
theorem rsum_nil (what : Int) (vl : Value) (ls : List (List Nat)) (w : World) (hl : Lls w vl ls) (hll : ls.length ≤ 100000) :
    Calls Try.prog 86 #[.int .i64 what, .slice none 0 0, vl] w fun e w' => ∃ u, e = .returned u ∧ Ws w' u [] ∧ Below w.heap.size w w' := by
  obtain ⟨ol, cl, rfl, hlc⟩ := hl
  have HL := Lib.hid hlc
  have HB0 := Lib.hid ((Below.refl w.heap.size w).alloc (Nat.le_refl _) (.cells #[] 29))
  clear hlc
  go_enter Try.func86, Try.ntmps86
  go_wp2_with fail
  go_loopw [16] (fun i wr => ∃ j : Nat, j ≤ ls.length ∧ i = .int .i64 j ∧ Below w.heap.size w wr)
    (fun i _ => ls.length - (intOf i).toNat)
  case atStart => exact ⟨0, Nat.zero_le _, rfl, HB0.out⟩
  case round =>
    obtain ⟨j, hj, rfl, hB⟩ := hrel
    have HB := Lib.hid hB
    clear hB
    by_cases hlt : j < ls.length
    · obtain ⟨lb, lo, rfl, hd⟩ := HL.out (by omega)
      obtain ⟨vx, hvx, hx⟩ := hd j hlt
      have hvr := keepc hvx HB.out
      have hji : (j : Int) < ls.length := by omega
      clear hd hvx hx
      go_wp2_with fail
      go_loopw [22] (fun i wr => i = .int .i64 0 ∧ Below w.heap.size w wr)
        (fun _ _ => 0)
      case atStart => exact ⟨rfl, HB.out⟩
      case round =>
        obtain ⟨rfl, hB⟩ := hrel
        have HBQ := Lib.hid hB
        clear hB
        go_wp2_with fail
        go_roundw
        case rel => exact ⟨j + 1, by omega, by go_num, HBQ.out⟩
        case measure => simp [intOf]; omega
    · obtain rfl : j = ls.length := by omega
      clear hlt hj
      go_wp2_with fail
      go_ret
      exact ⟨_, rfl, ⟨by simp, .inr ⟨_, _, rfl, fun i hi => absurd hi (by simp)⟩⟩, HB.out⟩
theorem sumE_nil (f : Nat → Nat → Nat) (ls : List (List Nat)) : sumE f [] ls = [] := List.eq_nil_of_length_eq_zero (sumE_len f [] ls)
set_option maxHeartbeats 3200000 in
set_option maxRecDepth 100000 in
theorem rsum_all (what : Int) (v vl : Value) (a : List Nat) (ls : List (List Nat)) (f : Nat → Nat → Nat) (w : World) (h : Ws w v a) (hl : Lls w vl ls) (ha : a.length ≤ 100000) (hll : ls.length ≤ 100000) (hf2 : ∀ x y, x < 18446744073709551616 → y < 18446744073709551616 → f x y < 18446744073709551616) (hf : ∀ (x y : Nat) (w : World), x < 18446744073709551616 → y < 18446744073709551616 → Calls Try.prog 31 #[.int .i64 what, .int .u64 x, .int .u64 y] w fun e w' => e = .returned (.int .u64 (f x y : Nat)) ∧ Below w.heap.size w w') :
    Calls Try.prog 86 #[.int .i64 what, v, vl] w fun e w' => ∃ u, e = .returned u ∧ Ws w' u (sumE f a ls) ∧ Below w.heap.size w w' := by
  have h' := h
  obtain ⟨_, ⟨rfl, rfl⟩ | ⟨ad, c, rfl, _⟩⟩ := h'
  · rw [sumE_nil]; exact rsum_nil what vl ls w hl hll
  · exact rsum_any what _ vl a ls f w h ⟨ad, c, rfl⟩ hl ha hll hf2 hf
/-- The words that are there. -/
def nowN (zs : List Int) (q : Nat) : List Nat := (List.range q).map fun (k : Nat) => (ldv zs k).toNat
theorem nowN_len (zs : List Int) (q : Nat) : (nowN zs q).length = q := by simp [nowN]
theorem nowN_at (zs : List Int) (q k : Nat) (h : k < q) : at30 (nowN zs q) k = (ldv zs k).toNat := by unfold at30 nowN; rw [List.getElem?_map, List.getElem?_range h]; rfl
theorem ws_now {w : World} {base : Nat} {v : Value} {zs : List Int} {q : Nat} (h : w.ownsRow base 29 1 v q ((getE zs 0 q).map (Value.int .u64))) (hz : w64 zs) : Ws w v (nowN zs q) := by
  have e : (getE zs 0 q).map (Value.int .u64) = ns (nowN zs q) := by
    unfold getE ns nowN
    rw [List.map_map, List.map_map]
    refine List.map_congr_left fun k _ => ?_
    have := w64_ld hz (k : Int)
    simp only [Function.comp, Int.zero_add]
    rw [Int.toNat_of_nonneg this.1]
  rw [e] at h
  refine ⟨fun z hm => ?_, ?_⟩
  · obtain ⟨k, _, rfl⟩ := List.mem_map.1 hm
    have := w64_ld hz (k : Int)
    omega
  · have hc := h
    obtain ⟨hl, ⟨rfl, h0⟩ | ⟨g, cap, cur, rfl, hg, _⟩⟩ := h
    · exact .inl ⟨rfl, List.eq_nil_of_length_eq_zero (by rw [nowN_len]; exact h0)⟩
    · exact .inr ⟨_, cap, by rw [nowN_len], fun i hi => by
        have := hc.cells (g := g) rfl i _ (ns_at (nowN zs q) i hi)
        exact this⟩
theorem wAt_at30 (A : List Nat) (k : Nat) : wAt A k = at30 A k := rfl
theorem below_one {what : Int} {x y : Nat} (h : wordE what x y = y) : belowE what [x] [y] = true := by
  rw [belowE_iff what (a := [x]) (b := [y]) rfl]
  intro i
  cases i with
  | zero => exact h
  | succ i => exact wordE_zero what
section
variable {q n : Nat} {what : Int} {A0 : List Nat} {ls : List (List Nat)} {x : RunT (List Int × (Nat → JnS))}
abbrev CsE (q n : Nat) (what : Int) (A0 : List Nat) (ls : List (List Nat)) (x : RunT (List Int × (Nat → JnS))) : Prop := CsI q n (wordE what) (semV what) (at30 A0) (fun k => sumW (wordE what) (at30 A0 k) ls k) (fun i => ls[i]?.getD []) x
theorem CsI.word (h : CsE q n what A0 ls x) (k : Nat) (hk : k < q) : wordE what (at30 A0 k) (at30 (nowN x.s.1 q) k) = at30 (nowN x.s.1 q) k ∧ wordE what (at30 (nowN x.s.1 q) k) (sumW (wordE what) (at30 A0 k) ls k) = sumW (wordE what) (at30 A0 k) ls k ∧ semV what (at30 (nowN x.s.1 q) k) ∧ ldv x.s.1 k = ((at30 (nowN x.s.1 q) k : Nat) : Int) := by
  obtain ⟨c, h1, h2, h3, h4⟩ := h.zs k hk
  have e : at30 (nowN x.s.1 q) k = c := by rw [nowN_at _ _ _ hk, h1]; rfl
  rw [e]
  exact ⟨h3, h4, h2, h1⟩
theorem CsI.ended (hw : what = 1 ∨ what = 2 ∨ what = 3) (h : CsE q n what A0 ls x) (hq : A0.length = q) (hV : ∀ k, k < q → semV what (at30 A0 k)) (hA : ∀ i, i < n → ∀ k, semV what (at30 (ls[i]?.getD []) k)) {i : Nat} (hi : i < n) (he : dnAt x.dn i = true) : belowE what (sumE (wordE what) A0 [ls[i]?.getD []]) (nowN x.s.1 q) = true := by
  have S := sem_word hw
  rw [belowE_iff what (by rw [sumE_len, nowN_len, hq])]
  intro k
  by_cases hk : k < q
  · rw [wAt_at30, wAt_at30, sumE_at _ _ _ k (by omega)]
    obtain ⟨h1, h2, h3, h4⟩ := h.word k hk
    have := h.en i hi (by rw [h.dn i hi]; exact he)
    exact S.least (hV k hk) (hA i hi k) h3 h1 (h.at' i hi k hk (by omega) _ h4)
  · have e1 : wAt (sumE (wordE what) A0 [ls[i]?.getD []]) k = 0 := by unfold wAt; rw [List.getElem?_eq_none (by rw [sumE_len]; omega)]; rfl
    have e2 : wAt (nowN x.s.1 q) k = 0 := by unfold wAt; rw [List.getElem?_eq_none (by rw [nowN_len]; omega)]; rfl
    rw [e1, e2]
    exact wordE_zero what
theorem CsI.all (hw : what = 1 ∨ what = 2 ∨ what = 3) (h : CsE q ls.length what A0 ls x) (hq : A0.length = q) (hV : ∀ k, k < q → semV what (at30 A0 k)) (hA : ∀ i, i < ls.length → ∀ k, semV what (at30 (ls[i]?.getD []) k)) (hd : ∀ i, i < ls.length → dnAt x.dn i = true) : nowN x.s.1 q = sumE (wordE what) A0 ls := by
  have S := sem_word hw
  have hA' : ∀ k, ∀ B ∈ ls, semV what (at30 B k) := fun k B hB => by
    obtain ⟨i, hi, rfl⟩ := List.getElem_of_mem hB
    have := hA i hi k
    rwa [List.getElem?_eq_getElem hi] at this
  refine ext_at (by rw [sumE_len, nowN_len, hq]) fun k hk => ?_
  rw [nowN_len] at hk
  rw [wAt_at30, wAt_at30, sumE_at _ _ _ k (by omega)]
  obtain ⟨h1, h2, h3, h4⟩ := h.word k hk
  refine S.anti h3 (sumW_V S k ls (hV k hk) (hA' k)) h2 (sumW_least S k ls h3 (hV k hk) (hA' k) h1 fun B hB => ?_)
  obtain ⟨i, hi, rfl⟩ := List.getElem_of_mem hB
  have e := h.en i hi (by rw [h.dn i hi]; exact hd i hi)
  have := h.at' i hi k hk (by omega) _ h4
  rwa [List.getElem?_eq_getElem hi] at this
theorem CsI.rose (h : CsE q n what A0 ls x) {i : Nat} (hi : i < n) (hc : (x.s.2 i).ch = true) : ∃ k, k < q ∧ at30 (nowN x.s.1 q) k ≠ at30 A0 k := by
  obtain ⟨k, hk, hne⟩ := h.ch i hi hc
  obtain ⟨_, _, _, h4⟩ := h.word k hk
  exact ⟨k, hk, fun e => hne (by rw [h4, e])⟩
end
/-- Words that came in are words; of a kind that wants more, they are that too. -/
theorem value_sem {what width : Int} {A : List Nat} (hA : small64 A) (h : what = 3 → valueE what width A = true) (k : Nat) : semV what (at30 A k) := ⟨small_at hA k, fun e => by have := value_sou (h e) e k; exact this⟩
/-- As the Joins begin. -/
theorem cs_start {q n : Nat} {f : Nat → Nat → Nat} {V : Nat → Prop} {a T : Nat → Nat} {A : Nat → List Nat} (S : Sem f V) {zs : List Int} (hl : zs.length = q) (hz : ∀ k, k < q → ldv zs k = (a k : Int)) (ha : ∀ k, k < q → V (a k)) (hT : ∀ k, k < q → f (a k) (T k) = T k) : CsI q n f V a T A (startR n (fun _ => false) (zs, fun _ => ⟨false, false, 0, 0, 0, false⟩)) := by
  refine ⟨hl, fun k hk => ⟨a k, hz k hk, ha k hk, S.idem _ (ha k hk), hT k hk⟩, fun i hi => ?_, ?_, fun _ _ => S.zero, fun i _ k _ h => absurd h (Nat.not_lt_zero k), fun _ _ h => (by cases h), fun _ _ h => (by cases h), fun _ _ h => (by cases h)⟩
  · unfold startR dnAt; simp [hi]
  · unfold startR; simp
theorem put_at (A : List Nat) (n : Nat) : ∀ m, m ≤ n → ∀ k, k < n → ldv (putE (List.replicate n 0) 0 A m) k = if k < m then wdA A k else 0 := by
  intro m
  induction m with
  | zero =>
    intro _ k hk
    rw [if_neg (by omega)]
    show ldv (List.replicate n 0) k = 0
    simp [ldv, wd, hk]
  | succ m ih =>
    intro hm k hk
    show ldv (stv (putE (List.replicate n 0) 0 A m) (0 + m) (wdA A m)) k = _
    have hlen : (putE (List.replicate n 0) 0 A m).length = n := by
      have : ∀ m, (putE (List.replicate n 0) 0 A m).length = n := fun m => by
        induction m with
        | zero => simp [putE]
        | succ m ih => show (stv _ _ _).length = n; rw [st_len]; exact ih
      exact this m
    rw [Int.zero_add, st_ld _ m k _ (by omega), ih (by omega) k hk]
    by_cases h : k = m
    · subst h; simp
    · by_cases h2 : k < m
      · rw [if_neg h, if_pos h2, if_pos (by omega)]
      · rw [if_neg h, if_neg h2, if_neg (by omega)]

end Go.Proofs.Yteheckcflnogbaa
