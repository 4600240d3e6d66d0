/-
  soughlaw22.MemPlain: the walk.
-/
import Derived.Test.YtmgoojmkflginaaMemAll
import Derived.Test.YtmgoojmkflginaaMemSh
import Derived.Test.YtmgoojmkflginaaActs
namespace Go.Proofs.Ytmgoojmkflginaa
open Go.RowKit

set_option maxHeartbeats 1600000 in
theorem awake22_any (w : World) : Calls Try.prog 8 #[] w fun e w' => e = .returned (.bool true) ∧ Below w.heap.size w w' := by
  go_enter Try.func8, Try.ntmps8
  go_wp2_with fail
  refine (newShared_any _ _).mono ?_
  rintro e w1 ⟨b, g, rfl, hP, hB, hb, hg⟩
  have HP := Lib.hid hP
  have HB := Lib.hid hB
  clear hP hB
  go_wp2_with fail
  refine (scas_any _ _ _ _ _ _ _ HP.out).mono ?_
  rintro e w2 ⟨rfl, hP2, hB2⟩
  rw [show casb (List.replicate (memn 1) 0) 0 0 = true from rfl]
  rw [show casv (List.replicate (memn 1) 0) 0 0 5 = [5] from rfl] at hP2
  have HP2 := Lib.hid hP2
  have HB2 := Lib.hid hB2
  clear hP2 hB2
  go_wp2_with fail
  refine (sadd_any _ _ _ _ _ _ HP2.out).mono ?_
  rintro e w3 ⟨rfl, hP3, hB3⟩
  rw [show addw [5] 0 2 = 7 by decide]
  rw [show addv [5] 0 2 = [7] by decide] at hP3
  have HP3 := Lib.hid hP3
  have HB3 := Lib.hid hB3
  clear hP3 hB3
  go_wp2_with fail
  refine (slen_any _ _ _ _ HP3.out).mono ?_
  rintro e w4 ⟨rfl, rfl⟩
  go_wp2_with fail
  go_ret
  exact ⟨by simp, (HB.out.grown HB2.out HB.out.size (by intro k hk; cases hk; exact hg)).grown HB3.out (Nat.le_trans HB.out.size HB2.out.size) (by intro k hk; cases hk; exact hg)⟩

set_option maxHeartbeats 6400000 in
set_option maxRecDepth 100000 in
theorem memPlain_walk (n : Int) (v : Value) (L : List ActT) (W : World) (hA : Acts W v L) (hL : L.length ≤ 9223372036854775807) :
    Calls Try.prog 3 #[.int .i64 n, v] W fun e w' => e = .returned (.bool true) ∧ Below W.heap.size W w' := by
  obtain ⟨o, c, rfl, hc⟩ := hA
  have HC := Lib.hid hc
  clear hc
  by_cases h1 : 50 < n
  · have d1 : decide (50 < n) = true := by simpa using h1
    go_enter Try.func3, Try.ntmps3
    go_wp2_with fail
    refine (awake22_any _).mono ?_
    rintro e w1 ⟨rfl, hB⟩
    go_wp2_with fail
    go_ret
    exact ⟨rfl, hB⟩
  have d1 : decide (50 < n) = false := by simpa using h1
  by_cases h2 : 60 < L.length
  · have d2 : decide (60 < (L.length : Int)) = true := by simp; omega
    clear h1 h2
    go_enter Try.func3, Try.ntmps3
    go_wp2_with fail
    refine (awake22_any _).mono ?_
    rintro e w1 ⟨rfl, hB⟩
    go_wp2_with fail
    go_ret
    exact ⟨rfl, hB⟩
  have d2 : decide (60 < (L.length : Int)) = false := by simp; omega
  clear h1
  go_enter Try.func3, Try.ntmps3
  go_wp2_with fail
  refine (awake22_any _).mono ?_
  rintro e w1 ⟨rfl, hB1⟩
  have HB1 := Lib.hid hB1
  clear hB1
  go_wp2_with fail
  refine (newPlain_any _ _).mono ?_
  rintro e w2 ⟨b, g, rfl, hP, hB2, hb, hg⟩
  have HP2 := Lib.hid hP
  have HB2 := Lib.hid (HB1.out.trans (hB2.mono HB1.out.size))
  have hb1 : b < w2.heap.size := hP.1.lt
  have hg1 : g < w2.heap.size := hP.2.1.lt
  clear hP hB2
  go_wp2_with fail
  refine (rnew_any _ _).mono ?_
  rintro e w3 ⟨b2, g2, rfl, hR, hB3, hb2, hg2⟩
  have HR3 := Lib.hid hR
  have HP3 := Lib.hid (HP2.out.below hB3)
  have HB3 := Lib.hid (HB2.out.trans (hB3.mono HB2.out.size))
  have hW1 := HB1.out.size
  have hbg := HP2.out.ne
  have hbg2 := hR.ne
  clear hR hB3
  have HN := Lib.hid (And.intro hbg hbg2)
  clear hbg hbg2
  go_wp2_with fail
  obtain ⟨zs0, hz0⟩ : ∃ zs, zs = List.replicate (memn n) (0 : Int) := ⟨_, rfl⟩
  rw [← hz0] at HP3 HR3
  clear hz0
  go_loopw [28] (fun i wr => ∃ (k : Nat) (zs : List Int), k ≤ L.length ∧ i = .int .i64 k ∧ Pm wr b g zs ∧ Rm wr b2 g2 zs ∧ Below W.heap.size W wr)
    (fun i _ => L.length - (intOf i).toNat)
  case atStart => exact ⟨0, zs0, Nat.zero_le _, rfl, HP3.out, HR3.out, HB3.out⟩
  case round =>
    obtain ⟨k, zs, hk, rfl, hP, hR, hB⟩ := hrel
    have hzl := hP.2.2
    have HP := Lib.hid hP
    have HR := Lib.hid hR
    have HB := Lib.hid hB
    clear hP hR hB
    by_cases hlt : k < L.length
    · obtain ⟨bl, off, rfl, hc⟩ := HC.out (by omega)
      obtain ⟨c0, c1, c2, c3⟩ := hc k hlt
      replace c0 := keepc c0 HB.out
      replace c1 := keepc c1 HB.out
      replace c2 := keepc c2 HB.out
      replace c3 := keepc c3 HB.out
      clear hc
      generalize actAt L k = t at *
      go_wp2_with fail
      refine (kind_any _ _).mono ?_
      rintro e w4 ⟨rfl, rfl⟩
      go_wp2_with fail
      have hal : Below wr.heap.size wr (wr.alloc (.cells #[.int .i64 (kindv t.k), .int .i64 t.a, .int .u64 t.x, .int .u64 t.y] 30)) := (Below.refl _ _).alloc (Nat.le_refl _) _
      have HAL := Lib.hid hal
      have HK := Lib.hid (Bk.new wr 30 [.int .i64 (kindv t.k), .int .i64 t.a, .int .u64 t.x, .int .u64 t.y])
      have hglt := HP.out.2.1.lt
      have hg2lt := HR.out.2.1.lt
      clear hal
      refine (plain_any _ _ _ _ _ _ _ _ (HP.out.below HAL.out)).mono ?_
      rintro e w5 ⟨rfl, hP5, hG5⟩
      have HK5 := Lib.hid (HK.out.keep hG5 (by simp; omega))
      have HR5 := Lib.hid ((HR.out.below HAL.out).keep hG5 (by omega) (by omega))
      have HP5 := Lib.hid hP5
      have HB5 := Lib.hid ((bel_then HB.out HAL.out).grown hG5 (Nat.le_trans HB.out.size HAL.out.size) (by intro k hk; cases hk; omega))
      clear hP5 hG5
      have q0 : w5.cell? ⟨wr.heap.size, 0, none⟩ = some (.int .i64 (kindv t.k)) := HK5.out.cell 0
      have q1 : w5.cell? ⟨wr.heap.size, 1, none⟩ = some (.int .i64 t.a) := HK5.out.cell 1
      have q2 : w5.cell? ⟨wr.heap.size, 2, none⟩ = some (.int .u64 t.x) := HK5.out.cell 2
      have q3 : w5.cell? ⟨wr.heap.size, 3, none⟩ = some (.int .u64 t.y) := HK5.out.cell 3
      go_wp2_with fail
      refine (do_any _ _ _ _ _ _ _ _ HR5.out).mono ?_
      rintro e w6 ⟨rfl, hR6, hG6⟩
      have HP6 := Lib.hid (HP5.out.keep hG6 (by omega) (by omega))
      have HR6 := Lib.hid hR6
      have HB6 := Lib.hid (HB5.out.grown hG6 HB5.out.size (by intro k hk; cases hk; omega))
      clear hR6 hG6 q0 q1 q2 q3
      generalize actw zs (kindv t.k) t.a t.x = p at *
      generalize actb zs (kindv t.k) t.a t.x = q at *
      go_wp2_with fail
      go_roundw
      case rel => exact ⟨k + 1, _, by omega, by go_num, HP6.out, HR6.out, HB6.out⟩
      case measure => simp [intOf]; omega
    · obtain rfl : k = L.length := by omega
      have hrow := (HR.out.drewN 1).row
      go_wp2_with fail
      refine wp_region_held_drew (S := fun w' : World => w'.cell? ⟨b2, 0, none⟩ = some (.slice (some ⟨g2, 0, none⟩) zs.length zs.length)) (by kernel_rfl) ?_ (fun hHeld => ?_)
      · exact hrow
      refine take_at 0 (v := ?_) (some 57) rfl rfl (by kernel_rfl) (by kernel_rfl) (by kernel_rfl) (fun _ _ _ h => h) (Or.inl ⟨by rfl, ?_⟩) hHeld ?_
      rotate_left
      · (intro w hSw; (try dsimp only at hSw); go_simp; (try with_reducible rfl))
      simp only [Act.put, List.setIfInBounds_toArray, List.set_cons_zero, List.set_cons_succ]
      refine take_at 2 (v := ?_) (some 59) rfl rfl (by kernel_rfl) (by kernel_rfl) (by kernel_rfl) (fun _ _ _ h => h) (Or.inl ⟨by rfl, ?_⟩) hHeld ?_
      rotate_left
      · (intro w hSw; (try dsimp only at hSw); go_simp; (try with_reducible rfl))
      simp only [Act.put, List.setIfInBounds_toArray, List.set_cons_zero, List.set_cons_succ]
      refine take_at 3 (v := ?_) (some 60) rfl rfl (by kernel_rfl) (by kernel_rfl) (by kernel_rfl) (fun _ _ _ h => h) (Or.inl ⟨by rfl, ?_⟩) hHeld ?_
      rotate_left
      · (intro w hSw; (try dsimp only at hSw); go_simp; (try with_reducible rfl))
      simp only [Act.put, List.setIfInBounds_toArray, List.set_cons_zero, List.set_cons_succ]
      refine take_at 4 (v := ?_) (some 61) rfl rfl (by kernel_rfl) (by kernel_rfl) (by kernel_rfl) (fun _ _ _ h => h) (Or.inl ⟨by rfl, ?_⟩) hHeld ?_
      rotate_left
      · (intro w hSw; (try dsimp only at hSw); go_simp; (try with_reducible rfl))
      simp only [Act.put, List.setIfInBounds_toArray, List.set_cons_zero, List.set_cons_succ]
      refine take_at 5 (v := ?_) (some 62) rfl rfl (by kernel_rfl) (by kernel_rfl) (by kernel_rfl) (fun _ _ _ h => h) (Or.inl ⟨by rfl, ?_⟩) hHeld ?_
      rotate_left
      · (intro w hSw; (try dsimp only at hSw); go_simp; (try with_reducible rfl))
      simp only [Act.put, List.setIfInBounds_toArray, List.set_cons_zero, List.set_cons_succ]
      refine take_at 6 (v := ?_) (some 63) rfl rfl (by kernel_rfl) (by kernel_rfl) (by kernel_rfl) (fun _ _ _ h => h) (Or.inl ⟨by rfl, ?_⟩) hHeld ?_
      rotate_left
      · (intro w hSw; (try dsimp only at hSw); go_simp; (try with_reducible rfl))
      simp only [Act.put, List.setIfInBounds_toArray, List.set_cons_zero, List.set_cons_succ]
      refine wpAnyH_ready (rs := [1]) (by kernel_rfl) (by simp) ?_
      refine AllReadyH.cons rfl (fun K hK => ?_) AllReadyH.nil
      go_simp
      refine (plen_any _ _ _ _ (HP.out.drewN 1)).mono ?_
      rintro e w' ⟨rfl, rfl⟩
      have hB := Below.refl wr.heap.size wr.drew
      go_wp2_with fail
      refine hK.out _ _ ?_ (fun hHeld => ?_)
      · (try dsimp only at hHeld ⊢)
        go_split_ands
        exact (by first | exact hHeld | exact ((HR.out.drewN 1).below HB0.out).row | exact (((HR.out.drewN 1).below HB0.out).drewN _).row)
      clear hK K hB
      try simp only [Act.put, List.setIfInBounds_toArray, List.set_cons_zero, List.set_cons_succ]
      refine take_at 7 (v := ?_) (some 64) rfl rfl (by kernel_rfl) (by kernel_rfl) (by kernel_rfl) (fun _ _ _ h => h) (Or.inl ⟨by rfl, ?_⟩) hHeld ?_
      rotate_left
      · (intro w hSw; (try dsimp only at hSw); go_simp; (try with_reducible rfl))
      simp only [Act.put, List.setIfInBounds_toArray, List.set_cons_zero, List.set_cons_succ]
      refine take_at 8 (v := ?_) (some 65) rfl rfl (by kernel_rfl) (by kernel_rfl) (by kernel_rfl) (fun _ _ _ h => h) (Or.inl ⟨by rfl, ?_⟩) hHeld ?_
      rotate_left
      · (intro w hSw; (try dsimp only at hSw); go_simp; (try with_reducible rfl))
      simp only [Act.put, List.setIfInBounds_toArray, List.set_cons_zero, List.set_cons_succ]
      refine take_at 9 (v := ?_) (some 66) rfl rfl (by kernel_rfl) (by kernel_rfl) (by kernel_rfl) (fun _ _ _ h => h) (Or.inl ⟨by rfl, ?_⟩) hHeld ?_
      rotate_left
      · (intro w hSw; (try dsimp only at hSw); go_simp; (try with_reducible rfl))
      simp only [Act.put, List.setIfInBounds_toArray, List.set_cons_zero, List.set_cons_succ]
      refine take_at 10 (v := ?_) (some 67) rfl rfl (by kernel_rfl) (by kernel_rfl) (by kernel_rfl) (fun _ _ _ h => h) (Or.inl ⟨by rfl, ?_⟩) hHeld ?_
      rotate_left
      · (intro w hSw; (try dsimp only at hSw); go_simp; (try with_reducible rfl))
      simp only [Act.put, List.setIfInBounds_toArray, List.set_cons_zero, List.set_cons_succ]
      refine take_at 12 (v := ?_) (some 69) rfl rfl (by kernel_rfl) (by kernel_rfl) (by kernel_rfl) (fun _ _ _ h => h) (Or.inl ⟨by rfl, ?_⟩) hHeld ?_
      rotate_left
      · (intro w hSw; (try dsimp only at hSw); go_simp; (try with_reducible rfl))
      simp only [Act.put, List.setIfInBounds_toArray, List.set_cons_zero, List.set_cons_succ]
      refine take_at 13 (v := ?_) (some 70) rfl rfl (by kernel_rfl) (by kernel_rfl) (by kernel_rfl) (fun _ _ _ h => h) (Or.inl ⟨by rfl, ?_⟩) hHeld ?_
      rotate_left
      · (intro w hSw; (try dsimp only at hSw); go_simp; (try with_reducible rfl))
      simp only [Act.put, List.setIfInBounds_toArray, List.set_cons_zero, List.set_cons_succ]
      refine take_at 14 (v := ?_) (some 71) rfl rfl (by kernel_rfl) (by kernel_rfl) (by kernel_rfl) (fun _ _ _ h => h) (Or.inl ⟨by rfl, ?_⟩) hHeld ?_
      rotate_left
      · (intro w hSw; (try dsimp only at hSw); go_simp; (try with_reducible rfl))
      simp only [Act.put, List.setIfInBounds_toArray, List.set_cons_zero, List.set_cons_succ]
      refine take_at 15 (v := ?_) (some 72) rfl rfl (by kernel_rfl) (by kernel_rfl) (by kernel_rfl) (fun _ _ _ h => h) (Or.inl ⟨by rfl, ?_⟩) hHeld ?_
      rotate_left
      · (intro w hSw; (try dsimp only at hSw); go_simp; (try with_reducible rfl))
      simp only [Act.put, List.setIfInBounds_toArray, List.set_cons_zero, List.set_cons_succ]
      refine wpAnyH_ready (rs := [11]) (by kernel_rfl) (by simp) ?_
      refine AllReadyH.cons rfl (fun K hK => ?_) AllReadyH.nil
      go_simp
      refine (all_any _ _ _ _ (HP.out.drewN 1)).mono ?_
      rintro e w' ⟨va, rfl, hu, hB0⟩
      have HU := Lib.hid hu
      have HB0 := Lib.hid hB0
      have hB := hB0
      clear hu hB0
      go_wp2_with fail
      refine hK.out _ _ ?_ (fun hHeld => ?_)
      · (try dsimp only at hHeld ⊢)
        go_split_ands
        exact (by first | exact hHeld | exact ((HR.out.drewN 1).below HB0.out).row | exact (((HR.out.drewN 1).below HB0.out).drewN _).row)
      clear hK K hB
      try simp only [Act.put, List.setIfInBounds_toArray, List.set_cons_zero, List.set_cons_succ]
      refine wpAnyH_ready (rs := [16]) (by kernel_rfl) (by simp) ?_
      refine AllReadyH.cons rfl (fun K hK => ?_) AllReadyH.nil
      go_simp
      refine (us_any _ _ _ _ _ HU.out (Us.of_bk ((HR.out.drewN 1).below HB0.out).2.1 _) (by omega) (by omega)).mono ?_
      rintro e w' ⟨rfl, nq, rfl⟩
      have hB := Below.refl wr.heap.size wr.drew
      go_wp2_with fail
      refine hK.out _ _ ?_ (fun hHeld => ?_)
      · (try dsimp only at hHeld ⊢)
        go_split_ands
        exact (by first | exact hHeld | exact ((HR.out.drewN 1).below HB0.out).row | exact (((HR.out.drewN 1).below HB0.out).drewN _).row)
      clear hK K hB
      try simp only [Act.put, List.setIfInBounds_toArray, List.set_cons_zero, List.set_cons_succ]
      refine take_at 17 (v := ?_) (some 74) rfl rfl (by kernel_rfl) (by kernel_rfl) (by kernel_rfl) (fun _ _ _ h => h) (Or.inl ⟨by rfl, ?_⟩) hHeld ?_
      rotate_left
      · (intro w hSw; (try dsimp only at hSw); go_simp; (try with_reducible rfl))
      simp only [Act.put, List.setIfInBounds_toArray, List.set_cons_zero, List.set_cons_succ]
      refine take_at 18 (v := ?_) (some 4) rfl rfl (by kernel_rfl) (by kernel_rfl) (by kernel_rfl) (fun _ _ _ h => h) (Or.inl ⟨by rfl, ?_⟩) hHeld ?_
      rotate_left
      · (intro w hSw; (try dsimp only at hSw); go_simp; (try with_reducible rfl))
      simp only [Act.put, List.setIfInBounds_toArray, List.set_cons_zero, List.set_cons_succ]
      refine wpAnyH_done (by kernel_rfl) ?_ _
      go_split_ands
      go_wp2_with fail
      go_ret
      exact ⟨rfl, bel_drewN (bel_then (bel_drewN HB.out 1) HB0.out) nq⟩

end Go.Proofs.Ytmgoojmkflginaa
