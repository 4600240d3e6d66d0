/-
  soughlaw01.GaussOps: the walk.
-/
import Derived.Test.YtgjcfmkaeffffaaDoorGaussAwake
import Derived.Test.YtgjcfmkaeffffaaDoorTake
namespace Go.Proofs.YtgjcfmkaeffffaaDoor
open Go.RowKit

theorem gop_four (a b c d : Int) : gop 4 a b c d = gop 4 a b 0 0 := by simp [gop]
set_option maxHeartbeats 12800000 in
set_option maxRecDepth 100000 in
theorem gaussOps_walk (a0 a1 b0 b1 op : Int) (w : World) (ht : Tab w) :
    Calls Tryd.prog 3 #[.agg #[.int .i64 a0, .int .i64 a1], .agg #[.int .i64 b0, .int .i64 b1], .int .i64 op] w fun e w' => e = .returned (.bool true) ∧ Below w.heap.size w w' := by
  have Ht := Lib.hid ht
  clear ht
  have he : (ropE op = true ∧ gopE op = 0) ∨ (ropE op = false ∧ gopE op = 10) := by
    by_cases h : 0 ≤ op ∧ op ≤ 4
    · exact .inl ⟨by simp [ropE, h], by simp [gopE, h]⟩
    · exact .inr ⟨by simp [ropE, h], by simp [gopE, h]⟩
  have He := Lib.hid he
  have hw : isw a0 a1 = (a0 == wr a0 && a1 == wr a1) := by unfold isw; rw [Bool.eq_iff_iff]; simp
  have Hw := Lib.hid hw
  clear he hw
  go_enter Tryd.func3, Tryd.ntmps3
  go_wp2_with fail
  refine (awake01_any _ (Ht.out.below (((Below.refl w.heap.size w).alloc (Nat.le_refl _) _).alloc (by simp) _))).mono ?_
  rintro e w1 ⟨rfl, hB⟩
  have g := (((GS.start w).add a0 a1 23).add b0 b1 23).keep hB
  simp only [World.size_alloc] at g
  have G1 := Lib.hid g
  obtain ⟨k0, k1⟩ := G1.out.at w.heap.size a0 a1 (by simp)
  obtain ⟨k2, k3⟩ := G1.out.at (w.heap.size + 1) b0 b1 (by simp)
  clear hB g
  go_wp2_with fail
  clear k0 k1 k2 k3
  refine (gop_any _ _ _ _ _ _).mono ?_
  rintro e w2 ⟨rfl, hB⟩
  have G2 := Lib.hid ((G1.out.keep hB).add (gop op a0 a1 b0 b1).1 (gop op a0 a1 b0 b1).2 23)
  obtain ⟨k0, k1⟩ := G2.out.at w.heap.size a0 a1 (by simp)
  obtain ⟨k2, k3⟩ := G2.out.at (w.heap.size + 1) b0 b1 (by simp)
  clear hB G1
  go_wp2_with fail
  clear k0 k1 k2 k3
  refine (rop_any _ _ _ _ _ _).mono ?_
  rintro e w3 ⟨rfl, hB⟩
  have G3 := Lib.hid ((G2.out.keep hB).add (gop op a0 a1 b0 b1).1 (gop op a0 a1 b0 b1).2 23)
  obtain ⟨k0, k1⟩ := G3.out.at w.heap.size a0 a1 (by simp)
  obtain ⟨k2, k3⟩ := G3.out.at (w.heap.size + 1) b0 b1 (by simp)
  clear hB G2
  go_wp2_with fail
  clear k0 k1 k2 k3
  refine (rop_any _ _ _ _ _ _).mono ?_
  rintro e w4 ⟨rfl, hB⟩
  have G4 := Lib.hid ((G3.out.keep hB).add (gop 1 a0 a1 b0 b1).1 (gop 1 a0 a1 b0 b1).2 23)
  obtain ⟨k0, k1⟩ := G4.out.at w.heap.size a0 a1 (by simp)
  obtain ⟨k2, k3⟩ := G4.out.at (w.heap.size + 1) b0 b1 (by simp)
  clear hB G3
  go_wp2_with fail
  clear k0 k1 k2 k3
  refine (rop_any _ _ _ _ _ _).mono ?_
  rintro e w5 ⟨rfl, hB⟩
  have G5 := Lib.hid ((G4.out.keep hB).add (gop 2 a0 a1 b0 b1).1 (gop 2 a0 a1 b0 b1).2 23)
  obtain ⟨k0, k1⟩ := G5.out.at w.heap.size a0 a1 (by simp)
  obtain ⟨k2, k3⟩ := G5.out.at (w.heap.size + 1) b0 b1 (by simp)
  clear hB G4
  go_wp2_with fail
  clear k0 k1 k2 k3
  refine (rop_any _ _ _ _ _ _).mono ?_
  rintro e w6 ⟨rfl, hB⟩
  have G6 := Lib.hid ((G5.out.keep hB).add (gop 3 a0 a1 b0 b1).1 (gop 3 a0 a1 b0 b1).2 23)
  obtain ⟨k0, k1⟩ := G6.out.at w.heap.size a0 a1 (by simp)
  obtain ⟨k2, k3⟩ := G6.out.at (w.heap.size + 1) b0 b1 (by simp)
  clear hB G5
  go_wp2_with fail
  clear k0 k1 k2 k3
  refine (rop_any _ _ _ _ _ _).mono ?_
  rintro e w7 ⟨rfl, hB⟩
  rw [gop_four a0 a1 b0 b1]
  have G7 := Lib.hid ((G6.out.keep hB).add (gop 4 a0 a1 0 0).1 (gop 4 a0 a1 0 0).2 23)
  obtain ⟨k0, k1⟩ := G7.out.at w.heap.size a0 a1 (by simp)
  obtain ⟨k2, k3⟩ := G7.out.at (w.heap.size + 1) b0 b1 (by simp)
  clear hB G6
  go_wp2_with fail
  clear k0 k1 k2 k3
  generalize w7.alloc (.cells #[.int .i64 (gop 4 a0 a1 0 0).1, .int .i64 (gop 4 a0 a1 0 0).2] 23) = W at *
  have q1 := num_eql
  have q2 := num_neq
  rcases He.out with ⟨h1, h2⟩ | ⟨h1, h2⟩
  · rw [h1, h2]
    clear h1 h2
    go_cut [87] (fun s wx => s = .bool false ∧ Below W.heap.size W wx)
    case first =>
      have hw := Hw.out
      refine wp_region_held_drew (S := (fun w' => w'.cell? ⟨w.heap.size, 0, none⟩ = some (.int .i64 a0) ∧ w'.cell? ⟨w.heap.size, 1, none⟩ = some (.int .i64 a1) ∧ w'.cell? ⟨w2.heap.size, 0, none⟩ = some (.int .i64 (gop op a0 a1 b0 b1).1) ∧ w'.cell? ⟨w2.heap.size, 1, none⟩ = some (.int .i64 (gop op a0 a1 b0 b1).2) ∧ w'.cell? ⟨w3.heap.size, 0, none⟩ = some (.int .i64 (gop op a0 a1 b0 b1).1) ∧ w'.cell? ⟨w3.heap.size, 1, none⟩ = some (.int .i64 (gop op a0 a1 b0 b1).2) ∧ Below W.heap.size W w')) (by kernel_rfl) ?_ (fun hHeld => ?_)
      · exact ⟨(G7.out.at w.heap.size a0 a1 (by simp)).1, (G7.out.at w.heap.size a0 a1 (by simp)).2, (G7.out.at w2.heap.size (gop op a0 a1 b0 b1).1 (gop op a0 a1 b0 b1).2 (by simp)).1, (G7.out.at w2.heap.size (gop op a0 a1 b0 b1).1 (gop op a0 a1 b0 b1).2 (by simp)).2, (G7.out.at w3.heap.size (gop op a0 a1 b0 b1).1 (gop op a0 a1 b0 b1).2 (by simp)).1, (G7.out.at w3.heap.size (gop op a0 a1 b0 b1).1 (gop op a0 a1 b0 b1).2 (by simp)).2, (Below.refl _ _).drew⟩
      refine take_at 0 (v := ?_) (some 59) rfl rfl (by kernel_rfl) (by kernel_rfl) (by kernel_rfl) (fun _ _ _ h => h) (Or.inl ⟨by rfl, ?_⟩) hHeld ?_
      rotate_left
      · (intro w hSw; (try dsimp only at hSw); go_simp; (try with_reducible rfl))
      simp only [Act.put, List.setIfInBounds_toArray, List.set_cons_zero, List.set_cons_succ]
      refine take_at 1 (v := ?_) (some 60) rfl rfl (by kernel_rfl) (by kernel_rfl) (by kernel_rfl) (fun _ _ _ h => h) (Or.inl ⟨by rfl, ?_⟩) hHeld ?_
      rotate_left
      · (intro w hSw; (try dsimp only at hSw); go_simp; (try with_reducible rfl))
      simp only [Act.put, List.setIfInBounds_toArray, List.set_cons_zero, List.set_cons_succ]
      refine take_at 2 (v := ?_) (some 61) rfl rfl (by kernel_rfl) (by kernel_rfl) (by kernel_rfl) (fun _ _ _ h => h) (Or.inl ⟨by rfl, ?_⟩) hHeld ?_
      rotate_left
      · (intro w hSw; (try dsimp only at hSw); go_simp; (try with_reducible rfl))
      simp only [Act.put, List.setIfInBounds_toArray, List.set_cons_zero, List.set_cons_succ]
      refine take_at 3 (v := ?_) (some 62) rfl rfl (by kernel_rfl) (by kernel_rfl) (by kernel_rfl) (fun _ _ _ h => h) (Or.inl ⟨by rfl, ?_⟩) hHeld ?_
      rotate_left
      · (intro w hSw; (try dsimp only at hSw); go_simp; (try with_reducible rfl))
      simp only [Act.put, List.setIfInBounds_toArray, List.set_cons_zero, List.set_cons_succ]
      refine take_at 4 (v := ?_) (some 63) rfl rfl (by kernel_rfl) (by kernel_rfl) (by kernel_rfl) (fun _ _ _ h => h) (Or.inl ⟨by rfl, ?_⟩) hHeld ?_
      rotate_left
      · (intro w hSw; (try dsimp only at hSw); go_simp; (try with_reducible rfl))
      simp only [Act.put, List.setIfInBounds_toArray, List.set_cons_zero, List.set_cons_succ]
      refine take_at 5 (v := ?_) (some 64) rfl rfl (by kernel_rfl) (by kernel_rfl) (by kernel_rfl) (fun _ _ _ h => h) (Or.inl ⟨by rfl, ?_⟩) hHeld ?_
      rotate_left
      · (intro w hSw; (try dsimp only at hSw); go_simp; (try with_reducible rfl))
      simp only [Act.put, List.setIfInBounds_toArray, List.set_cons_zero, List.set_cons_succ]
      refine take_at 6 (v := ?_) (some 65) rfl rfl (by kernel_rfl) (by kernel_rfl) (by kernel_rfl) (fun _ _ _ h => h) (Or.inl ⟨by rfl, ?_⟩) hHeld ?_
      rotate_left
      · (intro w hSw; (try dsimp only at hSw); go_simp; (try with_reducible rfl))
      simp only [Act.put, List.setIfInBounds_toArray, List.set_cons_zero, List.set_cons_succ]
      refine take_at 7 (v := ?_) (some 66) rfl rfl (by kernel_rfl) (by kernel_rfl) (by kernel_rfl) (fun _ _ _ h => h) (Or.inl ⟨by rfl, ?_⟩) hHeld ?_
      rotate_left
      · (intro w hSw; (try dsimp only at hSw); go_simp; (try with_reducible rfl))
      simp only [Act.put, List.setIfInBounds_toArray, List.set_cons_zero, List.set_cons_succ]
      refine take_at 8 (v := ?_) (some 67) rfl rfl (by kernel_rfl) (by kernel_rfl) (by kernel_rfl) (fun _ _ _ h => h) (Or.inl ⟨by rfl, ?_⟩) hHeld ?_
      rotate_left
      · (intro w hSw; (try dsimp only at hSw); go_simp; (try with_reducible rfl))
      simp only [Act.put, List.setIfInBounds_toArray, List.set_cons_zero, List.set_cons_succ]
      refine take_at 9 (v := ?_) (some 68) rfl rfl (by kernel_rfl) (by kernel_rfl) (by kernel_rfl) (fun _ _ _ h => h) (Or.inl ⟨by rfl, ?_⟩) hHeld ?_
      rotate_left
      · (intro w hSw; (try dsimp only at hSw); go_simp; (try with_reducible rfl))
      simp only [Act.put, List.setIfInBounds_toArray, List.set_cons_zero, List.set_cons_succ]
      refine take_at 10 (v := ?_) (some 69) rfl rfl (by kernel_rfl) (by kernel_rfl) (by kernel_rfl) (fun _ _ _ h => h) (Or.inl ⟨by rfl, ?_⟩) hHeld ?_
      rotate_left
      · (intro w hSw; (try dsimp only at hSw); go_simp; (try with_reducible rfl))
      simp only [Act.put, List.setIfInBounds_toArray, List.set_cons_zero, List.set_cons_succ]
      refine take_at 11 (v := ?_) (some 70) rfl rfl (by kernel_rfl) (by kernel_rfl) (by kernel_rfl) (fun _ _ _ h => h) (Or.inl ⟨by rfl, ?_⟩) hHeld ?_
      rotate_left
      · (intro w hSw; (try dsimp only at hSw); go_simp; (try with_reducible rfl))
      simp only [Act.put, List.setIfInBounds_toArray, List.set_cons_zero, List.set_cons_succ]
      refine take_at 12 (v := ?_) (some 71) rfl rfl (by kernel_rfl) (by kernel_rfl) (by kernel_rfl) (fun _ _ _ h => h) (Or.inl ⟨by rfl, ?_⟩) hHeld ?_
      rotate_left
      · (intro w hSw; (try dsimp only at hSw); go_simp; (try with_reducible rfl))
      simp only [Act.put, List.setIfInBounds_toArray, List.set_cons_zero, List.set_cons_succ]
      refine take_at 13 (v := undef) (some 72) rfl rfl (by kernel_rfl) (by kernel_rfl) (by kernel_rfl) (fun _ _ _ h => h) (Or.inr ⟨by rfl, rfl⟩) hHeld ?_
      simp only [Act.put, List.setIfInBounds_toArray, List.set_cons_zero, List.set_cons_succ]
      refine take_at 14 (v := undef) (some 73) rfl rfl (by kernel_rfl) (by kernel_rfl) (by kernel_rfl) (fun _ _ _ h => h) (Or.inr ⟨by rfl, rfl⟩) hHeld ?_
      simp only [Act.put, List.setIfInBounds_toArray, List.set_cons_zero, List.set_cons_succ]
      refine take_at 15 (v := ?_) (some 74) rfl rfl (by kernel_rfl) (by kernel_rfl) (by kernel_rfl) (fun _ _ _ h => h) (Or.inl ⟨by rfl, ?_⟩) hHeld ?_
      rotate_left
      · (intro w hSw; (try dsimp only at hSw); go_simp; (try with_reducible rfl))
      simp only [Act.put, List.setIfInBounds_toArray, List.set_cons_zero, List.set_cons_succ]
      refine take_at 16 (v := ?_) (some 75) rfl rfl (by kernel_rfl) (by kernel_rfl) (by kernel_rfl) (fun _ _ _ h => h) (Or.inl ⟨by rfl, ?_⟩) hHeld ?_
      rotate_left
      · (intro w hSw; (try dsimp only at hSw); go_simp; (try with_reducible rfl))
      simp only [Act.put, List.setIfInBounds_toArray, List.set_cons_zero, List.set_cons_succ]
      refine take_at 17 (v := ?_) (some 76) rfl rfl (by kernel_rfl) (by kernel_rfl) (by kernel_rfl) (fun _ _ _ h => h) (Or.inl ⟨by rfl, ?_⟩) hHeld ?_
      rotate_left
      · (intro w hSw; (try dsimp only at hSw); go_simp; (try with_reducible rfl))
      simp only [Act.put, List.setIfInBounds_toArray, List.set_cons_zero, List.set_cons_succ]
      refine take_at 18 (v := ?_) (some 77) rfl rfl (by kernel_rfl) (by kernel_rfl) (by kernel_rfl) (fun _ _ _ h => h) (Or.inl ⟨by rfl, ?_⟩) hHeld ?_
      rotate_left
      · (intro w hSw; (try dsimp only at hSw); go_simp; (try with_reducible rfl))
      simp only [Act.put, List.setIfInBounds_toArray, List.set_cons_zero, List.set_cons_succ]
      refine take_at 20 (v := ?_) (some 79) rfl rfl (by kernel_rfl) (by kernel_rfl) (by kernel_rfl) (fun _ _ _ h => h) (Or.inl ⟨by rfl, ?_⟩) hHeld ?_
      rotate_left
      · (intro w hSw; (try dsimp only at hSw); go_simp; (try with_reducible rfl))
      simp only [Act.put, List.setIfInBounds_toArray, List.set_cons_zero, List.set_cons_succ]
      refine take_at 21 (v := ?_) (some 80) rfl rfl (by kernel_rfl) (by kernel_rfl) (by kernel_rfl) (fun _ _ _ h => h) (Or.inl ⟨by rfl, ?_⟩) hHeld ?_
      rotate_left
      · (intro w hSw; (try dsimp only at hSw); go_simp; (try with_reducible rfl))
      simp only [Act.put, List.setIfInBounds_toArray, List.set_cons_zero, List.set_cons_succ]
      refine take_at 22 (v := ?_) (some 81) rfl rfl (by kernel_rfl) (by kernel_rfl) (by kernel_rfl) (fun _ _ _ h => h) (Or.inl ⟨by rfl, ?_⟩) hHeld ?_
      rotate_left
      · (intro w hSw; (try dsimp only at hSw); go_simp; (try with_reducible rfl))
      simp only [Act.put, List.setIfInBounds_toArray, List.set_cons_zero, List.set_cons_succ]
      refine take_at 23 (v := ?_) (some 82) rfl rfl (by kernel_rfl) (by kernel_rfl) (by kernel_rfl) (fun _ _ _ h => h) (Or.inl ⟨by rfl, ?_⟩) hHeld ?_
      rotate_left
      · (intro w hSw; (try dsimp only at hSw); go_simp; (try with_reducible rfl))
      simp only [Act.put, List.setIfInBounds_toArray, List.set_cons_zero, List.set_cons_succ]
      refine take_at 24 (v := ?_) (some 83) rfl rfl (by kernel_rfl) (by kernel_rfl) (by kernel_rfl) (fun _ _ _ h => h) (Or.inl ⟨by rfl, ?_⟩) hHeld ?_
      rotate_left
      · (intro w hSw; (try dsimp only at hSw); go_simp; (try with_reducible rfl))
      simp only [Act.put, List.setIfInBounds_toArray, List.set_cons_zero, List.set_cons_succ]
      refine wpAnyH_ready (rs := [19]) (by kernel_rfl) (by simp) ?_
      refine AllReadyH.cons rfl (fun K hK => ?_) AllReadyH.nil
      go_simp
      go_at_call 14; refine (isw_any _ _ _).mono ?_; rintro e w' ⟨rfl, hB⟩
      go_wp2_with fail
      refine hK.out _ _ ?_ (fun hHeld => ?_)
      · (try dsimp only at hHeld ⊢)
        go_split_ands
        exact ⟨keepc (by assumption) hB, keepc (by assumption) hB, keepc (by assumption) hB, keepc (by assumption) hB, keepc (by assumption) hB, keepc (by assumption) hB, bel_then (by assumption) hB⟩
      clear hK K hB
      try simp only [Act.put, List.setIfInBounds_toArray, List.set_cons_zero, List.set_cons_succ]
      refine wpAnyH_ready (rs := [25]) (by kernel_rfl) (by simp) ?_
      refine AllReadyH.cons rfl (fun K hK => ?_) AllReadyH.nil
      go_simp
      go_at_call 15; refine (rof_any _ _ _).mono ?_; rintro e w' ⟨rfl, hB⟩
      go_wp2_with fail
      refine hK.out _ _ ?_ (fun hHeld => ?_)
      · (try dsimp only at hHeld ⊢)
        go_split_ands
        exact ⟨keepc (by assumption) hB, keepc (by assumption) hB, keepc (by assumption) hB, keepc (by assumption) hB, keepc (by assumption) hB, keepc (by assumption) hB, bel_then (by assumption) hB⟩
      clear hK K hB
      try simp only [Act.put, List.setIfInBounds_toArray, List.set_cons_zero, List.set_cons_succ]
      refine take_at 26 (v := ?_) (some 85) rfl rfl (by kernel_rfl) (by kernel_rfl) (by kernel_rfl) (fun _ _ _ h => h) (Or.inl ⟨by rfl, ?_⟩) hHeld ?_
      rotate_left
      · (intro w hSw; (try dsimp only at hSw); go_simp; (try with_reducible rfl))
      simp only [Act.put, List.setIfInBounds_toArray, List.set_cons_zero, List.set_cons_succ]
      refine take_at 27 (v := ?_) (some 86) rfl rfl (by kernel_rfl) (by kernel_rfl) (by kernel_rfl) (fun _ _ _ h => h) (Or.inl ⟨by rfl, ?_⟩) hHeld ?_
      rotate_left
      · (intro w hSw; (try dsimp only at hSw); go_simp; (try with_reducible rfl))
      simp only [Act.put, List.setIfInBounds_toArray, List.set_cons_zero, List.set_cons_succ]
      refine take_at 28 (v := ?_) (some 87) rfl rfl (by kernel_rfl) (by kernel_rfl) (by kernel_rfl) (fun _ _ _ h => h) (Or.inl ⟨by rfl, ?_⟩) hHeld ?_
      rotate_left
      · (intro w hSw; (try dsimp only at hSw); go_simp; (try with_reducible rfl))
      simp only [Act.put, List.setIfInBounds_toArray, List.set_cons_zero, List.set_cons_succ]
      refine wpAnyH_done (by kernel_rfl) ?_ _
      go_split_ands
      go_wp2_with fail
      go_meet
      exact ⟨by simp, by assumption⟩
    case rest =>
      obtain ⟨rfl, hBc⟩ := hcut
      have G8 := Lib.hid (G7.out.keep hBc)
      clear hBc
      go_upto_region 11 with fail
      first
        | (go_region_held3 (fun w' => w'.cell? ⟨w.heap.size, 0, none⟩ = some (.int .i64 a0) ∧ w'.cell? ⟨w.heap.size, 1, none⟩ = some (.int .i64 a1) ∧ w'.cell? ⟨(w.heap.size + 1), 0, none⟩ = some (.int .i64 b0) ∧ w'.cell? ⟨(w.heap.size + 1), 1, none⟩ = some (.int .i64 b1) ∧ w'.cell? ⟨w4.heap.size, 0, none⟩ = some (.int .i64 (gop 1 a0 a1 b0 b1).1) ∧ w'.cell? ⟨w4.heap.size, 1, none⟩ = some (.int .i64 (gop 1 a0 a1 b0 b1).2) ∧ w'.cell? ⟨w5.heap.size, 0, none⟩ = some (.int .i64 (gop 2 a0 a1 b0 b1).1) ∧ w'.cell? ⟨w5.heap.size, 1, none⟩ = some (.int .i64 (gop 2 a0 a1 b0 b1).2) ∧ w'.cell? ⟨w6.heap.size, 0, none⟩ = some (.int .i64 (gop 3 a0 a1 b0 b1).1) ∧ w'.cell? ⟨w6.heap.size, 1, none⟩ = some (.int .i64 (gop 3 a0 a1 b0 b1).2) ∧ w'.cell? ⟨w7.heap.size, 0, none⟩ = some (.int .i64 (gop 4 a0 a1 0 0).1) ∧ w'.cell? ⟨w7.heap.size, 1, none⟩ = some (.int .i64 (gop 4 a0 a1 0 0).2) ∧ Below w.heap.size w w')
            (first
              | assumption
              | exact ⟨(G8.out.at w.heap.size a0 a1 (by simp)).1, (G8.out.at w.heap.size a0 a1 (by simp)).2, (G8.out.at (w.heap.size + 1) b0 b1 (by simp)).1, (G8.out.at (w.heap.size + 1) b0 b1 (by simp)).2, (G8.out.at w4.heap.size (gop 1 a0 a1 b0 b1).1 (gop 1 a0 a1 b0 b1).2 (by simp)).1, (G8.out.at w4.heap.size (gop 1 a0 a1 b0 b1).1 (gop 1 a0 a1 b0 b1).2 (by simp)).2, (G8.out.at w5.heap.size (gop 2 a0 a1 b0 b1).1 (gop 2 a0 a1 b0 b1).2 (by simp)).1, (G8.out.at w5.heap.size (gop 2 a0 a1 b0 b1).1 (gop 2 a0 a1 b0 b1).2 (by simp)).2, (G8.out.at w6.heap.size (gop 3 a0 a1 b0 b1).1 (gop 3 a0 a1 b0 b1).2 (by simp)).1, (G8.out.at w6.heap.size (gop 3 a0 a1 b0 b1).1 (gop 3 a0 a1 b0 b1).2 (by simp)).2, (G8.out.at w7.heap.size (gop 4 a0 a1 0 0).1 (gop 4 a0 a1 0 0).2 (by simp)).1, (G8.out.at w7.heap.size (gop 4 a0 a1 0 0).1 (gop 4 a0 a1 0 0).2 (by simp)).2, G8.out.2.drew⟩
              | (go_split_ands; exact ⟨keepc (by assumption) hB, keepc (by assumption) hB, keepc (by assumption) hB, keepc (by assumption) hB, keepc (by assumption) hB, keepc (by assumption) hB, keepc (by assumption) hB, keepc (by assumption) hB, keepc (by assumption) hB, keepc (by assumption) hB, keepc (by assumption) hB, keepc (by assumption) hB, bel_then (by assumption) hB⟩))
            (first
              | (go_at_call 16; refine (add_any _ _ _ _ _).mono ?_; rintro e w' ⟨rfl, hB⟩)
              | (go_at_call 17; refine (sub_any _ _ _ _ _).mono ?_; rintro e w' ⟨rfl, hB⟩)
              | (go_at_call 18; refine (mul_any _ _ _ _ _).mono ?_; rintro e w' ⟨rfl, hB⟩)
              | (go_at_call 19; refine (conj_any _ _ _).mono ?_; rintro e w' ⟨rfl, hB⟩)
              | (go_at_call 20; refine (wrap_any _ _).mono ?_; rintro e w' ⟨rfl, rfl⟩)
              | (go_at_call 21; refine (rwrap_any _ _).mono ?_; rintro e w' ⟨rfl, rfl⟩)
              | (go_at_call 22; refine (of_any _ _ _).mono ?_; rintro e w' ⟨rfl, hB⟩)
              | (go_at_call 15; refine (rof_any _ _ _).mono ?_; rintro e w' ⟨rfl, hB⟩)))
      all_goals
        go_split_ands
        go_wp2_with fail
        go_ret
        exact ⟨by simp, by assumption⟩
  · rw [h1, h2]
    clear h1 h2
    go_cut [87] (fun s wx => s = .bool false ∧ Below W.heap.size W wx)
    case first =>
      have hw := Hw.out
      first
        | (go_region_held3 (fun w' => w'.cell? ⟨w.heap.size, 0, none⟩ = some (.int .i64 a0) ∧ w'.cell? ⟨w.heap.size, 1, none⟩ = some (.int .i64 a1) ∧ w'.cell? ⟨w2.heap.size, 0, none⟩ = some (.int .i64 (gop op a0 a1 b0 b1).1) ∧ w'.cell? ⟨w2.heap.size, 1, none⟩ = some (.int .i64 (gop op a0 a1 b0 b1).2) ∧ w'.cell? ⟨w3.heap.size, 0, none⟩ = some (.int .i64 (gop op a0 a1 b0 b1).1) ∧ w'.cell? ⟨w3.heap.size, 1, none⟩ = some (.int .i64 (gop op a0 a1 b0 b1).2) ∧ Below W.heap.size W w')
            (first
              | exact ⟨(G7.out.at w.heap.size a0 a1 (by simp)).1, (G7.out.at w.heap.size a0 a1 (by simp)).2, (G7.out.at w2.heap.size (gop op a0 a1 b0 b1).1 (gop op a0 a1 b0 b1).2 (by simp)).1, (G7.out.at w2.heap.size (gop op a0 a1 b0 b1).1 (gop op a0 a1 b0 b1).2 (by simp)).2, (G7.out.at w3.heap.size (gop op a0 a1 b0 b1).1 (gop op a0 a1 b0 b1).2 (by simp)).1, (G7.out.at w3.heap.size (gop op a0 a1 b0 b1).1 (gop op a0 a1 b0 b1).2 (by simp)).2, (Below.refl _ _).drew⟩
              | (go_split_ands; exact ⟨keepc (by assumption) hB, keepc (by assumption) hB, keepc (by assumption) hB, keepc (by assumption) hB, keepc (by assumption) hB, keepc (by assumption) hB, bel_then (by assumption) hB⟩))
            (first
              | (go_at_call 14; refine (isw_any _ _ _).mono ?_; rintro e w' ⟨rfl, hB⟩)
              | (go_at_call 15; refine (rof_any _ _ _).mono ?_; rintro e w' ⟨rfl, hB⟩)))
      all_goals
        go_split_ands
        go_wp2_with fail
        go_meet
        exact ⟨by simp, by assumption⟩
    case rest =>
      obtain ⟨rfl, hBc⟩ := hcut
      have G8 := Lib.hid (G7.out.keep hBc)
      clear hBc
      go_upto_region 11 with fail
      first
        | (go_region_held3 (fun w' => w'.cell? ⟨w.heap.size, 0, none⟩ = some (.int .i64 a0) ∧ w'.cell? ⟨w.heap.size, 1, none⟩ = some (.int .i64 a1) ∧ w'.cell? ⟨(w.heap.size + 1), 0, none⟩ = some (.int .i64 b0) ∧ w'.cell? ⟨(w.heap.size + 1), 1, none⟩ = some (.int .i64 b1) ∧ w'.cell? ⟨w4.heap.size, 0, none⟩ = some (.int .i64 (gop 1 a0 a1 b0 b1).1) ∧ w'.cell? ⟨w4.heap.size, 1, none⟩ = some (.int .i64 (gop 1 a0 a1 b0 b1).2) ∧ w'.cell? ⟨w5.heap.size, 0, none⟩ = some (.int .i64 (gop 2 a0 a1 b0 b1).1) ∧ w'.cell? ⟨w5.heap.size, 1, none⟩ = some (.int .i64 (gop 2 a0 a1 b0 b1).2) ∧ w'.cell? ⟨w6.heap.size, 0, none⟩ = some (.int .i64 (gop 3 a0 a1 b0 b1).1) ∧ w'.cell? ⟨w6.heap.size, 1, none⟩ = some (.int .i64 (gop 3 a0 a1 b0 b1).2) ∧ w'.cell? ⟨w7.heap.size, 0, none⟩ = some (.int .i64 (gop 4 a0 a1 0 0).1) ∧ w'.cell? ⟨w7.heap.size, 1, none⟩ = some (.int .i64 (gop 4 a0 a1 0 0).2) ∧ Below w.heap.size w w')
            (first
              | assumption
              | exact ⟨(G8.out.at w.heap.size a0 a1 (by simp)).1, (G8.out.at w.heap.size a0 a1 (by simp)).2, (G8.out.at (w.heap.size + 1) b0 b1 (by simp)).1, (G8.out.at (w.heap.size + 1) b0 b1 (by simp)).2, (G8.out.at w4.heap.size (gop 1 a0 a1 b0 b1).1 (gop 1 a0 a1 b0 b1).2 (by simp)).1, (G8.out.at w4.heap.size (gop 1 a0 a1 b0 b1).1 (gop 1 a0 a1 b0 b1).2 (by simp)).2, (G8.out.at w5.heap.size (gop 2 a0 a1 b0 b1).1 (gop 2 a0 a1 b0 b1).2 (by simp)).1, (G8.out.at w5.heap.size (gop 2 a0 a1 b0 b1).1 (gop 2 a0 a1 b0 b1).2 (by simp)).2, (G8.out.at w6.heap.size (gop 3 a0 a1 b0 b1).1 (gop 3 a0 a1 b0 b1).2 (by simp)).1, (G8.out.at w6.heap.size (gop 3 a0 a1 b0 b1).1 (gop 3 a0 a1 b0 b1).2 (by simp)).2, (G8.out.at w7.heap.size (gop 4 a0 a1 0 0).1 (gop 4 a0 a1 0 0).2 (by simp)).1, (G8.out.at w7.heap.size (gop 4 a0 a1 0 0).1 (gop 4 a0 a1 0 0).2 (by simp)).2, G8.out.2.drew⟩
              | (go_split_ands; exact ⟨keepc (by assumption) hB, keepc (by assumption) hB, keepc (by assumption) hB, keepc (by assumption) hB, keepc (by assumption) hB, keepc (by assumption) hB, keepc (by assumption) hB, keepc (by assumption) hB, keepc (by assumption) hB, keepc (by assumption) hB, keepc (by assumption) hB, keepc (by assumption) hB, bel_then (by assumption) hB⟩))
            (first
              | (go_at_call 16; refine (add_any _ _ _ _ _).mono ?_; rintro e w' ⟨rfl, hB⟩)
              | (go_at_call 17; refine (sub_any _ _ _ _ _).mono ?_; rintro e w' ⟨rfl, hB⟩)
              | (go_at_call 18; refine (mul_any _ _ _ _ _).mono ?_; rintro e w' ⟨rfl, hB⟩)
              | (go_at_call 19; refine (conj_any _ _ _).mono ?_; rintro e w' ⟨rfl, hB⟩)
              | (go_at_call 20; refine (wrap_any _ _).mono ?_; rintro e w' ⟨rfl, rfl⟩)
              | (go_at_call 21; refine (rwrap_any _ _).mono ?_; rintro e w' ⟨rfl, rfl⟩)
              | (go_at_call 22; refine (of_any _ _ _).mono ?_; rintro e w' ⟨rfl, hB⟩)
              | (go_at_call 15; refine (rof_any _ _ _).mono ?_; rintro e w' ⟨rfl, hB⟩)))
      all_goals
        go_split_ands
        go_wp2_with fail
        go_ret
        exact ⟨by simp, by assumption⟩

end Go.Proofs.YtgjcfmkaeffffaaDoor
