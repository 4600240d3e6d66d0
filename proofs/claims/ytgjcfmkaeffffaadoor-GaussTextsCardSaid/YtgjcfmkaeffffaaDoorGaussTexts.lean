/-
  soughlaw01.GaussTexts: the walk.
-/
import Derived.Test.YtgjcfmkaeffffaaDoorGaussAwake
import Derived.Test.YtgjcfmkaeffffaaDoorTextEq
import Derived.Test.YtgjcfmkaeffffaaDoorTake
import Derived.Test.YtgjcfmkaeffffaaDoorConstRefOp
namespace Go.Proofs.YtgjcfmkaeffffaaDoor
open Go.RowKit

theorem GS.put {w W : World} {L : List (Nat × Int × Int)} (h : GS w W L) {B : Nat} {x y : Int} (k : Pr W B x y) : GS w W ((B, x, y) :: L) := by
  refine ⟨fun p hp => ?_, h.2⟩
  rcases List.mem_cons.1 hp with rfl | hp
  · exact k
  · exact h.1 p hp
theorem wr_word0 (a b : Int) : wr (word a b) = wr a := by unfold word wr; omega
theorem wr_word1 (a b : Int) : wr (word a b / 65536) = wr b := by unfold word wr; omega
theorem word_of {x : Int} (h0 : 0 ≤ x) (h : x < 4294967296) : word (wr x) (wr (x / 65536)) = x := by unfold word wr; omega
theorem isw_wr (x y : Int) : isw (wr x) (wr y) = true := by
  have h (z : Int) : wr (wr z) = wr z := by unfold wr; omega
  unfold isw; rw [h, h]; simp
theorem tri (a b c d : Int) : (ntext a b = ntext c d ∧ (wr a == wr c) = true ∧ (wr b == wr d) = true) ∨ (ntext a b ≠ ntext c d ∧ (wr a == wr c) = false) ∨ (ntext a b ≠ ntext c d ∧ (wr a == wr c) = true ∧ (wr b == wr d) = false) := by
  by_cases h0 : wr a = wr c
  · by_cases h1 : wr b = wr d
    · exact .inl ⟨(ntext_eq _ _ _ _).2 ⟨h0, h1⟩, by simpa using h0, by simpa using h1⟩
    · exact .inr (.inr ⟨fun h => h1 (ntext_inj h).2, by simpa using h0, by simpa using h1⟩)
  · exact .inr (.inl ⟨fun h => h0 (ntext_inj h).1, by simpa using h0⟩)
set_option maxHeartbeats 12800000 in
set_option maxRecDepth 100000 in
theorem gaussTexts_walk (a0 a1 b0 b1 x : Int) (w : World) (ht : Tab w) (h0 : 0 ≤ x ∧ x ≤ 18446744073709551615) :
    Calls Tryd.prog 5 #[.agg #[.int .i64 a0, .int .i64 a1], .agg #[.int .i64 b0, .int .i64 b1], .int .u64 x] w fun e w' => e = .returned (.bool true) ∧ Below w.heap.size w w' := by
  have Ht := Lib.hid ht
  have H0 := Lib.hid h0
  clear ht h0
  go_enter Tryd.func5, Tryd.ntmps5
  go_wp2_with fail
  refine (awake01_any _ (Ht.out.below (((Below.refl w.heap.size w).alloc (Nat.le_refl _) _).alloc (by simp) _))).mono ?_
  rintro e w1 ⟨rfl, hB⟩
  have g := (((GS.start w).add a0 a1 23).add b0 b1 23).keep hB
  simp only [World.size_alloc] at g
  have G1 := Lib.hid g
  clear hB g
  go_wp2_with fail
  go_cut [7, 8] (fun s t wx => ∃ p q, s = .pointer (some ⟨p, 0, none⟩) ∧ t = .pointer (some ⟨q, 0, none⟩) ∧ Pr wx p (wr a0) (wr a1) ∧ Pr wx q (wr b0) (wr b1) ∧ Below w1.heap.size w1 wx)
  case first =>
    have hlt := cell_lt (G1.out.at (w.heap.size + 1) b0 b1 (by simp)).1
    simp only at hlt
    refine wp_region_held_drew (S := (fun w' => w'.cell? ⟨w.heap.size, 0, none⟩ = some (.int .i64 a0) ∧ w'.cell? ⟨w.heap.size, 1, none⟩ = some (.int .i64 a1) ∧ w'.cell? ⟨w.heap.size + 1, 0, none⟩ = some (.int .i64 b0) ∧ w'.cell? ⟨w.heap.size + 1, 1, none⟩ = some (.int .i64 b1) ∧ Below w1.heap.size w1 w')) (by kernel_rfl) ?_ (fun hHeld => ?_)
    · exact ⟨(G1.out.at w.heap.size a0 a1 (by simp)).1, (G1.out.at w.heap.size a0 a1 (by simp)).2, (G1.out.at (w.heap.size + 1) b0 b1 (by simp)).1, (G1.out.at (w.heap.size + 1) b0 b1 (by simp)).2, (Below.refl _ _).drew⟩
    generalize w1.drew = v0 at hHeld ⊢
    refine take_at 0 (v := ?_) (some 15) rfl rfl (by kernel_rfl) (by kernel_rfl) (by kernel_rfl) (fun _ _ _ h => h) (Or.inl ⟨by rfl, ?_⟩) hHeld ?_
    rotate_left
    · (intro w hSw; (try dsimp only at hSw); go_simp; (try with_reducible rfl))
    simp only [Act.put, List.setIfInBounds_toArray, List.set_cons_zero, List.set_cons_succ]
    refine take_at 1 (v := ?_) (some 16) rfl rfl (by kernel_rfl) (by kernel_rfl) (by kernel_rfl) (fun _ _ _ h => h) (Or.inl ⟨by rfl, ?_⟩) hHeld ?_
    rotate_left
    · (intro w hSw; (try dsimp only at hSw); go_simp; (try with_reducible rfl))
    simp only [Act.put, List.setIfInBounds_toArray, List.set_cons_zero, List.set_cons_succ]
    refine take_at 2 (v := ?_) (some 17) rfl rfl (by kernel_rfl) (by kernel_rfl) (by kernel_rfl) (fun _ _ _ h => h) (Or.inl ⟨by rfl, ?_⟩) hHeld ?_
    rotate_left
    · (intro w hSw; (try dsimp only at hSw); go_simp; (try with_reducible rfl))
    simp only [Act.put, List.setIfInBounds_toArray, List.set_cons_zero, List.set_cons_succ]
    refine take_at 3 (v := ?_) (some 18) rfl rfl (by kernel_rfl) (by kernel_rfl) (by kernel_rfl) (fun _ _ _ h => h) (Or.inl ⟨by rfl, ?_⟩) hHeld ?_
    rotate_left
    · (intro w hSw; (try dsimp only at hSw); go_simp; (try with_reducible rfl))
    simp only [Act.put, List.setIfInBounds_toArray, List.set_cons_zero, List.set_cons_succ]
    refine take_at 5 (v := ?_) (some 20) rfl rfl (by kernel_rfl) (by kernel_rfl) (by kernel_rfl) (fun _ _ _ h => h) (Or.inl ⟨by rfl, ?_⟩) hHeld ?_
    rotate_left
    · (intro w hSw; (try dsimp only at hSw); go_simp; (try with_reducible rfl))
    simp only [Act.put, List.setIfInBounds_toArray, List.set_cons_zero, List.set_cons_succ]
    refine take_at 6 (v := ?_) (some 21) rfl rfl (by kernel_rfl) (by kernel_rfl) (by kernel_rfl) (fun _ _ _ h => h) (Or.inl ⟨by rfl, ?_⟩) hHeld ?_
    rotate_left
    · (intro w hSw; (try dsimp only at hSw); go_simp; (try with_reducible rfl))
    simp only [Act.put, List.setIfInBounds_toArray, List.set_cons_zero, List.set_cons_succ]
    refine take_at 7 (v := ?_) (some 22) rfl rfl (by kernel_rfl) (by kernel_rfl) (by kernel_rfl) (fun _ _ _ h => h) (Or.inl ⟨by rfl, ?_⟩) hHeld ?_
    rotate_left
    · (intro w hSw; (try dsimp only at hSw); go_simp; (try with_reducible rfl))
    simp only [Act.put, List.setIfInBounds_toArray, List.set_cons_zero, List.set_cons_succ]
    refine take_at 8 (v := ?_) (some 23) rfl rfl (by kernel_rfl) (by kernel_rfl) (by kernel_rfl) (fun _ _ _ h => h) (Or.inl ⟨by rfl, ?_⟩) hHeld ?_
    rotate_left
    · (intro w hSw; (try dsimp only at hSw); go_simp; (try with_reducible rfl))
    simp only [Act.put, List.setIfInBounds_toArray, List.set_cons_zero, List.set_cons_succ]
    refine wpAnyH_ready (rs := [4, 10, 11]) (by kernel_rfl) (by simp) ?_
    refine AllReadyH.cons rfl (fun K hK => ?_) (AllReadyH.cons rfl (fun K hK => ?_) (AllReadyH.cons rfl (fun K hK => ?_) AllReadyH.nil))
    · go_simp
      go_at_call 15; refine (rof_any _ _ _).mono ?_; rintro e v1 ⟨rfl, hB⟩
      go_wp2_with fail
      refine hK.out _ _ ?_ (fun hHeld => ?_)
      · (try dsimp only at hHeld ⊢)
        go_split_ands
        exact ⟨keepc (by assumption) hB, keepc (by assumption) hB, keepc (by assumption) hB, keepc (by assumption) hB, bel_then (by assumption) hB⟩
      clear hK K hB
      try simp only [Act.put, List.setIfInBounds_toArray, List.set_cons_zero, List.set_cons_succ]
      refine wpAnyH_ready (rs := [9, 10, 11]) (by kernel_rfl) (by simp) ?_
      refine AllReadyH.cons rfl (fun K hK => ?_) (AllReadyH.cons rfl (fun K hK => ?_) (AllReadyH.cons rfl (fun K hK => ?_) AllReadyH.nil))
      · go_simp
        go_at_call 15; refine (rof_any _ _ _).mono ?_; rintro e v2 ⟨rfl, hB⟩
        go_wp2_with fail
        refine hK.out _ _ ?_ (fun hHeld => ?_)
        · (try dsimp only at hHeld ⊢)
          go_split_ands
          exact ⟨keepc (by assumption) hB, keepc (by assumption) hB, keepc (by assumption) hB, keepc (by assumption) hB, bel_then (by assumption) hB⟩
        clear hK K hB
        try simp only [Act.put, List.setIfInBounds_toArray, List.set_cons_zero, List.set_cons_succ]
        refine wpAnyH_ready (rs := [10, 11]) (by kernel_rfl) (by simp) ?_
        refine AllReadyH.cons rfl (fun K hK => ?_) (AllReadyH.cons rfl (fun K hK => ?_) AllReadyH.nil)
        · go_simp
          have hB := (Below.refl v2.heap.size v2).alloc (Nat.le_refl _) (.cells #[.int .i64 0, .int .i64 0] 23)
          have p7 := P2.new v2 (.int .i64 0) (.int .i64 0) 23
          have g7 := hHeld.2.2.2.2.size
          generalize v2.alloc (.cells #[.int .i64 0, .int .i64 0] 23) = v3 at hB p7 ⊢
          refine hK.out _ _ ?_ (fun hHeld => ?_)
          · (try dsimp only at hHeld ⊢)
            go_split_ands
            exact ⟨keepc (by assumption) hB, keepc (by assumption) hB, keepc (by assumption) hB, keepc (by assumption) hB, bel_then (by assumption) hB⟩
          clear hK K hB
          try simp only [Act.put, List.setIfInBounds_toArray, List.set_cons_zero, List.set_cons_succ]
          refine wpAnyH_ready (rs := [11]) (by kernel_rfl) (by simp) ?_
          refine AllReadyH.cons rfl (fun K hK => ?_) AllReadyH.nil
          · go_simp
            have hB := (Below.refl v3.heap.size v3).alloc (Nat.le_refl _) (.cells #[.int .i64 0, .int .i64 0] 23)
            have p8 := P2.new v3 (.int .i64 0) (.int .i64 0) 23
            have g8 := hHeld.2.2.2.2.size
            have l8 := cell_lt p7.1
            simp only at l8
            generalize v3.alloc (.cells #[.int .i64 0, .int .i64 0] 23) = v4 at hB p8 ⊢
            refine hK.out _ _ ?_ (fun hHeld => ?_)
            · (try dsimp only at hHeld ⊢)
              go_split_ands
              exact ⟨keepc (by assumption) hB, keepc (by assumption) hB, keepc (by assumption) hB, keepc (by assumption) hB, bel_then (by assumption) hB⟩
            have p7 := p7.keep hB
            clear hK K hB
            try simp only [Act.put, List.setIfInBounds_toArray, List.set_cons_zero, List.set_cons_succ]
            refine wpAnyH_ready (rs := [12]) (by kernel_rfl) (by simp) ?_
            refine AllReadyH.cons rfl (fun K hK => ?_) AllReadyH.nil
            obtain ⟨c0, c1, f0, f1⟩ := p7
            go_simp
            have p7 := P2.set ⟨c0, c1, f0, f1⟩ (.int .i64 (wr a0)) (.int .i64 (wr a1))
            have p8 := P2.other p8 (C := v2.heap.size) (by omega) (.int .i64 (wr a0)) (.int .i64 (wr a1))
            clear c0 c1 f0 f1
            refine hK.out _ _ ?_ (fun hHeld => ?_)
            · (try dsimp only at hHeld ⊢)
              go_split_ands
              exact ⟨set_other (set_other (by assumption) (.inl (by show v2.heap.size ≠ w.heap.size; omega))) (.inl (by show v2.heap.size ≠ w.heap.size; omega)), set_other (set_other (by assumption) (.inl (by show v2.heap.size ≠ w.heap.size; omega))) (.inl (by show v2.heap.size ≠ w.heap.size; omega)), set_other (set_other (by assumption) (.inl (by show v2.heap.size ≠ w.heap.size + 1; omega))) (.inl (by show v2.heap.size ≠ w.heap.size + 1; omega)), set_other (set_other (by assumption) (.inl (by show v2.heap.size ≠ w.heap.size + 1; omega))) (.inl (by show v2.heap.size ≠ w.heap.size + 1; omega)), bel_set2 (by assumption) (by omega) _ _⟩
            clear hK K
            generalize (v4.setCell ⟨v2.heap.size, 0, none⟩ (.int .i64 (wr a0))).setCell ⟨v2.heap.size, 1, none⟩ (.int .i64 (wr a1)) = v5 at hHeld p7 p8 ⊢
            try simp only [Act.put, List.setIfInBounds_toArray, List.set_cons_zero, List.set_cons_succ]
            refine wpAnyH_ready (rs := [13]) (by kernel_rfl) (by simp) ?_
            refine AllReadyH.cons rfl (fun K hK => ?_) AllReadyH.nil
            obtain ⟨c0, c1, f0, f1⟩ := p8
            go_simp
            have p8 := P2.set ⟨c0, c1, f0, f1⟩ (.int .i64 (wr b0)) (.int .i64 (wr b1))
            have p7 := P2.other p7 (C := v3.heap.size) (by omega) (.int .i64 (wr b0)) (.int .i64 (wr b1))
            clear c0 c1 f0 f1
            refine hK.out _ _ ?_ (fun hHeld => ?_)
            · (try dsimp only at hHeld ⊢)
              go_split_ands
              exact ⟨set_other (set_other (by assumption) (.inl (by show v3.heap.size ≠ w.heap.size; omega))) (.inl (by show v3.heap.size ≠ w.heap.size; omega)), set_other (set_other (by assumption) (.inl (by show v3.heap.size ≠ w.heap.size; omega))) (.inl (by show v3.heap.size ≠ w.heap.size; omega)), set_other (set_other (by assumption) (.inl (by show v3.heap.size ≠ w.heap.size + 1; omega))) (.inl (by show v3.heap.size ≠ w.heap.size + 1; omega)), set_other (set_other (by assumption) (.inl (by show v3.heap.size ≠ w.heap.size + 1; omega))) (.inl (by show v3.heap.size ≠ w.heap.size + 1; omega)), bel_set2 (by assumption) (by omega) _ _⟩
            clear hK K
            generalize (v5.setCell ⟨v3.heap.size, 0, none⟩ (.int .i64 (wr b0))).setCell ⟨v3.heap.size, 1, none⟩ (.int .i64 (wr b1)) = v6 at hHeld p7 p8 ⊢
            try simp only [Act.put, List.setIfInBounds_toArray, List.set_cons_zero, List.set_cons_succ]
            refine wpAnyH_done (by kernel_rfl) ?_ _
            go_wp2_with fail
            go_meet
            exact ⟨_, _, rfl, rfl, ⟨p7.1, p7.2.1⟩, ⟨p8.1, p8.2.1⟩, hHeld.2.2.2.2⟩
        · go_simp
          have hB := (Below.refl v2.heap.size v2).alloc (Nat.le_refl _) (.cells #[.int .i64 0, .int .i64 0] 23)
          have p8 := P2.new v2 (.int .i64 0) (.int .i64 0) 23
          have g8 := hHeld.2.2.2.2.size
          generalize v2.alloc (.cells #[.int .i64 0, .int .i64 0] 23) = v7 at hB p8 ⊢
          refine hK.out _ _ ?_ (fun hHeld => ?_)
          · (try dsimp only at hHeld ⊢)
            go_split_ands
            exact ⟨keepc (by assumption) hB, keepc (by assumption) hB, keepc (by assumption) hB, keepc (by assumption) hB, bel_then (by assumption) hB⟩
          clear hK K hB
          try simp only [Act.put, List.setIfInBounds_toArray, List.set_cons_zero, List.set_cons_succ]
          refine wpAnyH_ready (rs := [10]) (by kernel_rfl) (by simp) ?_
          refine AllReadyH.cons rfl (fun K hK => ?_) AllReadyH.nil
          · go_simp
            have hB := (Below.refl v7.heap.size v7).alloc (Nat.le_refl _) (.cells #[.int .i64 0, .int .i64 0] 23)
            have p7 := P2.new v7 (.int .i64 0) (.int .i64 0) 23
            have g7 := hHeld.2.2.2.2.size
            have l7 := cell_lt p8.1
            simp only at l7
            generalize v7.alloc (.cells #[.int .i64 0, .int .i64 0] 23) = v8 at hB p7 ⊢
            refine hK.out _ _ ?_ (fun hHeld => ?_)
            · (try dsimp only at hHeld ⊢)
              go_split_ands
              exact ⟨keepc (by assumption) hB, keepc (by assumption) hB, keepc (by assumption) hB, keepc (by assumption) hB, bel_then (by assumption) hB⟩
            have p8 := p8.keep hB
            clear hK K hB
            try simp only [Act.put, List.setIfInBounds_toArray, List.set_cons_zero, List.set_cons_succ]
            refine wpAnyH_ready (rs := [12]) (by kernel_rfl) (by simp) ?_
            refine AllReadyH.cons rfl (fun K hK => ?_) AllReadyH.nil
            obtain ⟨c0, c1, f0, f1⟩ := p7
            go_simp
            have p7 := P2.set ⟨c0, c1, f0, f1⟩ (.int .i64 (wr a0)) (.int .i64 (wr a1))
            have p8 := P2.other p8 (C := v7.heap.size) (by omega) (.int .i64 (wr a0)) (.int .i64 (wr a1))
            clear c0 c1 f0 f1
            refine hK.out _ _ ?_ (fun hHeld => ?_)
            · (try dsimp only at hHeld ⊢)
              go_split_ands
              exact ⟨set_other (set_other (by assumption) (.inl (by show v7.heap.size ≠ w.heap.size; omega))) (.inl (by show v7.heap.size ≠ w.heap.size; omega)), set_other (set_other (by assumption) (.inl (by show v7.heap.size ≠ w.heap.size; omega))) (.inl (by show v7.heap.size ≠ w.heap.size; omega)), set_other (set_other (by assumption) (.inl (by show v7.heap.size ≠ w.heap.size + 1; omega))) (.inl (by show v7.heap.size ≠ w.heap.size + 1; omega)), set_other (set_other (by assumption) (.inl (by show v7.heap.size ≠ w.heap.size + 1; omega))) (.inl (by show v7.heap.size ≠ w.heap.size + 1; omega)), bel_set2 (by assumption) (by omega) _ _⟩
            clear hK K
            generalize (v8.setCell ⟨v7.heap.size, 0, none⟩ (.int .i64 (wr a0))).setCell ⟨v7.heap.size, 1, none⟩ (.int .i64 (wr a1)) = v9 at hHeld p7 p8 ⊢
            try simp only [Act.put, List.setIfInBounds_toArray, List.set_cons_zero, List.set_cons_succ]
            refine wpAnyH_ready (rs := [13]) (by kernel_rfl) (by simp) ?_
            refine AllReadyH.cons rfl (fun K hK => ?_) AllReadyH.nil
            obtain ⟨c0, c1, f0, f1⟩ := p8
            go_simp
            have p8 := P2.set ⟨c0, c1, f0, f1⟩ (.int .i64 (wr b0)) (.int .i64 (wr b1))
            have p7 := P2.other p7 (C := v2.heap.size) (by omega) (.int .i64 (wr b0)) (.int .i64 (wr b1))
            clear c0 c1 f0 f1
            refine hK.out _ _ ?_ (fun hHeld => ?_)
            · (try dsimp only at hHeld ⊢)
              go_split_ands
              exact ⟨set_other (set_other (by assumption) (.inl (by show v2.heap.size ≠ w.heap.size; omega))) (.inl (by show v2.heap.size ≠ w.heap.size; omega)), set_other (set_other (by assumption) (.inl (by show v2.heap.size ≠ w.heap.size; omega))) (.inl (by show v2.heap.size ≠ w.heap.size; omega)), set_other (set_other (by assumption) (.inl (by show v2.heap.size ≠ w.heap.size + 1; omega))) (.inl (by show v2.heap.size ≠ w.heap.size + 1; omega)), set_other (set_other (by assumption) (.inl (by show v2.heap.size ≠ w.heap.size + 1; omega))) (.inl (by show v2.heap.size ≠ w.heap.size + 1; omega)), bel_set2 (by assumption) (by omega) _ _⟩
            clear hK K
            generalize (v9.setCell ⟨v2.heap.size, 0, none⟩ (.int .i64 (wr b0))).setCell ⟨v2.heap.size, 1, none⟩ (.int .i64 (wr b1)) = v10 at hHeld p7 p8 ⊢
            try simp only [Act.put, List.setIfInBounds_toArray, List.set_cons_zero, List.set_cons_succ]
            refine wpAnyH_done (by kernel_rfl) ?_ _
            go_wp2_with fail
            go_meet
            exact ⟨_, _, rfl, rfl, ⟨p7.1, p7.2.1⟩, ⟨p8.1, p8.2.1⟩, hHeld.2.2.2.2⟩
      · go_simp
        have hB := (Below.refl v1.heap.size v1).alloc (Nat.le_refl _) (.cells #[.int .i64 0, .int .i64 0] 23)
        have p7 := P2.new v1 (.int .i64 0) (.int .i64 0) 23
        have g7 := hHeld.2.2.2.2.size
        generalize v1.alloc (.cells #[.int .i64 0, .int .i64 0] 23) = v11 at hB p7 ⊢
        refine hK.out _ _ ?_ (fun hHeld => ?_)
        · (try dsimp only at hHeld ⊢)
          go_split_ands
          exact ⟨keepc (by assumption) hB, keepc (by assumption) hB, keepc (by assumption) hB, keepc (by assumption) hB, bel_then (by assumption) hB⟩
        clear hK K hB
        try simp only [Act.put, List.setIfInBounds_toArray, List.set_cons_zero, List.set_cons_succ]
        refine wpAnyH_ready (rs := [9, 11]) (by kernel_rfl) (by simp) ?_
        refine AllReadyH.cons rfl (fun K hK => ?_) (AllReadyH.cons rfl (fun K hK => ?_) AllReadyH.nil)
        · go_simp
          go_at_call 15; refine (rof_any _ _ _).mono ?_; rintro e v12 ⟨rfl, hB⟩
          go_wp2_with fail
          refine hK.out _ _ ?_ (fun hHeld => ?_)
          · (try dsimp only at hHeld ⊢)
            go_split_ands
            exact ⟨keepc (by assumption) hB, keepc (by assumption) hB, keepc (by assumption) hB, keepc (by assumption) hB, bel_then (by assumption) hB⟩
          have p7 := p7.keep hB
          clear hK K hB
          try simp only [Act.put, List.setIfInBounds_toArray, List.set_cons_zero, List.set_cons_succ]
          refine wpAnyH_ready (rs := [11]) (by kernel_rfl) (by simp) ?_
          refine AllReadyH.cons rfl (fun K hK => ?_) AllReadyH.nil
          · go_simp
            have hB := (Below.refl v12.heap.size v12).alloc (Nat.le_refl _) (.cells #[.int .i64 0, .int .i64 0] 23)
            have p8 := P2.new v12 (.int .i64 0) (.int .i64 0) 23
            have g8 := hHeld.2.2.2.2.size
            have l8 := cell_lt p7.1
            simp only at l8
            generalize v12.alloc (.cells #[.int .i64 0, .int .i64 0] 23) = v13 at hB p8 ⊢
            refine hK.out _ _ ?_ (fun hHeld => ?_)
            · (try dsimp only at hHeld ⊢)
              go_split_ands
              exact ⟨keepc (by assumption) hB, keepc (by assumption) hB, keepc (by assumption) hB, keepc (by assumption) hB, bel_then (by assumption) hB⟩
            have p7 := p7.keep hB
            clear hK K hB
            try simp only [Act.put, List.setIfInBounds_toArray, List.set_cons_zero, List.set_cons_succ]
            refine wpAnyH_ready (rs := [12]) (by kernel_rfl) (by simp) ?_
            refine AllReadyH.cons rfl (fun K hK => ?_) AllReadyH.nil
            obtain ⟨c0, c1, f0, f1⟩ := p7
            go_simp
            have p7 := P2.set ⟨c0, c1, f0, f1⟩ (.int .i64 (wr a0)) (.int .i64 (wr a1))
            have p8 := P2.other p8 (C := v1.heap.size) (by omega) (.int .i64 (wr a0)) (.int .i64 (wr a1))
            clear c0 c1 f0 f1
            refine hK.out _ _ ?_ (fun hHeld => ?_)
            · (try dsimp only at hHeld ⊢)
              go_split_ands
              exact ⟨set_other (set_other (by assumption) (.inl (by show v1.heap.size ≠ w.heap.size; omega))) (.inl (by show v1.heap.size ≠ w.heap.size; omega)), set_other (set_other (by assumption) (.inl (by show v1.heap.size ≠ w.heap.size; omega))) (.inl (by show v1.heap.size ≠ w.heap.size; omega)), set_other (set_other (by assumption) (.inl (by show v1.heap.size ≠ w.heap.size + 1; omega))) (.inl (by show v1.heap.size ≠ w.heap.size + 1; omega)), set_other (set_other (by assumption) (.inl (by show v1.heap.size ≠ w.heap.size + 1; omega))) (.inl (by show v1.heap.size ≠ w.heap.size + 1; omega)), bel_set2 (by assumption) (by omega) _ _⟩
            clear hK K
            generalize (v13.setCell ⟨v1.heap.size, 0, none⟩ (.int .i64 (wr a0))).setCell ⟨v1.heap.size, 1, none⟩ (.int .i64 (wr a1)) = v14 at hHeld p7 p8 ⊢
            try simp only [Act.put, List.setIfInBounds_toArray, List.set_cons_zero, List.set_cons_succ]
            refine wpAnyH_ready (rs := [13]) (by kernel_rfl) (by simp) ?_
            refine AllReadyH.cons rfl (fun K hK => ?_) AllReadyH.nil
            obtain ⟨c0, c1, f0, f1⟩ := p8
            go_simp
            have p8 := P2.set ⟨c0, c1, f0, f1⟩ (.int .i64 (wr b0)) (.int .i64 (wr b1))
            have p7 := P2.other p7 (C := v12.heap.size) (by omega) (.int .i64 (wr b0)) (.int .i64 (wr b1))
            clear c0 c1 f0 f1
            refine hK.out _ _ ?_ (fun hHeld => ?_)
            · (try dsimp only at hHeld ⊢)
              go_split_ands
              exact ⟨set_other (set_other (by assumption) (.inl (by show v12.heap.size ≠ w.heap.size; omega))) (.inl (by show v12.heap.size ≠ w.heap.size; omega)), set_other (set_other (by assumption) (.inl (by show v12.heap.size ≠ w.heap.size; omega))) (.inl (by show v12.heap.size ≠ w.heap.size; omega)), set_other (set_other (by assumption) (.inl (by show v12.heap.size ≠ w.heap.size + 1; omega))) (.inl (by show v12.heap.size ≠ w.heap.size + 1; omega)), set_other (set_other (by assumption) (.inl (by show v12.heap.size ≠ w.heap.size + 1; omega))) (.inl (by show v12.heap.size ≠ w.heap.size + 1; omega)), bel_set2 (by assumption) (by omega) _ _⟩
            clear hK K
            generalize (v14.setCell ⟨v12.heap.size, 0, none⟩ (.int .i64 (wr b0))).setCell ⟨v12.heap.size, 1, none⟩ (.int .i64 (wr b1)) = v15 at hHeld p7 p8 ⊢
            try simp only [Act.put, List.setIfInBounds_toArray, List.set_cons_zero, List.set_cons_succ]
            refine wpAnyH_done (by kernel_rfl) ?_ _
            go_wp2_with fail
            go_meet
            exact ⟨_, _, rfl, rfl, ⟨p7.1, p7.2.1⟩, ⟨p8.1, p8.2.1⟩, hHeld.2.2.2.2⟩
        · go_simp
          have hB := (Below.refl v11.heap.size v11).alloc (Nat.le_refl _) (.cells #[.int .i64 0, .int .i64 0] 23)
          have p8 := P2.new v11 (.int .i64 0) (.int .i64 0) 23
          have g8 := hHeld.2.2.2.2.size
          have l8 := cell_lt p7.1
          simp only at l8
          generalize v11.alloc (.cells #[.int .i64 0, .int .i64 0] 23) = v16 at hB p8 ⊢
          refine hK.out _ _ ?_ (fun hHeld => ?_)
          · (try dsimp only at hHeld ⊢)
            go_split_ands
            exact ⟨keepc (by assumption) hB, keepc (by assumption) hB, keepc (by assumption) hB, keepc (by assumption) hB, bel_then (by assumption) hB⟩
          have p7 := p7.keep hB
          clear hK K hB
          try simp only [Act.put, List.setIfInBounds_toArray, List.set_cons_zero, List.set_cons_succ]
          refine wpAnyH_ready (rs := [9]) (by kernel_rfl) (by simp) ?_
          refine AllReadyH.cons rfl (fun K hK => ?_) AllReadyH.nil
          · go_simp
            go_at_call 15; refine (rof_any _ _ _).mono ?_; rintro e v17 ⟨rfl, hB⟩
            go_wp2_with fail
            refine hK.out _ _ ?_ (fun hHeld => ?_)
            · (try dsimp only at hHeld ⊢)
              go_split_ands
              exact ⟨keepc (by assumption) hB, keepc (by assumption) hB, keepc (by assumption) hB, keepc (by assumption) hB, bel_then (by assumption) hB⟩
            have p7 := p7.keep hB
            have p8 := p8.keep hB
            clear hK K hB
            try simp only [Act.put, List.setIfInBounds_toArray, List.set_cons_zero, List.set_cons_succ]
            refine wpAnyH_ready (rs := [12]) (by kernel_rfl) (by simp) ?_
            refine AllReadyH.cons rfl (fun K hK => ?_) AllReadyH.nil
            obtain ⟨c0, c1, f0, f1⟩ := p7
            go_simp
            have p7 := P2.set ⟨c0, c1, f0, f1⟩ (.int .i64 (wr a0)) (.int .i64 (wr a1))
            have p8 := P2.other p8 (C := v1.heap.size) (by omega) (.int .i64 (wr a0)) (.int .i64 (wr a1))
            clear c0 c1 f0 f1
            refine hK.out _ _ ?_ (fun hHeld => ?_)
            · (try dsimp only at hHeld ⊢)
              go_split_ands
              exact ⟨set_other (set_other (by assumption) (.inl (by show v1.heap.size ≠ w.heap.size; omega))) (.inl (by show v1.heap.size ≠ w.heap.size; omega)), set_other (set_other (by assumption) (.inl (by show v1.heap.size ≠ w.heap.size; omega))) (.inl (by show v1.heap.size ≠ w.heap.size; omega)), set_other (set_other (by assumption) (.inl (by show v1.heap.size ≠ w.heap.size + 1; omega))) (.inl (by show v1.heap.size ≠ w.heap.size + 1; omega)), set_other (set_other (by assumption) (.inl (by show v1.heap.size ≠ w.heap.size + 1; omega))) (.inl (by show v1.heap.size ≠ w.heap.size + 1; omega)), bel_set2 (by assumption) (by omega) _ _⟩
            clear hK K
            generalize (v17.setCell ⟨v1.heap.size, 0, none⟩ (.int .i64 (wr a0))).setCell ⟨v1.heap.size, 1, none⟩ (.int .i64 (wr a1)) = v18 at hHeld p7 p8 ⊢
            try simp only [Act.put, List.setIfInBounds_toArray, List.set_cons_zero, List.set_cons_succ]
            refine wpAnyH_ready (rs := [13]) (by kernel_rfl) (by simp) ?_
            refine AllReadyH.cons rfl (fun K hK => ?_) AllReadyH.nil
            obtain ⟨c0, c1, f0, f1⟩ := p8
            go_simp
            have p8 := P2.set ⟨c0, c1, f0, f1⟩ (.int .i64 (wr b0)) (.int .i64 (wr b1))
            have p7 := P2.other p7 (C := v11.heap.size) (by omega) (.int .i64 (wr b0)) (.int .i64 (wr b1))
            clear c0 c1 f0 f1
            refine hK.out _ _ ?_ (fun hHeld => ?_)
            · (try dsimp only at hHeld ⊢)
              go_split_ands
              exact ⟨set_other (set_other (by assumption) (.inl (by show v11.heap.size ≠ w.heap.size; omega))) (.inl (by show v11.heap.size ≠ w.heap.size; omega)), set_other (set_other (by assumption) (.inl (by show v11.heap.size ≠ w.heap.size; omega))) (.inl (by show v11.heap.size ≠ w.heap.size; omega)), set_other (set_other (by assumption) (.inl (by show v11.heap.size ≠ w.heap.size + 1; omega))) (.inl (by show v11.heap.size ≠ w.heap.size + 1; omega)), set_other (set_other (by assumption) (.inl (by show v11.heap.size ≠ w.heap.size + 1; omega))) (.inl (by show v11.heap.size ≠ w.heap.size + 1; omega)), bel_set2 (by assumption) (by omega) _ _⟩
            clear hK K
            generalize (v18.setCell ⟨v11.heap.size, 0, none⟩ (.int .i64 (wr b0))).setCell ⟨v11.heap.size, 1, none⟩ (.int .i64 (wr b1)) = v19 at hHeld p7 p8 ⊢
            try simp only [Act.put, List.setIfInBounds_toArray, List.set_cons_zero, List.set_cons_succ]
            refine wpAnyH_done (by kernel_rfl) ?_ _
            go_wp2_with fail
            go_meet
            exact ⟨_, _, rfl, rfl, ⟨p7.1, p7.2.1⟩, ⟨p8.1, p8.2.1⟩, hHeld.2.2.2.2⟩
      · go_simp
        have hB := (Below.refl v1.heap.size v1).alloc (Nat.le_refl _) (.cells #[.int .i64 0, .int .i64 0] 23)
        have p8 := P2.new v1 (.int .i64 0) (.int .i64 0) 23
        have g8 := hHeld.2.2.2.2.size
        generalize v1.alloc (.cells #[.int .i64 0, .int .i64 0] 23) = v20 at hB p8 ⊢
        refine hK.out _ _ ?_ (fun hHeld => ?_)
        · (try dsimp only at hHeld ⊢)
          go_split_ands
          exact ⟨keepc (by assumption) hB, keepc (by assumption) hB, keepc (by assumption) hB, keepc (by assumption) hB, bel_then (by assumption) hB⟩
        clear hK K hB
        try simp only [Act.put, List.setIfInBounds_toArray, List.set_cons_zero, List.set_cons_succ]
        refine wpAnyH_ready (rs := [9, 10]) (by kernel_rfl) (by simp) ?_
        refine AllReadyH.cons rfl (fun K hK => ?_) (AllReadyH.cons rfl (fun K hK => ?_) AllReadyH.nil)
        · go_simp
          go_at_call 15; refine (rof_any _ _ _).mono ?_; rintro e v21 ⟨rfl, hB⟩
          go_wp2_with fail
          refine hK.out _ _ ?_ (fun hHeld => ?_)
          · (try dsimp only at hHeld ⊢)
            go_split_ands
            exact ⟨keepc (by assumption) hB, keepc (by assumption) hB, keepc (by assumption) hB, keepc (by assumption) hB, bel_then (by assumption) hB⟩
          have p8 := p8.keep hB
          clear hK K hB
          try simp only [Act.put, List.setIfInBounds_toArray, List.set_cons_zero, List.set_cons_succ]
          refine wpAnyH_ready (rs := [10]) (by kernel_rfl) (by simp) ?_
          refine AllReadyH.cons rfl (fun K hK => ?_) AllReadyH.nil
          · go_simp
            have hB := (Below.refl v21.heap.size v21).alloc (Nat.le_refl _) (.cells #[.int .i64 0, .int .i64 0] 23)
            have p7 := P2.new v21 (.int .i64 0) (.int .i64 0) 23
            have g7 := hHeld.2.2.2.2.size
            have l7 := cell_lt p8.1
            simp only at l7
            generalize v21.alloc (.cells #[.int .i64 0, .int .i64 0] 23) = v22 at hB p7 ⊢
            refine hK.out _ _ ?_ (fun hHeld => ?_)
            · (try dsimp only at hHeld ⊢)
              go_split_ands
              exact ⟨keepc (by assumption) hB, keepc (by assumption) hB, keepc (by assumption) hB, keepc (by assumption) hB, bel_then (by assumption) hB⟩
            have p8 := p8.keep hB
            clear hK K hB
            try simp only [Act.put, List.setIfInBounds_toArray, List.set_cons_zero, List.set_cons_succ]
            refine wpAnyH_ready (rs := [12]) (by kernel_rfl) (by simp) ?_
            refine AllReadyH.cons rfl (fun K hK => ?_) AllReadyH.nil
            obtain ⟨c0, c1, f0, f1⟩ := p7
            go_simp
            have p7 := P2.set ⟨c0, c1, f0, f1⟩ (.int .i64 (wr a0)) (.int .i64 (wr a1))
            have p8 := P2.other p8 (C := v21.heap.size) (by omega) (.int .i64 (wr a0)) (.int .i64 (wr a1))
            clear c0 c1 f0 f1
            refine hK.out _ _ ?_ (fun hHeld => ?_)
            · (try dsimp only at hHeld ⊢)
              go_split_ands
              exact ⟨set_other (set_other (by assumption) (.inl (by show v21.heap.size ≠ w.heap.size; omega))) (.inl (by show v21.heap.size ≠ w.heap.size; omega)), set_other (set_other (by assumption) (.inl (by show v21.heap.size ≠ w.heap.size; omega))) (.inl (by show v21.heap.size ≠ w.heap.size; omega)), set_other (set_other (by assumption) (.inl (by show v21.heap.size ≠ w.heap.size + 1; omega))) (.inl (by show v21.heap.size ≠ w.heap.size + 1; omega)), set_other (set_other (by assumption) (.inl (by show v21.heap.size ≠ w.heap.size + 1; omega))) (.inl (by show v21.heap.size ≠ w.heap.size + 1; omega)), bel_set2 (by assumption) (by omega) _ _⟩
            clear hK K
            generalize (v22.setCell ⟨v21.heap.size, 0, none⟩ (.int .i64 (wr a0))).setCell ⟨v21.heap.size, 1, none⟩ (.int .i64 (wr a1)) = v23 at hHeld p7 p8 ⊢
            try simp only [Act.put, List.setIfInBounds_toArray, List.set_cons_zero, List.set_cons_succ]
            refine wpAnyH_ready (rs := [13]) (by kernel_rfl) (by simp) ?_
            refine AllReadyH.cons rfl (fun K hK => ?_) AllReadyH.nil
            obtain ⟨c0, c1, f0, f1⟩ := p8
            go_simp
            have p8 := P2.set ⟨c0, c1, f0, f1⟩ (.int .i64 (wr b0)) (.int .i64 (wr b1))
            have p7 := P2.other p7 (C := v1.heap.size) (by omega) (.int .i64 (wr b0)) (.int .i64 (wr b1))
            clear c0 c1 f0 f1
            refine hK.out _ _ ?_ (fun hHeld => ?_)
            · (try dsimp only at hHeld ⊢)
              go_split_ands
              exact ⟨set_other (set_other (by assumption) (.inl (by show v1.heap.size ≠ w.heap.size; omega))) (.inl (by show v1.heap.size ≠ w.heap.size; omega)), set_other (set_other (by assumption) (.inl (by show v1.heap.size ≠ w.heap.size; omega))) (.inl (by show v1.heap.size ≠ w.heap.size; omega)), set_other (set_other (by assumption) (.inl (by show v1.heap.size ≠ w.heap.size + 1; omega))) (.inl (by show v1.heap.size ≠ w.heap.size + 1; omega)), set_other (set_other (by assumption) (.inl (by show v1.heap.size ≠ w.heap.size + 1; omega))) (.inl (by show v1.heap.size ≠ w.heap.size + 1; omega)), bel_set2 (by assumption) (by omega) _ _⟩
            clear hK K
            generalize (v23.setCell ⟨v1.heap.size, 0, none⟩ (.int .i64 (wr b0))).setCell ⟨v1.heap.size, 1, none⟩ (.int .i64 (wr b1)) = v24 at hHeld p7 p8 ⊢
            try simp only [Act.put, List.setIfInBounds_toArray, List.set_cons_zero, List.set_cons_succ]
            refine wpAnyH_done (by kernel_rfl) ?_ _
            go_wp2_with fail
            go_meet
            exact ⟨_, _, rfl, rfl, ⟨p7.1, p7.2.1⟩, ⟨p8.1, p8.2.1⟩, hHeld.2.2.2.2⟩
        · go_simp
          have hB := (Below.refl v20.heap.size v20).alloc (Nat.le_refl _) (.cells #[.int .i64 0, .int .i64 0] 23)
          have p7 := P2.new v20 (.int .i64 0) (.int .i64 0) 23
          have g7 := hHeld.2.2.2.2.size
          have l7 := cell_lt p8.1
          simp only at l7
          generalize v20.alloc (.cells #[.int .i64 0, .int .i64 0] 23) = v25 at hB p7 ⊢
          refine hK.out _ _ ?_ (fun hHeld => ?_)
          · (try dsimp only at hHeld ⊢)
            go_split_ands
            exact ⟨keepc (by assumption) hB, keepc (by assumption) hB, keepc (by assumption) hB, keepc (by assumption) hB, bel_then (by assumption) hB⟩
          have p8 := p8.keep hB
          clear hK K hB
          try simp only [Act.put, List.setIfInBounds_toArray, List.set_cons_zero, List.set_cons_succ]
          refine wpAnyH_ready (rs := [9]) (by kernel_rfl) (by simp) ?_
          refine AllReadyH.cons rfl (fun K hK => ?_) AllReadyH.nil
          · go_simp
            go_at_call 15; refine (rof_any _ _ _).mono ?_; rintro e v26 ⟨rfl, hB⟩
            go_wp2_with fail
            refine hK.out _ _ ?_ (fun hHeld => ?_)
            · (try dsimp only at hHeld ⊢)
              go_split_ands
              exact ⟨keepc (by assumption) hB, keepc (by assumption) hB, keepc (by assumption) hB, keepc (by assumption) hB, bel_then (by assumption) hB⟩
            have p8 := p8.keep hB
            have p7 := p7.keep hB
            clear hK K hB
            try simp only [Act.put, List.setIfInBounds_toArray, List.set_cons_zero, List.set_cons_succ]
            refine wpAnyH_ready (rs := [12]) (by kernel_rfl) (by simp) ?_
            refine AllReadyH.cons rfl (fun K hK => ?_) AllReadyH.nil
            obtain ⟨c0, c1, f0, f1⟩ := p7
            go_simp
            have p7 := P2.set ⟨c0, c1, f0, f1⟩ (.int .i64 (wr a0)) (.int .i64 (wr a1))
            have p8 := P2.other p8 (C := v20.heap.size) (by omega) (.int .i64 (wr a0)) (.int .i64 (wr a1))
            clear c0 c1 f0 f1
            refine hK.out _ _ ?_ (fun hHeld => ?_)
            · (try dsimp only at hHeld ⊢)
              go_split_ands
              exact ⟨set_other (set_other (by assumption) (.inl (by show v20.heap.size ≠ w.heap.size; omega))) (.inl (by show v20.heap.size ≠ w.heap.size; omega)), set_other (set_other (by assumption) (.inl (by show v20.heap.size ≠ w.heap.size; omega))) (.inl (by show v20.heap.size ≠ w.heap.size; omega)), set_other (set_other (by assumption) (.inl (by show v20.heap.size ≠ w.heap.size + 1; omega))) (.inl (by show v20.heap.size ≠ w.heap.size + 1; omega)), set_other (set_other (by assumption) (.inl (by show v20.heap.size ≠ w.heap.size + 1; omega))) (.inl (by show v20.heap.size ≠ w.heap.size + 1; omega)), bel_set2 (by assumption) (by omega) _ _⟩
            clear hK K
            generalize (v26.setCell ⟨v20.heap.size, 0, none⟩ (.int .i64 (wr a0))).setCell ⟨v20.heap.size, 1, none⟩ (.int .i64 (wr a1)) = v27 at hHeld p7 p8 ⊢
            try simp only [Act.put, List.setIfInBounds_toArray, List.set_cons_zero, List.set_cons_succ]
            refine wpAnyH_ready (rs := [13]) (by kernel_rfl) (by simp) ?_
            refine AllReadyH.cons rfl (fun K hK => ?_) AllReadyH.nil
            obtain ⟨c0, c1, f0, f1⟩ := p8
            go_simp
            have p8 := P2.set ⟨c0, c1, f0, f1⟩ (.int .i64 (wr b0)) (.int .i64 (wr b1))
            have p7 := P2.other p7 (C := v1.heap.size) (by omega) (.int .i64 (wr b0)) (.int .i64 (wr b1))
            clear c0 c1 f0 f1
            refine hK.out _ _ ?_ (fun hHeld => ?_)
            · (try dsimp only at hHeld ⊢)
              go_split_ands
              exact ⟨set_other (set_other (by assumption) (.inl (by show v1.heap.size ≠ w.heap.size; omega))) (.inl (by show v1.heap.size ≠ w.heap.size; omega)), set_other (set_other (by assumption) (.inl (by show v1.heap.size ≠ w.heap.size; omega))) (.inl (by show v1.heap.size ≠ w.heap.size; omega)), set_other (set_other (by assumption) (.inl (by show v1.heap.size ≠ w.heap.size + 1; omega))) (.inl (by show v1.heap.size ≠ w.heap.size + 1; omega)), set_other (set_other (by assumption) (.inl (by show v1.heap.size ≠ w.heap.size + 1; omega))) (.inl (by show v1.heap.size ≠ w.heap.size + 1; omega)), bel_set2 (by assumption) (by omega) _ _⟩
            clear hK K
            generalize (v27.setCell ⟨v1.heap.size, 0, none⟩ (.int .i64 (wr b0))).setCell ⟨v1.heap.size, 1, none⟩ (.int .i64 (wr b1)) = v28 at hHeld p7 p8 ⊢
            try simp only [Act.put, List.setIfInBounds_toArray, List.set_cons_zero, List.set_cons_succ]
            refine wpAnyH_done (by kernel_rfl) ?_ _
            go_wp2_with fail
            go_meet
            exact ⟨_, _, rfl, rfl, ⟨p7.1, p7.2.1⟩, ⟨p8.1, p8.2.1⟩, hHeld.2.2.2.2⟩
    · go_simp
      have hB := (Below.refl v0.heap.size v0).alloc (Nat.le_refl _) (.cells #[.int .i64 0, .int .i64 0] 23)
      have p7 := P2.new v0 (.int .i64 0) (.int .i64 0) 23
      have g7 := hHeld.2.2.2.2.size
      generalize v0.alloc (.cells #[.int .i64 0, .int .i64 0] 23) = v29 at hB p7 ⊢
      refine hK.out _ _ ?_ (fun hHeld => ?_)
      · (try dsimp only at hHeld ⊢)
        go_split_ands
        exact ⟨keepc (by assumption) hB, keepc (by assumption) hB, keepc (by assumption) hB, keepc (by assumption) hB, bel_then (by assumption) hB⟩
      clear hK K hB
      try simp only [Act.put, List.setIfInBounds_toArray, List.set_cons_zero, List.set_cons_succ]
      refine wpAnyH_ready (rs := [4, 11]) (by kernel_rfl) (by simp) ?_
      refine AllReadyH.cons rfl (fun K hK => ?_) (AllReadyH.cons rfl (fun K hK => ?_) AllReadyH.nil)
      · go_simp
        go_at_call 15; refine (rof_any _ _ _).mono ?_; rintro e v30 ⟨rfl, hB⟩
        go_wp2_with fail
        refine hK.out _ _ ?_ (fun hHeld => ?_)
        · (try dsimp only at hHeld ⊢)
          go_split_ands
          exact ⟨keepc (by assumption) hB, keepc (by assumption) hB, keepc (by assumption) hB, keepc (by assumption) hB, bel_then (by assumption) hB⟩
        have p7 := p7.keep hB
        clear hK K hB
        try simp only [Act.put, List.setIfInBounds_toArray, List.set_cons_zero, List.set_cons_succ]
        refine wpAnyH_ready (rs := [9, 11]) (by kernel_rfl) (by simp) ?_
        refine AllReadyH.cons rfl (fun K hK => ?_) (AllReadyH.cons rfl (fun K hK => ?_) AllReadyH.nil)
        · go_simp
          go_at_call 15; refine (rof_any _ _ _).mono ?_; rintro e v31 ⟨rfl, hB⟩
          go_wp2_with fail
          refine hK.out _ _ ?_ (fun hHeld => ?_)
          · (try dsimp only at hHeld ⊢)
            go_split_ands
            exact ⟨keepc (by assumption) hB, keepc (by assumption) hB, keepc (by assumption) hB, keepc (by assumption) hB, bel_then (by assumption) hB⟩
          have p7 := p7.keep hB
          clear hK K hB
          try simp only [Act.put, List.setIfInBounds_toArray, List.set_cons_zero, List.set_cons_succ]
          refine wpAnyH_ready (rs := [11]) (by kernel_rfl) (by simp) ?_
          refine AllReadyH.cons rfl (fun K hK => ?_) AllReadyH.nil
          · go_simp
            have hB := (Below.refl v31.heap.size v31).alloc (Nat.le_refl _) (.cells #[.int .i64 0, .int .i64 0] 23)
            have p8 := P2.new v31 (.int .i64 0) (.int .i64 0) 23
            have g8 := hHeld.2.2.2.2.size
            have l8 := cell_lt p7.1
            simp only at l8
            generalize v31.alloc (.cells #[.int .i64 0, .int .i64 0] 23) = v32 at hB p8 ⊢
            refine hK.out _ _ ?_ (fun hHeld => ?_)
            · (try dsimp only at hHeld ⊢)
              go_split_ands
              exact ⟨keepc (by assumption) hB, keepc (by assumption) hB, keepc (by assumption) hB, keepc (by assumption) hB, bel_then (by assumption) hB⟩
            have p7 := p7.keep hB
            clear hK K hB
            try simp only [Act.put, List.setIfInBounds_toArray, List.set_cons_zero, List.set_cons_succ]
            refine wpAnyH_ready (rs := [12]) (by kernel_rfl) (by simp) ?_
            refine AllReadyH.cons rfl (fun K hK => ?_) AllReadyH.nil
            obtain ⟨c0, c1, f0, f1⟩ := p7
            go_simp
            have p7 := P2.set ⟨c0, c1, f0, f1⟩ (.int .i64 (wr a0)) (.int .i64 (wr a1))
            have p8 := P2.other p8 (C := v0.heap.size) (by omega) (.int .i64 (wr a0)) (.int .i64 (wr a1))
            clear c0 c1 f0 f1
            refine hK.out _ _ ?_ (fun hHeld => ?_)
            · (try dsimp only at hHeld ⊢)
              go_split_ands
              exact ⟨set_other (set_other (by assumption) (.inl (by show v0.heap.size ≠ w.heap.size; omega))) (.inl (by show v0.heap.size ≠ w.heap.size; omega)), set_other (set_other (by assumption) (.inl (by show v0.heap.size ≠ w.heap.size; omega))) (.inl (by show v0.heap.size ≠ w.heap.size; omega)), set_other (set_other (by assumption) (.inl (by show v0.heap.size ≠ w.heap.size + 1; omega))) (.inl (by show v0.heap.size ≠ w.heap.size + 1; omega)), set_other (set_other (by assumption) (.inl (by show v0.heap.size ≠ w.heap.size + 1; omega))) (.inl (by show v0.heap.size ≠ w.heap.size + 1; omega)), bel_set2 (by assumption) (by omega) _ _⟩
            clear hK K
            generalize (v32.setCell ⟨v0.heap.size, 0, none⟩ (.int .i64 (wr a0))).setCell ⟨v0.heap.size, 1, none⟩ (.int .i64 (wr a1)) = v33 at hHeld p7 p8 ⊢
            try simp only [Act.put, List.setIfInBounds_toArray, List.set_cons_zero, List.set_cons_succ]
            refine wpAnyH_ready (rs := [13]) (by kernel_rfl) (by simp) ?_
            refine AllReadyH.cons rfl (fun K hK => ?_) AllReadyH.nil
            obtain ⟨c0, c1, f0, f1⟩ := p8
            go_simp
            have p8 := P2.set ⟨c0, c1, f0, f1⟩ (.int .i64 (wr b0)) (.int .i64 (wr b1))
            have p7 := P2.other p7 (C := v31.heap.size) (by omega) (.int .i64 (wr b0)) (.int .i64 (wr b1))
            clear c0 c1 f0 f1
            refine hK.out _ _ ?_ (fun hHeld => ?_)
            · (try dsimp only at hHeld ⊢)
              go_split_ands
              exact ⟨set_other (set_other (by assumption) (.inl (by show v31.heap.size ≠ w.heap.size; omega))) (.inl (by show v31.heap.size ≠ w.heap.size; omega)), set_other (set_other (by assumption) (.inl (by show v31.heap.size ≠ w.heap.size; omega))) (.inl (by show v31.heap.size ≠ w.heap.size; omega)), set_other (set_other (by assumption) (.inl (by show v31.heap.size ≠ w.heap.size + 1; omega))) (.inl (by show v31.heap.size ≠ w.heap.size + 1; omega)), set_other (set_other (by assumption) (.inl (by show v31.heap.size ≠ w.heap.size + 1; omega))) (.inl (by show v31.heap.size ≠ w.heap.size + 1; omega)), bel_set2 (by assumption) (by omega) _ _⟩
            clear hK K
            generalize (v33.setCell ⟨v31.heap.size, 0, none⟩ (.int .i64 (wr b0))).setCell ⟨v31.heap.size, 1, none⟩ (.int .i64 (wr b1)) = v34 at hHeld p7 p8 ⊢
            try simp only [Act.put, List.setIfInBounds_toArray, List.set_cons_zero, List.set_cons_succ]
            refine wpAnyH_done (by kernel_rfl) ?_ _
            go_wp2_with fail
            go_meet
            exact ⟨_, _, rfl, rfl, ⟨p7.1, p7.2.1⟩, ⟨p8.1, p8.2.1⟩, hHeld.2.2.2.2⟩
        · go_simp
          have hB := (Below.refl v30.heap.size v30).alloc (Nat.le_refl _) (.cells #[.int .i64 0, .int .i64 0] 23)
          have p8 := P2.new v30 (.int .i64 0) (.int .i64 0) 23
          have g8 := hHeld.2.2.2.2.size
          have l8 := cell_lt p7.1
          simp only at l8
          generalize v30.alloc (.cells #[.int .i64 0, .int .i64 0] 23) = v35 at hB p8 ⊢
          refine hK.out _ _ ?_ (fun hHeld => ?_)
          · (try dsimp only at hHeld ⊢)
            go_split_ands
            exact ⟨keepc (by assumption) hB, keepc (by assumption) hB, keepc (by assumption) hB, keepc (by assumption) hB, bel_then (by assumption) hB⟩
          have p7 := p7.keep hB
          clear hK K hB
          try simp only [Act.put, List.setIfInBounds_toArray, List.set_cons_zero, List.set_cons_succ]
          refine wpAnyH_ready (rs := [9]) (by kernel_rfl) (by simp) ?_
          refine AllReadyH.cons rfl (fun K hK => ?_) AllReadyH.nil
          · go_simp
            go_at_call 15; refine (rof_any _ _ _).mono ?_; rintro e v36 ⟨rfl, hB⟩
            go_wp2_with fail
            refine hK.out _ _ ?_ (fun hHeld => ?_)
            · (try dsimp only at hHeld ⊢)
              go_split_ands
              exact ⟨keepc (by assumption) hB, keepc (by assumption) hB, keepc (by assumption) hB, keepc (by assumption) hB, bel_then (by assumption) hB⟩
            have p7 := p7.keep hB
            have p8 := p8.keep hB
            clear hK K hB
            try simp only [Act.put, List.setIfInBounds_toArray, List.set_cons_zero, List.set_cons_succ]
            refine wpAnyH_ready (rs := [12]) (by kernel_rfl) (by simp) ?_
            refine AllReadyH.cons rfl (fun K hK => ?_) AllReadyH.nil
            obtain ⟨c0, c1, f0, f1⟩ := p7
            go_simp
            have p7 := P2.set ⟨c0, c1, f0, f1⟩ (.int .i64 (wr a0)) (.int .i64 (wr a1))
            have p8 := P2.other p8 (C := v0.heap.size) (by omega) (.int .i64 (wr a0)) (.int .i64 (wr a1))
            clear c0 c1 f0 f1
            refine hK.out _ _ ?_ (fun hHeld => ?_)
            · (try dsimp only at hHeld ⊢)
              go_split_ands
              exact ⟨set_other (set_other (by assumption) (.inl (by show v0.heap.size ≠ w.heap.size; omega))) (.inl (by show v0.heap.size ≠ w.heap.size; omega)), set_other (set_other (by assumption) (.inl (by show v0.heap.size ≠ w.heap.size; omega))) (.inl (by show v0.heap.size ≠ w.heap.size; omega)), set_other (set_other (by assumption) (.inl (by show v0.heap.size ≠ w.heap.size + 1; omega))) (.inl (by show v0.heap.size ≠ w.heap.size + 1; omega)), set_other (set_other (by assumption) (.inl (by show v0.heap.size ≠ w.heap.size + 1; omega))) (.inl (by show v0.heap.size ≠ w.heap.size + 1; omega)), bel_set2 (by assumption) (by omega) _ _⟩
            clear hK K
            generalize (v36.setCell ⟨v0.heap.size, 0, none⟩ (.int .i64 (wr a0))).setCell ⟨v0.heap.size, 1, none⟩ (.int .i64 (wr a1)) = v37 at hHeld p7 p8 ⊢
            try simp only [Act.put, List.setIfInBounds_toArray, List.set_cons_zero, List.set_cons_succ]
            refine wpAnyH_ready (rs := [13]) (by kernel_rfl) (by simp) ?_
            refine AllReadyH.cons rfl (fun K hK => ?_) AllReadyH.nil
            obtain ⟨c0, c1, f0, f1⟩ := p8
            go_simp
            have p8 := P2.set ⟨c0, c1, f0, f1⟩ (.int .i64 (wr b0)) (.int .i64 (wr b1))
            have p7 := P2.other p7 (C := v30.heap.size) (by omega) (.int .i64 (wr b0)) (.int .i64 (wr b1))
            clear c0 c1 f0 f1
            refine hK.out _ _ ?_ (fun hHeld => ?_)
            · (try dsimp only at hHeld ⊢)
              go_split_ands
              exact ⟨set_other (set_other (by assumption) (.inl (by show v30.heap.size ≠ w.heap.size; omega))) (.inl (by show v30.heap.size ≠ w.heap.size; omega)), set_other (set_other (by assumption) (.inl (by show v30.heap.size ≠ w.heap.size; omega))) (.inl (by show v30.heap.size ≠ w.heap.size; omega)), set_other (set_other (by assumption) (.inl (by show v30.heap.size ≠ w.heap.size + 1; omega))) (.inl (by show v30.heap.size ≠ w.heap.size + 1; omega)), set_other (set_other (by assumption) (.inl (by show v30.heap.size ≠ w.heap.size + 1; omega))) (.inl (by show v30.heap.size ≠ w.heap.size + 1; omega)), bel_set2 (by assumption) (by omega) _ _⟩
            clear hK K
            generalize (v37.setCell ⟨v30.heap.size, 0, none⟩ (.int .i64 (wr b0))).setCell ⟨v30.heap.size, 1, none⟩ (.int .i64 (wr b1)) = v38 at hHeld p7 p8 ⊢
            try simp only [Act.put, List.setIfInBounds_toArray, List.set_cons_zero, List.set_cons_succ]
            refine wpAnyH_done (by kernel_rfl) ?_ _
            go_wp2_with fail
            go_meet
            exact ⟨_, _, rfl, rfl, ⟨p7.1, p7.2.1⟩, ⟨p8.1, p8.2.1⟩, hHeld.2.2.2.2⟩
      · go_simp
        have hB := (Below.refl v29.heap.size v29).alloc (Nat.le_refl _) (.cells #[.int .i64 0, .int .i64 0] 23)
        have p8 := P2.new v29 (.int .i64 0) (.int .i64 0) 23
        have g8 := hHeld.2.2.2.2.size
        have l8 := cell_lt p7.1
        simp only at l8
        generalize v29.alloc (.cells #[.int .i64 0, .int .i64 0] 23) = v39 at hB p8 ⊢
        refine hK.out _ _ ?_ (fun hHeld => ?_)
        · (try dsimp only at hHeld ⊢)
          go_split_ands
          exact ⟨keepc (by assumption) hB, keepc (by assumption) hB, keepc (by assumption) hB, keepc (by assumption) hB, bel_then (by assumption) hB⟩
        have p7 := p7.keep hB
        clear hK K hB
        try simp only [Act.put, List.setIfInBounds_toArray, List.set_cons_zero, List.set_cons_succ]
        refine wpAnyH_ready (rs := [4]) (by kernel_rfl) (by simp) ?_
        refine AllReadyH.cons rfl (fun K hK => ?_) AllReadyH.nil
        · go_simp
          go_at_call 15; refine (rof_any _ _ _).mono ?_; rintro e v40 ⟨rfl, hB⟩
          go_wp2_with fail
          refine hK.out _ _ ?_ (fun hHeld => ?_)
          · (try dsimp only at hHeld ⊢)
            go_split_ands
            exact ⟨keepc (by assumption) hB, keepc (by assumption) hB, keepc (by assumption) hB, keepc (by assumption) hB, bel_then (by assumption) hB⟩
          have p7 := p7.keep hB
          have p8 := p8.keep hB
          clear hK K hB
          try simp only [Act.put, List.setIfInBounds_toArray, List.set_cons_zero, List.set_cons_succ]
          refine wpAnyH_ready (rs := [9]) (by kernel_rfl) (by simp) ?_
          refine AllReadyH.cons rfl (fun K hK => ?_) AllReadyH.nil
          · go_simp
            go_at_call 15; refine (rof_any _ _ _).mono ?_; rintro e v41 ⟨rfl, hB⟩
            go_wp2_with fail
            refine hK.out _ _ ?_ (fun hHeld => ?_)
            · (try dsimp only at hHeld ⊢)
              go_split_ands
              exact ⟨keepc (by assumption) hB, keepc (by assumption) hB, keepc (by assumption) hB, keepc (by assumption) hB, bel_then (by assumption) hB⟩
            have p7 := p7.keep hB
            have p8 := p8.keep hB
            clear hK K hB
            try simp only [Act.put, List.setIfInBounds_toArray, List.set_cons_zero, List.set_cons_succ]
            refine wpAnyH_ready (rs := [12]) (by kernel_rfl) (by simp) ?_
            refine AllReadyH.cons rfl (fun K hK => ?_) AllReadyH.nil
            obtain ⟨c0, c1, f0, f1⟩ := p7
            go_simp
            have p7 := P2.set ⟨c0, c1, f0, f1⟩ (.int .i64 (wr a0)) (.int .i64 (wr a1))
            have p8 := P2.other p8 (C := v0.heap.size) (by omega) (.int .i64 (wr a0)) (.int .i64 (wr a1))
            clear c0 c1 f0 f1
            refine hK.out _ _ ?_ (fun hHeld => ?_)
            · (try dsimp only at hHeld ⊢)
              go_split_ands
              exact ⟨set_other (set_other (by assumption) (.inl (by show v0.heap.size ≠ w.heap.size; omega))) (.inl (by show v0.heap.size ≠ w.heap.size; omega)), set_other (set_other (by assumption) (.inl (by show v0.heap.size ≠ w.heap.size; omega))) (.inl (by show v0.heap.size ≠ w.heap.size; omega)), set_other (set_other (by assumption) (.inl (by show v0.heap.size ≠ w.heap.size + 1; omega))) (.inl (by show v0.heap.size ≠ w.heap.size + 1; omega)), set_other (set_other (by assumption) (.inl (by show v0.heap.size ≠ w.heap.size + 1; omega))) (.inl (by show v0.heap.size ≠ w.heap.size + 1; omega)), bel_set2 (by assumption) (by omega) _ _⟩
            clear hK K
            generalize (v41.setCell ⟨v0.heap.size, 0, none⟩ (.int .i64 (wr a0))).setCell ⟨v0.heap.size, 1, none⟩ (.int .i64 (wr a1)) = v42 at hHeld p7 p8 ⊢
            try simp only [Act.put, List.setIfInBounds_toArray, List.set_cons_zero, List.set_cons_succ]
            refine wpAnyH_ready (rs := [13]) (by kernel_rfl) (by simp) ?_
            refine AllReadyH.cons rfl (fun K hK => ?_) AllReadyH.nil
            obtain ⟨c0, c1, f0, f1⟩ := p8
            go_simp
            have p8 := P2.set ⟨c0, c1, f0, f1⟩ (.int .i64 (wr b0)) (.int .i64 (wr b1))
            have p7 := P2.other p7 (C := v29.heap.size) (by omega) (.int .i64 (wr b0)) (.int .i64 (wr b1))
            clear c0 c1 f0 f1
            refine hK.out _ _ ?_ (fun hHeld => ?_)
            · (try dsimp only at hHeld ⊢)
              go_split_ands
              exact ⟨set_other (set_other (by assumption) (.inl (by show v29.heap.size ≠ w.heap.size; omega))) (.inl (by show v29.heap.size ≠ w.heap.size; omega)), set_other (set_other (by assumption) (.inl (by show v29.heap.size ≠ w.heap.size; omega))) (.inl (by show v29.heap.size ≠ w.heap.size; omega)), set_other (set_other (by assumption) (.inl (by show v29.heap.size ≠ w.heap.size + 1; omega))) (.inl (by show v29.heap.size ≠ w.heap.size + 1; omega)), set_other (set_other (by assumption) (.inl (by show v29.heap.size ≠ w.heap.size + 1; omega))) (.inl (by show v29.heap.size ≠ w.heap.size + 1; omega)), bel_set2 (by assumption) (by omega) _ _⟩
            clear hK K
            generalize (v42.setCell ⟨v29.heap.size, 0, none⟩ (.int .i64 (wr b0))).setCell ⟨v29.heap.size, 1, none⟩ (.int .i64 (wr b1)) = v43 at hHeld p7 p8 ⊢
            try simp only [Act.put, List.setIfInBounds_toArray, List.set_cons_zero, List.set_cons_succ]
            refine wpAnyH_done (by kernel_rfl) ?_ _
            go_wp2_with fail
            go_meet
            exact ⟨_, _, rfl, rfl, ⟨p7.1, p7.2.1⟩, ⟨p8.1, p8.2.1⟩, hHeld.2.2.2.2⟩
    · go_simp
      have hB := (Below.refl v0.heap.size v0).alloc (Nat.le_refl _) (.cells #[.int .i64 0, .int .i64 0] 23)
      have p8 := P2.new v0 (.int .i64 0) (.int .i64 0) 23
      have g8 := hHeld.2.2.2.2.size
      generalize v0.alloc (.cells #[.int .i64 0, .int .i64 0] 23) = v44 at hB p8 ⊢
      refine hK.out _ _ ?_ (fun hHeld => ?_)
      · (try dsimp only at hHeld ⊢)
        go_split_ands
        exact ⟨keepc (by assumption) hB, keepc (by assumption) hB, keepc (by assumption) hB, keepc (by assumption) hB, bel_then (by assumption) hB⟩
      clear hK K hB
      try simp only [Act.put, List.setIfInBounds_toArray, List.set_cons_zero, List.set_cons_succ]
      refine wpAnyH_ready (rs := [4, 10]) (by kernel_rfl) (by simp) ?_
      refine AllReadyH.cons rfl (fun K hK => ?_) (AllReadyH.cons rfl (fun K hK => ?_) AllReadyH.nil)
      · go_simp
        go_at_call 15; refine (rof_any _ _ _).mono ?_; rintro e v45 ⟨rfl, hB⟩
        go_wp2_with fail
        refine hK.out _ _ ?_ (fun hHeld => ?_)
        · (try dsimp only at hHeld ⊢)
          go_split_ands
          exact ⟨keepc (by assumption) hB, keepc (by assumption) hB, keepc (by assumption) hB, keepc (by assumption) hB, bel_then (by assumption) hB⟩
        have p8 := p8.keep hB
        clear hK K hB
        try simp only [Act.put, List.setIfInBounds_toArray, List.set_cons_zero, List.set_cons_succ]
        refine wpAnyH_ready (rs := [9, 10]) (by kernel_rfl) (by simp) ?_
        refine AllReadyH.cons rfl (fun K hK => ?_) (AllReadyH.cons rfl (fun K hK => ?_) AllReadyH.nil)
        · go_simp
          go_at_call 15; refine (rof_any _ _ _).mono ?_; rintro e v46 ⟨rfl, hB⟩
          go_wp2_with fail
          refine hK.out _ _ ?_ (fun hHeld => ?_)
          · (try dsimp only at hHeld ⊢)
            go_split_ands
            exact ⟨keepc (by assumption) hB, keepc (by assumption) hB, keepc (by assumption) hB, keepc (by assumption) hB, bel_then (by assumption) hB⟩
          have p8 := p8.keep hB
          clear hK K hB
          try simp only [Act.put, List.setIfInBounds_toArray, List.set_cons_zero, List.set_cons_succ]
          refine wpAnyH_ready (rs := [10]) (by kernel_rfl) (by simp) ?_
          refine AllReadyH.cons rfl (fun K hK => ?_) AllReadyH.nil
          · go_simp
            have hB := (Below.refl v46.heap.size v46).alloc (Nat.le_refl _) (.cells #[.int .i64 0, .int .i64 0] 23)
            have p7 := P2.new v46 (.int .i64 0) (.int .i64 0) 23
            have g7 := hHeld.2.2.2.2.size
            have l7 := cell_lt p8.1
            simp only at l7
            generalize v46.alloc (.cells #[.int .i64 0, .int .i64 0] 23) = v47 at hB p7 ⊢
            refine hK.out _ _ ?_ (fun hHeld => ?_)
            · (try dsimp only at hHeld ⊢)
              go_split_ands
              exact ⟨keepc (by assumption) hB, keepc (by assumption) hB, keepc (by assumption) hB, keepc (by assumption) hB, bel_then (by assumption) hB⟩
            have p8 := p8.keep hB
            clear hK K hB
            try simp only [Act.put, List.setIfInBounds_toArray, List.set_cons_zero, List.set_cons_succ]
            refine wpAnyH_ready (rs := [12]) (by kernel_rfl) (by simp) ?_
            refine AllReadyH.cons rfl (fun K hK => ?_) AllReadyH.nil
            obtain ⟨c0, c1, f0, f1⟩ := p7
            go_simp
            have p7 := P2.set ⟨c0, c1, f0, f1⟩ (.int .i64 (wr a0)) (.int .i64 (wr a1))
            have p8 := P2.other p8 (C := v46.heap.size) (by omega) (.int .i64 (wr a0)) (.int .i64 (wr a1))
            clear c0 c1 f0 f1
            refine hK.out _ _ ?_ (fun hHeld => ?_)
            · (try dsimp only at hHeld ⊢)
              go_split_ands
              exact ⟨set_other (set_other (by assumption) (.inl (by show v46.heap.size ≠ w.heap.size; omega))) (.inl (by show v46.heap.size ≠ w.heap.size; omega)), set_other (set_other (by assumption) (.inl (by show v46.heap.size ≠ w.heap.size; omega))) (.inl (by show v46.heap.size ≠ w.heap.size; omega)), set_other (set_other (by assumption) (.inl (by show v46.heap.size ≠ w.heap.size + 1; omega))) (.inl (by show v46.heap.size ≠ w.heap.size + 1; omega)), set_other (set_other (by assumption) (.inl (by show v46.heap.size ≠ w.heap.size + 1; omega))) (.inl (by show v46.heap.size ≠ w.heap.size + 1; omega)), bel_set2 (by assumption) (by omega) _ _⟩
            clear hK K
            generalize (v47.setCell ⟨v46.heap.size, 0, none⟩ (.int .i64 (wr a0))).setCell ⟨v46.heap.size, 1, none⟩ (.int .i64 (wr a1)) = v48 at hHeld p7 p8 ⊢
            try simp only [Act.put, List.setIfInBounds_toArray, List.set_cons_zero, List.set_cons_succ]
            refine wpAnyH_ready (rs := [13]) (by kernel_rfl) (by simp) ?_
            refine AllReadyH.cons rfl (fun K hK => ?_) AllReadyH.nil
            obtain ⟨c0, c1, f0, f1⟩ := p8
            go_simp
            have p8 := P2.set ⟨c0, c1, f0, f1⟩ (.int .i64 (wr b0)) (.int .i64 (wr b1))
            have p7 := P2.other p7 (C := v0.heap.size) (by omega) (.int .i64 (wr b0)) (.int .i64 (wr b1))
            clear c0 c1 f0 f1
            refine hK.out _ _ ?_ (fun hHeld => ?_)
            · (try dsimp only at hHeld ⊢)
              go_split_ands
              exact ⟨set_other (set_other (by assumption) (.inl (by show v0.heap.size ≠ w.heap.size; omega))) (.inl (by show v0.heap.size ≠ w.heap.size; omega)), set_other (set_other (by assumption) (.inl (by show v0.heap.size ≠ w.heap.size; omega))) (.inl (by show v0.heap.size ≠ w.heap.size; omega)), set_other (set_other (by assumption) (.inl (by show v0.heap.size ≠ w.heap.size + 1; omega))) (.inl (by show v0.heap.size ≠ w.heap.size + 1; omega)), set_other (set_other (by assumption) (.inl (by show v0.heap.size ≠ w.heap.size + 1; omega))) (.inl (by show v0.heap.size ≠ w.heap.size + 1; omega)), bel_set2 (by assumption) (by omega) _ _⟩
            clear hK K
            generalize (v48.setCell ⟨v0.heap.size, 0, none⟩ (.int .i64 (wr b0))).setCell ⟨v0.heap.size, 1, none⟩ (.int .i64 (wr b1)) = v49 at hHeld p7 p8 ⊢
            try simp only [Act.put, List.setIfInBounds_toArray, List.set_cons_zero, List.set_cons_succ]
            refine wpAnyH_done (by kernel_rfl) ?_ _
            go_wp2_with fail
            go_meet
            exact ⟨_, _, rfl, rfl, ⟨p7.1, p7.2.1⟩, ⟨p8.1, p8.2.1⟩, hHeld.2.2.2.2⟩
        · go_simp
          have hB := (Below.refl v45.heap.size v45).alloc (Nat.le_refl _) (.cells #[.int .i64 0, .int .i64 0] 23)
          have p7 := P2.new v45 (.int .i64 0) (.int .i64 0) 23
          have g7 := hHeld.2.2.2.2.size
          have l7 := cell_lt p8.1
          simp only at l7
          generalize v45.alloc (.cells #[.int .i64 0, .int .i64 0] 23) = v50 at hB p7 ⊢
          refine hK.out _ _ ?_ (fun hHeld => ?_)
          · (try dsimp only at hHeld ⊢)
            go_split_ands
            exact ⟨keepc (by assumption) hB, keepc (by assumption) hB, keepc (by assumption) hB, keepc (by assumption) hB, bel_then (by assumption) hB⟩
          have p8 := p8.keep hB
          clear hK K hB
          try simp only [Act.put, List.setIfInBounds_toArray, List.set_cons_zero, List.set_cons_succ]
          refine wpAnyH_ready (rs := [9]) (by kernel_rfl) (by simp) ?_
          refine AllReadyH.cons rfl (fun K hK => ?_) AllReadyH.nil
          · go_simp
            go_at_call 15; refine (rof_any _ _ _).mono ?_; rintro e v51 ⟨rfl, hB⟩
            go_wp2_with fail
            refine hK.out _ _ ?_ (fun hHeld => ?_)
            · (try dsimp only at hHeld ⊢)
              go_split_ands
              exact ⟨keepc (by assumption) hB, keepc (by assumption) hB, keepc (by assumption) hB, keepc (by assumption) hB, bel_then (by assumption) hB⟩
            have p8 := p8.keep hB
            have p7 := p7.keep hB
            clear hK K hB
            try simp only [Act.put, List.setIfInBounds_toArray, List.set_cons_zero, List.set_cons_succ]
            refine wpAnyH_ready (rs := [12]) (by kernel_rfl) (by simp) ?_
            refine AllReadyH.cons rfl (fun K hK => ?_) AllReadyH.nil
            obtain ⟨c0, c1, f0, f1⟩ := p7
            go_simp
            have p7 := P2.set ⟨c0, c1, f0, f1⟩ (.int .i64 (wr a0)) (.int .i64 (wr a1))
            have p8 := P2.other p8 (C := v45.heap.size) (by omega) (.int .i64 (wr a0)) (.int .i64 (wr a1))
            clear c0 c1 f0 f1
            refine hK.out _ _ ?_ (fun hHeld => ?_)
            · (try dsimp only at hHeld ⊢)
              go_split_ands
              exact ⟨set_other (set_other (by assumption) (.inl (by show v45.heap.size ≠ w.heap.size; omega))) (.inl (by show v45.heap.size ≠ w.heap.size; omega)), set_other (set_other (by assumption) (.inl (by show v45.heap.size ≠ w.heap.size; omega))) (.inl (by show v45.heap.size ≠ w.heap.size; omega)), set_other (set_other (by assumption) (.inl (by show v45.heap.size ≠ w.heap.size + 1; omega))) (.inl (by show v45.heap.size ≠ w.heap.size + 1; omega)), set_other (set_other (by assumption) (.inl (by show v45.heap.size ≠ w.heap.size + 1; omega))) (.inl (by show v45.heap.size ≠ w.heap.size + 1; omega)), bel_set2 (by assumption) (by omega) _ _⟩
            clear hK K
            generalize (v51.setCell ⟨v45.heap.size, 0, none⟩ (.int .i64 (wr a0))).setCell ⟨v45.heap.size, 1, none⟩ (.int .i64 (wr a1)) = v52 at hHeld p7 p8 ⊢
            try simp only [Act.put, List.setIfInBounds_toArray, List.set_cons_zero, List.set_cons_succ]
            refine wpAnyH_ready (rs := [13]) (by kernel_rfl) (by simp) ?_
            refine AllReadyH.cons rfl (fun K hK => ?_) AllReadyH.nil
            obtain ⟨c0, c1, f0, f1⟩ := p8
            go_simp
            have p8 := P2.set ⟨c0, c1, f0, f1⟩ (.int .i64 (wr b0)) (.int .i64 (wr b1))
            have p7 := P2.other p7 (C := v0.heap.size) (by omega) (.int .i64 (wr b0)) (.int .i64 (wr b1))
            clear c0 c1 f0 f1
            refine hK.out _ _ ?_ (fun hHeld => ?_)
            · (try dsimp only at hHeld ⊢)
              go_split_ands
              exact ⟨set_other (set_other (by assumption) (.inl (by show v0.heap.size ≠ w.heap.size; omega))) (.inl (by show v0.heap.size ≠ w.heap.size; omega)), set_other (set_other (by assumption) (.inl (by show v0.heap.size ≠ w.heap.size; omega))) (.inl (by show v0.heap.size ≠ w.heap.size; omega)), set_other (set_other (by assumption) (.inl (by show v0.heap.size ≠ w.heap.size + 1; omega))) (.inl (by show v0.heap.size ≠ w.heap.size + 1; omega)), set_other (set_other (by assumption) (.inl (by show v0.heap.size ≠ w.heap.size + 1; omega))) (.inl (by show v0.heap.size ≠ w.heap.size + 1; omega)), bel_set2 (by assumption) (by omega) _ _⟩
            clear hK K
            generalize (v52.setCell ⟨v0.heap.size, 0, none⟩ (.int .i64 (wr b0))).setCell ⟨v0.heap.size, 1, none⟩ (.int .i64 (wr b1)) = v53 at hHeld p7 p8 ⊢
            try simp only [Act.put, List.setIfInBounds_toArray, List.set_cons_zero, List.set_cons_succ]
            refine wpAnyH_done (by kernel_rfl) ?_ _
            go_wp2_with fail
            go_meet
            exact ⟨_, _, rfl, rfl, ⟨p7.1, p7.2.1⟩, ⟨p8.1, p8.2.1⟩, hHeld.2.2.2.2⟩
      · go_simp
        have hB := (Below.refl v44.heap.size v44).alloc (Nat.le_refl _) (.cells #[.int .i64 0, .int .i64 0] 23)
        have p7 := P2.new v44 (.int .i64 0) (.int .i64 0) 23
        have g7 := hHeld.2.2.2.2.size
        have l7 := cell_lt p8.1
        simp only at l7
        generalize v44.alloc (.cells #[.int .i64 0, .int .i64 0] 23) = v54 at hB p7 ⊢
        refine hK.out _ _ ?_ (fun hHeld => ?_)
        · (try dsimp only at hHeld ⊢)
          go_split_ands
          exact ⟨keepc (by assumption) hB, keepc (by assumption) hB, keepc (by assumption) hB, keepc (by assumption) hB, bel_then (by assumption) hB⟩
        have p8 := p8.keep hB
        clear hK K hB
        try simp only [Act.put, List.setIfInBounds_toArray, List.set_cons_zero, List.set_cons_succ]
        refine wpAnyH_ready (rs := [4]) (by kernel_rfl) (by simp) ?_
        refine AllReadyH.cons rfl (fun K hK => ?_) AllReadyH.nil
        · go_simp
          go_at_call 15; refine (rof_any _ _ _).mono ?_; rintro e v55 ⟨rfl, hB⟩
          go_wp2_with fail
          refine hK.out _ _ ?_ (fun hHeld => ?_)
          · (try dsimp only at hHeld ⊢)
            go_split_ands
            exact ⟨keepc (by assumption) hB, keepc (by assumption) hB, keepc (by assumption) hB, keepc (by assumption) hB, bel_then (by assumption) hB⟩
          have p8 := p8.keep hB
          have p7 := p7.keep hB
          clear hK K hB
          try simp only [Act.put, List.setIfInBounds_toArray, List.set_cons_zero, List.set_cons_succ]
          refine wpAnyH_ready (rs := [9]) (by kernel_rfl) (by simp) ?_
          refine AllReadyH.cons rfl (fun K hK => ?_) AllReadyH.nil
          · go_simp
            go_at_call 15; refine (rof_any _ _ _).mono ?_; rintro e v56 ⟨rfl, hB⟩
            go_wp2_with fail
            refine hK.out _ _ ?_ (fun hHeld => ?_)
            · (try dsimp only at hHeld ⊢)
              go_split_ands
              exact ⟨keepc (by assumption) hB, keepc (by assumption) hB, keepc (by assumption) hB, keepc (by assumption) hB, bel_then (by assumption) hB⟩
            have p8 := p8.keep hB
            have p7 := p7.keep hB
            clear hK K hB
            try simp only [Act.put, List.setIfInBounds_toArray, List.set_cons_zero, List.set_cons_succ]
            refine wpAnyH_ready (rs := [12]) (by kernel_rfl) (by simp) ?_
            refine AllReadyH.cons rfl (fun K hK => ?_) AllReadyH.nil
            obtain ⟨c0, c1, f0, f1⟩ := p7
            go_simp
            have p7 := P2.set ⟨c0, c1, f0, f1⟩ (.int .i64 (wr a0)) (.int .i64 (wr a1))
            have p8 := P2.other p8 (C := v44.heap.size) (by omega) (.int .i64 (wr a0)) (.int .i64 (wr a1))
            clear c0 c1 f0 f1
            refine hK.out _ _ ?_ (fun hHeld => ?_)
            · (try dsimp only at hHeld ⊢)
              go_split_ands
              exact ⟨set_other (set_other (by assumption) (.inl (by show v44.heap.size ≠ w.heap.size; omega))) (.inl (by show v44.heap.size ≠ w.heap.size; omega)), set_other (set_other (by assumption) (.inl (by show v44.heap.size ≠ w.heap.size; omega))) (.inl (by show v44.heap.size ≠ w.heap.size; omega)), set_other (set_other (by assumption) (.inl (by show v44.heap.size ≠ w.heap.size + 1; omega))) (.inl (by show v44.heap.size ≠ w.heap.size + 1; omega)), set_other (set_other (by assumption) (.inl (by show v44.heap.size ≠ w.heap.size + 1; omega))) (.inl (by show v44.heap.size ≠ w.heap.size + 1; omega)), bel_set2 (by assumption) (by omega) _ _⟩
            clear hK K
            generalize (v56.setCell ⟨v44.heap.size, 0, none⟩ (.int .i64 (wr a0))).setCell ⟨v44.heap.size, 1, none⟩ (.int .i64 (wr a1)) = v57 at hHeld p7 p8 ⊢
            try simp only [Act.put, List.setIfInBounds_toArray, List.set_cons_zero, List.set_cons_succ]
            refine wpAnyH_ready (rs := [13]) (by kernel_rfl) (by simp) ?_
            refine AllReadyH.cons rfl (fun K hK => ?_) AllReadyH.nil
            obtain ⟨c0, c1, f0, f1⟩ := p8
            go_simp
            have p8 := P2.set ⟨c0, c1, f0, f1⟩ (.int .i64 (wr b0)) (.int .i64 (wr b1))
            have p7 := P2.other p7 (C := v0.heap.size) (by omega) (.int .i64 (wr b0)) (.int .i64 (wr b1))
            clear c0 c1 f0 f1
            refine hK.out _ _ ?_ (fun hHeld => ?_)
            · (try dsimp only at hHeld ⊢)
              go_split_ands
              exact ⟨set_other (set_other (by assumption) (.inl (by show v0.heap.size ≠ w.heap.size; omega))) (.inl (by show v0.heap.size ≠ w.heap.size; omega)), set_other (set_other (by assumption) (.inl (by show v0.heap.size ≠ w.heap.size; omega))) (.inl (by show v0.heap.size ≠ w.heap.size; omega)), set_other (set_other (by assumption) (.inl (by show v0.heap.size ≠ w.heap.size + 1; omega))) (.inl (by show v0.heap.size ≠ w.heap.size + 1; omega)), set_other (set_other (by assumption) (.inl (by show v0.heap.size ≠ w.heap.size + 1; omega))) (.inl (by show v0.heap.size ≠ w.heap.size + 1; omega)), bel_set2 (by assumption) (by omega) _ _⟩
            clear hK K
            generalize (v57.setCell ⟨v0.heap.size, 0, none⟩ (.int .i64 (wr b0))).setCell ⟨v0.heap.size, 1, none⟩ (.int .i64 (wr b1)) = v58 at hHeld p7 p8 ⊢
            try simp only [Act.put, List.setIfInBounds_toArray, List.set_cons_zero, List.set_cons_succ]
            refine wpAnyH_done (by kernel_rfl) ?_ _
            go_wp2_with fail
            go_meet
            exact ⟨_, _, rfl, rfl, ⟨p7.1, p7.2.1⟩, ⟨p8.1, p8.2.1⟩, hHeld.2.2.2.2⟩
  case rest =>
    obtain ⟨p, q, rfl, rfl, hp, hq, hBc⟩ := hcut
    have G2 := Lib.hid (((G1.out.keep hBc).put hp).put hq)
    clear hBc hp hq
    go_wp2_with fail
    go_cut [47] (fun s wx => s = .bool false ∧ Below wc.heap.size wc wx)
    case first =>
      have q1 := num_eql
      have q2 := num_neq
      rcases tri a0 a1 b0 b1 with ⟨hx, e0, e1⟩ | ⟨hx, e0⟩ | ⟨hx, e0, e1⟩
      · have Hx := Lib.hid hx
        clear hx
        refine wp_region_held_drew (S := (fun w' => w'.cell? ⟨w.heap.size, 0, none⟩ = some (.int .i64 a0) ∧ w'.cell? ⟨w.heap.size, 1, none⟩ = some (.int .i64 a1) ∧ w'.cell? ⟨(w.heap.size + 1), 0, none⟩ = some (.int .i64 b0) ∧ w'.cell? ⟨(w.heap.size + 1), 1, none⟩ = some (.int .i64 b1) ∧ w'.cell? ⟨p, 0, none⟩ = some (.int .i64 (wr a0)) ∧ w'.cell? ⟨p, 1, none⟩ = some (.int .i64 (wr a1)) ∧ w'.cell? ⟨q, 0, none⟩ = some (.int .i64 (wr b0)) ∧ w'.cell? ⟨q, 1, none⟩ = some (.int .i64 (wr b1)) ∧ Below wc.heap.size wc w')) (by kernel_rfl) ?_ (fun hHeld => ?_)
        · exact ⟨(G2.out.at w.heap.size a0 a1 (by simp)).1, (G2.out.at w.heap.size a0 a1 (by simp)).2, (G2.out.at (w.heap.size + 1) b0 b1 (by simp)).1, (G2.out.at (w.heap.size + 1) b0 b1 (by simp)).2, (G2.out.at p (wr a0) (wr a1) (by simp)).1, (G2.out.at p (wr a0) (wr a1) (by simp)).2, (G2.out.at q (wr b0) (wr b1) (by simp)).1, (G2.out.at q (wr b0) (wr b1) (by simp)).2, (Below.refl _ _).drew⟩
        refine take_at 0 (v := ?_) (some 25) rfl rfl (by kernel_rfl) (by kernel_rfl) (by kernel_rfl) (fun _ _ _ h => h) (Or.inl ⟨by rfl, ?_⟩) hHeld ?_
        rotate_left
        · (intro w hSw; (try dsimp only at hSw); go_simp; (try with_reducible rfl))
        simp only [Act.put, List.setIfInBounds_toArray, List.set_cons_zero, List.set_cons_succ]
        refine take_at 2 (v := ?_) (some 27) rfl rfl (by kernel_rfl) (by kernel_rfl) (by kernel_rfl) (fun _ _ _ h => h) (Or.inl ⟨by rfl, ?_⟩) hHeld ?_
        rotate_left
        · (intro w hSw; (try dsimp only at hSw); go_simp; (try with_reducible rfl))
        simp only [Act.put, List.setIfInBounds_toArray, List.set_cons_zero, List.set_cons_succ]
        refine wpAnyH_ready (rs := [1]) (by kernel_rfl) (by simp) ?_
        refine AllReadyH.cons rfl (fun K hK => ?_) AllReadyH.nil
        go_simp
        go_at_call 23; refine (text_any _ _ _ (Ht.out.below (bel_then G2.out.2 hHeld.2.2.2.2.2.2.2.2))).mono ?_; rintro e w' ⟨rfl, hB⟩
        go_wp2_with fail
        refine hK.out _ _ ?_ (fun hHeld => ?_)
        · (try dsimp only at hHeld ⊢)
          go_split_ands
          exact ⟨keepc (by assumption) hB, keepc (by assumption) hB, keepc (by assumption) hB, keepc (by assumption) hB, keepc (by assumption) hB, keepc (by assumption) hB, keepc (by assumption) hB, keepc (by assumption) hB, bel_then (by assumption) hB⟩
        clear hK K hB
        try simp only [Act.put, List.setIfInBounds_toArray, List.set_cons_zero, List.set_cons_succ]
        refine wpAnyH_ready (rs := [3]) (by kernel_rfl) (by simp) ?_
        refine AllReadyH.cons rfl (fun K hK => ?_) AllReadyH.nil
        go_simp
        go_at_call 24; refine (rtext_any _ _ _).mono ?_; rintro e w' ⟨rfl, hB⟩
        go_wp2_with fail
        refine hK.out _ _ ?_ (fun hHeld => ?_)
        · (try dsimp only at hHeld ⊢)
          go_split_ands
          exact ⟨keepc (by assumption) hB, keepc (by assumption) hB, keepc (by assumption) hB, keepc (by assumption) hB, keepc (by assumption) hB, keepc (by assumption) hB, keepc (by assumption) hB, keepc (by assumption) hB, bel_then (by assumption) hB⟩
        clear hK K hB
        try simp only [Act.put, List.setIfInBounds_toArray, List.set_cons_zero, List.set_cons_succ]
        refine take_at 4 (v := ?_) (some 29) rfl rfl (by kernel_rfl) (by kernel_rfl) (by kernel_rfl) (fun _ _ _ h => h) (Or.inl ⟨by rfl, ?_⟩) hHeld ?_
        rotate_left
        · (intro w hSw; (try dsimp only at hSw); go_simp; (try with_reducible rfl))
        simp only [Act.put, List.setIfInBounds_toArray, List.set_cons_zero, List.set_cons_succ]
        refine take_at 5 (v := ?_) (some 30) rfl rfl (by kernel_rfl) (by kernel_rfl) (by kernel_rfl) (fun _ _ _ h => h) (Or.inl ⟨by rfl, ?_⟩) hHeld ?_
        rotate_left
        · (intro w hSw; (try dsimp only at hSw); go_simp; (try with_reducible rfl))
        simp only [Act.put, List.setIfInBounds_toArray, List.set_cons_zero, List.set_cons_succ]
        refine take_at 6 (v := ?_) (some 31) rfl rfl (by kernel_rfl) (by kernel_rfl) (by kernel_rfl) (fun _ _ _ h => h) (Or.inl ⟨by rfl, ?_⟩) hHeld ?_
        rotate_left
        · (intro w hSw; (try dsimp only at hSw); go_simp; (try with_reducible rfl))
        simp only [Act.put, List.setIfInBounds_toArray, List.set_cons_zero, List.set_cons_succ]
        refine take_at 8 (v := ?_) (some 33) rfl rfl (by kernel_rfl) (by kernel_rfl) (by kernel_rfl) (fun _ _ _ h => h) (Or.inl ⟨by rfl, ?_⟩) hHeld ?_
        rotate_left
        · (intro w hSw; (try dsimp only at hSw); go_simp; (try with_reducible rfl))
        simp only [Act.put, List.setIfInBounds_toArray, List.set_cons_zero, List.set_cons_succ]
        refine wpAnyH_ready (rs := [7]) (by kernel_rfl) (by simp) ?_
        refine AllReadyH.cons rfl (fun K hK => ?_) AllReadyH.nil
        go_simp
        go_at_call 25; refine (word_any _ _ _).mono ?_; rintro e w' ⟨rfl, hB⟩
        go_wp2_with fail
        refine hK.out _ _ ?_ (fun hHeld => ?_)
        · (try dsimp only at hHeld ⊢)
          go_split_ands
          exact ⟨keepc (by assumption) hB, keepc (by assumption) hB, keepc (by assumption) hB, keepc (by assumption) hB, keepc (by assumption) hB, keepc (by assumption) hB, keepc (by assumption) hB, keepc (by assumption) hB, bel_then (by assumption) hB⟩
        clear hK K hB
        try simp only [Act.put, List.setIfInBounds_toArray, List.set_cons_zero, List.set_cons_succ]
        refine wpAnyH_ready (rs := [9]) (by kernel_rfl) (by simp) ?_
        refine AllReadyH.cons rfl (fun K hK => ?_) AllReadyH.nil
        go_simp
        go_at_call 26; refine (rword_any _ _ _).mono ?_; rintro e w' ⟨rfl, hB⟩
        go_wp2_with fail
        refine hK.out _ _ ?_ (fun hHeld => ?_)
        · (try dsimp only at hHeld ⊢)
          go_split_ands
          exact ⟨keepc (by assumption) hB, keepc (by assumption) hB, keepc (by assumption) hB, keepc (by assumption) hB, keepc (by assumption) hB, keepc (by assumption) hB, keepc (by assumption) hB, keepc (by assumption) hB, bel_then (by assumption) hB⟩
        clear hK K hB
        try simp only [Act.put, List.setIfInBounds_toArray, List.set_cons_zero, List.set_cons_succ]
        refine take_at 10 (v := ?_) (some 35) rfl rfl (by kernel_rfl) (by kernel_rfl) (by kernel_rfl) (fun _ _ _ h => h) (Or.inl ⟨by rfl, ?_⟩) hHeld ?_
        rotate_left
        · (intro w hSw; (try dsimp only at hSw); go_simp; (try with_reducible rfl))
        simp only [Act.put, List.setIfInBounds_toArray, List.set_cons_zero, List.set_cons_succ]
        refine take_at 11 (v := ?_) (some 36) rfl rfl (by kernel_rfl) (by kernel_rfl) (by kernel_rfl) (fun _ _ _ h => h) (Or.inl ⟨by rfl, ?_⟩) hHeld ?_
        rotate_left
        · (intro w hSw; (try dsimp only at hSw); go_simp; (try with_reducible rfl))
        simp only [Act.put, List.setIfInBounds_toArray, List.set_cons_zero, List.set_cons_succ]
        refine take_at 12 (v := ?_) (some 37) rfl rfl (by kernel_rfl) (by kernel_rfl) (by kernel_rfl) (fun _ _ _ h => h) (Or.inl ⟨by rfl, ?_⟩) hHeld ?_
        rotate_left
        · (intro w hSw; (try dsimp only at hSw); go_simp; (try with_reducible rfl))
        simp only [Act.put, List.setIfInBounds_toArray, List.set_cons_zero, List.set_cons_succ]
        refine take_at 13 (v := ?_) (some 38) rfl rfl (by kernel_rfl) (by kernel_rfl) (by kernel_rfl) (fun _ _ _ h => h) (Or.inl ⟨by rfl, ?_⟩) hHeld ?_
        rotate_left
        · (intro w hSw; (try dsimp only at hSw); go_simp; (try with_reducible rfl))
        simp only [Act.put, List.setIfInBounds_toArray, List.set_cons_zero, List.set_cons_succ]
        refine take_at 15 (v := ?_) (some 40) rfl rfl (by kernel_rfl) (by kernel_rfl) (by kernel_rfl) (fun _ _ _ h => h) (Or.inl ⟨by rfl, ?_⟩) hHeld ?_
        rotate_left
        · (intro w hSw; (try dsimp only at hSw); go_simp; (try with_reducible rfl))
        simp only [Act.put, List.setIfInBounds_toArray, List.set_cons_zero, List.set_cons_succ]
        refine take_at 18 (v := ?_) (some 43) rfl rfl (by kernel_rfl) (by kernel_rfl) (by kernel_rfl) (fun _ _ _ h => h) (Or.inl ⟨by rfl, ?_⟩) hHeld ?_
        rotate_left
        · (intro w hSw; (try dsimp only at hSw); go_simp; (try with_reducible rfl))
        simp only [Act.put, List.setIfInBounds_toArray, List.set_cons_zero, List.set_cons_succ]
        refine take_at 19 (v := ?_) (some 44) rfl rfl (by kernel_rfl) (by kernel_rfl) (by kernel_rfl) (fun _ _ _ h => h) (Or.inl ⟨by rfl, ?_⟩) hHeld ?_
        rotate_left
        · (intro w hSw; (try dsimp only at hSw); go_simp; (try with_reducible rfl))
        simp only [Act.put, List.setIfInBounds_toArray, List.set_cons_zero, List.set_cons_succ]
        refine take_at 20 (v := ?_) (some 45) rfl rfl (by kernel_rfl) (by kernel_rfl) (by kernel_rfl) (fun _ _ _ h => h) (Or.inl ⟨by rfl, ?_⟩) hHeld ?_
        rotate_left
        · (intro w hSw; (try dsimp only at hSw); go_simp; (try with_reducible rfl))
        simp only [Act.put, List.setIfInBounds_toArray, List.set_cons_zero, List.set_cons_succ]
        refine wpAnyH_ready (rs := [14]) (by kernel_rfl) (by simp) ?_
        refine AllReadyH.cons rfl (fun K hK => ?_) AllReadyH.nil
        go_simp
        go_at_call 23; refine (text_any _ _ _ (Ht.out.below (bel_then G2.out.2 hHeld.2.2.2.2.2.2.2.2))).mono ?_; rintro e w' ⟨rfl, hB⟩
        go_wp2_with fail
        refine hK.out _ _ ?_ (fun hHeld => ?_)
        · (try dsimp only at hHeld ⊢)
          go_split_ands
          exact ⟨keepc (by assumption) hB, keepc (by assumption) hB, keepc (by assumption) hB, keepc (by assumption) hB, keepc (by assumption) hB, keepc (by assumption) hB, keepc (by assumption) hB, keepc (by assumption) hB, bel_then (by assumption) hB⟩
        clear hK K hB
        try simp only [Act.put, List.setIfInBounds_toArray, List.set_cons_zero, List.set_cons_succ]
        refine wpAnyH_ready (rs := [16]) (by kernel_rfl) (by simp) ?_
        refine AllReadyH.cons rfl (fun K hK => ?_) AllReadyH.nil
        go_simp
        go_at_call 23; refine (text_any _ _ _ (Ht.out.below (bel_then G2.out.2 hHeld.2.2.2.2.2.2.2.2))).mono ?_; rintro e w' ⟨rfl, hB⟩; rw [← Hx.out]
        go_wp2_with fail
        refine hK.out _ _ ?_ (fun hHeld => ?_)
        · (try dsimp only at hHeld ⊢)
          go_split_ands
          exact ⟨keepc (by assumption) hB, keepc (by assumption) hB, keepc (by assumption) hB, keepc (by assumption) hB, keepc (by assumption) hB, keepc (by assumption) hB, keepc (by assumption) hB, keepc (by assumption) hB, bel_then (by assumption) hB⟩
        clear hK K hB
        try simp only [Act.put, List.setIfInBounds_toArray, List.set_cons_zero, List.set_cons_succ]
        refine take_at 17 (v := ?_) (some 42) rfl rfl (by kernel_rfl) (by kernel_rfl) (by kernel_rfl) (fun _ _ _ h => h) (Or.inl ⟨by rfl, ?_⟩) hHeld ?_
        rotate_left
        · (intro w hSw; (try dsimp only at hSw); go_simp; (try with_reducible rfl))
        simp only [Act.put, List.setIfInBounds_toArray, List.set_cons_zero, List.set_cons_succ]
        refine take_at 21 (v := ?_) (some 46) rfl rfl (by kernel_rfl) (by kernel_rfl) (by kernel_rfl) (fun _ _ _ h => h) (Or.inl ⟨by rfl, ?_⟩) hHeld ?_
        rotate_left
        · (intro w hSw; (try dsimp only at hSw); go_simp; (try with_reducible rfl))
        simp only [Act.put, List.setIfInBounds_toArray, List.set_cons_zero, List.set_cons_succ]
        refine take_at 22 (v := ?_) (some 47) rfl rfl (by kernel_rfl) (by kernel_rfl) (by kernel_rfl) (fun _ _ _ h => h) (Or.inl ⟨by rfl, ?_⟩) hHeld ?_
        rotate_left
        · (intro w hSw; (try dsimp only at hSw); go_simp; (try with_reducible rfl))
        simp only [Act.put, List.setIfInBounds_toArray, List.set_cons_zero, List.set_cons_succ]
        refine wpAnyH_done (by kernel_rfl) ?_ _
        go_split_ands
        go_wp2_with fail
        go_meet
        exact ⟨rfl, by assumption⟩
      · have Hx := Lib.hid hx
        clear hx
        have hs : (ntext a0 a1 == ntext b0 b1) = false := by have := Hx.out; simpa using this
        refine wp_region_held_drew (S := (fun w' => w'.cell? ⟨w.heap.size, 0, none⟩ = some (.int .i64 a0) ∧ w'.cell? ⟨w.heap.size, 1, none⟩ = some (.int .i64 a1) ∧ w'.cell? ⟨(w.heap.size + 1), 0, none⟩ = some (.int .i64 b0) ∧ w'.cell? ⟨(w.heap.size + 1), 1, none⟩ = some (.int .i64 b1) ∧ w'.cell? ⟨p, 0, none⟩ = some (.int .i64 (wr a0)) ∧ w'.cell? ⟨p, 1, none⟩ = some (.int .i64 (wr a1)) ∧ w'.cell? ⟨q, 0, none⟩ = some (.int .i64 (wr b0)) ∧ w'.cell? ⟨q, 1, none⟩ = some (.int .i64 (wr b1)) ∧ Below wc.heap.size wc w')) (by kernel_rfl) ?_ (fun hHeld => ?_)
        · exact ⟨(G2.out.at w.heap.size a0 a1 (by simp)).1, (G2.out.at w.heap.size a0 a1 (by simp)).2, (G2.out.at (w.heap.size + 1) b0 b1 (by simp)).1, (G2.out.at (w.heap.size + 1) b0 b1 (by simp)).2, (G2.out.at p (wr a0) (wr a1) (by simp)).1, (G2.out.at p (wr a0) (wr a1) (by simp)).2, (G2.out.at q (wr b0) (wr b1) (by simp)).1, (G2.out.at q (wr b0) (wr b1) (by simp)).2, (Below.refl _ _).drew⟩
        refine take_at 0 (v := ?_) (some 25) rfl rfl (by kernel_rfl) (by kernel_rfl) (by kernel_rfl) (fun _ _ _ h => h) (Or.inl ⟨by rfl, ?_⟩) hHeld ?_
        rotate_left
        · (intro w hSw; (try dsimp only at hSw); go_simp; (try with_reducible rfl))
        simp only [Act.put, List.setIfInBounds_toArray, List.set_cons_zero, List.set_cons_succ]
        refine take_at 2 (v := ?_) (some 27) rfl rfl (by kernel_rfl) (by kernel_rfl) (by kernel_rfl) (fun _ _ _ h => h) (Or.inl ⟨by rfl, ?_⟩) hHeld ?_
        rotate_left
        · (intro w hSw; (try dsimp only at hSw); go_simp; (try with_reducible rfl))
        simp only [Act.put, List.setIfInBounds_toArray, List.set_cons_zero, List.set_cons_succ]
        refine wpAnyH_ready (rs := [1]) (by kernel_rfl) (by simp) ?_
        refine AllReadyH.cons rfl (fun K hK => ?_) AllReadyH.nil
        go_simp
        go_at_call 23; refine (text_any _ _ _ (Ht.out.below (bel_then G2.out.2 hHeld.2.2.2.2.2.2.2.2))).mono ?_; rintro e w' ⟨rfl, hB⟩
        go_wp2_with fail
        refine hK.out _ _ ?_ (fun hHeld => ?_)
        · (try dsimp only at hHeld ⊢)
          go_split_ands
          exact ⟨keepc (by assumption) hB, keepc (by assumption) hB, keepc (by assumption) hB, keepc (by assumption) hB, keepc (by assumption) hB, keepc (by assumption) hB, keepc (by assumption) hB, keepc (by assumption) hB, bel_then (by assumption) hB⟩
        clear hK K hB
        try simp only [Act.put, List.setIfInBounds_toArray, List.set_cons_zero, List.set_cons_succ]
        refine wpAnyH_ready (rs := [3]) (by kernel_rfl) (by simp) ?_
        refine AllReadyH.cons rfl (fun K hK => ?_) AllReadyH.nil
        go_simp
        go_at_call 24; refine (rtext_any _ _ _).mono ?_; rintro e w' ⟨rfl, hB⟩
        go_wp2_with fail
        refine hK.out _ _ ?_ (fun hHeld => ?_)
        · (try dsimp only at hHeld ⊢)
          go_split_ands
          exact ⟨keepc (by assumption) hB, keepc (by assumption) hB, keepc (by assumption) hB, keepc (by assumption) hB, keepc (by assumption) hB, keepc (by assumption) hB, keepc (by assumption) hB, keepc (by assumption) hB, bel_then (by assumption) hB⟩
        clear hK K hB
        try simp only [Act.put, List.setIfInBounds_toArray, List.set_cons_zero, List.set_cons_succ]
        refine take_at 4 (v := ?_) (some 29) rfl rfl (by kernel_rfl) (by kernel_rfl) (by kernel_rfl) (fun _ _ _ h => h) (Or.inl ⟨by rfl, ?_⟩) hHeld ?_
        rotate_left
        · (intro w hSw; (try dsimp only at hSw); go_simp; (try with_reducible rfl))
        simp only [Act.put, List.setIfInBounds_toArray, List.set_cons_zero, List.set_cons_succ]
        refine take_at 5 (v := ?_) (some 30) rfl rfl (by kernel_rfl) (by kernel_rfl) (by kernel_rfl) (fun _ _ _ h => h) (Or.inl ⟨by rfl, ?_⟩) hHeld ?_
        rotate_left
        · (intro w hSw; (try dsimp only at hSw); go_simp; (try with_reducible rfl))
        simp only [Act.put, List.setIfInBounds_toArray, List.set_cons_zero, List.set_cons_succ]
        refine take_at 6 (v := ?_) (some 31) rfl rfl (by kernel_rfl) (by kernel_rfl) (by kernel_rfl) (fun _ _ _ h => h) (Or.inl ⟨by rfl, ?_⟩) hHeld ?_
        rotate_left
        · (intro w hSw; (try dsimp only at hSw); go_simp; (try with_reducible rfl))
        simp only [Act.put, List.setIfInBounds_toArray, List.set_cons_zero, List.set_cons_succ]
        refine take_at 8 (v := ?_) (some 33) rfl rfl (by kernel_rfl) (by kernel_rfl) (by kernel_rfl) (fun _ _ _ h => h) (Or.inl ⟨by rfl, ?_⟩) hHeld ?_
        rotate_left
        · (intro w hSw; (try dsimp only at hSw); go_simp; (try with_reducible rfl))
        simp only [Act.put, List.setIfInBounds_toArray, List.set_cons_zero, List.set_cons_succ]
        refine wpAnyH_ready (rs := [7]) (by kernel_rfl) (by simp) ?_
        refine AllReadyH.cons rfl (fun K hK => ?_) AllReadyH.nil
        go_simp
        go_at_call 25; refine (word_any _ _ _).mono ?_; rintro e w' ⟨rfl, hB⟩
        go_wp2_with fail
        refine hK.out _ _ ?_ (fun hHeld => ?_)
        · (try dsimp only at hHeld ⊢)
          go_split_ands
          exact ⟨keepc (by assumption) hB, keepc (by assumption) hB, keepc (by assumption) hB, keepc (by assumption) hB, keepc (by assumption) hB, keepc (by assumption) hB, keepc (by assumption) hB, keepc (by assumption) hB, bel_then (by assumption) hB⟩
        clear hK K hB
        try simp only [Act.put, List.setIfInBounds_toArray, List.set_cons_zero, List.set_cons_succ]
        refine wpAnyH_ready (rs := [9]) (by kernel_rfl) (by simp) ?_
        refine AllReadyH.cons rfl (fun K hK => ?_) AllReadyH.nil
        go_simp
        go_at_call 26; refine (rword_any _ _ _).mono ?_; rintro e w' ⟨rfl, hB⟩
        go_wp2_with fail
        refine hK.out _ _ ?_ (fun hHeld => ?_)
        · (try dsimp only at hHeld ⊢)
          go_split_ands
          exact ⟨keepc (by assumption) hB, keepc (by assumption) hB, keepc (by assumption) hB, keepc (by assumption) hB, keepc (by assumption) hB, keepc (by assumption) hB, keepc (by assumption) hB, keepc (by assumption) hB, bel_then (by assumption) hB⟩
        clear hK K hB
        try simp only [Act.put, List.setIfInBounds_toArray, List.set_cons_zero, List.set_cons_succ]
        refine take_at 10 (v := ?_) (some 35) rfl rfl (by kernel_rfl) (by kernel_rfl) (by kernel_rfl) (fun _ _ _ h => h) (Or.inl ⟨by rfl, ?_⟩) hHeld ?_
        rotate_left
        · (intro w hSw; (try dsimp only at hSw); go_simp; (try with_reducible rfl))
        simp only [Act.put, List.setIfInBounds_toArray, List.set_cons_zero, List.set_cons_succ]
        refine take_at 11 (v := ?_) (some 36) rfl rfl (by kernel_rfl) (by kernel_rfl) (by kernel_rfl) (fun _ _ _ h => h) (Or.inl ⟨by rfl, ?_⟩) hHeld ?_
        rotate_left
        · (intro w hSw; (try dsimp only at hSw); go_simp; (try with_reducible rfl))
        simp only [Act.put, List.setIfInBounds_toArray, List.set_cons_zero, List.set_cons_succ]
        refine take_at 12 (v := ?_) (some 37) rfl rfl (by kernel_rfl) (by kernel_rfl) (by kernel_rfl) (fun _ _ _ h => h) (Or.inl ⟨by rfl, ?_⟩) hHeld ?_
        rotate_left
        · (intro w hSw; (try dsimp only at hSw); go_simp; (try with_reducible rfl))
        simp only [Act.put, List.setIfInBounds_toArray, List.set_cons_zero, List.set_cons_succ]
        refine take_at 13 (v := ?_) (some 38) rfl rfl (by kernel_rfl) (by kernel_rfl) (by kernel_rfl) (fun _ _ _ h => h) (Or.inl ⟨by rfl, ?_⟩) hHeld ?_
        rotate_left
        · (intro w hSw; (try dsimp only at hSw); go_simp; (try with_reducible rfl))
        simp only [Act.put, List.setIfInBounds_toArray, List.set_cons_zero, List.set_cons_succ]
        refine take_at 15 (v := ?_) (some 40) rfl rfl (by kernel_rfl) (by kernel_rfl) (by kernel_rfl) (fun _ _ _ h => h) (Or.inl ⟨by rfl, ?_⟩) hHeld ?_
        rotate_left
        · (intro w hSw; (try dsimp only at hSw); go_simp; (try with_reducible rfl))
        simp only [Act.put, List.setIfInBounds_toArray, List.set_cons_zero, List.set_cons_succ]
        refine take_at 18 (v := ?_) (some 43) rfl rfl (by kernel_rfl) (by kernel_rfl) (by kernel_rfl) (fun _ _ _ h => h) (Or.inl ⟨by rfl, ?_⟩) hHeld ?_
        rotate_left
        · (intro w hSw; (try dsimp only at hSw); go_simp; (try with_reducible rfl))
        simp only [Act.put, List.setIfInBounds_toArray, List.set_cons_zero, List.set_cons_succ]
        refine take_at 19 (v := ?_) (some 44) rfl rfl (by kernel_rfl) (by kernel_rfl) (by kernel_rfl) (fun _ _ _ h => h) (Or.inl ⟨by rfl, ?_⟩) hHeld ?_
        rotate_left
        · (intro w hSw; (try dsimp only at hSw); go_simp; (try with_reducible rfl))
        simp only [Act.put, List.setIfInBounds_toArray, List.set_cons_zero, List.set_cons_succ]
        refine take_at 20 (v := ?_) (some 45) rfl rfl (by kernel_rfl) (by kernel_rfl) (by kernel_rfl) (fun _ _ _ h => h) (Or.inl ⟨by rfl, ?_⟩) hHeld ?_
        rotate_left
        · (intro w hSw; (try dsimp only at hSw); go_simp; (try with_reducible rfl))
        simp only [Act.put, List.setIfInBounds_toArray, List.set_cons_zero, List.set_cons_succ]
        refine wpAnyH_ready (rs := [14]) (by kernel_rfl) (by simp) ?_
        refine AllReadyH.cons rfl (fun K hK => ?_) AllReadyH.nil
        go_simp
        go_at_call 23; refine (text_any _ _ _ (Ht.out.below (bel_then G2.out.2 hHeld.2.2.2.2.2.2.2.2))).mono ?_; rintro e w' ⟨rfl, hB⟩
        go_wp2_with fail
        refine hK.out _ _ ?_ (fun hHeld => ?_)
        · (try dsimp only at hHeld ⊢)
          go_split_ands
          exact ⟨keepc (by assumption) hB, keepc (by assumption) hB, keepc (by assumption) hB, keepc (by assumption) hB, keepc (by assumption) hB, keepc (by assumption) hB, keepc (by assumption) hB, keepc (by assumption) hB, bel_then (by assumption) hB⟩
        clear hK K hB
        try simp only [Act.put, List.setIfInBounds_toArray, List.set_cons_zero, List.set_cons_succ]
        refine wpAnyH_ready (rs := [16]) (by kernel_rfl) (by simp) ?_
        refine AllReadyH.cons rfl (fun K hK => ?_) AllReadyH.nil
        go_simp
        go_at_call 23; refine (text_any _ _ _ (Ht.out.below (bel_then G2.out.2 hHeld.2.2.2.2.2.2.2.2))).mono ?_; rintro e w' ⟨rfl, hB⟩
        go_wp2_with fail
        refine hK.out _ _ ?_ (fun hHeld => ?_)
        · (try dsimp only at hHeld ⊢)
          go_split_ands
          exact ⟨keepc (by assumption) hB, keepc (by assumption) hB, keepc (by assumption) hB, keepc (by assumption) hB, keepc (by assumption) hB, keepc (by assumption) hB, keepc (by assumption) hB, keepc (by assumption) hB, bel_then (by assumption) hB⟩
        clear hK K hB
        try simp only [Act.put, List.setIfInBounds_toArray, List.set_cons_zero, List.set_cons_succ]
        refine take_at 17 (v := ?_) (some 42) rfl rfl (by kernel_rfl) (by kernel_rfl) (by kernel_rfl) (fun _ _ _ h => h) (Or.inl ⟨by rfl, ?_⟩) hHeld ?_
        rotate_left
        · (intro w hSw; (try dsimp only at hSw); go_simp; (try with_reducible rfl))
        simp only [Act.put, List.setIfInBounds_toArray, List.set_cons_zero, List.set_cons_succ]
        refine take_at 21 (v := ?_) (some 46) rfl rfl (by kernel_rfl) (by kernel_rfl) (by kernel_rfl) (fun _ _ _ h => h) (Or.inl ⟨by rfl, ?_⟩) hHeld ?_
        rotate_left
        · (intro w hSw; (try dsimp only at hSw); go_simp; (try with_reducible rfl))
        simp only [Act.put, List.setIfInBounds_toArray, List.set_cons_zero, List.set_cons_succ]
        refine take_at 22 (v := ?_) (some 47) rfl rfl (by kernel_rfl) (by kernel_rfl) (by kernel_rfl) (fun _ _ _ h => h) (Or.inl ⟨by rfl, ?_⟩) hHeld ?_
        rotate_left
        · (intro w hSw; (try dsimp only at hSw); go_simp; (try with_reducible rfl))
        simp only [Act.put, List.setIfInBounds_toArray, List.set_cons_zero, List.set_cons_succ]
        refine wpAnyH_done (by kernel_rfl) ?_ _
        go_split_ands
        go_wp2_with fail
        go_meet
        exact ⟨rfl, by assumption⟩
      · have Hx := Lib.hid hx
        clear hx
        have hs : (ntext a0 a1 == ntext b0 b1) = false := by have := Hx.out; simpa using this
        refine wp_region_held_drew (S := (fun w' => w'.cell? ⟨w.heap.size, 0, none⟩ = some (.int .i64 a0) ∧ w'.cell? ⟨w.heap.size, 1, none⟩ = some (.int .i64 a1) ∧ w'.cell? ⟨(w.heap.size + 1), 0, none⟩ = some (.int .i64 b0) ∧ w'.cell? ⟨(w.heap.size + 1), 1, none⟩ = some (.int .i64 b1) ∧ w'.cell? ⟨p, 0, none⟩ = some (.int .i64 (wr a0)) ∧ w'.cell? ⟨p, 1, none⟩ = some (.int .i64 (wr a1)) ∧ w'.cell? ⟨q, 0, none⟩ = some (.int .i64 (wr b0)) ∧ w'.cell? ⟨q, 1, none⟩ = some (.int .i64 (wr b1)) ∧ Below wc.heap.size wc w')) (by kernel_rfl) ?_ (fun hHeld => ?_)
        · exact ⟨(G2.out.at w.heap.size a0 a1 (by simp)).1, (G2.out.at w.heap.size a0 a1 (by simp)).2, (G2.out.at (w.heap.size + 1) b0 b1 (by simp)).1, (G2.out.at (w.heap.size + 1) b0 b1 (by simp)).2, (G2.out.at p (wr a0) (wr a1) (by simp)).1, (G2.out.at p (wr a0) (wr a1) (by simp)).2, (G2.out.at q (wr b0) (wr b1) (by simp)).1, (G2.out.at q (wr b0) (wr b1) (by simp)).2, (Below.refl _ _).drew⟩
        refine take_at 0 (v := ?_) (some 25) rfl rfl (by kernel_rfl) (by kernel_rfl) (by kernel_rfl) (fun _ _ _ h => h) (Or.inl ⟨by rfl, ?_⟩) hHeld ?_
        rotate_left
        · (intro w hSw; (try dsimp only at hSw); go_simp; (try with_reducible rfl))
        simp only [Act.put, List.setIfInBounds_toArray, List.set_cons_zero, List.set_cons_succ]
        refine take_at 2 (v := ?_) (some 27) rfl rfl (by kernel_rfl) (by kernel_rfl) (by kernel_rfl) (fun _ _ _ h => h) (Or.inl ⟨by rfl, ?_⟩) hHeld ?_
        rotate_left
        · (intro w hSw; (try dsimp only at hSw); go_simp; (try with_reducible rfl))
        simp only [Act.put, List.setIfInBounds_toArray, List.set_cons_zero, List.set_cons_succ]
        refine wpAnyH_ready (rs := [1]) (by kernel_rfl) (by simp) ?_
        refine AllReadyH.cons rfl (fun K hK => ?_) AllReadyH.nil
        go_simp
        go_at_call 23; refine (text_any _ _ _ (Ht.out.below (bel_then G2.out.2 hHeld.2.2.2.2.2.2.2.2))).mono ?_; rintro e w' ⟨rfl, hB⟩
        go_wp2_with fail
        refine hK.out _ _ ?_ (fun hHeld => ?_)
        · (try dsimp only at hHeld ⊢)
          go_split_ands
          exact ⟨keepc (by assumption) hB, keepc (by assumption) hB, keepc (by assumption) hB, keepc (by assumption) hB, keepc (by assumption) hB, keepc (by assumption) hB, keepc (by assumption) hB, keepc (by assumption) hB, bel_then (by assumption) hB⟩
        clear hK K hB
        try simp only [Act.put, List.setIfInBounds_toArray, List.set_cons_zero, List.set_cons_succ]
        refine wpAnyH_ready (rs := [3]) (by kernel_rfl) (by simp) ?_
        refine AllReadyH.cons rfl (fun K hK => ?_) AllReadyH.nil
        go_simp
        go_at_call 24; refine (rtext_any _ _ _).mono ?_; rintro e w' ⟨rfl, hB⟩
        go_wp2_with fail
        refine hK.out _ _ ?_ (fun hHeld => ?_)
        · (try dsimp only at hHeld ⊢)
          go_split_ands
          exact ⟨keepc (by assumption) hB, keepc (by assumption) hB, keepc (by assumption) hB, keepc (by assumption) hB, keepc (by assumption) hB, keepc (by assumption) hB, keepc (by assumption) hB, keepc (by assumption) hB, bel_then (by assumption) hB⟩
        clear hK K hB
        try simp only [Act.put, List.setIfInBounds_toArray, List.set_cons_zero, List.set_cons_succ]
        refine take_at 4 (v := ?_) (some 29) rfl rfl (by kernel_rfl) (by kernel_rfl) (by kernel_rfl) (fun _ _ _ h => h) (Or.inl ⟨by rfl, ?_⟩) hHeld ?_
        rotate_left
        · (intro w hSw; (try dsimp only at hSw); go_simp; (try with_reducible rfl))
        simp only [Act.put, List.setIfInBounds_toArray, List.set_cons_zero, List.set_cons_succ]
        refine take_at 5 (v := ?_) (some 30) rfl rfl (by kernel_rfl) (by kernel_rfl) (by kernel_rfl) (fun _ _ _ h => h) (Or.inl ⟨by rfl, ?_⟩) hHeld ?_
        rotate_left
        · (intro w hSw; (try dsimp only at hSw); go_simp; (try with_reducible rfl))
        simp only [Act.put, List.setIfInBounds_toArray, List.set_cons_zero, List.set_cons_succ]
        refine take_at 6 (v := ?_) (some 31) rfl rfl (by kernel_rfl) (by kernel_rfl) (by kernel_rfl) (fun _ _ _ h => h) (Or.inl ⟨by rfl, ?_⟩) hHeld ?_
        rotate_left
        · (intro w hSw; (try dsimp only at hSw); go_simp; (try with_reducible rfl))
        simp only [Act.put, List.setIfInBounds_toArray, List.set_cons_zero, List.set_cons_succ]
        refine take_at 8 (v := ?_) (some 33) rfl rfl (by kernel_rfl) (by kernel_rfl) (by kernel_rfl) (fun _ _ _ h => h) (Or.inl ⟨by rfl, ?_⟩) hHeld ?_
        rotate_left
        · (intro w hSw; (try dsimp only at hSw); go_simp; (try with_reducible rfl))
        simp only [Act.put, List.setIfInBounds_toArray, List.set_cons_zero, List.set_cons_succ]
        refine wpAnyH_ready (rs := [7]) (by kernel_rfl) (by simp) ?_
        refine AllReadyH.cons rfl (fun K hK => ?_) AllReadyH.nil
        go_simp
        go_at_call 25; refine (word_any _ _ _).mono ?_; rintro e w' ⟨rfl, hB⟩
        go_wp2_with fail
        refine hK.out _ _ ?_ (fun hHeld => ?_)
        · (try dsimp only at hHeld ⊢)
          go_split_ands
          exact ⟨keepc (by assumption) hB, keepc (by assumption) hB, keepc (by assumption) hB, keepc (by assumption) hB, keepc (by assumption) hB, keepc (by assumption) hB, keepc (by assumption) hB, keepc (by assumption) hB, bel_then (by assumption) hB⟩
        clear hK K hB
        try simp only [Act.put, List.setIfInBounds_toArray, List.set_cons_zero, List.set_cons_succ]
        refine wpAnyH_ready (rs := [9]) (by kernel_rfl) (by simp) ?_
        refine AllReadyH.cons rfl (fun K hK => ?_) AllReadyH.nil
        go_simp
        go_at_call 26; refine (rword_any _ _ _).mono ?_; rintro e w' ⟨rfl, hB⟩
        go_wp2_with fail
        refine hK.out _ _ ?_ (fun hHeld => ?_)
        · (try dsimp only at hHeld ⊢)
          go_split_ands
          exact ⟨keepc (by assumption) hB, keepc (by assumption) hB, keepc (by assumption) hB, keepc (by assumption) hB, keepc (by assumption) hB, keepc (by assumption) hB, keepc (by assumption) hB, keepc (by assumption) hB, bel_then (by assumption) hB⟩
        clear hK K hB
        try simp only [Act.put, List.setIfInBounds_toArray, List.set_cons_zero, List.set_cons_succ]
        refine take_at 10 (v := ?_) (some 35) rfl rfl (by kernel_rfl) (by kernel_rfl) (by kernel_rfl) (fun _ _ _ h => h) (Or.inl ⟨by rfl, ?_⟩) hHeld ?_
        rotate_left
        · (intro w hSw; (try dsimp only at hSw); go_simp; (try with_reducible rfl))
        simp only [Act.put, List.setIfInBounds_toArray, List.set_cons_zero, List.set_cons_succ]
        refine take_at 11 (v := ?_) (some 36) rfl rfl (by kernel_rfl) (by kernel_rfl) (by kernel_rfl) (fun _ _ _ h => h) (Or.inl ⟨by rfl, ?_⟩) hHeld ?_
        rotate_left
        · (intro w hSw; (try dsimp only at hSw); go_simp; (try with_reducible rfl))
        simp only [Act.put, List.setIfInBounds_toArray, List.set_cons_zero, List.set_cons_succ]
        refine take_at 12 (v := ?_) (some 37) rfl rfl (by kernel_rfl) (by kernel_rfl) (by kernel_rfl) (fun _ _ _ h => h) (Or.inl ⟨by rfl, ?_⟩) hHeld ?_
        rotate_left
        · (intro w hSw; (try dsimp only at hSw); go_simp; (try with_reducible rfl))
        simp only [Act.put, List.setIfInBounds_toArray, List.set_cons_zero, List.set_cons_succ]
        refine take_at 13 (v := ?_) (some 38) rfl rfl (by kernel_rfl) (by kernel_rfl) (by kernel_rfl) (fun _ _ _ h => h) (Or.inl ⟨by rfl, ?_⟩) hHeld ?_
        rotate_left
        · (intro w hSw; (try dsimp only at hSw); go_simp; (try with_reducible rfl))
        simp only [Act.put, List.setIfInBounds_toArray, List.set_cons_zero, List.set_cons_succ]
        refine take_at 15 (v := ?_) (some 40) rfl rfl (by kernel_rfl) (by kernel_rfl) (by kernel_rfl) (fun _ _ _ h => h) (Or.inl ⟨by rfl, ?_⟩) hHeld ?_
        rotate_left
        · (intro w hSw; (try dsimp only at hSw); go_simp; (try with_reducible rfl))
        simp only [Act.put, List.setIfInBounds_toArray, List.set_cons_zero, List.set_cons_succ]
        refine take_at 18 (v := ?_) (some 43) rfl rfl (by kernel_rfl) (by kernel_rfl) (by kernel_rfl) (fun _ _ _ h => h) (Or.inl ⟨by rfl, ?_⟩) hHeld ?_
        rotate_left
        · (intro w hSw; (try dsimp only at hSw); go_simp; (try with_reducible rfl))
        simp only [Act.put, List.setIfInBounds_toArray, List.set_cons_zero, List.set_cons_succ]
        refine take_at 19 (v := ?_) (some 44) rfl rfl (by kernel_rfl) (by kernel_rfl) (by kernel_rfl) (fun _ _ _ h => h) (Or.inl ⟨by rfl, ?_⟩) hHeld ?_
        rotate_left
        · (intro w hSw; (try dsimp only at hSw); go_simp; (try with_reducible rfl))
        simp only [Act.put, List.setIfInBounds_toArray, List.set_cons_zero, List.set_cons_succ]
        refine take_at 20 (v := ?_) (some 45) rfl rfl (by kernel_rfl) (by kernel_rfl) (by kernel_rfl) (fun _ _ _ h => h) (Or.inl ⟨by rfl, ?_⟩) hHeld ?_
        rotate_left
        · (intro w hSw; (try dsimp only at hSw); go_simp; (try with_reducible rfl))
        simp only [Act.put, List.setIfInBounds_toArray, List.set_cons_zero, List.set_cons_succ]
        refine wpAnyH_ready (rs := [14]) (by kernel_rfl) (by simp) ?_
        refine AllReadyH.cons rfl (fun K hK => ?_) AllReadyH.nil
        go_simp
        go_at_call 23; refine (text_any _ _ _ (Ht.out.below (bel_then G2.out.2 hHeld.2.2.2.2.2.2.2.2))).mono ?_; rintro e w' ⟨rfl, hB⟩
        go_wp2_with fail
        refine hK.out _ _ ?_ (fun hHeld => ?_)
        · (try dsimp only at hHeld ⊢)
          go_split_ands
          exact ⟨keepc (by assumption) hB, keepc (by assumption) hB, keepc (by assumption) hB, keepc (by assumption) hB, keepc (by assumption) hB, keepc (by assumption) hB, keepc (by assumption) hB, keepc (by assumption) hB, bel_then (by assumption) hB⟩
        clear hK K hB
        try simp only [Act.put, List.setIfInBounds_toArray, List.set_cons_zero, List.set_cons_succ]
        refine wpAnyH_ready (rs := [16]) (by kernel_rfl) (by simp) ?_
        refine AllReadyH.cons rfl (fun K hK => ?_) AllReadyH.nil
        go_simp
        go_at_call 23; refine (text_any _ _ _ (Ht.out.below (bel_then G2.out.2 hHeld.2.2.2.2.2.2.2.2))).mono ?_; rintro e w' ⟨rfl, hB⟩
        go_wp2_with fail
        refine hK.out _ _ ?_ (fun hHeld => ?_)
        · (try dsimp only at hHeld ⊢)
          go_split_ands
          exact ⟨keepc (by assumption) hB, keepc (by assumption) hB, keepc (by assumption) hB, keepc (by assumption) hB, keepc (by assumption) hB, keepc (by assumption) hB, keepc (by assumption) hB, keepc (by assumption) hB, bel_then (by assumption) hB⟩
        clear hK K hB
        try simp only [Act.put, List.setIfInBounds_toArray, List.set_cons_zero, List.set_cons_succ]
        refine take_at 17 (v := ?_) (some 42) rfl rfl (by kernel_rfl) (by kernel_rfl) (by kernel_rfl) (fun _ _ _ h => h) (Or.inl ⟨by rfl, ?_⟩) hHeld ?_
        rotate_left
        · (intro w hSw; (try dsimp only at hSw); go_simp; (try with_reducible rfl))
        simp only [Act.put, List.setIfInBounds_toArray, List.set_cons_zero, List.set_cons_succ]
        refine take_at 21 (v := ?_) (some 46) rfl rfl (by kernel_rfl) (by kernel_rfl) (by kernel_rfl) (fun _ _ _ h => h) (Or.inl ⟨by rfl, ?_⟩) hHeld ?_
        rotate_left
        · (intro w hSw; (try dsimp only at hSw); go_simp; (try with_reducible rfl))
        simp only [Act.put, List.setIfInBounds_toArray, List.set_cons_zero, List.set_cons_succ]
        refine take_at 22 (v := ?_) (some 47) rfl rfl (by kernel_rfl) (by kernel_rfl) (by kernel_rfl) (fun _ _ _ h => h) (Or.inl ⟨by rfl, ?_⟩) hHeld ?_
        rotate_left
        · (intro w hSw; (try dsimp only at hSw); go_simp; (try with_reducible rfl))
        simp only [Act.put, List.setIfInBounds_toArray, List.set_cons_zero, List.set_cons_succ]
        refine wpAnyH_done (by kernel_rfl) ?_ _
        go_split_ands
        go_wp2_with fail
        go_meet
        exact ⟨rfl, by assumption⟩
    case rest =>
      obtain ⟨rfl, hB⟩ := hcut
      have G3 := Lib.hid (G2.out.keep hB)
      clear hB G2
      obtain ⟨k0, k1⟩ := G3.out.at w.heap.size a0 a1 (by simp)
      go_wp2_with fail
      clear k0 k1
      refine (word_any _ _ _).mono ?_
      rintro e u1 ⟨rfl, hB⟩
      have G4 := Lib.hid (G3.out.keep hB)
      clear hB G3
      go_wp2_with fail
      refine (unword_small _ _ (word_bd a0 a1).1 (word_bd a0 a1).2).mono ?_
      rintro e u2 ⟨rfl, hB⟩
      rw [wr_word0, wr_word1]
      have G5 := Lib.hid ((G4.out.keep hB).add (wr a0) (wr a1) 23)
      clear hB G4
      by_cases hx : x < 4294967296
      · have HX := Lib.hid (And.intro (word_of H0.out.1 hx) (isw_wr x (x / 65536)))
        go_wp2_with fail
        refine (unword_small _ _ H0.out.1 hx).mono ?_
        rintro e u3 ⟨rfl, hB⟩
        have G6 := Lib.hid ((G5.out.keep hB).add (wr x) (wr (x / 65536)) 23)
        clear hB G5
        obtain ⟨k0, k1⟩ := G6.out.at p (wr a0) (wr a1) (by simp)
        obtain ⟨k2, k3⟩ := G6.out.at u2.heap.size (wr a0) (wr a1) (by simp)
        obtain ⟨k4, k5⟩ := G6.out.at u3.heap.size (wr x) (wr (x / 65536)) (by simp)
        have q1 := num_eql
        have hd : decide (x < 4294967296) = true := decide_eq_true hx
        go_wp2_with fail
        clear k0 k1 k2 k3 k4 k5
        refine (word_any _ _ _).mono ?_
        rintro e u4 ⟨rfl, hB⟩
        rw [HX.out.1]
        have G7 := Lib.hid (G6.out.keep hB)
        obtain ⟨k4, k5⟩ := G7.out.at u3.heap.size (wr x) (wr (x / 65536)) (by simp)
        clear hB
        go_wp2_with fail
        clear k4 k5
        refine (isw_any _ _ _).mono ?_
        rintro e u5 ⟨rfl, hB⟩
        rw [HX.out.2]
        have G8 := Lib.hid (G7.out.keep hB)
        clear hB
        go_wp2_with fail
        go_ret
        exact ⟨rfl, G8.out.2⟩
      · go_wp2_with fail
        refine (unword_big _ _ (by omega)).mono ?_
        rintro e u3 ⟨rfl, hB⟩
        have G6 := Lib.hid ((G5.out.keep hB).add 0 0 23)
        clear hB G5
        obtain ⟨k0, k1⟩ := G6.out.at p (wr a0) (wr a1) (by simp)
        obtain ⟨k2, k3⟩ := G6.out.at u2.heap.size (wr a0) (wr a1) (by simp)
        obtain ⟨k4, k5⟩ := G6.out.at u3.heap.size 0 0 (by simp)
        have q1 := num_eql
        have hd : decide (x < 4294967296) = false := decide_eq_false (by omega)
        go_wp2_with fail
        go_ret
        exact ⟨rfl, G6.out.2⟩

end Go.Proofs.YtgjcfmkaeffffaaDoor
