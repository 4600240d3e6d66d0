/-
  cell.Read.Step of a cell without words: contract. Written by wip/gen/mkcell3.py.
-/
import Derived.Test.YteheckcflnogbaaCell2
namespace Go.Proofs.Yteheckcflnogbaa
open Go.RowKit


set_option maxHeartbeats 3200000 in
set_option maxRecDepth 100000 in
theorem rdstep_zero (d bs wh n : Int) (rb b : Nat) (w : World) (hq : cwn n = 0) (h : Rd w rb bs wh n (.slice none 0 0) false 0) :
    Calls Try.prog 85 #[.pointer (some ⟨rb, 0, none⟩), .iface 64 (.pointer (some ⟨b, 0, none⟩)), .int .i64 d] w fun e w' => e = .returned (.bool true) ∧ Rd w' rb bs wh n (.slice none 0 0) true 0 ∧ Fr [rb] w w' := by
  have HR0 := Lib.hid h
  have HQ := Lib.hid hq
  obtain ⟨c0, c1, c2, c3, c4, c5⟩ := h.cells
  have f3 := Bk.free h 3
  clear h hq
  go_enter Try.func85, Try.ntmps85
  go_wp2_with fail
  refine wp_gen (fun W => Rd W rb bs wh n (.slice none 0 0) false 0 ∧ Fr [rb] w W) ?_ ?_
  · exact ⟨by simpa [Rd] using Bk.set HR0.out 3 (.slice none 0 0), (Fr.refl _ _).set (by simp) _⟩
  clear c0 c1 c2 c3 c4 c5 f3
  intro W0 ⟨hr, hf⟩
  have HR := Lib.hid hr
  have HF0 := Lib.hid hf
  obtain ⟨c0, c1, c2, c3, c4, c5⟩ := hr.cells
  clear hr hf
  refine wp_region_held_drew (S := (fun w' => w'.cell? ⟨rb, 0, none⟩ = some (.int .i64 bs) ∧ w'.cell? ⟨rb, 1, none⟩ = some (.int .i64 wh) ∧ w'.cell? ⟨rb, 2, none⟩ = some (.int .i64 n) ∧ w'.cell? ⟨rb, 5, none⟩ = some (.int .i64 0))) (by kernel_rfl) ?_ (fun hHeld => ?_)
  · exact ⟨c0, c1, c2, c5⟩
  refine take_at 0 (v := ?_) (some 24) rfl rfl (by kernel_rfl) (by kernel_rfl) (by kernel_rfl) (fun _ _ _ h => h) (Or.inl ⟨by rfl, ?_⟩) hHeld ?_
  rotate_left
  · (intro w hSw; (try dsimp only at hSw); go_simp; (try with_reducible rfl))
  simp only [Act.put, List.setIfInBounds_toArray, List.set_cons_zero, List.set_cons_succ]
  refine take_at 1 (v := ?_) (some 25) rfl rfl (by kernel_rfl) (by kernel_rfl) (by kernel_rfl) (fun _ _ _ h => h) (Or.inl ⟨by rfl, ?_⟩) hHeld ?_
  rotate_left
  · (intro w hSw; (try dsimp only at hSw); go_simp; (try with_reducible rfl))
  simp only [Act.put, List.setIfInBounds_toArray, List.set_cons_zero, List.set_cons_succ]
  refine take_at 2 (v := ?_) (some 26) rfl rfl (by kernel_rfl) (by kernel_rfl) (by kernel_rfl) (fun _ _ _ h => h) (Or.inl ⟨by rfl, ?_⟩) hHeld ?_
  rotate_left
  · (intro w hSw; (try dsimp only at hSw); go_simp; (try with_reducible rfl))
  simp only [Act.put, List.setIfInBounds_toArray, List.set_cons_zero, List.set_cons_succ]
  refine take_at 3 (v := ?_) (some 27) rfl rfl (by kernel_rfl) (by kernel_rfl) (by kernel_rfl) (fun _ _ _ h => h) (Or.inl ⟨by rfl, ?_⟩) hHeld ?_
  rotate_left
  · (intro w hSw; (try dsimp only at hSw); go_simp; (try with_reducible rfl))
  simp only [Act.put, List.setIfInBounds_toArray, List.set_cons_zero, List.set_cons_succ]
  refine take_at 4 (v := ?_) (some 28) rfl rfl (by kernel_rfl) (by kernel_rfl) (by kernel_rfl) (fun _ _ _ h => h) (Or.inl ⟨by rfl, ?_⟩) hHeld ?_
  rotate_left
  · (intro w hSw; (try dsimp only at hSw); go_simp; (try with_reducible rfl))
  simp only [Act.put, List.setIfInBounds_toArray, List.set_cons_zero, List.set_cons_succ]
  refine take_at 5 (v := ?_) (some 29) rfl rfl (by kernel_rfl) (by kernel_rfl) (by kernel_rfl) (fun _ _ _ h => h) (Or.inl ⟨by rfl, ?_⟩) hHeld ?_
  rotate_left
  · (intro w hSw; (try dsimp only at hSw); go_simp; (try with_reducible rfl))
  simp only [Act.put, List.setIfInBounds_toArray, List.set_cons_zero, List.set_cons_succ]
  refine take_at 6 (v := ?_) (some 30) rfl rfl (by kernel_rfl) (by kernel_rfl) (by kernel_rfl) (fun _ _ _ h => h) (Or.inl ⟨by rfl, ?_⟩) hHeld ?_
  rotate_left
  · (intro w hSw; (try dsimp only at hSw); go_simp; (try with_reducible rfl))
  simp only [Act.put, List.setIfInBounds_toArray, List.set_cons_zero, List.set_cons_succ]
  refine wpAnyH_ready (rs := [7]) (by kernel_rfl) (by simp) ?_
  refine AllReadyH.cons rfl (fun K hK => ?_) AllReadyH.nil
  go_simp
  refine (over_any rb 5 0 bs wh n _ (show W0.drew.cell? ⟨rb, 5, none⟩ = _ from HR.out.cells.2.2.2.2.2)).mono ?_; rintro e v1 ⟨rfl, hB⟩; have HFv := Lib.hid (show Fr [] W0 v1 from ((Fr.refl [] W0).drew).trans (.of hB)); have HRv := Lib.hid (HR.out.fr HFv.out (by simp)); rw [HQ.out, show decide ((0 : Int) ≤ 0) = true from rfl]; clear hB
  go_wp2_with fail
  refine hK.out _ _ ?_ (fun hHeld => ?_)
  · (try dsimp only at hHeld ⊢)
    go_split_ands
    exact ⟨HRv.out.cells.1, HRv.out.cells.2.1, HRv.out.cells.2.2.1, HRv.out.cells.2.2.2.2.2⟩
  clear hK K
  try simp only [Act.put, List.setIfInBounds_toArray, List.set_cons_zero, List.set_cons_succ]
  refine take_at 8 (v := ?_) (some 32) rfl rfl (by kernel_rfl) (by kernel_rfl) (by kernel_rfl) (fun _ _ _ h => h) (Or.inl ⟨by rfl, ?_⟩) hHeld ?_
  rotate_left
  · (intro w hSw; (try dsimp only at hSw); go_simp; (try with_reducible rfl))
  simp only [Act.put, List.setIfInBounds_toArray, List.set_cons_zero, List.set_cons_succ]
  refine wpAnyH_done (by kernel_rfl) ?_ _
  go_split_ands

  clear c0 c1 c2 c3 c4 c5
  go_wp2_with fail
  have HR6 := Lib.hid HRv.out
  have HF6 := Lib.hid (HF0.out.trans (HFv.out.mono (by simp)))
  generalize v1 = W6 at *
  clear HRv HFv
  obtain ⟨c0, c1, c2, c3, c4, c5⟩ := HR6.out.cells
  clear c3 c4
  refine wp_region_held_drew (S := (fun w' => w'.cell? ⟨rb, 0, none⟩ = some (.int .i64 bs) ∧ w'.cell? ⟨rb, 1, none⟩ = some (.int .i64 wh) ∧ w'.cell? ⟨rb, 2, none⟩ = some (.int .i64 n) ∧ w'.cell? ⟨rb, 5, none⟩ = some (.int .i64 0))) (by kernel_rfl) ?_ (fun hHeld => ?_)
  · exact ⟨c0, c1, c2, c5⟩
  refine take_at 0 (v := ?_) (some 68) rfl rfl (by kernel_rfl) (by kernel_rfl) (by kernel_rfl) (fun _ _ _ h => h) (Or.inl ⟨by rfl, ?_⟩) hHeld ?_
  rotate_left
  · (intro w hSw; (try dsimp only at hSw); go_simp; (try with_reducible rfl))
  simp only [Act.put, List.setIfInBounds_toArray, List.set_cons_zero, List.set_cons_succ]
  refine take_at 1 (v := ?_) (some 69) rfl rfl (by kernel_rfl) (by kernel_rfl) (by kernel_rfl) (fun _ _ _ h => h) (Or.inl ⟨by rfl, ?_⟩) hHeld ?_
  rotate_left
  · (intro w hSw; (try dsimp only at hSw); go_simp; (try with_reducible rfl))
  simp only [Act.put, List.setIfInBounds_toArray, List.set_cons_zero, List.set_cons_succ]
  refine take_at 2 (v := ?_) (some 70) rfl rfl (by kernel_rfl) (by kernel_rfl) (by kernel_rfl) (fun _ _ _ h => h) (Or.inl ⟨by rfl, ?_⟩) hHeld ?_
  rotate_left
  · (intro w hSw; (try dsimp only at hSw); go_simp; (try with_reducible rfl))
  simp only [Act.put, List.setIfInBounds_toArray, List.set_cons_zero, List.set_cons_succ]
  refine take_at 3 (v := ?_) (some 71) rfl rfl (by kernel_rfl) (by kernel_rfl) (by kernel_rfl) (fun _ _ _ h => h) (Or.inl ⟨by rfl, ?_⟩) hHeld ?_
  rotate_left
  · (intro w hSw; (try dsimp only at hSw); go_simp; (try with_reducible rfl))
  simp only [Act.put, List.setIfInBounds_toArray, List.set_cons_zero, List.set_cons_succ]
  refine take_at 4 (v := ?_) (some 72) rfl rfl (by kernel_rfl) (by kernel_rfl) (by kernel_rfl) (fun _ _ _ h => h) (Or.inl ⟨by rfl, ?_⟩) hHeld ?_
  rotate_left
  · (intro w hSw; (try dsimp only at hSw); go_simp; (try with_reducible rfl))
  simp only [Act.put, List.setIfInBounds_toArray, List.set_cons_zero, List.set_cons_succ]
  refine take_at 5 (v := ?_) (some 73) rfl rfl (by kernel_rfl) (by kernel_rfl) (by kernel_rfl) (fun _ _ _ h => h) (Or.inl ⟨by rfl, ?_⟩) hHeld ?_
  rotate_left
  · (intro w hSw; (try dsimp only at hSw); go_simp; (try with_reducible rfl))
  simp only [Act.put, List.setIfInBounds_toArray, List.set_cons_zero, List.set_cons_succ]
  refine take_at 6 (v := ?_) (some 74) rfl rfl (by kernel_rfl) (by kernel_rfl) (by kernel_rfl) (fun _ _ _ h => h) (Or.inl ⟨by rfl, ?_⟩) hHeld ?_
  rotate_left
  · (intro w hSw; (try dsimp only at hSw); go_simp; (try with_reducible rfl))
  simp only [Act.put, List.setIfInBounds_toArray, List.set_cons_zero, List.set_cons_succ]
  refine take_at 7 (v := ?_) (some 75) rfl rfl (by kernel_rfl) (by kernel_rfl) (by kernel_rfl) (fun _ _ _ h => h) (Or.inl ⟨by rfl, ?_⟩) hHeld ?_
  rotate_left
  · (intro w hSw; (try dsimp only at hSw); go_simp; (try with_reducible rfl))
  simp only [Act.put, List.setIfInBounds_toArray, List.set_cons_zero, List.set_cons_succ]
  refine wpAnyH_ready (rs := [8]) (by kernel_rfl) (by simp) ?_
  refine AllReadyH.cons rfl (fun K hK => ?_) AllReadyH.nil
  go_simp
  refine (over_any rb 5 0 bs wh n _ (show W6.drew.cell? ⟨rb, 5, none⟩ = _ from HR6.out.cells.2.2.2.2.2)).mono ?_; rintro e v1 ⟨rfl, hB⟩; have HFv := Lib.hid (show Fr [] W6 v1 from ((Fr.refl [] W6).drew).trans (.of hB)); have HRv := Lib.hid (HR6.out.fr HFv.out (by simp)); rw [HQ.out, show decide ((0 : Int) ≤ 0) = true from rfl]; clear hB
  go_wp2_with fail
  refine hK.out _ _ ?_ (fun hHeld => ?_)
  · (try dsimp only at hHeld ⊢)
    go_split_ands
    exact ⟨HRv.out.cells.1, HRv.out.cells.2.1, HRv.out.cells.2.2.1, HRv.out.cells.2.2.2.2.2⟩
  clear hK K
  try simp only [Act.put, List.setIfInBounds_toArray, List.set_cons_zero, List.set_cons_succ]
  refine take_at 9 (v := ?_) (some 77) rfl rfl (by kernel_rfl) (by kernel_rfl) (by kernel_rfl) (fun _ _ _ h => h) (Or.inl ⟨by rfl, ?_⟩) hHeld ?_
  rotate_left
  · (intro w hSw; (try dsimp only at hSw); go_simp; (try with_reducible rfl))
  simp only [Act.put, List.setIfInBounds_toArray, List.set_cons_zero, List.set_cons_succ]
  refine take_at 10 (v := ?_) (some 78) rfl rfl (by kernel_rfl) (by kernel_rfl) (by kernel_rfl) (fun _ _ _ h => h) (Or.inl ⟨by rfl, ?_⟩) hHeld ?_
  rotate_left
  · (intro w hSw; (try dsimp only at hSw); go_simp; (try with_reducible rfl))
  simp only [Act.put, List.setIfInBounds_toArray, List.set_cons_zero, List.set_cons_succ]

  clear c0 c1 c2 c5
  have HR7 := Lib.hid HRv.out
  have c4 := HRv.out.cells.2.2.2.2.1
  have fz4 := Bk.free HRv.out 4
  refine wpAnyH_ready (rs := [11]) (by kernel_rfl) (by simp) ?_
  refine AllReadyH.cons rfl (fun K hK => ?_) AllReadyH.nil
  go_simp
  refine hK.out _ _ ?_ (fun hHeld => ?_)
  · (try dsimp only at hHeld ⊢)
    exact ⟨set_other hHeld.1 (.inr (by simp)), set_other hHeld.2.1 (.inr (by simp)), set_other hHeld.2.2.1 (.inr (by simp)), set_other hHeld.2.2.2 (.inr (by simp))⟩
  clear hK K hHeld
  try simp only [Act.put]
  refine wpAnyH_done (by kernel_rfl) ?_ _
  have S7 := Lib.hid (show Fr [rb] v1 (v1.setCell ⟨rb, 4, none⟩ (.bool true)) from (Fr.refl _ _).set (by simp) _)
  have HR8 := Lib.hid (show Rd (v1.setCell ⟨rb, 4, none⟩ (.bool true)) rb bs wh n (.slice none 0 0) true 0 from by simpa [Rd] using Bk.set HR7.out 4 (.bool true))
  have c4 := HR8.out.cells.2.2.2.2.1
  go_wp2_with fail
  go_ret
  exact ⟨rfl, HR8.out, (HF6.out.trans (HFv.out.mono (by simp))).trans S7.out⟩


end Go.Proofs.Yteheckcflnogbaa
