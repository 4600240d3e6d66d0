/-
  cell.Join.Step at any Tries; many Joins of one cell as machines of a run. Written by wip/gen/mkcell12.py.
-/
import Derived.Test.YteheckcflnogbaaCell10
import Derived.Test.YteheckcflnogbaaTk3
namespace Go.Proofs.Yteheckcflnogbaa
open Go.RowKit

set_option maxHeartbeats 3200000 in
set_option maxRecDepth 100000 in
theorem jn_missd (d bs wh n : Int) (q : Nat) (jb b g : Nat) (av : Value) (A : List Nat) (zs : List Int) (ch : Bool) (tries : Int) (k : Nat) (w : World) (hbs : 0 ≤ bs ∧ bs ≤ 1000) (hq : cwn n = q) (hq2 : q ≤ 1024) (hk : k < q) (hA : Ws w av A) (hAj : ∀ a c, av = .slice (some a) A.length c → 0 < A.length → a.block ≠ jb) (hm : Pm w b g zs) (x y : Nat) (hJ : Jn w jb bs wh n av ⟨ch, false, tries, k, x, true⟩) (hx64 : x < 18446744073709551616) (hy : wdA A k = (y : Int)) (hy64 : y < 18446744073709551616) (f : Nat → Nat → Nat) (hf : ∀ (x y : Nat) (w : World), x < 18446744073709551616 → y < 18446744073709551616 → Calls Try.prog 30 #[.int .i64 wh, .int .u64 x, .int .u64 y] w fun e w' => e = .returned (.int .u64 (f x y : Nat)) ∧ Below w.heap.size w w') (hc : casb zs (bs + k) x = false) :
    Calls Try.prog 81 #[.pointer (some ⟨jb, 0, none⟩), .iface 64 (.pointer (some ⟨b, 0, none⟩)), .int .i64 d] w fun e w' => e = .returned (.bool false) ∧ Jn w' jb bs wh n av ⟨ch, false, wrap64 (tries + 1), k, x, false⟩ ∧ Pm w' b g zs ∧ Fr [jb, g] w w' := by
  have HJ := Lib.hid hJ
  have HP := Lib.hid hm
  have HA := Lib.hid hA
  have HAJ := Lib.hid hAj
  have HQ := Lib.hid hq
  have HC := Lib.hid hc
  have HY := Lib.hid hy
  have HRB := Lib.hid (show jb ≠ b ∧ jb ≠ g from ⟨Bk.ne hJ hm.1 (by decide), Bk.ne hJ hm.2.1 (by decide)⟩)
  obtain ⟨c0, c1, c2, c3, c4, c5, c6, c7, c8, c9⟩ := hJ.cells
  dsimp only at c4 c5 c6 c7 c8 c9
  have hm' := m_cas
  have hnl := n_cas
  obtain ⟨hb0, hb1⟩ := hbs
  have hdk : decide (q ≤ k) = false := by simp; omega
  have hsum : IntKind.i64.wrap (bs + k) = bs + k := IntWalk.i64_in _ (by omega)
  clear hJ hm hA hAj hq hc hy
  go_enter Try.func81, Try.ntmps81
  go_wp2_with fail
  refine wp_scope_via 1 ?_
  go_wp2_with fail
  refine (or_some _ _ _).mono ?_
  rintro e w1 ⟨rfl, hww⟩
  subst w1
  go_wp2_with fail
  have HF0 := Lib.hid (show Fr [jb] w w from Fr.refl _ _)
  refine wp_region_held_drew (S := (fun w' => w'.cell? ⟨jb, 0, none⟩ = some (.int .i64 bs) ∧ w'.cell? ⟨jb, 1, none⟩ = some (.int .i64 wh) ∧ w'.cell? ⟨jb, 2, none⟩ = some (.int .i64 n) ∧ w'.cell? ⟨jb, 7, none⟩ = some (.int .i64 k))) (by kernel_rfl) ?_ (fun hHeld => ?_)
  · exact ⟨c0, c1, c2, c7⟩
  refine take_at 0 (v := ?_) (some 18) rfl rfl (by kernel_rfl) (by kernel_rfl) (by kernel_rfl) (fun _ _ _ h => h) (Or.inl ⟨by rfl, ?_⟩) hHeld ?_
  rotate_left
  · (intro w hSw; (try dsimp only at hSw); go_simp; (try with_reducible rfl))
  simp only [Act.put, List.setIfInBounds_toArray, List.set_cons_zero, List.set_cons_succ]
  refine take_at 1 (v := ?_) (some 19) rfl rfl (by kernel_rfl) (by kernel_rfl) (by kernel_rfl) (fun _ _ _ h => h) (Or.inl ⟨by rfl, ?_⟩) hHeld ?_
  rotate_left
  · (intro w hSw; (try dsimp only at hSw); go_simp; (try with_reducible rfl))
  simp only [Act.put, List.setIfInBounds_toArray, List.set_cons_zero, List.set_cons_succ]
  refine take_at 2 (v := ?_) (some 20) rfl rfl (by kernel_rfl) (by kernel_rfl) (by kernel_rfl) (fun _ _ _ h => h) (Or.inl ⟨by rfl, ?_⟩) hHeld ?_
  rotate_left
  · (intro w hSw; (try dsimp only at hSw); go_simp; (try with_reducible rfl))
  simp only [Act.put, List.setIfInBounds_toArray, List.set_cons_zero, List.set_cons_succ]
  refine take_at 3 (v := ?_) (some 21) rfl rfl (by kernel_rfl) (by kernel_rfl) (by kernel_rfl) (fun _ _ _ h => h) (Or.inl ⟨by rfl, ?_⟩) hHeld ?_
  rotate_left
  · (intro w hSw; (try dsimp only at hSw); go_simp; (try with_reducible rfl))
  simp only [Act.put, List.setIfInBounds_toArray, List.set_cons_zero, List.set_cons_succ]
  refine take_at 4 (v := ?_) (some 22) rfl rfl (by kernel_rfl) (by kernel_rfl) (by kernel_rfl) (fun _ _ _ h => h) (Or.inl ⟨by rfl, ?_⟩) hHeld ?_
  rotate_left
  · (intro w hSw; (try dsimp only at hSw); go_simp; (try with_reducible rfl))
  simp only [Act.put, List.setIfInBounds_toArray, List.set_cons_zero, List.set_cons_succ]
  refine take_at 5 (v := ?_) (some 23) rfl rfl (by kernel_rfl) (by kernel_rfl) (by kernel_rfl) (fun _ _ _ h => h) (Or.inl ⟨by rfl, ?_⟩) hHeld ?_
  rotate_left
  · (intro w hSw; (try dsimp only at hSw); go_simp; (try with_reducible rfl))
  simp only [Act.put, List.setIfInBounds_toArray, List.set_cons_zero, List.set_cons_succ]
  refine take_at 6 (v := ?_) (some 24) rfl rfl (by kernel_rfl) (by kernel_rfl) (by kernel_rfl) (fun _ _ _ h => h) (Or.inl ⟨by rfl, ?_⟩) hHeld ?_
  rotate_left
  · (intro w hSw; (try dsimp only at hSw); go_simp; (try with_reducible rfl))
  simp only [Act.put, List.setIfInBounds_toArray, List.set_cons_zero, List.set_cons_succ]
  refine wpAnyH_ready (rs := [7]) (by kernel_rfl) (by simp) ?_
  refine AllReadyH.cons rfl (fun K hK => ?_) AllReadyH.nil
  go_simp
  refine (over_any jb 7 k bs wh n _ (show w.drew.cell? ⟨jb, 7, none⟩ = _ from HJ.out.cells.2.2.2.2.2.2.2.1)).mono ?_; rintro e v1 ⟨rfl, hB⟩; have HFv := Lib.hid (show Fr [] w v1 from ((Fr.refl [] w).drew).trans (.of hB)); have HJv := Lib.hid (HJ.out.fr HFv.out (by simp)); rw [HQ.out]; clear hB
  go_wp2_with fail
  refine hK.out _ _ ?_ (fun hHeld => ?_)
  · (try dsimp only at hHeld ⊢)
    go_split_ands
    exact ⟨HJv.out.cells.1, HJv.out.cells.2.1, HJv.out.cells.2.2.1, HJv.out.cells.2.2.2.2.2.2.2.1⟩
  clear hK K
  try simp only [Act.put, List.setIfInBounds_toArray, List.set_cons_zero, List.set_cons_succ]
  refine wpAnyH_done (by kernel_rfl) ?_ _
  go_split_ands

  try rw [hdk]
  clear c0 c1 c2 c3 c4 c5 c6 c7 c8 c9
  have c9 := HJv.out.cells.2.2.2.2.2.2.2.2.2
  dsimp only at c9
  have fz9 := Bk.free HJv.out 9
  have HJ2 := Lib.hid (show Jn (v1.setCell ⟨jb, 9, none⟩ (.bool false)) jb bs wh n av ⟨ch, false, tries, k, x, false⟩ from by simpa [Jn] using Bk.set HJv.out 9 (.bool false))
  have HS := Lib.hid (show Fr [jb] v1 (v1.setCell ⟨jb, 9, none⟩ (.bool false)) from (Fr.refl _ _).set (by simp) _)
  have HP := Lib.hid (show Pm (v1.setCell ⟨jb, 9, none⟩ (.bool false)) b g zs from ⟨(HP.out.1.fr HFv.out (by simp)).fr HS.out (by simp; exact fun e => HRB.out.1 e.symm), (HP.out.2.1.fr HFv.out (by simp)).fr HS.out (by simp; exact fun e => HRB.out.2 e.symm), HP.out.2.2⟩)
  have HA := Lib.hid ((HA.out.fr HFv.out (by simp)).fr HS.out (by simpa using HAJ.out))
  have HF2 := Lib.hid (HF0.out.trans ((HFv.out.mono (by simp)).trans HS.out))
  go_wp2_with fail
  go_step3
  refine ⟨_, rfl, ?_⟩
  go_wp2_with fail
  clear c9 fz9 HJ
  have HJ := Lib.hid HJ2.out
  clear HJ2 HJv HFv HS
  generalize v1.setCell ⟨jb, 9, none⟩ (.bool false) = W2 at *
  obtain ⟨c0, c1, c2, c3, c4, c5, c6, c7, c8, c9⟩ := HJ.out.cells
  dsimp only at c7 c8
  clear c0 c2 c4 c5 c6 c9
  refine wp_region_held_drew (S := (fun w' => w'.cell? ⟨jb, 1, none⟩ = some (.int .i64 wh) ∧ w'.cell? ⟨jb, 3, none⟩ = some (av) ∧ w'.cell? ⟨jb, 7, none⟩ = some (.int .i64 k) ∧ w'.cell? ⟨jb, 8, none⟩ = some (.int .u64 x))) (by kernel_rfl) ?_ (fun hHeld => ?_)
  · exact ⟨c1, c3, c7, c8⟩
  refine take_at 0 (v := ?_) (some 80) rfl rfl (by kernel_rfl) (by kernel_rfl) (by kernel_rfl) (fun _ _ _ h => h) (Or.inl ⟨by rfl, ?_⟩) hHeld ?_
  rotate_left
  · (intro w hSw; (try dsimp only at hSw); go_simp; (try with_reducible rfl))
  simp only [Act.put, List.setIfInBounds_toArray, List.set_cons_zero, List.set_cons_succ]
  refine take_at 1 (v := ?_) (some 81) rfl rfl (by kernel_rfl) (by kernel_rfl) (by kernel_rfl) (fun _ _ _ h => h) (Or.inl ⟨by rfl, ?_⟩) hHeld ?_
  rotate_left
  · (intro w hSw; (try dsimp only at hSw); go_simp; (try with_reducible rfl))
  simp only [Act.put, List.setIfInBounds_toArray, List.set_cons_zero, List.set_cons_succ]
  refine take_at 2 (v := ?_) (some 82) rfl rfl (by kernel_rfl) (by kernel_rfl) (by kernel_rfl) (fun _ _ _ h => h) (Or.inl ⟨by rfl, ?_⟩) hHeld ?_
  rotate_left
  · (intro w hSw; (try dsimp only at hSw); go_simp; (try with_reducible rfl))
  simp only [Act.put, List.setIfInBounds_toArray, List.set_cons_zero, List.set_cons_succ]
  refine take_at 3 (v := ?_) (some 83) rfl rfl (by kernel_rfl) (by kernel_rfl) (by kernel_rfl) (fun _ _ _ h => h) (Or.inl ⟨by rfl, ?_⟩) hHeld ?_
  rotate_left
  · (intro w hSw; (try dsimp only at hSw); go_simp; (try with_reducible rfl))
  simp only [Act.put, List.setIfInBounds_toArray, List.set_cons_zero, List.set_cons_succ]
  refine take_at 4 (v := ?_) (some 84) rfl rfl (by kernel_rfl) (by kernel_rfl) (by kernel_rfl) (fun _ _ _ h => h) (Or.inl ⟨by rfl, ?_⟩) hHeld ?_
  rotate_left
  · (intro w hSw; (try dsimp only at hSw); go_simp; (try with_reducible rfl))
  simp only [Act.put, List.setIfInBounds_toArray, List.set_cons_zero, List.set_cons_succ]
  refine take_at 5 (v := ?_) (some 85) rfl rfl (by kernel_rfl) (by kernel_rfl) (by kernel_rfl) (fun _ _ _ h => h) (Or.inl ⟨by rfl, ?_⟩) hHeld ?_
  rotate_left
  · (intro w hSw; (try dsimp only at hSw); go_simp; (try with_reducible rfl))
  simp only [Act.put, List.setIfInBounds_toArray, List.set_cons_zero, List.set_cons_succ]
  refine take_at 6 (v := ?_) (some 86) rfl rfl (by kernel_rfl) (by kernel_rfl) (by kernel_rfl) (fun _ _ _ h => h) (Or.inl ⟨by rfl, ?_⟩) hHeld ?_
  rotate_left
  · (intro w hSw; (try dsimp only at hSw); go_simp; (try with_reducible rfl))
  simp only [Act.put, List.setIfInBounds_toArray, List.set_cons_zero, List.set_cons_succ]
  refine take_at 7 (v := ?_) (some 87) rfl rfl (by kernel_rfl) (by kernel_rfl) (by kernel_rfl) (fun _ _ _ h => h) (Or.inl ⟨by rfl, ?_⟩) hHeld ?_
  rotate_left
  · (intro w hSw; (try dsimp only at hSw); go_simp; (try with_reducible rfl))
  simp only [Act.put, List.setIfInBounds_toArray, List.set_cons_zero, List.set_cons_succ]
  refine take_at 8 (v := ?_) (some 88) rfl rfl (by kernel_rfl) (by kernel_rfl) (by kernel_rfl) (fun _ _ _ h => h) (Or.inl ⟨by rfl, ?_⟩) hHeld ?_
  rotate_left
  · (intro w hSw; (try dsimp only at hSw); go_simp; (try with_reducible rfl))
  simp only [Act.put, List.setIfInBounds_toArray, List.set_cons_zero, List.set_cons_succ]
  refine take_at 9 (v := ?_) (some 89) rfl rfl (by kernel_rfl) (by kernel_rfl) (by kernel_rfl) (fun _ _ _ h => h) (Or.inl ⟨by rfl, ?_⟩) hHeld ?_
  rotate_left
  · (intro w hSw; (try dsimp only at hSw); go_simp; (try with_reducible rfl))
  simp only [Act.put, List.setIfInBounds_toArray, List.set_cons_zero, List.set_cons_succ]
  refine take_at 10 (v := ?_) (some 90) rfl rfl (by kernel_rfl) (by kernel_rfl) (by kernel_rfl) (fun _ _ _ h => h) (Or.inl ⟨by rfl, ?_⟩) hHeld ?_
  rotate_left
  · (intro w hSw; (try dsimp only at hSw); go_simp; (try with_reducible rfl))
  simp only [Act.put, List.setIfInBounds_toArray, List.set_cons_zero, List.set_cons_succ]
  refine take_at 11 (v := ?_) (some 91) rfl rfl (by kernel_rfl) (by kernel_rfl) (by kernel_rfl) (fun _ _ _ h => h) (Or.inl ⟨by rfl, ?_⟩) hHeld ?_
  rotate_left
  · (intro w hSw; (try dsimp only at hSw); go_simp; (try with_reducible rfl))
  simp only [Act.put, List.setIfInBounds_toArray, List.set_cons_zero, List.set_cons_succ]
  refine take_at 12 (v := ?_) (some 92) rfl rfl (by kernel_rfl) (by kernel_rfl) (by kernel_rfl) (fun _ _ _ h => h) (Or.inl ⟨by rfl, ?_⟩) hHeld ?_
  rotate_left
  · (intro w hSw; (try dsimp only at hSw); go_simp; (try with_reducible rfl))
  simp only [Act.put, List.setIfInBounds_toArray, List.set_cons_zero, List.set_cons_succ]
  refine take_at 13 (v := ?_) (some 93) rfl rfl (by kernel_rfl) (by kernel_rfl) (by kernel_rfl) (fun _ _ _ h => h) (Or.inl ⟨by rfl, ?_⟩) hHeld ?_
  rotate_left
  · (intro w hSw; (try dsimp only at hSw); go_simp; (try with_reducible rfl))
  simp only [Act.put, List.setIfInBounds_toArray, List.set_cons_zero, List.set_cons_succ]
  refine take_at 14 (v := ?_) (some 94) rfl rfl (by kernel_rfl) (by kernel_rfl) (by kernel_rfl) (fun _ _ _ h => h) (Or.inl ⟨by rfl, ?_⟩) hHeld ?_
  rotate_left
  · (intro w hSw; (try dsimp only at hSw); go_simp; (try with_reducible rfl))
  simp only [Act.put, List.setIfInBounds_toArray, List.set_cons_zero, List.set_cons_succ]
  refine take_at 15 (v := ?_) (some 95) rfl rfl (by kernel_rfl) (by kernel_rfl) (by kernel_rfl) (fun _ _ _ h => h) (Or.inl ⟨by rfl, ?_⟩) hHeld ?_
  rotate_left
  · (intro w hSw; (try dsimp only at hSw); go_simp; (try with_reducible rfl))
  simp only [Act.put, List.setIfInBounds_toArray, List.set_cons_zero, List.set_cons_succ]
  refine take_at 16 (v := ?_) (some 96) rfl rfl (by kernel_rfl) (by kernel_rfl) (by kernel_rfl) (fun _ _ _ h => h) (Or.inl ⟨by rfl, ?_⟩) hHeld ?_
  rotate_left
  · (intro w hSw; (try dsimp only at hSw); go_simp; (try with_reducible rfl))
  simp only [Act.put, List.setIfInBounds_toArray, List.set_cons_zero, List.set_cons_succ]
  refine take_at 17 (v := ?_) (some 97) rfl rfl (by kernel_rfl) (by kernel_rfl) (by kernel_rfl) (fun _ _ _ h => h) (Or.inl ⟨by rfl, ?_⟩) hHeld ?_
  rotate_left
  · (intro w hSw; (try dsimp only at hSw); go_simp; (try with_reducible rfl))
  simp only [Act.put, List.setIfInBounds_toArray, List.set_cons_zero, List.set_cons_succ]
  refine wpAnyH_ready (rs := [18]) (by kernel_rfl) (by simp) ?_
  refine AllReadyH.cons rfl (fun K hK => ?_) AllReadyH.nil
  go_simp
  refine (at30_any av A k _ (show Ws W2.drew av A from HA.out)).mono ?_; rintro e v4 ⟨rfl, hww⟩; subst v4; rw [HY.out]; have HJv := Lib.hid HJ.out; have HFv := Lib.hid ((Fr.refl [] W2).drew)
  go_wp2_with fail
  refine hK.out _ _ ?_ (fun hHeld => ?_)
  · (try dsimp only at hHeld ⊢)
    go_split_ands
    exact ⟨HJv.out.cells.2.1, HJv.out.cells.2.2.2.1, HJv.out.cells.2.2.2.2.2.2.2.1, HJv.out.cells.2.2.2.2.2.2.2.2.1⟩
  clear hK K
  try simp only [Act.put, List.setIfInBounds_toArray, List.set_cons_zero, List.set_cons_succ]
  refine wpAnyH_ready (rs := [19]) (by kernel_rfl) (by simp) ?_
  refine AllReadyH.cons rfl (fun K hK => ?_) AllReadyH.nil
  go_simp
  refine (hf x y _ hx64 hy64).mono ?_; rintro e v5 ⟨rfl, hB⟩; have HFv := Lib.hid (show Fr [] W2 v5 from ((Fr.refl [] W2).drew).trans (.of hB)); have HJv := Lib.hid (HJ.out.fr HFv.out (by simp)); clear hB
  go_wp2_with fail
  refine hK.out _ _ ?_ (fun hHeld => ?_)
  · (try dsimp only at hHeld ⊢)
    go_split_ands
    exact ⟨HJv.out.cells.2.1, HJv.out.cells.2.2.2.1, HJv.out.cells.2.2.2.2.2.2.2.1, HJv.out.cells.2.2.2.2.2.2.2.2.1⟩
  clear hK K
  try simp only [Act.put, List.setIfInBounds_toArray, List.set_cons_zero, List.set_cons_succ]
  refine take_at 20 (v := ?_) (some 7) rfl rfl (by kernel_rfl) (by kernel_rfl) (by kernel_rfl) (fun _ _ _ h => h) (Or.inl ⟨by rfl, ?_⟩) hHeld ?_
  rotate_left
  · (intro w hSw; (try dsimp only at hSw); go_simp; (try with_reducible rfl))
  simp only [Act.put, List.setIfInBounds_toArray, List.set_cons_zero, List.set_cons_succ]
  refine wpAnyH_done (by kernel_rfl) ?_ _
  go_split_ands

  have HP := Lib.hid (show Pm v5 b g zs from ⟨HP.out.1.fr HFv.out (by simp), HP.out.2.1.fr HFv.out (by simp), HP.out.2.2⟩)
  have HF3 := Lib.hid (HF2.out.trans (HFv.out.mono (by simp)))
  have HJ := Lib.hid HJv.out
  clear HJv HFv HF2 HA c1 c3 c7 c8
  generalize v5 = W3 at *
  obtain ⟨c0, c1, c2, c3, c4, c5, c6, c7, c8, c9⟩ := HJ.out.cells
  dsimp only at c7 c8
  clear c1 c2 c3 c4 c5 c6 c9
  go_wp2_with fail
  refine wp_region_held_drew (S := (fun w' => w'.cell? ⟨jb, 0, none⟩ = some (.int .i64 bs) ∧ w'.cell? ⟨jb, 7, none⟩ = some (.int .i64 k) ∧ w'.cell? ⟨jb, 8, none⟩ = some (.int .u64 x))) (by kernel_rfl) ?_ (fun hHeld => ?_)
  · exact ⟨c0, c7, c8⟩
  refine take_at 0 (v := ?_) (some 100) rfl rfl (by kernel_rfl) (by kernel_rfl) (by kernel_rfl) (fun _ _ _ h => h) (Or.inl ⟨by rfl, ?_⟩) hHeld ?_
  rotate_left
  · (intro w hSw; (try dsimp only at hSw); go_simp; (try with_reducible rfl))
  simp only [Act.put, List.setIfInBounds_toArray, List.set_cons_zero, List.set_cons_succ]
  refine take_at 1 (v := ?_) (some 101) rfl rfl (by kernel_rfl) (by kernel_rfl) (by kernel_rfl) (fun _ _ _ h => h) (Or.inl ⟨by rfl, ?_⟩) hHeld ?_
  rotate_left
  · (intro w hSw; (try dsimp only at hSw); go_simp; (try with_reducible rfl))
  simp only [Act.put, List.setIfInBounds_toArray, List.set_cons_zero, List.set_cons_succ]
  refine take_at 2 (v := ?_) (some 102) rfl rfl (by kernel_rfl) (by kernel_rfl) (by kernel_rfl) (fun _ _ _ h => h) (Or.inl ⟨by rfl, ?_⟩) hHeld ?_
  rotate_left
  · (intro w hSw; (try dsimp only at hSw); go_simp; (try with_reducible rfl))
  simp only [Act.put, List.setIfInBounds_toArray, List.set_cons_zero, List.set_cons_succ]
  refine take_at 3 (v := ?_) (some 103) rfl rfl (by kernel_rfl) (by kernel_rfl) (by kernel_rfl) (fun _ _ _ h => h) (Or.inl ⟨by rfl, ?_⟩) hHeld ?_
  rotate_left
  · (intro w hSw; (try dsimp only at hSw); go_simp; (try with_reducible rfl))
  simp only [Act.put, List.setIfInBounds_toArray, List.set_cons_zero, List.set_cons_succ]
  refine take_at 4 (v := ?_) (some 104) rfl rfl (by kernel_rfl) (by kernel_rfl) (by kernel_rfl) (fun _ _ _ h => h) (Or.inl ⟨by rfl, ?_⟩) hHeld ?_
  rotate_left
  · (intro w hSw; (try dsimp only at hSw); go_simp; (try with_reducible rfl))
  simp only [Act.put, List.setIfInBounds_toArray, List.set_cons_zero, List.set_cons_succ]
  refine take_at 5 (v := ?_) (some 105) rfl rfl (by kernel_rfl) (by kernel_rfl) (by kernel_rfl) (fun _ _ _ h => h) (Or.inl ⟨by rfl, ?_⟩) hHeld ?_
  rotate_left
  · (intro w hSw; (try dsimp only at hSw); go_simp; (try with_reducible rfl))
  simp only [Act.put, List.setIfInBounds_toArray, List.set_cons_zero, List.set_cons_succ]
  refine take_at 6 (v := ?_) (some 106) rfl rfl (by kernel_rfl) (by kernel_rfl) (by kernel_rfl) (fun _ _ _ h => h) (Or.inl ⟨by rfl, ?_⟩) hHeld ?_
  rotate_left
  · (intro w hSw; (try dsimp only at hSw); go_simp; (try with_reducible rfl))
  simp only [Act.put, List.setIfInBounds_toArray, List.set_cons_zero, List.set_cons_succ]
  refine take_at 7 (v := ?_) (some 107) rfl rfl (by kernel_rfl) (by kernel_rfl) (by kernel_rfl) (fun _ _ _ h => h) (Or.inl ⟨by rfl, ?_⟩) hHeld ?_
  rotate_left
  · (intro w hSw; (try dsimp only at hSw); go_simp; (try with_reducible rfl))
  simp only [Act.put, List.setIfInBounds_toArray, List.set_cons_zero, List.set_cons_succ]
  refine take_at 8 (v := ?_) (some 108) rfl rfl (by kernel_rfl) (by kernel_rfl) (by kernel_rfl) (fun _ _ _ h => h) (Or.inl ⟨by rfl, ?_⟩) hHeld ?_
  rotate_left
  · (intro w hSw; (try dsimp only at hSw); go_simp; (try with_reducible rfl))
  simp only [Act.put, List.setIfInBounds_toArray, List.set_cons_zero, List.set_cons_succ]
  refine take_at 9 (v := ?_) (some 109) rfl rfl (by kernel_rfl) (by kernel_rfl) (by kernel_rfl) (fun _ _ _ h => h) (Or.inl ⟨by rfl, ?_⟩) hHeld ?_
  rotate_left
  · (intro w hSw; (try dsimp only at hSw); go_simp; (try with_reducible rfl))
  simp only [Act.put, List.setIfInBounds_toArray, List.set_cons_zero, List.set_cons_succ]
  refine take_at 10 (v := ?_) (some 110) rfl rfl (by kernel_rfl) (by kernel_rfl) (by kernel_rfl) (fun _ _ _ h => h) (Or.inl ⟨by rfl, ?_⟩) hHeld ?_
  rotate_left
  · (intro w hSw; (try dsimp only at hSw); go_simp; (try with_reducible rfl))
  simp only [Act.put, List.setIfInBounds_toArray, List.set_cons_zero, List.set_cons_succ]
  refine take_at 11 (v := ?_) (some 111) rfl rfl (by kernel_rfl) (by kernel_rfl) (by kernel_rfl) (fun _ _ _ h => h) (Or.inl ⟨by rfl, ?_⟩) hHeld ?_
  rotate_left
  · (intro w hSw; (try dsimp only at hSw); go_simp; (try with_reducible rfl))
  simp only [Act.put, List.setIfInBounds_toArray, List.set_cons_zero, List.set_cons_succ]
  refine take_at 12 (v := ?_) (some 112) rfl rfl (by kernel_rfl) (by kernel_rfl) (by kernel_rfl) (fun _ _ _ h => h) (Or.inl ⟨by rfl, ?_⟩) hHeld ?_
  rotate_left
  · (intro w hSw; (try dsimp only at hSw); go_simp; (try with_reducible rfl))
  simp only [Act.put, List.setIfInBounds_toArray, List.set_cons_zero, List.set_cons_succ]
  refine take_at 13 (v := ?_) (some 113) rfl rfl (by kernel_rfl) (by kernel_rfl) (by kernel_rfl) (fun _ _ _ h => h) (Or.inl ⟨by rfl, ?_⟩) hHeld ?_
  rotate_left
  · (intro w hSw; (try dsimp only at hSw); go_simp; (try with_reducible rfl))
  simp only [Act.put, List.setIfInBounds_toArray, List.set_cons_zero, List.set_cons_succ]
  refine take_at 14 (v := ?_) (some 114) rfl rfl (by kernel_rfl) (by kernel_rfl) (by kernel_rfl) (fun _ _ _ h => h) (Or.inl ⟨by rfl, ?_⟩) hHeld ?_
  rotate_left
  · (intro w hSw; (try dsimp only at hSw); go_simp; (try with_reducible rfl))
  simp only [Act.put, List.setIfInBounds_toArray, List.set_cons_zero, List.set_cons_succ]
  refine take_at 15 (v := ?_) (some 115) rfl rfl (by kernel_rfl) (by kernel_rfl) (by kernel_rfl) (fun _ _ _ h => h) (Or.inl ⟨by rfl, ?_⟩) hHeld ?_
  rotate_left
  · (intro w hSw; (try dsimp only at hSw); go_simp; (try with_reducible rfl))
  simp only [Act.put, List.setIfInBounds_toArray, List.set_cons_zero, List.set_cons_succ]
  refine take_at 16 (v := ?_) (some 116) rfl rfl (by kernel_rfl) (by kernel_rfl) (by kernel_rfl) (fun _ _ _ h => h) (Or.inl ⟨by rfl, ?_⟩) hHeld ?_
  rotate_left
  · (intro w hSw; (try dsimp only at hSw); go_simp; (try with_reducible rfl))
  simp only [Act.put, List.setIfInBounds_toArray, List.set_cons_zero, List.set_cons_succ]
  refine take_at 17 (v := ?_) (some 117) rfl rfl (by kernel_rfl) (by kernel_rfl) (by kernel_rfl) (fun _ _ _ h => h) (Or.inl ⟨by rfl, ?_⟩) hHeld ?_
  rotate_left
  · (intro w hSw; (try dsimp only at hSw); go_simp; (try with_reducible rfl))
  simp only [Act.put, List.setIfInBounds_toArray, List.set_cons_zero, List.set_cons_succ]
  refine take_at 18 (v := ?_) (some 118) rfl rfl (by kernel_rfl) (by kernel_rfl) (by kernel_rfl) (fun _ _ _ h => h) (Or.inl ⟨by rfl, ?_⟩) hHeld ?_
  rotate_left
  · (intro w hSw; (try dsimp only at hSw); go_simp; (try with_reducible rfl))
  simp only [Act.put, List.setIfInBounds_toArray, List.set_cons_zero, List.set_cons_succ]
  refine take_at 19 (v := ?_) (some 119) rfl rfl (by kernel_rfl) (by kernel_rfl) (by kernel_rfl) (fun _ _ _ h => h) (Or.inl ⟨by rfl, ?_⟩) hHeld ?_
  rotate_left
  · (intro w hSw; (try dsimp only at hSw); go_simp; (try with_reducible rfl))
  simp only [Act.put, List.setIfInBounds_toArray, List.set_cons_zero, List.set_cons_succ]
  refine wpAnyH_ready (rs := [20]) (by kernel_rfl) (by simp) ?_
  refine AllReadyH.cons rfl (fun K hK => ?_) AllReadyH.nil
  go_simp
  refine (cas_any (bs + k) x (f x y : Nat) b g zs _ (show Pm W3.drew b g zs from HP.out)).mono ?_; rintro e v6 ⟨rfl, hP, hK⟩; have HP6 := Lib.hid hP; have HFv := Lib.hid (show Fr [g] W3 v6 from ((Fr.refl [g] W3).drew).trans (.gb hK (by simp))); have HJv := Lib.hid (HJ.out.fr HFv.out (by simp; exact HRB.out.2)); rw [HC.out]; clear hP hK
  go_wp2_with fail
  refine hK.out _ _ ?_ (fun hHeld => ?_)
  · (try dsimp only at hHeld ⊢)
    go_split_ands
    exact ⟨HJv.out.cells.1, HJv.out.cells.2.2.2.2.2.2.2.1, HJv.out.cells.2.2.2.2.2.2.2.2.1⟩
  clear hK K
  try simp only [Act.put, List.setIfInBounds_toArray, List.set_cons_zero, List.set_cons_succ]
  refine take_at 21 (v := ?_) (some 121) rfl rfl (by kernel_rfl) (by kernel_rfl) (by kernel_rfl) (fun _ _ _ h => h) (Or.inl ⟨by rfl, ?_⟩) hHeld ?_
  rotate_left
  · (intro w hSw; (try dsimp only at hSw); go_simp; (try with_reducible rfl))
  simp only [Act.put, List.setIfInBounds_toArray, List.set_cons_zero, List.set_cons_succ]
  refine wpAnyH_done (by kernel_rfl) ?_ _
  go_split_ands

  clear c0 c7 c8
  have HP7 := Lib.hid (show Pm v6 b g zs from by have h := HP6.out; rw [show casv zs (bs + k) x (f x y : Nat) = zs by unfold casv; rw [HC.out]; rfl] at h; exact h)
  have c6 := HJv.out.cells.2.2.2.2.2.2.1
  dsimp only at c6
  have fz6 := Bk.free HJv.out 6
  have HFIN := Lib.hid (show Jn (v6.setCell ⟨jb, 6, none⟩ (.int .i64 (wrap64 (tries + 1)))) jb bs wh n av ⟨ch, false, wrap64 (tries + 1), k, x, false⟩ ∧ Pm (v6.setCell ⟨jb, 6, none⟩ (.int .i64 (wrap64 (tries + 1)))) b g zs ∧ Fr [jb, g] w (v6.setCell ⟨jb, 6, none⟩ (.int .i64 (wrap64 (tries + 1)))) from by
    have f2 : Fr [jb] v6 (v6.setCell ⟨jb, 6, none⟩ (.int .i64 (wrap64 (tries + 1)))) := (Fr.refl _ _).set (by simp) _
    exact ⟨by simpa [Jn] using Bk.set HJv.out 6 (.int .i64 (wrap64 (tries + 1))), ⟨HP7.out.1.fr f2 (by simp; exact fun e => HRB.out.1 e.symm), HP7.out.2.1.fr f2 (by simp; exact fun e => HRB.out.2 e.symm), HP7.out.2.2⟩, ((HF3.out.mono (by simp)).trans (HFv.out.mono (by simp))).trans (f2.mono (by simp))⟩)
  clear HJv HFv HP7 HP6 HF3
  go_wp2_with fail
  first | rw [via_ret] | skip
  exact bodyPost_ret (v := .bool false) (by simp [results, Try.results81, go_sem]) rfl ⟨rfl, HFIN.out⟩

def OkM (q : Nat) (x : JnS) : Prop := x.was < 18446744073709551616 ∧ (x.en = false → q ≤ x.k → q = 0 ∧ x.k = 0 ∧ x.tr = false)
theorem jnX_okm {q : Nat} {f : Nat → Nat → Nat} {A : List Nat} {bs : Int} {x : JnS} {zs : List Int} (h : OkM q x) (hz : w64 zs) : OkM q (jnX q f A bs x zs) := by
  obtain ⟨h3, h4⟩ := h
  have hl := w64_ld hz (bs + x.k)
  unfold jnX
  repeat' split
  all_goals
    refine ⟨?_, ?_⟩
    · (try dsimp only); omega
    · (try dsimp only)
      intro he hk
      first
        | (exfalso; simp at he; omega)
        | (exfalso; omega)
        | (exfalso; simp_all; done)
theorem jnX_tries (q : Nat) (f : Nat → Nat → Nat) (A : List Nat) (bs : Int) (x : JnS) (zs : List Int) (t u : Int) : { jnX q f A bs { x with tries := t } zs with tries := u } = { jnX q f A bs x zs with tries := u } := by
  unfold jnX
  dsimp only
  repeat' split
  all_goals first | rfl | simp_all
theorem jnX_en (q : Nat) (f : Nat → Nat → Nat) (A : List Nat) (bs : Int) (x : JnS) (zs : List Int) (t : Int) : (jnX q f A bs { x with tries := t } zs).en = (jnX q f A bs x zs).en := by
  have h := congrArg JnS.en (jnX_tries q f A bs x zs t 0)
  exact h
theorem wsl_lt {W : World} {v : Value} {A : List Nat} (h : Ws W v A) : ∀ a c, v = .slice (some a) A.length c → 0 < A.length → a.block < W.heap.size := fun a c e h0 => by
  obtain ⟨_, ⟨_, h1⟩ | ⟨a', c', h1, hc⟩⟩ := h
  · rw [h1] at h0; cases h0
  · rw [h1] at e
    injection e with e
    injection e with e
    subst e
    have := cell_lt (hc 0 h0)
    simpa [Addr.add] using this
set_option maxHeartbeats 3200000 in
set_option maxRecDepth 100000 in
theorem pjd_any (d bs wh n : Int) (q : Nat) (jb b g : Nat) (av : Value) (A : List Nat) (zs : List Int) (x : JnS) (w : World) (hbs : 0 ≤ bs ∧ bs ≤ 1000) (hq : cwn n = q) (hq2 : q ≤ 1024) (hA : Ws w av A) (hAj : ∀ a c, av = .slice (some a) A.length c → 0 < A.length → a.block ≠ jb ∧ a.block ≠ g) (hm : Pm w b g zs) (hz : w64 zs) (hok : OkM q x) (hJ : Jn w jb bs wh n av x) (f : Nat → Nat → Nat) (hf : ∀ (x y : Nat) (w : World), x < 18446744073709551616 → y < 18446744073709551616 → Calls Try.prog 30 #[.int .i64 wh, .int .u64 x, .int .u64 y] w fun e w' => e = .returned (.int .u64 (f x y : Nat)) ∧ Below w.heap.size w w') :
    Calls Try.prog 81 #[.pointer (some ⟨jb, 0, none⟩), .iface 64 (.pointer (some ⟨b, 0, none⟩)), .int .i64 d] w fun e w' => e = .returned (.bool (jnX q f A bs x zs).en) ∧ (∃ u, Jn w' jb bs wh n av { jnX q f A bs x zs with tries := u }) ∧ Pm w' b g (jnZ q f A bs x zs) ∧ Fr [jb, g] w w' := by
  have hl := w64_ld hz (bs + x.k)
  have hy64 := small_at (show small64 A from hA.1) x.k
  obtain ⟨ch, en, tries, k, was, tr⟩ := x
  obtain ⟨hw64, hend⟩ := hok
  dsimp only at hw64 hend hl hy64 ⊢
  have hb1 : jb ≠ b := Bk.ne hJ hm.1 (by decide)
  have hb2 : jb ≠ g := Bk.ne hJ hm.2.1 (by decide)
  cases en with
  | true =>
    refine (jn_end d bs wh n jb av _ _ w hJ rfl).mono ?_
    rintro e w' ⟨rfl, rfl⟩
    exact ⟨rfl, ⟨_, hJ⟩, hm, Fr.refl _ _⟩
  | false =>
    by_cases hk : q ≤ k
    · obtain ⟨rfl, rfl, rfl⟩ := hend rfl hk
      refine (jn_over d bs wh n jb b av ch tries was w (by simpa using hq) hJ).mono ?_
      rintro e w' ⟨rfl, h2, h3⟩
      exact ⟨rfl, ⟨_, h2⟩, ⟨hm.1.fr h3 (by simp; exact fun e => hb1 e.symm), hm.2.1.fr h3 (by simp; exact fun e => hb2 e.symm), hm.2.2⟩, h3.mono (by simp)⟩
    have hkq : k < q := by omega
    cases tr with
    | true =>
      cases hc : casb zs (bs + k) was with
      | true =>
        have e1 : jnX q f A bs ⟨ch, false, tries, k, was, true⟩ zs = ⟨true, decide (q ≤ k + 1), tries, k + 1, was, false⟩ := by unfold jnX; simp [hk, hc]
        have e2 : jnZ q f A bs ⟨ch, false, tries, k, was, true⟩ zs = casv zs (bs + k) was (f was (A[k]?.getD 0) : Nat) := by unfold jnZ; simp [hk]
        rw [e1, e2]
        refine (jn_hit d bs wh n q jb b g av A zs ch tries k w hbs hq hq2 hkq hA (fun a c h h0 => (hAj a c h h0).1) hm was _ hJ hw64 rfl hy64 f hf hc).mono ?_
        rintro e w' ⟨rfl, h1, h2, h3⟩
        exact ⟨rfl, ⟨_, h1⟩, h2, h3⟩
      | false =>
        have e1 : jnX q f A bs ⟨ch, false, tries, k, was, true⟩ zs = ⟨ch, false, tries + 1, k, was, false⟩ := by unfold jnX; simp [hk, hc]
        have e2 : jnZ q f A bs ⟨ch, false, tries, k, was, true⟩ zs = zs := by unfold jnZ casv; simp [hk, hc]
        rw [e1, e2]
        refine (jn_missd d bs wh n q jb b g av A zs ch tries k w hbs hq hq2 hkq hA (fun a c h h0 => (hAj a c h h0).1) hm was _ hJ hw64 rfl hy64 f hf hc).mono ?_
        rintro e w' ⟨rfl, h1, h2, h3⟩
        exact ⟨rfl, ⟨_, h1⟩, h2, h3⟩
    | false =>
      obtain ⟨v, hv⟩ : ∃ v : Nat, ldv zs (bs + k) = (v : Int) := ⟨(ldv zs (bs + k)).toNat, by omega⟩
      have hv64 : v < 18446744073709551616 := by omega
      by_cases hd : f v (A[k]?.getD 0) = v
      · have e1 : jnX q f A bs ⟨ch, false, tries, k, was, false⟩ zs = ⟨ch, decide (q ≤ k + 1), tries, k + 1, v, false⟩ := by unfold jnX; simp [hk, hv, hd]
        have e2 : jnZ q f A bs ⟨ch, false, tries, k, was, false⟩ zs = zs := by unfold jnZ; simp [hk]
        rw [e1, e2]
        refine (jn_same d bs wh n q jb b g av A zs ch tries k was w hbs hq hq2 hkq hA (fun a c h h0 => (hAj a c h h0).1) hm hJ v _ hv hv64 rfl hy64 f hf hd).mono ?_
        rintro e w' ⟨rfl, h1, h2, h3⟩
        exact ⟨rfl, ⟨_, h1⟩, h2, h3.mono (by simp)⟩
      · have e1 : jnX q f A bs ⟨ch, false, tries, k, was, false⟩ zs = ⟨ch, false, tries, k, v, true⟩ := by unfold jnX; simp [hk, hv, hd]
        have e2 : jnZ q f A bs ⟨ch, false, tries, k, was, false⟩ zs = zs := by unfold jnZ; simp [hk]
        rw [e1, e2]
        refine (jn_look d bs wh n q jb b g av A zs ch tries k was w hbs hq hq2 hkq hA (fun a c h h0 => (hAj a c h h0).1) hm hJ v _ hv hv64 rfl hy64 f hf hd).mono ?_
        rintro e w' ⟨rfl, h1, h3⟩
        exact ⟨rfl, ⟨_, h1⟩, ⟨hm.1.fr h3 (by simp; exact fun e => hb1 e.symm), hm.2.1.fr h3 (by simp; exact fun e => hb2 e.symm), hm.2.2⟩, h3.mono (by simp)⟩

def updJ (f : Nat → JnS) (i : Nat) (x : JnS) (j : Nat) : JnS := if j = i then x else f j
theorem updJ_at (f : Nat → JnS) (i : Nat) (x : JnS) : updJ f i x i = x := by simp [updJ]
theorem updJ_ne (f : Nat → JnS) {i j : Nat} (x : JnS) (h : j ≠ i) : updJ f i x j = f j := by simp [updJ, h]
/-- The step of machine i. -/
def stpC (q : Nat) (f : Nat → Nat → Nat) (A : Nat → List Nat) (s : List Int × (Nat → JnS)) (i : Nat) (_ : Int) : (List Int × (Nat → JnS)) × Bool := ((jnZ q f (A i) 0 (s.2 i) s.1, updJ s.2 i (jnX q f (A i) 0 (s.2 i) s.1)), (jnX q f (A i) 0 (s.2 i) s.1).en)
/-- The Joins' blocks are bs; the memory is a Plain. -/
def CsJ (q : Nat) (what : Int) (b g : Nat) (bs : List Nat) (av : Nat → Value) (w : World) (s : List Int × (Nat → JnS)) (S : List Nat) : Prop :=
  S = b :: g :: bs ∧ Pm w b g s.1 ∧ w64 s.1 ∧ ∀ i, i < bs.length → OkM q (s.2 i) ∧ ∃ u, Jn w (bs[i]?.getD 0) 0 what q (av i) { s.2 i with tries := u }
theorem cs_mach (W : World) (q : Nat) (what : Int) (b g : Nat) (bs : List Nat) (av : Nat → Value) (A : Nat → List Nat) (f : Nat → Nat → Nat) (hq : q ≤ 1024) (hnd : bs.Nodup) (hA : ∀ i, i < bs.length → Ws W (av i) (A i)) (hb : ∀ x ∈ bs, W.heap.size ≤ x) (hg : W.heap.size ≤ g)
    (hf0 : ∀ x y, x < 18446744073709551616 → y < 18446744073709551616 → f x y < 18446744073709551616)
    (hf : ∀ (x y : Nat) (w : World), x < 18446744073709551616 → y < 18446744073709551616 → Calls Try.prog 30 #[.int .i64 what, .int .u64 x, .int .u64 y] w fun e w' => e = .returned (.int .u64 (f x y : Nat)) ∧ Below w.heap.size w w') :
    Mach W bs.length (CsJ q what b g bs av) (stpC q f A) 64 (.pointer (some ⟨b, 0, none⟩)) (fun _ => false) (fun _ => 125) (tkp bs) (tkp bs) (fun _ => 81) where
  step S s i d w hi _ h hfw := by
    obtain ⟨rfl, hP, hz, hT⟩ := h
    obtain ⟨hok, u, hJ⟩ := hT i hi
    have hbi := hb _ (tk_in hi)
    refine (pjd_any d 0 what q q (bs[i]?.getD 0) b g (av i) (A i) s.1 { s.2 i with tries := u } w (by decide) (by unfold cwn; omega) hq ((hA i hi).below hfw.below) (fun a c h h0 => by have := wsl_lt (hA i hi) a c h h0; omega) hP hz hok hJ f hf).mono ?_
    rintro e w' ⟨rfl, ⟨u', hT'⟩, hP', hF⟩
    rw [jnX_tries] at hT'
    have hne : ∀ j, j < bs.length → bs[j]?.getD 0 ≠ g := fun j hj => by
      obtain ⟨_, u, h⟩ := hT j hj
      exact Bk.ne h hP.2.1 (by decide)
    refine ⟨by rw [jnX_en]; rfl, _, ⟨rfl, hP', jnZ_64 (q := q) (bs := 0) hf0 (hA i hi).1 hok.1 hz, fun j hj => ?_⟩, hF.mono (fun k hk => ?_), fun k hk => .inl hk⟩
    · by_cases hji : j = i
      · subst hji
        unfold stpC; dsimp only; rw [updJ_at]; exact ⟨jnX_okm hok hz, u', hT'⟩
      · unfold stpC; dsimp only; rw [updJ_ne _ _ hji]
        obtain ⟨h1, u2, h2⟩ := hT j hj
        refine ⟨h1, u2, h2.fr hF (fun hm => ?_)⟩
        simp only [List.mem_cons, List.not_mem_nil, or_false] at hm
        rcases hm with hm | hm
        · simp only [List.getElem?_eq_getElem hi, List.getElem?_eq_getElem hj, Option.getD_some] at hm
          exact hji ((List.getElem_inj hnd).1 hm)
        · exact hne j hj hm
    · simp only [List.mem_cons, List.not_mem_nil, or_false] at hk
      rcases hk with rfl | rfl
      · exact List.mem_cons_of_mem _ (List.mem_cons_of_mem _ (tk_in hi))
      · simp
  enter _ := enters_of Try.func81 (by kernel_rfl) rfl
  nila i w _ _ := by unfold tkp; generalize bs[i]?.getD 0 = tb; kernel_rfl
  meth i w _ _ := by unfold tkp; generalize bs[i]?.getD 0 = tb; kernel_rfl
  keep T S s w w' h k hs := by
    obtain ⟨rfl, hP, hz, hT⟩ := h
    exact ⟨rfl, ⟨hP.1.fr k (hs b (by simp)), hP.2.1.fr k (hs g (by simp)), hP.2.2⟩, hz, fun i hi => by
      obtain ⟨h1, u, h2⟩ := hT i hi
      exact ⟨h1, u, h2.fr k (hs _ (List.mem_cons_of_mem _ (List.mem_cons_of_mem _ (tk_in hi))))⟩⟩
  lt S s w h k hk := by
    obtain ⟨rfl, hP, hz, hT⟩ := h
    simp only [List.mem_cons] at hk
    rcases hk with rfl | rfl | hk
    · exact hP.1.lt
    · exact hP.2.1.lt
    · obtain ⟨i, hi, rfl⟩ := List.getElem_of_mem hk
      obtain ⟨_, u, h2⟩ := hT i hi
      have := Bk.lt h2
      simpa [hi] using this

end Go.Proofs.Yteheckcflnogbaa
