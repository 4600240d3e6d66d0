/-
  cell.Join.Step: contracts, over a Plain. Written by wip/gen/mkcell4.py.
-/
import Derived.Test.YteheckcflnogbaaCell3
namespace Go.Proofs.Yteheckcflnogbaa
open Go.RowKit

/-- What a Join has come to. -/
structure JnS where
  ch : Bool
  en : Bool
  tries : Int
  k : Nat
  was : Nat
  tr : Bool
def Jn (w : World) (jb : Nat) (bs wh n : Int) (av : Value) (x : JnS) : Prop := Bk w jb 129 [.int .i64 bs, .int .i64 wh, .int .i64 n, av, .bool x.ch, .bool x.en, .int .i64 x.tries, .int .i64 x.k, .int .u64 x.was, .bool x.tr]
theorem Jn.cells {w : World} {jb : Nat} {bs wh n : Int} {av : Value} {x : JnS} (h : Jn w jb bs wh n av x) : w.cell? ⟨jb, 0, none⟩ = some (.int .i64 bs) ∧ w.cell? ⟨jb, 1, none⟩ = some (.int .i64 wh) ∧ w.cell? ⟨jb, 2, none⟩ = some (.int .i64 n) ∧ w.cell? ⟨jb, 3, none⟩ = some av ∧ w.cell? ⟨jb, 4, none⟩ = some (.bool x.ch) ∧ w.cell? ⟨jb, 5, none⟩ = some (.bool x.en) ∧ w.cell? ⟨jb, 6, none⟩ = some (.int .i64 x.tries) ∧ w.cell? ⟨jb, 7, none⟩ = some (.int .i64 x.k) ∧ w.cell? ⟨jb, 8, none⟩ = some (.int .u64 x.was) ∧ w.cell? ⟨jb, 9, none⟩ = some (.bool x.tr) :=
  ⟨h.cell 0, h.cell 1, h.cell 2, h.cell 3, h.cell 4, h.cell 5, h.cell 6, h.cell 7, h.cell 8, h.cell 9⟩
theorem Jn.fr {S : List Nat} {w w' : World} {jb : Nat} {bs wh n : Int} {av : Value} {x : JnS} (h : Jn w jb bs wh n av x) (hf : Fr S w w') (hb : jb ∉ S) : Jn w' jb bs wh n av x := Bk.fr h hf hb

set_option maxHeartbeats 3200000 in
set_option maxRecDepth 100000 in
theorem jn_end (d bs wh n : Int) (jb : Nat) (av m : Value) (x : JnS) (w : World) (h : Jn w jb bs wh n av x) (he : x.en = true) :
    Calls Try.prog 81 #[.pointer (some ⟨jb, 0, none⟩), m, .int .i64 d] w fun e w' => e = .returned (.bool true) ∧ w' = w := by
  obtain ⟨c0, c1, c2, c3, c4, c5, c6, c7, c8, c9⟩ := h.cells
  rw [he] at c5
  clear h he
  go_enter Try.func81, Try.ntmps81
  go_wp2_with fail
  refine wp_scope_via 1 ?_
  go_wp2_with fail
  first | rw [via_ret] | skip
  go_ret
  exact ⟨rfl, rfl⟩

set_option maxHeartbeats 3200000 in
set_option maxRecDepth 100000 in
theorem jn_none (d : Int) (m : Value) (w : World) :
    Calls Try.prog 81 #[.pointer none, m, .int .i64 d] w fun e w' => e = .returned (.bool true) ∧ w' = w := by
  go_enter Try.func81, Try.ntmps81
  go_wp2_with fail
  refine wp_scope_via 1 ?_
  go_wp2_with fail
  first | rw [via_ret] | skip
  go_ret
  exact ⟨rfl, rfl⟩

set_option maxHeartbeats 3200000 in
set_option maxRecDepth 100000 in
theorem jn_look (d bs wh n : Int) (q : Nat) (jb b g : Nat) (av : Value) (A : List Nat) (zs : List Int) (ch : Bool) (tries : Int) (k x0 : Nat) (w : World) (hbs : 0 ≤ bs ∧ bs ≤ 1000) (hq : cwn n = q) (hq2 : q ≤ 1024) (hk : k < q) (hA : Ws w av A) (hAj : ∀ a c, av = .slice (some a) A.length c → 0 < A.length → a.block ≠ jb) (hm : Pm w b g zs) (hJ : Jn w jb bs wh n av ⟨ch, false, tries, k, x0, false⟩) (x y : Nat) (hx : ldv zs (bs + k) = (x : Int)) (hx64 : x < 18446744073709551616) (hy : wdA A k = (y : Int)) (hy64 : y < 18446744073709551616) (f : Nat → Nat → Nat) (hf : ∀ (x y : Nat) (w : World), x < 18446744073709551616 → y < 18446744073709551616 → Calls Try.prog 30 #[.int .i64 wh, .int .u64 x, .int .u64 y] w fun e w' => e = .returned (.int .u64 (f x y : Nat)) ∧ Below w.heap.size w w') (hd : f x y ≠ x) :
    Calls Try.prog 81 #[.pointer (some ⟨jb, 0, none⟩), .iface 64 (.pointer (some ⟨b, 0, none⟩)), .int .i64 d] w fun e w' => e = .returned (.bool false) ∧ Jn w' jb bs wh n av ⟨ch, false, tries, k, x, true⟩ ∧ Fr [jb] w w' := by
  have HJ := Lib.hid hJ
  have HP := Lib.hid hm
  have HA := Lib.hid hA
  have HAJ := Lib.hid hAj
  have HQ := Lib.hid hq
  have HX := Lib.hid hx
  have HY := Lib.hid hy
  have HRB := Lib.hid (show jb ≠ b ∧ jb ≠ g from ⟨Bk.ne hJ hm.1 (by decide), Bk.ne hJ hm.2.1 (by decide)⟩)
  obtain ⟨c0, c1, c2, c3, c4, c5, c6, c7, c8, c9⟩ := hJ.cells
  dsimp only at c4 c5 c6 c7 c8 c9
  have hm' := m_load
  have hnl := n_load
  obtain ⟨hb0, hb1⟩ := hbs
  have hdk : decide (q ≤ k) = false := by simp; omega
  have hsum : IntKind.i64.wrap (bs + k) = bs + k := IntWalk.i64_in _ (by omega)
  clear hJ hm hA hAj hq hx hy
  go_enter Try.func81, Try.ntmps81
  go_wp2_with fail
  refine wp_scope_via 1 ?_
  go_wp2_with fail
  refine (or_some _ _ _).mono ?_
  rintro e w1 ⟨rfl, hww⟩
  subst w1
  go_wp2_with fail
  have HF0 := Lib.hid (show Fr [jb] w w from Fr.refl _ _)
  refine wp_region_held_drew (S := (fun w' => w'.cell? ⟨jb, 0, none⟩ = some (.int .i64 bs) ∧ w'.cell? ⟨jb, 1, none⟩ = some (.int .i64 wh) ∧ w'.cell? ⟨jb, 2, none⟩ = some (.int .i64 n) ∧ w'.cell? ⟨jb, 7, none⟩ = some (.int .i64 k))) (by kernel_rfl) ?_ (fun hHeld => ?_)
  · exact ⟨c0, c1, c2, c7⟩
  refine take_at 0 (v := ?_) (some 18) rfl rfl (by kernel_rfl) (by kernel_rfl) (by kernel_rfl) (fun _ _ _ h => h) (Or.inl ⟨by rfl, ?_⟩) hHeld ?_
  rotate_left
  · (intro w hSw; (try dsimp only at hSw); go_simp; (try with_reducible rfl))
  simp only [Act.put, List.setIfInBounds_toArray, List.set_cons_zero, List.set_cons_succ]
  refine take_at 1 (v := ?_) (some 19) rfl rfl (by kernel_rfl) (by kernel_rfl) (by kernel_rfl) (fun _ _ _ h => h) (Or.inl ⟨by rfl, ?_⟩) hHeld ?_
  rotate_left
  · (intro w hSw; (try dsimp only at hSw); go_simp; (try with_reducible rfl))
  simp only [Act.put, List.setIfInBounds_toArray, List.set_cons_zero, List.set_cons_succ]
  refine take_at 2 (v := ?_) (some 20) rfl rfl (by kernel_rfl) (by kernel_rfl) (by kernel_rfl) (fun _ _ _ h => h) (Or.inl ⟨by rfl, ?_⟩) hHeld ?_
  rotate_left
  · (intro w hSw; (try dsimp only at hSw); go_simp; (try with_reducible rfl))
  simp only [Act.put, List.setIfInBounds_toArray, List.set_cons_zero, List.set_cons_succ]
  refine take_at 3 (v := ?_) (some 21) rfl rfl (by kernel_rfl) (by kernel_rfl) (by kernel_rfl) (fun _ _ _ h => h) (Or.inl ⟨by rfl, ?_⟩) hHeld ?_
  rotate_left
  · (intro w hSw; (try dsimp only at hSw); go_simp; (try with_reducible rfl))
  simp only [Act.put, List.setIfInBounds_toArray, List.set_cons_zero, List.set_cons_succ]
  refine take_at 4 (v := ?_) (some 22) rfl rfl (by kernel_rfl) (by kernel_rfl) (by kernel_rfl) (fun _ _ _ h => h) (Or.inl ⟨by rfl, ?_⟩) hHeld ?_
  rotate_left
  · (intro w hSw; (try dsimp only at hSw); go_simp; (try with_reducible rfl))
  simp only [Act.put, List.setIfInBounds_toArray, List.set_cons_zero, List.set_cons_succ]
  refine take_at 5 (v := ?_) (some 23) rfl rfl (by kernel_rfl) (by kernel_rfl) (by kernel_rfl) (fun _ _ _ h => h) (Or.inl ⟨by rfl, ?_⟩) hHeld ?_
  rotate_left
  · (intro w hSw; (try dsimp only at hSw); go_simp; (try with_reducible rfl))
  simp only [Act.put, List.setIfInBounds_toArray, List.set_cons_zero, List.set_cons_succ]
  refine take_at 6 (v := ?_) (some 24) rfl rfl (by kernel_rfl) (by kernel_rfl) (by kernel_rfl) (fun _ _ _ h => h) (Or.inl ⟨by rfl, ?_⟩) hHeld ?_
  rotate_left
  · (intro w hSw; (try dsimp only at hSw); go_simp; (try with_reducible rfl))
  simp only [Act.put, List.setIfInBounds_toArray, List.set_cons_zero, List.set_cons_succ]
  refine wpAnyH_ready (rs := [7]) (by kernel_rfl) (by simp) ?_
  refine AllReadyH.cons rfl (fun K hK => ?_) AllReadyH.nil
  go_simp
  refine (over_any jb 7 k bs wh n _ (show w.drew.cell? ⟨jb, 7, none⟩ = _ from HJ.out.cells.2.2.2.2.2.2.2.1)).mono ?_; rintro e v1 ⟨rfl, hB⟩; have HFv := Lib.hid (show Fr [] w v1 from ((Fr.refl [] w).drew).trans (.of hB)); have HJv := Lib.hid (HJ.out.fr HFv.out (by simp)); rw [HQ.out]; clear hB
  go_wp2_with fail
  refine hK.out _ _ ?_ (fun hHeld => ?_)
  · (try dsimp only at hHeld ⊢)
    go_split_ands
    exact ⟨HJv.out.cells.1, HJv.out.cells.2.1, HJv.out.cells.2.2.1, HJv.out.cells.2.2.2.2.2.2.2.1⟩
  clear hK K
  try simp only [Act.put, List.setIfInBounds_toArray, List.set_cons_zero, List.set_cons_succ]
  refine wpAnyH_done (by kernel_rfl) ?_ _
  go_split_ands

  try rw [hdk]
  clear c0 c1 c2 c3 c4 c5 c6 c7 c8 c9
  have c9 := HJv.out.cells.2.2.2.2.2.2.2.2.2
  dsimp only at c9
  go_wp2_with fail
  clear c9
  have HJ := Lib.hid HJv.out
  have HP := Lib.hid (show Pm v1 b g zs from ⟨HP.out.1.fr HFv.out (by simp), HP.out.2.1.fr HFv.out (by simp), HP.out.2.2⟩)
  have HA := Lib.hid (HA.out.fr HFv.out (by simp))
  have HF1 := Lib.hid (HF0.out.trans (HFv.out.mono (by simp)))
  generalize v1 = W1 at *
  clear HJv HFv
  obtain ⟨c0, c1, c2, c3, c4, c5, c6, c7, c8, c9⟩ := HJ.out.cells
  dsimp only at c7
  clear c1 c2 c3 c4 c5 c6 c8 c9
  refine wp_region_held_drew (S := (fun w' => w'.cell? ⟨jb, 0, none⟩ = some (.int .i64 bs) ∧ w'.cell? ⟨jb, 7, none⟩ = some (.int .i64 k))) (by kernel_rfl) ?_ (fun hHeld => ?_)
  · exact ⟨c0, c7⟩
  refine take_at 0 (v := ?_) (some 30) rfl rfl (by kernel_rfl) (by kernel_rfl) (by kernel_rfl) (fun _ _ _ h => h) (Or.inl ⟨by rfl, ?_⟩) hHeld ?_
  rotate_left
  · (intro w hSw; (try dsimp only at hSw); go_simp; (try with_reducible rfl))
  simp only [Act.put, List.setIfInBounds_toArray, List.set_cons_zero, List.set_cons_succ]
  refine take_at 1 (v := ?_) (some 31) rfl rfl (by kernel_rfl) (by kernel_rfl) (by kernel_rfl) (fun _ _ _ h => h) (Or.inl ⟨by rfl, ?_⟩) hHeld ?_
  rotate_left
  · (intro w hSw; (try dsimp only at hSw); go_simp; (try with_reducible rfl))
  simp only [Act.put, List.setIfInBounds_toArray, List.set_cons_zero, List.set_cons_succ]
  refine take_at 2 (v := ?_) (some 32) rfl rfl (by kernel_rfl) (by kernel_rfl) (by kernel_rfl) (fun _ _ _ h => h) (Or.inl ⟨by rfl, ?_⟩) hHeld ?_
  rotate_left
  · (intro w hSw; (try dsimp only at hSw); go_simp; (try with_reducible rfl))
  simp only [Act.put, List.setIfInBounds_toArray, List.set_cons_zero, List.set_cons_succ]
  refine take_at 3 (v := ?_) (some 33) rfl rfl (by kernel_rfl) (by kernel_rfl) (by kernel_rfl) (fun _ _ _ h => h) (Or.inl ⟨by rfl, ?_⟩) hHeld ?_
  rotate_left
  · (intro w hSw; (try dsimp only at hSw); go_simp; (try with_reducible rfl))
  simp only [Act.put, List.setIfInBounds_toArray, List.set_cons_zero, List.set_cons_succ]
  refine take_at 4 (v := ?_) (some 34) rfl rfl (by kernel_rfl) (by kernel_rfl) (by kernel_rfl) (fun _ _ _ h => h) (Or.inl ⟨by rfl, ?_⟩) hHeld ?_
  rotate_left
  · (intro w hSw; (try dsimp only at hSw); go_simp; (try with_reducible rfl))
  simp only [Act.put, List.setIfInBounds_toArray, List.set_cons_zero, List.set_cons_succ]
  refine take_at 5 (v := ?_) (some 35) rfl rfl (by kernel_rfl) (by kernel_rfl) (by kernel_rfl) (fun _ _ _ h => h) (Or.inl ⟨by rfl, ?_⟩) hHeld ?_
  rotate_left
  · (intro w hSw; (try dsimp only at hSw); go_simp; (try with_reducible rfl))
  simp only [Act.put, List.setIfInBounds_toArray, List.set_cons_zero, List.set_cons_succ]
  refine take_at 6 (v := ?_) (some 36) rfl rfl (by kernel_rfl) (by kernel_rfl) (by kernel_rfl) (fun _ _ _ h => h) (Or.inl ⟨by rfl, ?_⟩) hHeld ?_
  rotate_left
  · (intro w hSw; (try dsimp only at hSw); go_simp; (try with_reducible rfl))
  simp only [Act.put, List.setIfInBounds_toArray, List.set_cons_zero, List.set_cons_succ]
  refine take_at 7 (v := ?_) (some 37) rfl rfl (by kernel_rfl) (by kernel_rfl) (by kernel_rfl) (fun _ _ _ h => h) (Or.inl ⟨by rfl, ?_⟩) hHeld ?_
  rotate_left
  · (intro w hSw; (try dsimp only at hSw); go_simp; (try with_reducible rfl))
  simp only [Act.put, List.setIfInBounds_toArray, List.set_cons_zero, List.set_cons_succ]
  refine take_at 8 (v := ?_) (some 38) rfl rfl (by kernel_rfl) (by kernel_rfl) (by kernel_rfl) (fun _ _ _ h => h) (Or.inl ⟨by rfl, ?_⟩) hHeld ?_
  rotate_left
  · (intro w hSw; (try dsimp only at hSw); go_simp; (try with_reducible rfl))
  simp only [Act.put, List.setIfInBounds_toArray, List.set_cons_zero, List.set_cons_succ]
  refine take_at 9 (v := ?_) (some 39) rfl rfl (by kernel_rfl) (by kernel_rfl) (by kernel_rfl) (fun _ _ _ h => h) (Or.inl ⟨by rfl, ?_⟩) hHeld ?_
  rotate_left
  · (intro w hSw; (try dsimp only at hSw); go_simp; (try with_reducible rfl))
  simp only [Act.put, List.setIfInBounds_toArray, List.set_cons_zero, List.set_cons_succ]
  refine take_at 10 (v := ?_) (some 40) rfl rfl (by kernel_rfl) (by kernel_rfl) (by kernel_rfl) (fun _ _ _ h => h) (Or.inl ⟨by rfl, ?_⟩) hHeld ?_
  rotate_left
  · (intro w hSw; (try dsimp only at hSw); go_simp; (try with_reducible rfl))
  simp only [Act.put, List.setIfInBounds_toArray, List.set_cons_zero, List.set_cons_succ]
  refine take_at 11 (v := ?_) (some 41) rfl rfl (by kernel_rfl) (by kernel_rfl) (by kernel_rfl) (fun _ _ _ h => h) (Or.inl ⟨by rfl, ?_⟩) hHeld ?_
  rotate_left
  · (intro w hSw; (try dsimp only at hSw); go_simp; (try with_reducible rfl))
  simp only [Act.put, List.setIfInBounds_toArray, List.set_cons_zero, List.set_cons_succ]
  refine take_at 12 (v := ?_) (some 42) rfl rfl (by kernel_rfl) (by kernel_rfl) (by kernel_rfl) (fun _ _ _ h => h) (Or.inl ⟨by rfl, ?_⟩) hHeld ?_
  rotate_left
  · (intro w hSw; (try dsimp only at hSw); go_simp; (try with_reducible rfl))
  simp only [Act.put, List.setIfInBounds_toArray, List.set_cons_zero, List.set_cons_succ]
  refine take_at 13 (v := ?_) (some 43) rfl rfl (by kernel_rfl) (by kernel_rfl) (by kernel_rfl) (fun _ _ _ h => h) (Or.inl ⟨by rfl, ?_⟩) hHeld ?_
  rotate_left
  · (intro w hSw; (try dsimp only at hSw); go_simp; (try with_reducible rfl))
  simp only [Act.put, List.setIfInBounds_toArray, List.set_cons_zero, List.set_cons_succ]
  refine take_at 14 (v := ?_) (some 44) rfl rfl (by kernel_rfl) (by kernel_rfl) (by kernel_rfl) (fun _ _ _ h => h) (Or.inl ⟨by rfl, ?_⟩) hHeld ?_
  rotate_left
  · (intro w hSw; (try dsimp only at hSw); go_simp; (try with_reducible rfl))
  simp only [Act.put, List.setIfInBounds_toArray, List.set_cons_zero, List.set_cons_succ]
  refine take_at 15 (v := ?_) (some 45) rfl rfl (by kernel_rfl) (by kernel_rfl) (by kernel_rfl) (fun _ _ _ h => h) (Or.inl ⟨by rfl, ?_⟩) hHeld ?_
  rotate_left
  · (intro w hSw; (try dsimp only at hSw); go_simp; (try with_reducible rfl))
  simp only [Act.put, List.setIfInBounds_toArray, List.set_cons_zero, List.set_cons_succ]
  refine wpAnyH_ready (rs := [16]) (by kernel_rfl) (by simp) ?_
  refine AllReadyH.cons rfl (fun K hK => ?_) AllReadyH.nil
  go_simp
  refine (load_any (bs + k) b g zs _ (show Pm W1.drew b g zs from HP.out)).mono ?_; rintro e v2 ⟨rfl, hB⟩; have HFv := Lib.hid (show Fr [] W1 v2 from ((Fr.refl [] W1).drew).trans (.of hB)); have HJv := Lib.hid (HJ.out.fr HFv.out (by simp)); rw [HX.out]; clear hB
  go_wp2_with fail
  refine hK.out _ _ ?_ (fun hHeld => ?_)
  · (try dsimp only at hHeld ⊢)
    go_split_ands
    exact ⟨HJv.out.cells.1, HJv.out.cells.2.2.2.2.2.2.2.1⟩
  clear hK K
  try simp only [Act.put, List.setIfInBounds_toArray, List.set_cons_zero, List.set_cons_succ]
  refine take_at 17 (v := ?_) (some 47) rfl rfl (by kernel_rfl) (by kernel_rfl) (by kernel_rfl) (fun _ _ _ h => h) (Or.inl ⟨by rfl, ?_⟩) hHeld ?_
  rotate_left
  · (intro w hSw; (try dsimp only at hSw); go_simp; (try with_reducible rfl))
  simp only [Act.put, List.setIfInBounds_toArray, List.set_cons_zero, List.set_cons_succ]
  refine take_at 18 (v := ?_) (some 48) rfl rfl (by kernel_rfl) (by kernel_rfl) (by kernel_rfl) (fun _ _ _ h => h) (Or.inl ⟨by rfl, ?_⟩) hHeld ?_
  rotate_left
  · (intro w hSw; (try dsimp only at hSw); go_simp; (try with_reducible rfl))
  simp only [Act.put, List.setIfInBounds_toArray, List.set_cons_zero, List.set_cons_succ]

  clear c0 c7
  have c8 := HJv.out.cells.2.2.2.2.2.2.2.2.1
  dsimp only at c8
  have fz := Bk.free HJv.out 8
  refine wpAnyH_ready (rs := [19]) (by kernel_rfl) (by simp) ?_
  refine AllReadyH.cons rfl (fun K hK => ?_) AllReadyH.nil
  go_simp
  refine hK.out _ _ ?_ (fun hHeld => ?_)
  · (try dsimp only at hHeld ⊢)
    exact ⟨set_other hHeld.1 (.inr (by simp)), set_other hHeld.2 (.inr (by simp))⟩
  clear hK K hHeld c8 fz
  try simp only [Act.put]
  refine wpAnyH_done (by kernel_rfl) ?_ _
  have HS := Lib.hid (show Fr [jb] v2 (v2.setCell ⟨jb, 8, none⟩ (.int .u64 x)) from (Fr.refl _ _).set (by simp) _)
  have HJ3 := Lib.hid (show Jn (v2.setCell ⟨jb, 8, none⟩ (.int .u64 x)) jb bs wh n av ⟨ch, false, tries, k, x, false⟩ from by simpa [Jn] using Bk.set HJv.out 8 (.int .u64 (x : Int)))
  have HA := Lib.hid ((HA.out.fr HFv.out (by simp)).fr HS.out (by simpa using HAJ.out))
  have HF3 := Lib.hid (HF1.out.trans ((HFv.out.mono (by simp)).trans HS.out))
  generalize v2.setCell ⟨jb, 8, none⟩ (.int .u64 x) = W3 at *
  clear HJv HFv HS HJ
  have HJ := Lib.hid HJ3.out
  clear HJ3
  go_wp2_with fail
  obtain ⟨c0, c1, c2, c3, c4, c5, c6, c7, c8, c9⟩ := HJ.out.cells
  dsimp only at c7 c8
  clear c0 c2 c4 c5 c6 c9
  have hne : (((f x y : Nat) : Int) != (x : Int)) = true := by simp only [bne_iff_ne, ne_eq]; omega
  refine wp_region_held_drew (S := (fun w' => w'.cell? ⟨jb, 1, none⟩ = some (.int .i64 wh) ∧ w'.cell? ⟨jb, 3, none⟩ = some (av) ∧ w'.cell? ⟨jb, 7, none⟩ = some (.int .i64 k) ∧ w'.cell? ⟨jb, 8, none⟩ = some (.int .u64 x))) (by kernel_rfl) ?_ (fun hHeld => ?_)
  · exact ⟨c1, c3, c7, c8⟩
  refine take_at 0 (v := ?_) (some 49) rfl rfl (by kernel_rfl) (by kernel_rfl) (by kernel_rfl) (fun _ _ _ h => h) (Or.inl ⟨by rfl, ?_⟩) hHeld ?_
  rotate_left
  · (intro w hSw; (try dsimp only at hSw); go_simp; (try with_reducible rfl))
  simp only [Act.put, List.setIfInBounds_toArray, List.set_cons_zero, List.set_cons_succ]
  refine take_at 1 (v := ?_) (some 50) rfl rfl (by kernel_rfl) (by kernel_rfl) (by kernel_rfl) (fun _ _ _ h => h) (Or.inl ⟨by rfl, ?_⟩) hHeld ?_
  rotate_left
  · (intro w hSw; (try dsimp only at hSw); go_simp; (try with_reducible rfl))
  simp only [Act.put, List.setIfInBounds_toArray, List.set_cons_zero, List.set_cons_succ]
  refine take_at 2 (v := ?_) (some 51) rfl rfl (by kernel_rfl) (by kernel_rfl) (by kernel_rfl) (fun _ _ _ h => h) (Or.inl ⟨by rfl, ?_⟩) hHeld ?_
  rotate_left
  · (intro w hSw; (try dsimp only at hSw); go_simp; (try with_reducible rfl))
  simp only [Act.put, List.setIfInBounds_toArray, List.set_cons_zero, List.set_cons_succ]
  refine take_at 3 (v := ?_) (some 52) rfl rfl (by kernel_rfl) (by kernel_rfl) (by kernel_rfl) (fun _ _ _ h => h) (Or.inl ⟨by rfl, ?_⟩) hHeld ?_
  rotate_left
  · (intro w hSw; (try dsimp only at hSw); go_simp; (try with_reducible rfl))
  simp only [Act.put, List.setIfInBounds_toArray, List.set_cons_zero, List.set_cons_succ]
  refine take_at 4 (v := ?_) (some 53) rfl rfl (by kernel_rfl) (by kernel_rfl) (by kernel_rfl) (fun _ _ _ h => h) (Or.inl ⟨by rfl, ?_⟩) hHeld ?_
  rotate_left
  · (intro w hSw; (try dsimp only at hSw); go_simp; (try with_reducible rfl))
  simp only [Act.put, List.setIfInBounds_toArray, List.set_cons_zero, List.set_cons_succ]
  refine take_at 5 (v := ?_) (some 54) rfl rfl (by kernel_rfl) (by kernel_rfl) (by kernel_rfl) (fun _ _ _ h => h) (Or.inl ⟨by rfl, ?_⟩) hHeld ?_
  rotate_left
  · (intro w hSw; (try dsimp only at hSw); go_simp; (try with_reducible rfl))
  simp only [Act.put, List.setIfInBounds_toArray, List.set_cons_zero, List.set_cons_succ]
  refine take_at 6 (v := ?_) (some 55) rfl rfl (by kernel_rfl) (by kernel_rfl) (by kernel_rfl) (fun _ _ _ h => h) (Or.inl ⟨by rfl, ?_⟩) hHeld ?_
  rotate_left
  · (intro w hSw; (try dsimp only at hSw); go_simp; (try with_reducible rfl))
  simp only [Act.put, List.setIfInBounds_toArray, List.set_cons_zero, List.set_cons_succ]
  refine take_at 7 (v := ?_) (some 56) rfl rfl (by kernel_rfl) (by kernel_rfl) (by kernel_rfl) (fun _ _ _ h => h) (Or.inl ⟨by rfl, ?_⟩) hHeld ?_
  rotate_left
  · (intro w hSw; (try dsimp only at hSw); go_simp; (try with_reducible rfl))
  simp only [Act.put, List.setIfInBounds_toArray, List.set_cons_zero, List.set_cons_succ]
  refine take_at 8 (v := ?_) (some 57) rfl rfl (by kernel_rfl) (by kernel_rfl) (by kernel_rfl) (fun _ _ _ h => h) (Or.inl ⟨by rfl, ?_⟩) hHeld ?_
  rotate_left
  · (intro w hSw; (try dsimp only at hSw); go_simp; (try with_reducible rfl))
  simp only [Act.put, List.setIfInBounds_toArray, List.set_cons_zero, List.set_cons_succ]
  refine take_at 9 (v := ?_) (some 58) rfl rfl (by kernel_rfl) (by kernel_rfl) (by kernel_rfl) (fun _ _ _ h => h) (Or.inl ⟨by rfl, ?_⟩) hHeld ?_
  rotate_left
  · (intro w hSw; (try dsimp only at hSw); go_simp; (try with_reducible rfl))
  simp only [Act.put, List.setIfInBounds_toArray, List.set_cons_zero, List.set_cons_succ]
  refine take_at 10 (v := ?_) (some 59) rfl rfl (by kernel_rfl) (by kernel_rfl) (by kernel_rfl) (fun _ _ _ h => h) (Or.inl ⟨by rfl, ?_⟩) hHeld ?_
  rotate_left
  · (intro w hSw; (try dsimp only at hSw); go_simp; (try with_reducible rfl))
  simp only [Act.put, List.setIfInBounds_toArray, List.set_cons_zero, List.set_cons_succ]
  refine take_at 11 (v := ?_) (some 60) rfl rfl (by kernel_rfl) (by kernel_rfl) (by kernel_rfl) (fun _ _ _ h => h) (Or.inl ⟨by rfl, ?_⟩) hHeld ?_
  rotate_left
  · (intro w hSw; (try dsimp only at hSw); go_simp; (try with_reducible rfl))
  simp only [Act.put, List.setIfInBounds_toArray, List.set_cons_zero, List.set_cons_succ]
  refine take_at 12 (v := ?_) (some 61) rfl rfl (by kernel_rfl) (by kernel_rfl) (by kernel_rfl) (fun _ _ _ h => h) (Or.inl ⟨by rfl, ?_⟩) hHeld ?_
  rotate_left
  · (intro w hSw; (try dsimp only at hSw); go_simp; (try with_reducible rfl))
  simp only [Act.put, List.setIfInBounds_toArray, List.set_cons_zero, List.set_cons_succ]
  refine take_at 13 (v := ?_) (some 62) rfl rfl (by kernel_rfl) (by kernel_rfl) (by kernel_rfl) (fun _ _ _ h => h) (Or.inl ⟨by rfl, ?_⟩) hHeld ?_
  rotate_left
  · (intro w hSw; (try dsimp only at hSw); go_simp; (try with_reducible rfl))
  simp only [Act.put, List.setIfInBounds_toArray, List.set_cons_zero, List.set_cons_succ]
  refine take_at 14 (v := ?_) (some 63) rfl rfl (by kernel_rfl) (by kernel_rfl) (by kernel_rfl) (fun _ _ _ h => h) (Or.inl ⟨by rfl, ?_⟩) hHeld ?_
  rotate_left
  · (intro w hSw; (try dsimp only at hSw); go_simp; (try with_reducible rfl))
  simp only [Act.put, List.setIfInBounds_toArray, List.set_cons_zero, List.set_cons_succ]
  refine take_at 15 (v := ?_) (some 64) rfl rfl (by kernel_rfl) (by kernel_rfl) (by kernel_rfl) (fun _ _ _ h => h) (Or.inl ⟨by rfl, ?_⟩) hHeld ?_
  rotate_left
  · (intro w hSw; (try dsimp only at hSw); go_simp; (try with_reducible rfl))
  simp only [Act.put, List.setIfInBounds_toArray, List.set_cons_zero, List.set_cons_succ]
  refine take_at 16 (v := ?_) (some 65) rfl rfl (by kernel_rfl) (by kernel_rfl) (by kernel_rfl) (fun _ _ _ h => h) (Or.inl ⟨by rfl, ?_⟩) hHeld ?_
  rotate_left
  · (intro w hSw; (try dsimp only at hSw); go_simp; (try with_reducible rfl))
  simp only [Act.put, List.setIfInBounds_toArray, List.set_cons_zero, List.set_cons_succ]
  refine take_at 17 (v := ?_) (some 66) rfl rfl (by kernel_rfl) (by kernel_rfl) (by kernel_rfl) (fun _ _ _ h => h) (Or.inl ⟨by rfl, ?_⟩) hHeld ?_
  rotate_left
  · (intro w hSw; (try dsimp only at hSw); go_simp; (try with_reducible rfl))
  simp only [Act.put, List.setIfInBounds_toArray, List.set_cons_zero, List.set_cons_succ]
  refine take_at 20 (v := ?_) (some 69) rfl rfl (by kernel_rfl) (by kernel_rfl) (by kernel_rfl) (fun _ _ _ h => h) (Or.inl ⟨by rfl, ?_⟩) hHeld ?_
  rotate_left
  · (intro w hSw; (try dsimp only at hSw); go_simp; (try with_reducible rfl))
  simp only [Act.put, List.setIfInBounds_toArray, List.set_cons_zero, List.set_cons_succ]
  refine take_at 21 (v := ?_) (some 70) rfl rfl (by kernel_rfl) (by kernel_rfl) (by kernel_rfl) (fun _ _ _ h => h) (Or.inl ⟨by rfl, ?_⟩) hHeld ?_
  rotate_left
  · (intro w hSw; (try dsimp only at hSw); go_simp; (try with_reducible rfl))
  simp only [Act.put, List.setIfInBounds_toArray, List.set_cons_zero, List.set_cons_succ]
  refine take_at 22 (v := ?_) (some 71) rfl rfl (by kernel_rfl) (by kernel_rfl) (by kernel_rfl) (fun _ _ _ h => h) (Or.inl ⟨by rfl, ?_⟩) hHeld ?_
  rotate_left
  · (intro w hSw; (try dsimp only at hSw); go_simp; (try with_reducible rfl))
  simp only [Act.put, List.setIfInBounds_toArray, List.set_cons_zero, List.set_cons_succ]
  refine take_at 23 (v := ?_) (some 72) rfl rfl (by kernel_rfl) (by kernel_rfl) (by kernel_rfl) (fun _ _ _ h => h) (Or.inl ⟨by rfl, ?_⟩) hHeld ?_
  rotate_left
  · (intro w hSw; (try dsimp only at hSw); go_simp; (try with_reducible rfl))
  simp only [Act.put, List.setIfInBounds_toArray, List.set_cons_zero, List.set_cons_succ]
  refine wpAnyH_ready (rs := [18]) (by kernel_rfl) (by simp) ?_
  refine AllReadyH.cons rfl (fun K hK => ?_) AllReadyH.nil
  go_simp
  refine (at30_any av A k _ (show Ws W3.drew av A from HA.out)).mono ?_; rintro e v4 ⟨rfl, hww⟩; subst v4; rw [HY.out]; have HJv := Lib.hid HJ.out; have HFv := Lib.hid ((Fr.refl [] W3).drew)
  go_wp2_with fail
  refine hK.out _ _ ?_ (fun hHeld => ?_)
  · (try dsimp only at hHeld ⊢)
    go_split_ands
    exact ⟨HJv.out.cells.2.1, HJv.out.cells.2.2.2.1, HJv.out.cells.2.2.2.2.2.2.2.1, HJv.out.cells.2.2.2.2.2.2.2.2.1⟩
  clear hK K
  try simp only [Act.put, List.setIfInBounds_toArray, List.set_cons_zero, List.set_cons_succ]
  refine wpAnyH_ready (rs := [19]) (by kernel_rfl) (by simp) ?_
  refine AllReadyH.cons rfl (fun K hK => ?_) AllReadyH.nil
  go_simp
  refine (hf x y _ hx64 hy64).mono ?_; rintro e v5 ⟨rfl, hB⟩; have HFv := Lib.hid (show Fr [] W3 v5 from ((Fr.refl [] W3).drew).trans (.of hB)); have HJv := Lib.hid (HJ.out.fr HFv.out (by simp)); clear hB
  go_wp2_with fail
  refine hK.out _ _ ?_ (fun hHeld => ?_)
  · (try dsimp only at hHeld ⊢)
    go_split_ands
    exact ⟨HJv.out.cells.2.1, HJv.out.cells.2.2.2.1, HJv.out.cells.2.2.2.2.2.2.2.1, HJv.out.cells.2.2.2.2.2.2.2.2.1⟩
  clear hK K
  try simp only [Act.put, List.setIfInBounds_toArray, List.set_cons_zero, List.set_cons_succ]
  refine take_at 24 (v := ?_) (some 73) rfl rfl (by kernel_rfl) (by kernel_rfl) (by kernel_rfl) (fun _ _ _ h => h) (Or.inl ⟨by rfl, ?_⟩) hHeld ?_
  rotate_left
  · (intro w hSw; (try dsimp only at hSw); go_simp; (try with_reducible rfl))
  simp only [Act.put, List.setIfInBounds_toArray, List.set_cons_zero, List.set_cons_succ]
  refine wpAnyH_done (by kernel_rfl) ?_ _
  go_split_ands

  have c9 := HJv.out.cells.2.2.2.2.2.2.2.2.2
  dsimp only at c9
  have fz := Bk.free HJv.out 9
  have HFIN := Lib.hid (show Jn (v5.setCell ⟨jb, 9, none⟩ (.bool true)) jb bs wh n av ⟨ch, false, tries, k, x, true⟩ ∧ Fr [jb] w (v5.setCell ⟨jb, 9, none⟩ (.bool true)) from
    ⟨by simpa [Jn] using Bk.set HJv.out 9 (.bool true), (HF3.out.trans (HFv.out.mono (by simp))).trans ((Fr.refl _ _).set (by simp) _)⟩)
  clear c1 c3 c7 c8 HJv HFv HF3 HJ
  go_wp2_with fail
  first | rw [via_ret] | skip
  go_ret
  exact ⟨rfl, HFIN.out⟩

set_option maxHeartbeats 3200000 in
set_option maxRecDepth 100000 in
theorem jn_hit (d bs wh n : Int) (q : Nat) (jb b g : Nat) (av : Value) (A : List Nat) (zs : List Int) (ch : Bool) (tries : Int) (k : Nat) (w : World) (hbs : 0 ≤ bs ∧ bs ≤ 1000) (hq : cwn n = q) (hq2 : q ≤ 1024) (hk : k < q) (hA : Ws w av A) (hAj : ∀ a c, av = .slice (some a) A.length c → 0 < A.length → a.block ≠ jb) (hm : Pm w b g zs) (x y : Nat) (hJ : Jn w jb bs wh n av ⟨ch, false, tries, k, x, true⟩) (hx64 : x < 18446744073709551616) (hy : wdA A k = (y : Int)) (hy64 : y < 18446744073709551616) (f : Nat → Nat → Nat) (hf : ∀ (x y : Nat) (w : World), x < 18446744073709551616 → y < 18446744073709551616 → Calls Try.prog 30 #[.int .i64 wh, .int .u64 x, .int .u64 y] w fun e w' => e = .returned (.int .u64 (f x y : Nat)) ∧ Below w.heap.size w w') (hc : casb zs (bs + k) x = true) :
    Calls Try.prog 81 #[.pointer (some ⟨jb, 0, none⟩), .iface 64 (.pointer (some ⟨b, 0, none⟩)), .int .i64 d] w fun e w' => e = .returned (.bool (decide (q ≤ k + 1))) ∧ Jn w' jb bs wh n av ⟨true, decide (q ≤ k + 1), tries, k + 1, x, false⟩ ∧ Pm w' b g (casv zs (bs + k) x (f x y : Nat)) ∧ Fr [jb, g] w w' := by
  have HJ := Lib.hid hJ
  have HP := Lib.hid hm
  have HA := Lib.hid hA
  have HAJ := Lib.hid hAj
  have HQ := Lib.hid hq
  have HC := Lib.hid hc
  have HY := Lib.hid hy
  have HRB := Lib.hid (show jb ≠ b ∧ jb ≠ g from ⟨Bk.ne hJ hm.1 (by decide), Bk.ne hJ hm.2.1 (by decide)⟩)
  obtain ⟨c0, c1, c2, c3, c4, c5, c6, c7, c8, c9⟩ := hJ.cells
  dsimp only at c4 c5 c6 c7 c8 c9
  have hm' := m_cas
  have hnl := n_cas
  obtain ⟨hb0, hb1⟩ := hbs
  have hdk : decide (q ≤ k) = false := by simp; omega
  have hsum : IntKind.i64.wrap (bs + k) = bs + k := IntWalk.i64_in _ (by omega)
  obtain ⟨z, hz⟩ : ∃ z, z = decide (q ≤ k + 1) := ⟨_, rfl⟩
  have HZ := Lib.hid hz
  have hdz : decide ((q : Int) ≤ ((k + 1 : Nat) : Int)) = z := by rw [hz, decide_eq_decide]; omega
  rw [← hz]
  clear hJ hm hA hAj hq hc hy hz
  go_enter Try.func81, Try.ntmps81
  go_wp2_with fail
  refine wp_scope_via 1 ?_
  go_wp2_with fail
  refine (or_some _ _ _).mono ?_
  rintro e w1 ⟨rfl, hww⟩
  subst w1
  go_wp2_with fail
  have HF0 := Lib.hid (show Fr [jb] w w from Fr.refl _ _)
  refine wp_region_held_drew (S := (fun w' => w'.cell? ⟨jb, 0, none⟩ = some (.int .i64 bs) ∧ w'.cell? ⟨jb, 1, none⟩ = some (.int .i64 wh) ∧ w'.cell? ⟨jb, 2, none⟩ = some (.int .i64 n) ∧ w'.cell? ⟨jb, 7, none⟩ = some (.int .i64 k))) (by kernel_rfl) ?_ (fun hHeld => ?_)
  · exact ⟨c0, c1, c2, c7⟩
  refine take_at 0 (v := ?_) (some 18) rfl rfl (by kernel_rfl) (by kernel_rfl) (by kernel_rfl) (fun _ _ _ h => h) (Or.inl ⟨by rfl, ?_⟩) hHeld ?_
  rotate_left
  · (intro w hSw; (try dsimp only at hSw); go_simp; (try with_reducible rfl))
  simp only [Act.put, List.setIfInBounds_toArray, List.set_cons_zero, List.set_cons_succ]
  refine take_at 1 (v := ?_) (some 19) rfl rfl (by kernel_rfl) (by kernel_rfl) (by kernel_rfl) (fun _ _ _ h => h) (Or.inl ⟨by rfl, ?_⟩) hHeld ?_
  rotate_left
  · (intro w hSw; (try dsimp only at hSw); go_simp; (try with_reducible rfl))
  simp only [Act.put, List.setIfInBounds_toArray, List.set_cons_zero, List.set_cons_succ]
  refine take_at 2 (v := ?_) (some 20) rfl rfl (by kernel_rfl) (by kernel_rfl) (by kernel_rfl) (fun _ _ _ h => h) (Or.inl ⟨by rfl, ?_⟩) hHeld ?_
  rotate_left
  · (intro w hSw; (try dsimp only at hSw); go_simp; (try with_reducible rfl))
  simp only [Act.put, List.setIfInBounds_toArray, List.set_cons_zero, List.set_cons_succ]
  refine take_at 3 (v := ?_) (some 21) rfl rfl (by kernel_rfl) (by kernel_rfl) (by kernel_rfl) (fun _ _ _ h => h) (Or.inl ⟨by rfl, ?_⟩) hHeld ?_
  rotate_left
  · (intro w hSw; (try dsimp only at hSw); go_simp; (try with_reducible rfl))
  simp only [Act.put, List.setIfInBounds_toArray, List.set_cons_zero, List.set_cons_succ]
  refine take_at 4 (v := ?_) (some 22) rfl rfl (by kernel_rfl) (by kernel_rfl) (by kernel_rfl) (fun _ _ _ h => h) (Or.inl ⟨by rfl, ?_⟩) hHeld ?_
  rotate_left
  · (intro w hSw; (try dsimp only at hSw); go_simp; (try with_reducible rfl))
  simp only [Act.put, List.setIfInBounds_toArray, List.set_cons_zero, List.set_cons_succ]
  refine take_at 5 (v := ?_) (some 23) rfl rfl (by kernel_rfl) (by kernel_rfl) (by kernel_rfl) (fun _ _ _ h => h) (Or.inl ⟨by rfl, ?_⟩) hHeld ?_
  rotate_left
  · (intro w hSw; (try dsimp only at hSw); go_simp; (try with_reducible rfl))
  simp only [Act.put, List.setIfInBounds_toArray, List.set_cons_zero, List.set_cons_succ]
  refine take_at 6 (v := ?_) (some 24) rfl rfl (by kernel_rfl) (by kernel_rfl) (by kernel_rfl) (fun _ _ _ h => h) (Or.inl ⟨by rfl, ?_⟩) hHeld ?_
  rotate_left
  · (intro w hSw; (try dsimp only at hSw); go_simp; (try with_reducible rfl))
  simp only [Act.put, List.setIfInBounds_toArray, List.set_cons_zero, List.set_cons_succ]
  refine wpAnyH_ready (rs := [7]) (by kernel_rfl) (by simp) ?_
  refine AllReadyH.cons rfl (fun K hK => ?_) AllReadyH.nil
  go_simp
  refine (over_any jb 7 k bs wh n _ (show w.drew.cell? ⟨jb, 7, none⟩ = _ from HJ.out.cells.2.2.2.2.2.2.2.1)).mono ?_; rintro e v1 ⟨rfl, hB⟩; have HFv := Lib.hid (show Fr [] w v1 from ((Fr.refl [] w).drew).trans (.of hB)); have HJv := Lib.hid (HJ.out.fr HFv.out (by simp)); rw [HQ.out]; clear hB
  go_wp2_with fail
  refine hK.out _ _ ?_ (fun hHeld => ?_)
  · (try dsimp only at hHeld ⊢)
    go_split_ands
    exact ⟨HJv.out.cells.1, HJv.out.cells.2.1, HJv.out.cells.2.2.1, HJv.out.cells.2.2.2.2.2.2.2.1⟩
  clear hK K
  try simp only [Act.put, List.setIfInBounds_toArray, List.set_cons_zero, List.set_cons_succ]
  refine wpAnyH_done (by kernel_rfl) ?_ _
  go_split_ands

  try rw [hdk]
  clear c0 c1 c2 c3 c4 c5 c6 c7 c8 c9
  have c9 := HJv.out.cells.2.2.2.2.2.2.2.2.2
  dsimp only at c9
  have fz9 := Bk.free HJv.out 9
  have HJ2 := Lib.hid (show Jn (v1.setCell ⟨jb, 9, none⟩ (.bool false)) jb bs wh n av ⟨ch, false, tries, k, x, false⟩ from by simpa [Jn] using Bk.set HJv.out 9 (.bool false))
  have HS := Lib.hid (show Fr [jb] v1 (v1.setCell ⟨jb, 9, none⟩ (.bool false)) from (Fr.refl _ _).set (by simp) _)
  have HP := Lib.hid (show Pm (v1.setCell ⟨jb, 9, none⟩ (.bool false)) b g zs from ⟨(HP.out.1.fr HFv.out (by simp)).fr HS.out (by simp; exact fun e => HRB.out.1 e.symm), (HP.out.2.1.fr HFv.out (by simp)).fr HS.out (by simp; exact fun e => HRB.out.2 e.symm), HP.out.2.2⟩)
  have HA := Lib.hid ((HA.out.fr HFv.out (by simp)).fr HS.out (by simpa using HAJ.out))
  have HF2 := Lib.hid (HF0.out.trans ((HFv.out.mono (by simp)).trans HS.out))
  go_wp2_with fail
  go_step3
  refine ⟨_, rfl, ?_⟩
  go_wp2_with fail
  clear c9 fz9 HJ
  have HJ := Lib.hid HJ2.out
  clear HJ2 HJv HFv HS
  generalize v1.setCell ⟨jb, 9, none⟩ (.bool false) = W2 at *
  obtain ⟨c0, c1, c2, c3, c4, c5, c6, c7, c8, c9⟩ := HJ.out.cells
  dsimp only at c7 c8
  clear c0 c2 c4 c5 c6 c9
  refine wp_region_held_drew (S := (fun w' => w'.cell? ⟨jb, 1, none⟩ = some (.int .i64 wh) ∧ w'.cell? ⟨jb, 3, none⟩ = some (av) ∧ w'.cell? ⟨jb, 7, none⟩ = some (.int .i64 k) ∧ w'.cell? ⟨jb, 8, none⟩ = some (.int .u64 x))) (by kernel_rfl) ?_ (fun hHeld => ?_)
  · exact ⟨c1, c3, c7, c8⟩
  refine take_at 0 (v := ?_) (some 80) rfl rfl (by kernel_rfl) (by kernel_rfl) (by kernel_rfl) (fun _ _ _ h => h) (Or.inl ⟨by rfl, ?_⟩) hHeld ?_
  rotate_left
  · (intro w hSw; (try dsimp only at hSw); go_simp; (try with_reducible rfl))
  simp only [Act.put, List.setIfInBounds_toArray, List.set_cons_zero, List.set_cons_succ]
  refine take_at 1 (v := ?_) (some 81) rfl rfl (by kernel_rfl) (by kernel_rfl) (by kernel_rfl) (fun _ _ _ h => h) (Or.inl ⟨by rfl, ?_⟩) hHeld ?_
  rotate_left
  · (intro w hSw; (try dsimp only at hSw); go_simp; (try with_reducible rfl))
  simp only [Act.put, List.setIfInBounds_toArray, List.set_cons_zero, List.set_cons_succ]
  refine take_at 2 (v := ?_) (some 82) rfl rfl (by kernel_rfl) (by kernel_rfl) (by kernel_rfl) (fun _ _ _ h => h) (Or.inl ⟨by rfl, ?_⟩) hHeld ?_
  rotate_left
  · (intro w hSw; (try dsimp only at hSw); go_simp; (try with_reducible rfl))
  simp only [Act.put, List.setIfInBounds_toArray, List.set_cons_zero, List.set_cons_succ]
  refine take_at 3 (v := ?_) (some 83) rfl rfl (by kernel_rfl) (by kernel_rfl) (by kernel_rfl) (fun _ _ _ h => h) (Or.inl ⟨by rfl, ?_⟩) hHeld ?_
  rotate_left
  · (intro w hSw; (try dsimp only at hSw); go_simp; (try with_reducible rfl))
  simp only [Act.put, List.setIfInBounds_toArray, List.set_cons_zero, List.set_cons_succ]
  refine take_at 4 (v := ?_) (some 84) rfl rfl (by kernel_rfl) (by kernel_rfl) (by kernel_rfl) (fun _ _ _ h => h) (Or.inl ⟨by rfl, ?_⟩) hHeld ?_
  rotate_left
  · (intro w hSw; (try dsimp only at hSw); go_simp; (try with_reducible rfl))
  simp only [Act.put, List.setIfInBounds_toArray, List.set_cons_zero, List.set_cons_succ]
  refine take_at 5 (v := ?_) (some 85) rfl rfl (by kernel_rfl) (by kernel_rfl) (by kernel_rfl) (fun _ _ _ h => h) (Or.inl ⟨by rfl, ?_⟩) hHeld ?_
  rotate_left
  · (intro w hSw; (try dsimp only at hSw); go_simp; (try with_reducible rfl))
  simp only [Act.put, List.setIfInBounds_toArray, List.set_cons_zero, List.set_cons_succ]
  refine take_at 6 (v := ?_) (some 86) rfl rfl (by kernel_rfl) (by kernel_rfl) (by kernel_rfl) (fun _ _ _ h => h) (Or.inl ⟨by rfl, ?_⟩) hHeld ?_
  rotate_left
  · (intro w hSw; (try dsimp only at hSw); go_simp; (try with_reducible rfl))
  simp only [Act.put, List.setIfInBounds_toArray, List.set_cons_zero, List.set_cons_succ]
  refine take_at 7 (v := ?_) (some 87) rfl rfl (by kernel_rfl) (by kernel_rfl) (by kernel_rfl) (fun _ _ _ h => h) (Or.inl ⟨by rfl, ?_⟩) hHeld ?_
  rotate_left
  · (intro w hSw; (try dsimp only at hSw); go_simp; (try with_reducible rfl))
  simp only [Act.put, List.setIfInBounds_toArray, List.set_cons_zero, List.set_cons_succ]
  refine take_at 8 (v := ?_) (some 88) rfl rfl (by kernel_rfl) (by kernel_rfl) (by kernel_rfl) (fun _ _ _ h => h) (Or.inl ⟨by rfl, ?_⟩) hHeld ?_
  rotate_left
  · (intro w hSw; (try dsimp only at hSw); go_simp; (try with_reducible rfl))
  simp only [Act.put, List.setIfInBounds_toArray, List.set_cons_zero, List.set_cons_succ]
  refine take_at 9 (v := ?_) (some 89) rfl rfl (by kernel_rfl) (by kernel_rfl) (by kernel_rfl) (fun _ _ _ h => h) (Or.inl ⟨by rfl, ?_⟩) hHeld ?_
  rotate_left
  · (intro w hSw; (try dsimp only at hSw); go_simp; (try with_reducible rfl))
  simp only [Act.put, List.setIfInBounds_toArray, List.set_cons_zero, List.set_cons_succ]
  refine take_at 10 (v := ?_) (some 90) rfl rfl (by kernel_rfl) (by kernel_rfl) (by kernel_rfl) (fun _ _ _ h => h) (Or.inl ⟨by rfl, ?_⟩) hHeld ?_
  rotate_left
  · (intro w hSw; (try dsimp only at hSw); go_simp; (try with_reducible rfl))
  simp only [Act.put, List.setIfInBounds_toArray, List.set_cons_zero, List.set_cons_succ]
  refine take_at 11 (v := ?_) (some 91) rfl rfl (by kernel_rfl) (by kernel_rfl) (by kernel_rfl) (fun _ _ _ h => h) (Or.inl ⟨by rfl, ?_⟩) hHeld ?_
  rotate_left
  · (intro w hSw; (try dsimp only at hSw); go_simp; (try with_reducible rfl))
  simp only [Act.put, List.setIfInBounds_toArray, List.set_cons_zero, List.set_cons_succ]
  refine take_at 12 (v := ?_) (some 92) rfl rfl (by kernel_rfl) (by kernel_rfl) (by kernel_rfl) (fun _ _ _ h => h) (Or.inl ⟨by rfl, ?_⟩) hHeld ?_
  rotate_left
  · (intro w hSw; (try dsimp only at hSw); go_simp; (try with_reducible rfl))
  simp only [Act.put, List.setIfInBounds_toArray, List.set_cons_zero, List.set_cons_succ]
  refine take_at 13 (v := ?_) (some 93) rfl rfl (by kernel_rfl) (by kernel_rfl) (by kernel_rfl) (fun _ _ _ h => h) (Or.inl ⟨by rfl, ?_⟩) hHeld ?_
  rotate_left
  · (intro w hSw; (try dsimp only at hSw); go_simp; (try with_reducible rfl))
  simp only [Act.put, List.setIfInBounds_toArray, List.set_cons_zero, List.set_cons_succ]
  refine take_at 14 (v := ?_) (some 94) rfl rfl (by kernel_rfl) (by kernel_rfl) (by kernel_rfl) (fun _ _ _ h => h) (Or.inl ⟨by rfl, ?_⟩) hHeld ?_
  rotate_left
  · (intro w hSw; (try dsimp only at hSw); go_simp; (try with_reducible rfl))
  simp only [Act.put, List.setIfInBounds_toArray, List.set_cons_zero, List.set_cons_succ]
  refine take_at 15 (v := ?_) (some 95) rfl rfl (by kernel_rfl) (by kernel_rfl) (by kernel_rfl) (fun _ _ _ h => h) (Or.inl ⟨by rfl, ?_⟩) hHeld ?_
  rotate_left
  · (intro w hSw; (try dsimp only at hSw); go_simp; (try with_reducible rfl))
  simp only [Act.put, List.setIfInBounds_toArray, List.set_cons_zero, List.set_cons_succ]
  refine take_at 16 (v := ?_) (some 96) rfl rfl (by kernel_rfl) (by kernel_rfl) (by kernel_rfl) (fun _ _ _ h => h) (Or.inl ⟨by rfl, ?_⟩) hHeld ?_
  rotate_left
  · (intro w hSw; (try dsimp only at hSw); go_simp; (try with_reducible rfl))
  simp only [Act.put, List.setIfInBounds_toArray, List.set_cons_zero, List.set_cons_succ]
  refine take_at 17 (v := ?_) (some 97) rfl rfl (by kernel_rfl) (by kernel_rfl) (by kernel_rfl) (fun _ _ _ h => h) (Or.inl ⟨by rfl, ?_⟩) hHeld ?_
  rotate_left
  · (intro w hSw; (try dsimp only at hSw); go_simp; (try with_reducible rfl))
  simp only [Act.put, List.setIfInBounds_toArray, List.set_cons_zero, List.set_cons_succ]
  refine wpAnyH_ready (rs := [18]) (by kernel_rfl) (by simp) ?_
  refine AllReadyH.cons rfl (fun K hK => ?_) AllReadyH.nil
  go_simp
  refine (at30_any av A k _ (show Ws W2.drew av A from HA.out)).mono ?_; rintro e v4 ⟨rfl, hww⟩; subst v4; rw [HY.out]; have HJv := Lib.hid HJ.out; have HFv := Lib.hid ((Fr.refl [] W2).drew)
  go_wp2_with fail
  refine hK.out _ _ ?_ (fun hHeld => ?_)
  · (try dsimp only at hHeld ⊢)
    go_split_ands
    exact ⟨HJv.out.cells.2.1, HJv.out.cells.2.2.2.1, HJv.out.cells.2.2.2.2.2.2.2.1, HJv.out.cells.2.2.2.2.2.2.2.2.1⟩
  clear hK K
  try simp only [Act.put, List.setIfInBounds_toArray, List.set_cons_zero, List.set_cons_succ]
  refine wpAnyH_ready (rs := [19]) (by kernel_rfl) (by simp) ?_
  refine AllReadyH.cons rfl (fun K hK => ?_) AllReadyH.nil
  go_simp
  refine (hf x y _ hx64 hy64).mono ?_; rintro e v5 ⟨rfl, hB⟩; have HFv := Lib.hid (show Fr [] W2 v5 from ((Fr.refl [] W2).drew).trans (.of hB)); have HJv := Lib.hid (HJ.out.fr HFv.out (by simp)); clear hB
  go_wp2_with fail
  refine hK.out _ _ ?_ (fun hHeld => ?_)
  · (try dsimp only at hHeld ⊢)
    go_split_ands
    exact ⟨HJv.out.cells.2.1, HJv.out.cells.2.2.2.1, HJv.out.cells.2.2.2.2.2.2.2.1, HJv.out.cells.2.2.2.2.2.2.2.2.1⟩
  clear hK K
  try simp only [Act.put, List.setIfInBounds_toArray, List.set_cons_zero, List.set_cons_succ]
  refine take_at 20 (v := ?_) (some 7) rfl rfl (by kernel_rfl) (by kernel_rfl) (by kernel_rfl) (fun _ _ _ h => h) (Or.inl ⟨by rfl, ?_⟩) hHeld ?_
  rotate_left
  · (intro w hSw; (try dsimp only at hSw); go_simp; (try with_reducible rfl))
  simp only [Act.put, List.setIfInBounds_toArray, List.set_cons_zero, List.set_cons_succ]
  refine wpAnyH_done (by kernel_rfl) ?_ _
  go_split_ands

  have HP := Lib.hid (show Pm v5 b g zs from ⟨HP.out.1.fr HFv.out (by simp), HP.out.2.1.fr HFv.out (by simp), HP.out.2.2⟩)
  have HF3 := Lib.hid (HF2.out.trans (HFv.out.mono (by simp)))
  have HJ := Lib.hid HJv.out
  clear HJv HFv HF2 HA c1 c3 c7 c8
  generalize v5 = W3 at *
  obtain ⟨c0, c1, c2, c3, c4, c5, c6, c7, c8, c9⟩ := HJ.out.cells
  dsimp only at c7 c8
  clear c1 c2 c3 c4 c5 c6 c9
  go_wp2_with fail
  refine wp_region_held_drew (S := (fun w' => w'.cell? ⟨jb, 0, none⟩ = some (.int .i64 bs) ∧ w'.cell? ⟨jb, 7, none⟩ = some (.int .i64 k) ∧ w'.cell? ⟨jb, 8, none⟩ = some (.int .u64 x))) (by kernel_rfl) ?_ (fun hHeld => ?_)
  · exact ⟨c0, c7, c8⟩
  refine take_at 0 (v := ?_) (some 100) rfl rfl (by kernel_rfl) (by kernel_rfl) (by kernel_rfl) (fun _ _ _ h => h) (Or.inl ⟨by rfl, ?_⟩) hHeld ?_
  rotate_left
  · (intro w hSw; (try dsimp only at hSw); go_simp; (try with_reducible rfl))
  simp only [Act.put, List.setIfInBounds_toArray, List.set_cons_zero, List.set_cons_succ]
  refine take_at 1 (v := ?_) (some 101) rfl rfl (by kernel_rfl) (by kernel_rfl) (by kernel_rfl) (fun _ _ _ h => h) (Or.inl ⟨by rfl, ?_⟩) hHeld ?_
  rotate_left
  · (intro w hSw; (try dsimp only at hSw); go_simp; (try with_reducible rfl))
  simp only [Act.put, List.setIfInBounds_toArray, List.set_cons_zero, List.set_cons_succ]
  refine take_at 2 (v := ?_) (some 102) rfl rfl (by kernel_rfl) (by kernel_rfl) (by kernel_rfl) (fun _ _ _ h => h) (Or.inl ⟨by rfl, ?_⟩) hHeld ?_
  rotate_left
  · (intro w hSw; (try dsimp only at hSw); go_simp; (try with_reducible rfl))
  simp only [Act.put, List.setIfInBounds_toArray, List.set_cons_zero, List.set_cons_succ]
  refine take_at 3 (v := ?_) (some 103) rfl rfl (by kernel_rfl) (by kernel_rfl) (by kernel_rfl) (fun _ _ _ h => h) (Or.inl ⟨by rfl, ?_⟩) hHeld ?_
  rotate_left
  · (intro w hSw; (try dsimp only at hSw); go_simp; (try with_reducible rfl))
  simp only [Act.put, List.setIfInBounds_toArray, List.set_cons_zero, List.set_cons_succ]
  refine take_at 4 (v := ?_) (some 104) rfl rfl (by kernel_rfl) (by kernel_rfl) (by kernel_rfl) (fun _ _ _ h => h) (Or.inl ⟨by rfl, ?_⟩) hHeld ?_
  rotate_left
  · (intro w hSw; (try dsimp only at hSw); go_simp; (try with_reducible rfl))
  simp only [Act.put, List.setIfInBounds_toArray, List.set_cons_zero, List.set_cons_succ]
  refine take_at 5 (v := ?_) (some 105) rfl rfl (by kernel_rfl) (by kernel_rfl) (by kernel_rfl) (fun _ _ _ h => h) (Or.inl ⟨by rfl, ?_⟩) hHeld ?_
  rotate_left
  · (intro w hSw; (try dsimp only at hSw); go_simp; (try with_reducible rfl))
  simp only [Act.put, List.setIfInBounds_toArray, List.set_cons_zero, List.set_cons_succ]
  refine take_at 6 (v := ?_) (some 106) rfl rfl (by kernel_rfl) (by kernel_rfl) (by kernel_rfl) (fun _ _ _ h => h) (Or.inl ⟨by rfl, ?_⟩) hHeld ?_
  rotate_left
  · (intro w hSw; (try dsimp only at hSw); go_simp; (try with_reducible rfl))
  simp only [Act.put, List.setIfInBounds_toArray, List.set_cons_zero, List.set_cons_succ]
  refine take_at 7 (v := ?_) (some 107) rfl rfl (by kernel_rfl) (by kernel_rfl) (by kernel_rfl) (fun _ _ _ h => h) (Or.inl ⟨by rfl, ?_⟩) hHeld ?_
  rotate_left
  · (intro w hSw; (try dsimp only at hSw); go_simp; (try with_reducible rfl))
  simp only [Act.put, List.setIfInBounds_toArray, List.set_cons_zero, List.set_cons_succ]
  refine take_at 8 (v := ?_) (some 108) rfl rfl (by kernel_rfl) (by kernel_rfl) (by kernel_rfl) (fun _ _ _ h => h) (Or.inl ⟨by rfl, ?_⟩) hHeld ?_
  rotate_left
  · (intro w hSw; (try dsimp only at hSw); go_simp; (try with_reducible rfl))
  simp only [Act.put, List.setIfInBounds_toArray, List.set_cons_zero, List.set_cons_succ]
  refine take_at 9 (v := ?_) (some 109) rfl rfl (by kernel_rfl) (by kernel_rfl) (by kernel_rfl) (fun _ _ _ h => h) (Or.inl ⟨by rfl, ?_⟩) hHeld ?_
  rotate_left
  · (intro w hSw; (try dsimp only at hSw); go_simp; (try with_reducible rfl))
  simp only [Act.put, List.setIfInBounds_toArray, List.set_cons_zero, List.set_cons_succ]
  refine take_at 10 (v := ?_) (some 110) rfl rfl (by kernel_rfl) (by kernel_rfl) (by kernel_rfl) (fun _ _ _ h => h) (Or.inl ⟨by rfl, ?_⟩) hHeld ?_
  rotate_left
  · (intro w hSw; (try dsimp only at hSw); go_simp; (try with_reducible rfl))
  simp only [Act.put, List.setIfInBounds_toArray, List.set_cons_zero, List.set_cons_succ]
  refine take_at 11 (v := ?_) (some 111) rfl rfl (by kernel_rfl) (by kernel_rfl) (by kernel_rfl) (fun _ _ _ h => h) (Or.inl ⟨by rfl, ?_⟩) hHeld ?_
  rotate_left
  · (intro w hSw; (try dsimp only at hSw); go_simp; (try with_reducible rfl))
  simp only [Act.put, List.setIfInBounds_toArray, List.set_cons_zero, List.set_cons_succ]
  refine take_at 12 (v := ?_) (some 112) rfl rfl (by kernel_rfl) (by kernel_rfl) (by kernel_rfl) (fun _ _ _ h => h) (Or.inl ⟨by rfl, ?_⟩) hHeld ?_
  rotate_left
  · (intro w hSw; (try dsimp only at hSw); go_simp; (try with_reducible rfl))
  simp only [Act.put, List.setIfInBounds_toArray, List.set_cons_zero, List.set_cons_succ]
  refine take_at 13 (v := ?_) (some 113) rfl rfl (by kernel_rfl) (by kernel_rfl) (by kernel_rfl) (fun _ _ _ h => h) (Or.inl ⟨by rfl, ?_⟩) hHeld ?_
  rotate_left
  · (intro w hSw; (try dsimp only at hSw); go_simp; (try with_reducible rfl))
  simp only [Act.put, List.setIfInBounds_toArray, List.set_cons_zero, List.set_cons_succ]
  refine take_at 14 (v := ?_) (some 114) rfl rfl (by kernel_rfl) (by kernel_rfl) (by kernel_rfl) (fun _ _ _ h => h) (Or.inl ⟨by rfl, ?_⟩) hHeld ?_
  rotate_left
  · (intro w hSw; (try dsimp only at hSw); go_simp; (try with_reducible rfl))
  simp only [Act.put, List.setIfInBounds_toArray, List.set_cons_zero, List.set_cons_succ]
  refine take_at 15 (v := ?_) (some 115) rfl rfl (by kernel_rfl) (by kernel_rfl) (by kernel_rfl) (fun _ _ _ h => h) (Or.inl ⟨by rfl, ?_⟩) hHeld ?_
  rotate_left
  · (intro w hSw; (try dsimp only at hSw); go_simp; (try with_reducible rfl))
  simp only [Act.put, List.setIfInBounds_toArray, List.set_cons_zero, List.set_cons_succ]
  refine take_at 16 (v := ?_) (some 116) rfl rfl (by kernel_rfl) (by kernel_rfl) (by kernel_rfl) (fun _ _ _ h => h) (Or.inl ⟨by rfl, ?_⟩) hHeld ?_
  rotate_left
  · (intro w hSw; (try dsimp only at hSw); go_simp; (try with_reducible rfl))
  simp only [Act.put, List.setIfInBounds_toArray, List.set_cons_zero, List.set_cons_succ]
  refine take_at 17 (v := ?_) (some 117) rfl rfl (by kernel_rfl) (by kernel_rfl) (by kernel_rfl) (fun _ _ _ h => h) (Or.inl ⟨by rfl, ?_⟩) hHeld ?_
  rotate_left
  · (intro w hSw; (try dsimp only at hSw); go_simp; (try with_reducible rfl))
  simp only [Act.put, List.setIfInBounds_toArray, List.set_cons_zero, List.set_cons_succ]
  refine take_at 18 (v := ?_) (some 118) rfl rfl (by kernel_rfl) (by kernel_rfl) (by kernel_rfl) (fun _ _ _ h => h) (Or.inl ⟨by rfl, ?_⟩) hHeld ?_
  rotate_left
  · (intro w hSw; (try dsimp only at hSw); go_simp; (try with_reducible rfl))
  simp only [Act.put, List.setIfInBounds_toArray, List.set_cons_zero, List.set_cons_succ]
  refine take_at 19 (v := ?_) (some 119) rfl rfl (by kernel_rfl) (by kernel_rfl) (by kernel_rfl) (fun _ _ _ h => h) (Or.inl ⟨by rfl, ?_⟩) hHeld ?_
  rotate_left
  · (intro w hSw; (try dsimp only at hSw); go_simp; (try with_reducible rfl))
  simp only [Act.put, List.setIfInBounds_toArray, List.set_cons_zero, List.set_cons_succ]
  refine wpAnyH_ready (rs := [20]) (by kernel_rfl) (by simp) ?_
  refine AllReadyH.cons rfl (fun K hK => ?_) AllReadyH.nil
  go_simp
  refine (cas_any (bs + k) x (f x y : Nat) b g zs _ (show Pm W3.drew b g zs from HP.out)).mono ?_; rintro e v6 ⟨rfl, hP, hK⟩; have HP6 := Lib.hid hP; have HFv := Lib.hid (show Fr [g] W3 v6 from ((Fr.refl [g] W3).drew).trans (.gb hK (by simp))); have HJv := Lib.hid (HJ.out.fr HFv.out (by simp; exact HRB.out.2)); rw [HC.out]; clear hP hK
  go_wp2_with fail
  refine hK.out _ _ ?_ (fun hHeld => ?_)
  · (try dsimp only at hHeld ⊢)
    go_split_ands
    exact ⟨HJv.out.cells.1, HJv.out.cells.2.2.2.2.2.2.2.1, HJv.out.cells.2.2.2.2.2.2.2.2.1⟩
  clear hK K
  try simp only [Act.put, List.setIfInBounds_toArray, List.set_cons_zero, List.set_cons_succ]
  refine take_at 21 (v := ?_) (some 121) rfl rfl (by kernel_rfl) (by kernel_rfl) (by kernel_rfl) (fun _ _ _ h => h) (Or.inl ⟨by rfl, ?_⟩) hHeld ?_
  rotate_left
  · (intro w hSw; (try dsimp only at hSw); go_simp; (try with_reducible rfl))
  simp only [Act.put, List.setIfInBounds_toArray, List.set_cons_zero, List.set_cons_succ]
  refine wpAnyH_done (by kernel_rfl) ?_ _
  go_split_ands

  clear c0 c7 c8
  have c4 := HJv.out.cells.2.2.2.2.1
  dsimp only at c4
  have fz4 := Bk.free HJv.out 4
  have S4 := Lib.hid (show Fr [jb] v6 (v6.setCell ⟨jb, 4, none⟩ (.bool true)) from (Fr.refl _ _).set (by simp) _)
  have HJ5 := Lib.hid (show Jn (v6.setCell ⟨jb, 4, none⟩ (.bool true)) jb bs wh n av ⟨true, false, tries, k, x, false⟩ from by simpa [Jn] using Bk.set HJv.out 4 (.bool true))
  have c7 := HJ5.out.cells.2.2.2.2.2.2.2.1
  dsimp only at c7
  have fz7 := Bk.free HJ5.out 7
  go_wp2_with fail
  go_step3
  refine (‹∀ (a : Act) (w : World), _ → _› _ _ ?_)
  go_wp2_with fail
  go_step3
  refine (‹∀ (a : Act) (w : World), _ → _› _ _ ?_)
  have S5 := Lib.hid (S4.out.trans (show Fr [jb] (v6.setCell ⟨jb, 4, none⟩ (.bool true)) ((v6.setCell ⟨jb, 4, none⟩ (.bool true)).setCell ⟨jb, 7, none⟩ (.int .i64 ((k : Int) + 1))) from (Fr.refl _ _).set (by simp) _))
  have HJ6 := Lib.hid (show Jn ((v6.setCell ⟨jb, 4, none⟩ (.bool true)).setCell ⟨jb, 7, none⟩ (.int .i64 ((k : Int) + 1))) jb bs wh n av ⟨true, false, tries, k + 1, x, false⟩ from by simpa [Jn] using Bk.set HJ5.out 7 (.int .i64 ((k : Int) + 1)))
  clear c4 fz4 c7 fz7 S4 HJ5
  generalize ((v6.setCell ⟨jb, 4, none⟩ (.bool true)).setCell ⟨jb, 7, none⟩ (.int .i64 ((k : Int) + 1))) = W4 at *
  have HP := Lib.hid (show Pm W4 b g (casv zs (bs + k) x (f x y : Nat)) from ⟨HP6.out.1.fr S5.out (by simp; exact fun e => HRB.out.1 e.symm), HP6.out.2.1.fr S5.out (by simp; exact fun e => HRB.out.2 e.symm), HP6.out.2.2⟩)
  have HF4 := Lib.hid (show Fr [jb, g] w W4 from (HF3.out.mono (by simp)).trans ((HFv.out.mono (by simp)).trans (S5.out.mono (by simp))))
  have HJ := Lib.hid HJ6.out
  clear HJ6 HJv HFv HF3 HP6 S5
  go_wp2_with fail
  obtain ⟨c0, c1, c2, c3, c4, c5, c6, c7, c8, c9⟩ := HJ.out.cells
  dsimp only at c7
  clear c3 c4 c5 c6 c8 c9
  refine wp_region_held_drew (S := (fun w' => w'.cell? ⟨jb, 0, none⟩ = some (.int .i64 bs) ∧ w'.cell? ⟨jb, 1, none⟩ = some (.int .i64 wh) ∧ w'.cell? ⟨jb, 2, none⟩ = some (.int .i64 n) ∧ w'.cell? ⟨jb, 7, none⟩ = some (.int .i64 ((k + 1 : Nat) : Int)))) (by kernel_rfl) ?_ (fun hHeld => ?_)
  · exact ⟨c0, c1, c2, c7⟩
  refine take_at 0 (v := ?_) (some 141) rfl rfl (by kernel_rfl) (by kernel_rfl) (by kernel_rfl) (fun _ _ _ h => h) (Or.inl ⟨by rfl, ?_⟩) hHeld ?_
  rotate_left
  · (intro w hSw; (try dsimp only at hSw); go_simp; (try with_reducible rfl))
  simp only [Act.put, List.setIfInBounds_toArray, List.set_cons_zero, List.set_cons_succ]
  refine take_at 1 (v := ?_) (some 142) rfl rfl (by kernel_rfl) (by kernel_rfl) (by kernel_rfl) (fun _ _ _ h => h) (Or.inl ⟨by rfl, ?_⟩) hHeld ?_
  rotate_left
  · (intro w hSw; (try dsimp only at hSw); go_simp; (try with_reducible rfl))
  simp only [Act.put, List.setIfInBounds_toArray, List.set_cons_zero, List.set_cons_succ]
  refine take_at 2 (v := ?_) (some 143) rfl rfl (by kernel_rfl) (by kernel_rfl) (by kernel_rfl) (fun _ _ _ h => h) (Or.inl ⟨by rfl, ?_⟩) hHeld ?_
  rotate_left
  · (intro w hSw; (try dsimp only at hSw); go_simp; (try with_reducible rfl))
  simp only [Act.put, List.setIfInBounds_toArray, List.set_cons_zero, List.set_cons_succ]
  refine take_at 3 (v := ?_) (some 144) rfl rfl (by kernel_rfl) (by kernel_rfl) (by kernel_rfl) (fun _ _ _ h => h) (Or.inl ⟨by rfl, ?_⟩) hHeld ?_
  rotate_left
  · (intro w hSw; (try dsimp only at hSw); go_simp; (try with_reducible rfl))
  simp only [Act.put, List.setIfInBounds_toArray, List.set_cons_zero, List.set_cons_succ]
  refine take_at 4 (v := ?_) (some 145) rfl rfl (by kernel_rfl) (by kernel_rfl) (by kernel_rfl) (fun _ _ _ h => h) (Or.inl ⟨by rfl, ?_⟩) hHeld ?_
  rotate_left
  · (intro w hSw; (try dsimp only at hSw); go_simp; (try with_reducible rfl))
  simp only [Act.put, List.setIfInBounds_toArray, List.set_cons_zero, List.set_cons_succ]
  refine take_at 5 (v := ?_) (some 146) rfl rfl (by kernel_rfl) (by kernel_rfl) (by kernel_rfl) (fun _ _ _ h => h) (Or.inl ⟨by rfl, ?_⟩) hHeld ?_
  rotate_left
  · (intro w hSw; (try dsimp only at hSw); go_simp; (try with_reducible rfl))
  simp only [Act.put, List.setIfInBounds_toArray, List.set_cons_zero, List.set_cons_succ]
  refine take_at 6 (v := ?_) (some 147) rfl rfl (by kernel_rfl) (by kernel_rfl) (by kernel_rfl) (fun _ _ _ h => h) (Or.inl ⟨by rfl, ?_⟩) hHeld ?_
  rotate_left
  · (intro w hSw; (try dsimp only at hSw); go_simp; (try with_reducible rfl))
  simp only [Act.put, List.setIfInBounds_toArray, List.set_cons_zero, List.set_cons_succ]
  refine take_at 7 (v := ?_) (some 148) rfl rfl (by kernel_rfl) (by kernel_rfl) (by kernel_rfl) (fun _ _ _ h => h) (Or.inl ⟨by rfl, ?_⟩) hHeld ?_
  rotate_left
  · (intro w hSw; (try dsimp only at hSw); go_simp; (try with_reducible rfl))
  simp only [Act.put, List.setIfInBounds_toArray, List.set_cons_zero, List.set_cons_succ]
  refine wpAnyH_ready (rs := [8]) (by kernel_rfl) (by simp) ?_
  refine AllReadyH.cons rfl (fun K hK => ?_) AllReadyH.nil
  go_simp
  refine (over_any jb 7 ((k + 1 : Nat) : Int) bs wh n _ (show W4.drew.cell? ⟨jb, 7, none⟩ = _ from HJ.out.cells.2.2.2.2.2.2.2.1)).mono ?_; rintro e v7 ⟨rfl, hB⟩; have HFv := Lib.hid (show Fr [] W4 v7 from ((Fr.refl [] W4).drew).trans (.of hB)); have HJv := Lib.hid (HJ.out.fr HFv.out (by simp)); rw [HQ.out, hdz]; clear hB
  go_wp2_with fail
  refine hK.out _ _ ?_ (fun hHeld => ?_)
  · (try dsimp only at hHeld ⊢)
    go_split_ands
    exact ⟨HJv.out.cells.1, HJv.out.cells.2.1, HJv.out.cells.2.2.1, HJv.out.cells.2.2.2.2.2.2.2.1⟩
  clear hK K
  try simp only [Act.put, List.setIfInBounds_toArray, List.set_cons_zero, List.set_cons_succ]
  refine take_at 9 (v := ?_) (some 150) rfl rfl (by kernel_rfl) (by kernel_rfl) (by kernel_rfl) (fun _ _ _ h => h) (Or.inl ⟨by rfl, ?_⟩) hHeld ?_
  rotate_left
  · (intro w hSw; (try dsimp only at hSw); go_simp; (try with_reducible rfl))
  simp only [Act.put, List.setIfInBounds_toArray, List.set_cons_zero, List.set_cons_succ]
  refine take_at 10 (v := ?_) (some 151) rfl rfl (by kernel_rfl) (by kernel_rfl) (by kernel_rfl) (fun _ _ _ h => h) (Or.inl ⟨by rfl, ?_⟩) hHeld ?_
  rotate_left
  · (intro w hSw; (try dsimp only at hSw); go_simp; (try with_reducible rfl))
  simp only [Act.put, List.setIfInBounds_toArray, List.set_cons_zero, List.set_cons_succ]

  clear c0 c1 c2 c7
  have c5 := HJv.out.cells.2.2.2.2.2.1
  dsimp only at c5
  have fz5 := Bk.free HJv.out 5
  refine wpAnyH_ready (rs := [11]) (by kernel_rfl) (by simp) ?_
  refine AllReadyH.cons rfl (fun K hK => ?_) AllReadyH.nil
  go_simp
  refine hK.out _ _ ?_ (fun hHeld => ?_)
  · (try dsimp only at hHeld ⊢)
    exact ⟨set_other hHeld.1 (.inr (by simp)), set_other hHeld.2.1 (.inr (by simp)), set_other hHeld.2.2.1 (.inr (by simp)), set_other hHeld.2.2.2 (.inr (by simp))⟩
  clear hK K hHeld c5 fz5
  try simp only [Act.put]
  refine wpAnyH_done (by kernel_rfl) ?_ _
  have S7 := Lib.hid (show Fr [jb] v7 (v7.setCell ⟨jb, 5, none⟩ (.bool z)) from (Fr.refl _ _).set (by simp) _)
  have HJ8 := Lib.hid (show Jn (v7.setCell ⟨jb, 5, none⟩ (.bool z)) jb bs wh n av ⟨true, z, tries, k + 1, x, false⟩ from by simpa [Jn] using Bk.set HJv.out 5 (.bool z))
  have c5 := HJ8.out.cells.2.2.2.2.2.1
  dsimp only at c5
  go_wp2_with fail
  first | rw [via_ret] | skip
  go_ret
  exact ⟨rfl, HJ8.out, ⟨(HP.out.1.fr HFv.out (by simp)).fr S7.out (by simp; exact fun e => HRB.out.1 e.symm), (HP.out.2.1.fr HFv.out (by simp)).fr S7.out (by simp; exact fun e => HRB.out.2 e.symm), HP.out.2.2⟩, HF4.out.trans ((HFv.out.mono (by simp)).trans (S7.out.mono (by simp)))⟩

theorem bor30 (a b : Nat) (ha : a < 18446744073709551616) (hb : b < 18446744073709551616) : bits .or .u64 (a : Int) (b : Int) = ((a ||| b : Nat) : Int) :=
  (bits_nat .u64 64 (by decide) wraps_u64 a b (by omega) (by omega)).2

set_option maxHeartbeats 3200000 in
set_option maxRecDepth 100000 in
theorem lmay_any (x y : Nat) (w : World) (hx : x < 18446744073709551616) (hy : y < 18446744073709551616) :
    Calls Try.prog 30 #[.int .i64 1, .int .u64 x, .int .u64 y] w fun e w' => e = .returned (.int .u64 (x ||| y : Nat)) ∧ Below w.heap.size w w' := by
  have B0 := Lib.hid (Below.refl w.heap.size w)
  have hop : bits .or .u64 (x : Int) (y : Int) = ((x ||| y : Nat) : Int) := bor30 x y hx hy
  generalize (x ||| y : Nat) = z at *
  go_enter Try.func30, Try.ntmps30
  go_wp2
  go_ret
  exact ⟨rfl, B0.out⟩

set_option maxHeartbeats 3200000 in
set_option maxRecDepth 100000 in
theorem rlmay_any (x y : Nat) (w : World) (hx : x < 18446744073709551616) (hy : y < 18446744073709551616) :
    Calls Try.prog 31 #[.int .i64 1, .int .u64 x, .int .u64 y] w fun e w' => e = .returned (.int .u64 (x ||| y : Nat)) ∧ Below w.heap.size w w' := by
  have B0 := Lib.hid (Below.refl w.heap.size w)
  have hop : bits .or .u64 (x : Int) (y : Int) = ((x ||| y : Nat) : Int) := bor30 x y hx hy
  generalize (x ||| y : Nat) = z at *
  go_enter Try.func31, Try.ntmps31
  go_wp2
  go_ret
  exact ⟨rfl, B0.out⟩


end Go.Proofs.Yteheckcflnogbaa
