/-
  cell.Read.Step: contract, over a Plain. Written by wip/gen/mkcell2.py.
-/
import Derived.Test.YteheckcflnogbaaCell
import Derived.Deep.AppendLies
namespace Go.Proofs.Yteheckcflnogbaa
open Go.RowKit

theorem n_load (a : Addr) (w : World) : (nilAhead 394 64 (.pointer (some a)) "Load").run Try.prog w = .ok (some false) w := by kernel_rfl
/-- A Read. -/
def Rd (w : World) (rb : Nat) (bs wh n : Int) (av : Value) (e : Bool) (k : Int) : Prop := Bk w rb 137 [.int .i64 bs, .int .i64 wh, .int .i64 n, av, .bool e, .int .i64 k]
theorem Rd.cells {w : World} {rb : Nat} {bs wh n : Int} {av : Value} {e : Bool} {k : Int} (h : Rd w rb bs wh n av e k) : w.cell? ⟨rb, 0, none⟩ = some (.int .i64 bs) ∧ w.cell? ⟨rb, 1, none⟩ = some (.int .i64 wh) ∧ w.cell? ⟨rb, 2, none⟩ = some (.int .i64 n) ∧ w.cell? ⟨rb, 3, none⟩ = some av ∧ w.cell? ⟨rb, 4, none⟩ = some (.bool e) ∧ w.cell? ⟨rb, 5, none⟩ = some (.int .i64 k) :=
  ⟨h.cell 0, h.cell 1, h.cell 2, h.cell 3, h.cell 4, h.cell 5⟩
theorem Rd.fr {S : List Nat} {w w' : World} {rb : Nat} {bs wh n : Int} {av : Value} {e : Bool} {k : Int} (h : Rd w rb bs wh n av e k) (hf : Fr S w w') (hb : rb ∉ S) : Rd w' rb bs wh n av e k := Bk.fr h hf hb
theorem Rd.alloc {w : World} {rb : Nat} {bs wh n : Int} {av : Value} {e : Bool} {k : Int} (h : Rd w rb bs wh n av e k) (o : Obj) : Rd (w.alloc o) rb bs wh n av e k := Bk.alloc h o
theorem cell_new1 (w : World) (u : Value) (t : TypeId) : ∀ j x, [u][j]? = some x → (w.alloc (.cells #[u] t)).cell? ((⟨w.heap.size, 0, none⟩ : Addr).add j) = some x := fun j x hu => by
  rw [Addr.add_lit, Nat.zero_add, (Bk.new w t [u]).cell]
  exact hu

set_option maxHeartbeats 3200000 in
set_option maxRecDepth 100000 in
theorem rdstep_end (d bs wh n k : Int) (rb : Nat) (av m : Value) (w : World) (h : Rd w rb bs wh n av true k) :
    Calls Try.prog 85 #[.pointer (some ⟨rb, 0, none⟩), m, .int .i64 d] w fun e w' => e = .returned (.bool true) ∧ w' = w := by
  obtain ⟨c0, c1, c2, c3, c4, c5⟩ := h.cells
  clear h
  go_enter Try.func85, Try.ntmps85
  go_wp2_with fail
  go_ret
  exact ⟨rfl, rfl⟩

set_option maxHeartbeats 3200000 in
set_option maxRecDepth 100000 in
theorem rdstep_none (d : Int) (m : Value) (w : World) :
    Calls Try.prog 85 #[.pointer none, m, .int .i64 d] w fun e w' => e = .returned (.bool true) ∧ w' = w := by
  go_enter Try.func85, Try.ntmps85
  go_wp2_with fail
  go_ret
  exact ⟨rfl, rfl⟩

set_option maxHeartbeats 3200000 in
set_option maxRecDepth 100000 in
theorem rdstep_next (d bs wh n : Int) (q k : Nat) (rb b g N : Nat) (av : Value) (zs : List Int) (w : World) (hbs : 0 ≤ bs ∧ bs ≤ 1000) (hq : cwn n = q) (hq2 : q ≤ 1024) (hk : k < q) (h : Rd w rb bs wh n av false k) (ho : w.ownsRow N 29 1 av k ((getE zs bs k).map (Value.int .u64))) (hm : Pm w b g zs) (hN : b < N ∧ g < N ∧ N ≤ w.heap.size) (hk0 : k ≠ 0) :
    Calls Try.prog 85 #[.pointer (some ⟨rb, 0, none⟩), .iface 64 (.pointer (some ⟨b, 0, none⟩)), .int .i64 d] w fun e w' => ∃ av', e = .returned (.bool (decide (q ≤ k + 1))) ∧ Rd w' rb bs wh n av' (decide (q ≤ k + 1)) (k + 1 : Nat) ∧ w'.ownsRow N 29 1 av' (k + 1) ((getE zs bs (k + 1)).map (Value.int .u64)) ∧ Pm w' b g zs ∧ Fr (rb :: rowB av) w w' := by
  have HP0 := Lib.hid hm
  have HR0 := Lib.hid h
  have HO0 := Lib.hid ho
  have HN := Lib.hid hN
  have HQ := Lib.hid hq
  have HRB := Lib.hid (show rb ≠ b ∧ rb ≠ g from ⟨Bk.ne h hm.1 (by decide), Bk.ne h hm.2.1 (by decide)⟩)
  obtain ⟨c0, c1, c2, c3, c4, c5⟩ := h.cells
  have f3 := Bk.free h 3
  have hm' := m_load
  have hnl := n_load
  obtain ⟨i0, hi, hz0, hz1, hz2⟩ := info_parts u6_info
  obtain ⟨hb0, hb1⟩ := hbs
  have hdk : decide (q ≤ k) = false := by simp; omega
  obtain ⟨z, hz⟩ : ∃ z, z = decide (q ≤ k + 1) := ⟨_, rfl⟩
  have HZ := Lib.hid hz
  have hdz : decide ((q : Int) ≤ ((k + 1 : Nat) : Int)) = z := by rw [hz, decide_eq_decide]; omega
  clear hz
  have hsum : IntKind.i64.wrap (bs + k) = bs + k := IntWalk.i64_in _ (by omega)
  clear h ho hN hq hm
  go_enter Try.func85, Try.ntmps85
  have hkz : ((k : Int) == 0) = false := by simp; omega
  go_wp2_with fail
  refine wp_gen (fun W => Rd W rb bs wh n av false k ∧ W.ownsRow N 29 1 av k ((getE zs bs k).map (Value.int .u64)) ∧ Pm W b g zs ∧ Fr (rb :: rowB av) w W) ?_ ?_
  · exact ⟨HR0.out, HO0.out, HP0.out, Fr.refl _ _⟩
  clear c0 c1 c2 c3 c4 c5 f3
  intro W0 ⟨hr, hrow, hp, hf⟩
  have HR := Lib.hid hr
  have HO := Lib.hid hrow
  have HP := Lib.hid hp
  have HF0 := Lib.hid hf
  obtain ⟨c0, c1, c2, c3, c4, c5⟩ := hr.cells
  clear hr hrow hp hf
  refine wp_region_held_drew (S := (fun w' => w'.cell? ⟨rb, 0, none⟩ = some (.int .i64 bs) ∧ w'.cell? ⟨rb, 1, none⟩ = some (.int .i64 wh) ∧ w'.cell? ⟨rb, 2, none⟩ = some (.int .i64 n) ∧ w'.cell? ⟨rb, 5, none⟩ = some (.int .i64 k))) (by kernel_rfl) ?_ (fun hHeld => ?_)
  · exact ⟨c0, c1, c2, c5⟩
  refine take_at 0 (v := ?_) (some 24) rfl rfl (by kernel_rfl) (by kernel_rfl) (by kernel_rfl) (fun _ _ _ h => h) (Or.inl ⟨by rfl, ?_⟩) hHeld ?_
  rotate_left
  · (intro w hSw; (try dsimp only at hSw); go_simp; (try with_reducible rfl))
  simp only [Act.put, List.setIfInBounds_toArray, List.set_cons_zero, List.set_cons_succ]
  refine take_at 1 (v := ?_) (some 25) rfl rfl (by kernel_rfl) (by kernel_rfl) (by kernel_rfl) (fun _ _ _ h => h) (Or.inl ⟨by rfl, ?_⟩) hHeld ?_
  rotate_left
  · (intro w hSw; (try dsimp only at hSw); go_simp; (try with_reducible rfl))
  simp only [Act.put, List.setIfInBounds_toArray, List.set_cons_zero, List.set_cons_succ]
  refine take_at 2 (v := ?_) (some 26) rfl rfl (by kernel_rfl) (by kernel_rfl) (by kernel_rfl) (fun _ _ _ h => h) (Or.inl ⟨by rfl, ?_⟩) hHeld ?_
  rotate_left
  · (intro w hSw; (try dsimp only at hSw); go_simp; (try with_reducible rfl))
  simp only [Act.put, List.setIfInBounds_toArray, List.set_cons_zero, List.set_cons_succ]
  refine take_at 3 (v := ?_) (some 27) rfl rfl (by kernel_rfl) (by kernel_rfl) (by kernel_rfl) (fun _ _ _ h => h) (Or.inl ⟨by rfl, ?_⟩) hHeld ?_
  rotate_left
  · (intro w hSw; (try dsimp only at hSw); go_simp; (try with_reducible rfl))
  simp only [Act.put, List.setIfInBounds_toArray, List.set_cons_zero, List.set_cons_succ]
  refine take_at 4 (v := ?_) (some 28) rfl rfl (by kernel_rfl) (by kernel_rfl) (by kernel_rfl) (fun _ _ _ h => h) (Or.inl ⟨by rfl, ?_⟩) hHeld ?_
  rotate_left
  · (intro w hSw; (try dsimp only at hSw); go_simp; (try with_reducible rfl))
  simp only [Act.put, List.setIfInBounds_toArray, List.set_cons_zero, List.set_cons_succ]
  refine take_at 5 (v := ?_) (some 29) rfl rfl (by kernel_rfl) (by kernel_rfl) (by kernel_rfl) (fun _ _ _ h => h) (Or.inl ⟨by rfl, ?_⟩) hHeld ?_
  rotate_left
  · (intro w hSw; (try dsimp only at hSw); go_simp; (try with_reducible rfl))
  simp only [Act.put, List.setIfInBounds_toArray, List.set_cons_zero, List.set_cons_succ]
  refine take_at 6 (v := ?_) (some 30) rfl rfl (by kernel_rfl) (by kernel_rfl) (by kernel_rfl) (fun _ _ _ h => h) (Or.inl ⟨by rfl, ?_⟩) hHeld ?_
  rotate_left
  · (intro w hSw; (try dsimp only at hSw); go_simp; (try with_reducible rfl))
  simp only [Act.put, List.setIfInBounds_toArray, List.set_cons_zero, List.set_cons_succ]
  refine wpAnyH_ready (rs := [7]) (by kernel_rfl) (by simp) ?_
  refine AllReadyH.cons rfl (fun K hK => ?_) AllReadyH.nil
  go_simp
  refine (over_any rb 5 _ bs wh n _ (show W0.drew.cell? ⟨rb, 5, none⟩ = _ from HR.out.cells.2.2.2.2.2)).mono ?_; rintro e v1 ⟨rfl, hB⟩; have HFv := Lib.hid (show Fr [] W0 v1 from ((Fr.refl [] W0).drew).trans (.of hB)); have HRv := Lib.hid (HR.out.fr HFv.out (by simp)); rw [HQ.out]; clear hB
  go_wp2_with fail
  refine hK.out _ _ ?_ (fun hHeld => ?_)
  · (try dsimp only at hHeld ⊢)
    go_split_ands
    exact ⟨HRv.out.cells.1, HRv.out.cells.2.1, HRv.out.cells.2.2.1, HRv.out.cells.2.2.2.2.2⟩
  clear hK K
  try simp only [Act.put, List.setIfInBounds_toArray, List.set_cons_zero, List.set_cons_succ]
  refine take_at 8 (v := ?_) (some 32) rfl rfl (by kernel_rfl) (by kernel_rfl) (by kernel_rfl) (fun _ _ _ h => h) (Or.inl ⟨by rfl, ?_⟩) hHeld ?_
  rotate_left
  · (intro w hSw; (try dsimp only at hSw); go_simp; (try with_reducible rfl))
  simp only [Act.put, List.setIfInBounds_toArray, List.set_cons_zero, List.set_cons_succ]
  refine wpAnyH_done (by kernel_rfl) ?_ _
  go_split_ands

  try rw [hdk]
  clear c0 c1 c2 c3 c4 c5
  go_wp2_with fail
  have HR := Lib.hid HRv.out
  have HP := Lib.hid (show Pm v1 b g zs from ⟨HP.out.1.fr HFv.out (by simp), HP.out.2.1.fr HFv.out (by simp), HP.out.2.2⟩)
  have HO := Lib.hid (own_fr HO.out HFv.out (by simp))
  have HF1 := Lib.hid (HF0.out.trans (HFv.out.mono (by simp)))
  generalize v1 = W1 at *
  clear HRv HFv
  obtain ⟨c0, c1, c2, c3, c4, c5⟩ := HR.out.cells
  refine wp_region_held_drew (S := (fun w' => w'.cell? ⟨rb, 0, none⟩ = some (.int .i64 bs) ∧ w'.cell? ⟨rb, 5, none⟩ = some (.int .i64 k))) (by kernel_rfl) ?_ (fun hHeld => ?_)
  · exact ⟨c0, c5⟩
  clear c0 c1 c2 c3 c4 c5
  refine take_at 0 (v := ?_) (some 33) rfl rfl (by kernel_rfl) (by kernel_rfl) (by kernel_rfl) (fun _ _ _ h => h) (Or.inl ⟨by rfl, ?_⟩) hHeld ?_
  rotate_left
  · (intro w hSw; (try dsimp only at hSw); go_simp; (try with_reducible rfl))
  simp only [Act.put, List.setIfInBounds_toArray, List.set_cons_zero, List.set_cons_succ]
  refine take_at 1 (v := ?_) (some 34) rfl rfl (by kernel_rfl) (by kernel_rfl) (by kernel_rfl) (fun _ _ _ h => h) (Or.inl ⟨by rfl, ?_⟩) hHeld ?_
  rotate_left
  · (intro w hSw; (try dsimp only at hSw); go_simp; (try with_reducible rfl))
  simp only [Act.put, List.setIfInBounds_toArray, List.set_cons_zero, List.set_cons_succ]
  refine take_at 2 (v := ?_) (some 35) rfl rfl (by kernel_rfl) (by kernel_rfl) (by kernel_rfl) (fun _ _ _ h => h) (Or.inl ⟨by rfl, ?_⟩) hHeld ?_
  rotate_left
  · (intro w hSw; (try dsimp only at hSw); go_simp; (try with_reducible rfl))
  simp only [Act.put, List.setIfInBounds_toArray, List.set_cons_zero, List.set_cons_succ]
  refine take_at 3 (v := ?_) (some 36) rfl rfl (by kernel_rfl) (by kernel_rfl) (by kernel_rfl) (fun _ _ _ h => h) (Or.inl ⟨by rfl, ?_⟩) hHeld ?_
  rotate_left
  · (intro w hSw; (try dsimp only at hSw); go_simp; (try with_reducible rfl))
  simp only [Act.put, List.setIfInBounds_toArray, List.set_cons_zero, List.set_cons_succ]
  refine take_at 5 (v := ?_) (some 38) rfl rfl (by kernel_rfl) (by kernel_rfl) (by kernel_rfl) (fun _ _ _ h => h) (Or.inl ⟨by rfl, ?_⟩) hHeld ?_
  rotate_left
  · (intro w hSw; (try dsimp only at hSw); go_simp; (try with_reducible rfl))
  simp only [Act.put, List.setIfInBounds_toArray, List.set_cons_zero, List.set_cons_succ]
  refine take_at 7 (v := ?_) (some 40) rfl rfl (by kernel_rfl) (by kernel_rfl) (by kernel_rfl) (fun _ _ _ h => h) (Or.inl ⟨by rfl, ?_⟩) hHeld ?_
  rotate_left
  · (intro w hSw; (try dsimp only at hSw); go_simp; (try with_reducible rfl))
  simp only [Act.put, List.setIfInBounds_toArray, List.set_cons_zero, List.set_cons_succ]
  refine take_at 8 (v := ?_) (some 41) rfl rfl (by kernel_rfl) (by kernel_rfl) (by kernel_rfl) (fun _ _ _ h => h) (Or.inl ⟨by rfl, ?_⟩) hHeld ?_
  rotate_left
  · (intro w hSw; (try dsimp only at hSw); go_simp; (try with_reducible rfl))
  simp only [Act.put, List.setIfInBounds_toArray, List.set_cons_zero, List.set_cons_succ]
  refine take_at 9 (v := ?_) (some 42) rfl rfl (by kernel_rfl) (by kernel_rfl) (by kernel_rfl) (fun _ _ _ h => h) (Or.inl ⟨by rfl, ?_⟩) hHeld ?_
  rotate_left
  · (intro w hSw; (try dsimp only at hSw); go_simp; (try with_reducible rfl))
  simp only [Act.put, List.setIfInBounds_toArray, List.set_cons_zero, List.set_cons_succ]
  refine take_at 10 (v := ?_) (some 43) rfl rfl (by kernel_rfl) (by kernel_rfl) (by kernel_rfl) (fun _ _ _ h => h) (Or.inl ⟨by rfl, ?_⟩) hHeld ?_
  rotate_left
  · (intro w hSw; (try dsimp only at hSw); go_simp; (try with_reducible rfl))
  simp only [Act.put, List.setIfInBounds_toArray, List.set_cons_zero, List.set_cons_succ]
  refine take_at 11 (v := ?_) (some 44) rfl rfl (by kernel_rfl) (by kernel_rfl) (by kernel_rfl) (fun _ _ _ h => h) (Or.inl ⟨by rfl, ?_⟩) hHeld ?_
  rotate_left
  · (intro w hSw; (try dsimp only at hSw); go_simp; (try with_reducible rfl))
  simp only [Act.put, List.setIfInBounds_toArray, List.set_cons_zero, List.set_cons_succ]
  refine take_at 12 (v := ?_) (some 45) rfl rfl (by kernel_rfl) (by kernel_rfl) (by kernel_rfl) (fun _ _ _ h => h) (Or.inl ⟨by rfl, ?_⟩) hHeld ?_
  rotate_left
  · (intro w hSw; (try dsimp only at hSw); go_simp; (try with_reducible rfl))
  simp only [Act.put, List.setIfInBounds_toArray, List.set_cons_zero, List.set_cons_succ]
  refine take_at 13 (v := ?_) (some 46) rfl rfl (by kernel_rfl) (by kernel_rfl) (by kernel_rfl) (fun _ _ _ h => h) (Or.inl ⟨by rfl, ?_⟩) hHeld ?_
  rotate_left
  · (intro w hSw; (try dsimp only at hSw); go_simp; (try with_reducible rfl))
  simp only [Act.put, List.setIfInBounds_toArray, List.set_cons_zero, List.set_cons_succ]
  refine take_at 14 (v := ?_) (some 47) rfl rfl (by kernel_rfl) (by kernel_rfl) (by kernel_rfl) (fun _ _ _ h => h) (Or.inl ⟨by rfl, ?_⟩) hHeld ?_
  rotate_left
  · (intro w hSw; (try dsimp only at hSw); go_simp; (try with_reducible rfl))
  simp only [Act.put, List.setIfInBounds_toArray, List.set_cons_zero, List.set_cons_succ]
  refine take_at 15 (v := ?_) (some 48) rfl rfl (by kernel_rfl) (by kernel_rfl) (by kernel_rfl) (fun _ _ _ h => h) (Or.inl ⟨by rfl, ?_⟩) hHeld ?_
  rotate_left
  · (intro w hSw; (try dsimp only at hSw); go_simp; (try with_reducible rfl))
  simp only [Act.put, List.setIfInBounds_toArray, List.set_cons_zero, List.set_cons_succ]
  refine take_at 16 (v := ?_) (some 49) rfl rfl (by kernel_rfl) (by kernel_rfl) (by kernel_rfl) (fun _ _ _ h => h) (Or.inl ⟨by rfl, ?_⟩) hHeld ?_
  rotate_left
  · (intro w hSw; (try dsimp only at hSw); go_simp; (try with_reducible rfl))
  simp only [Act.put, List.setIfInBounds_toArray, List.set_cons_zero, List.set_cons_succ]
  refine take_at 17 (v := ?_) (some 50) rfl rfl (by kernel_rfl) (by kernel_rfl) (by kernel_rfl) (fun _ _ _ h => h) (Or.inl ⟨by rfl, ?_⟩) hHeld ?_
  rotate_left
  · (intro w hSw; (try dsimp only at hSw); go_simp; (try with_reducible rfl))
  simp only [Act.put, List.setIfInBounds_toArray, List.set_cons_zero, List.set_cons_succ]
  refine wpAnyH_ready (rs := [4, 6]) (by kernel_rfl) (by simp) ?_
  refine AllReadyH.cons rfl (fun K hK => ?_) (AllReadyH.cons rfl (fun K hK => ?_) AllReadyH.nil)
  · have a3 : W1.drew.cell? ⟨rb, 3, none⟩ = some av := HR.out.cells.2.2.2.1
    go_simp
    refine hK.out _ _ ?_ (fun hHeld => ?_)
    · exact hHeld
    clear hK K a3
    try simp only [Act.put, List.setIfInBounds_toArray, List.set_cons_zero, List.set_cons_succ]
    refine wpAnyH_ready (rs := [6]) (by kernel_rfl) (by simp) ?_
    refine AllReadyH.cons rfl (fun K hK => ?_) AllReadyH.nil
    go_simp
    refine (or_some _ _ _).mono ?_
    rintro e v1 ⟨rfl, hww⟩
    subst v1
    go_wp2_with fail
    refine hK.out _ _ ?_ (fun hHeld => ?_)
    · exact hHeld
    clear hK K
    try simp only [Act.put, List.setIfInBounds_toArray, List.set_cons_zero, List.set_cons_succ]
    refine take_at 18 (v := ?_) (some 51) rfl rfl (by kernel_rfl) (by kernel_rfl) (by kernel_rfl) (fun _ _ _ h => h) (Or.inl ⟨by rfl, ?_⟩) hHeld ?_
    rotate_left
    · (intro w hSw; (try dsimp only at hSw); go_simp; (try with_reducible rfl))
    simp only [Act.put, List.setIfInBounds_toArray, List.set_cons_zero, List.set_cons_succ]
    refine take_at 19 (v := ?_) (some 52) rfl rfl (by kernel_rfl) (by kernel_rfl) (by kernel_rfl) (fun _ _ _ h => h) (Or.inl ⟨by rfl, ?_⟩) hHeld ?_
    rotate_left
    · (intro w hSw; (try dsimp only at hSw); go_simp; (try with_reducible rfl))
    simp only [Act.put, List.setIfInBounds_toArray, List.set_cons_zero, List.set_cons_succ]
    refine take_at 20 (v := ?_) (some 53) rfl rfl (by kernel_rfl) (by kernel_rfl) (by kernel_rfl) (fun _ _ _ h => h) (Or.inl ⟨by rfl, ?_⟩) hHeld ?_
    rotate_left
    · (intro w hSw; (try dsimp only at hSw); go_simp; (try with_reducible rfl))
    simp only [Act.put, List.setIfInBounds_toArray, List.set_cons_zero, List.set_cons_succ]
    refine wpAnyH_ready (rs := [21]) (by kernel_rfl) (by simp) ?_
    refine AllReadyH.cons rfl (fun K hK => ?_) AllReadyH.nil
    go_simp
    refine (load_any (bs + k) b g zs _ (show Pm W1.drew b g zs from HP.out)).mono ?_
    rintro e v2 ⟨rfl, hB⟩
    have HP2 := Lib.hid (show Pm v2 b g zs from Pm.below (show Pm W1.drew b g zs from HP.out) hB)
    have HF2 := Lib.hid (show Fr [] W1 v2 from ((Fr.refl [] W1).drew).trans (.of hB))
    have HO2 := Lib.hid (own_fr HO.out HF2.out (by simp))
    have HY := Lib.hid (getE_succ zs bs k)
    have HR2 := Lib.hid (HR.out.fr HF2.out (by simp))
    clear hB
    generalize ldv zs (bs + k) = y at *
    go_wp2_with fail
    refine hK.out _ _ ?_ (fun hHeld => ?_)
    · exact ⟨HR2.out.cells.1, HR2.out.cells.2.2.2.2.2⟩
    clear hK K
    try simp only [Act.put, List.setIfInBounds_toArray, List.set_cons_zero, List.set_cons_succ]
    refine wpAnyH_ready (rs := [22]) (by kernel_rfl) (by simp) ?_
    refine AllReadyH.cons rfl (fun K hK => ?_) AllReadyH.nil
    go_simp
    have HR3 := Lib.hid (HR2.out.alloc (.cells #[.int .u64 y] 29))
    refine hK.out _ _ ?_ (fun hHeld => ?_)
    · exact ⟨HR3.out.cells.1, HR3.out.cells.2.2.2.2.2⟩
    clear hK K
    try simp only [Act.put, List.setIfInBounds_toArray, List.set_cons_zero, List.set_cons_succ]
    refine wpAnyH_ready (rs := [23]) (by kernel_rfl) (by simp) ?_
    refine AllReadyH.cons rfl (fun K hK => ?_) AllReadyH.nil
    refine step_append_lies _ (by rfl) _ _ _ (by rfl) N 29 i0 (.int .u64 0) 1 8 Try.underlying22 hi hz0 hz1 hz2 rfl (by decide) _ k _ (by rfl) (HO2.out.alloc _) ⟨v2.heap.size, 0, none⟩ 1 1 [.int .u64 y] (by rfl) (by rfl) (cell_new1 _ _ _) (by simp [Value.oneCell']) (by decide) (by unfold maxLen; omega) (by omega) (by have := HF2.out.size; have := HF1.out.size; have := HN.out.2.2; rw [World.size_alloc]; omega) (v2.heap.size + 1) (by simp) ?_
    intro g4 cap4 v4 hown4 hgrow4 hat4 hlt4
    have hf4 := fr_grown hgrow4
    have HR4 := Lib.hid (HR2.out.fr hf4 (own_ne HO2.out HR2.out (by decide)))
    have HP4 := Lib.hid (show Pm v4 b g zs from ⟨HP2.out.1.fr hf4 (fun hm => by have := (HO2.out.lt b (rowB_mem.1 hm)).1; have := HN.out; omega), HP2.out.2.1.fr hf4 (fun hm => by have := (HO2.out.lt g (rowB_mem.1 hm)).1; have := HN.out; omega), HP2.out.2.2⟩)
    have HO4 := Lib.hid (show v4.ownsRow N 29 1 (.slice (some ⟨g4, 0, none⟩) (k + 1) cap4) (k + 1) ((getE zs bs (k + 1)).map (Value.int .u64)) by rw [HY.out, List.map_append]; exact hown4)
    have HF4 := Lib.hid ((HF2.out.mono (by simp)).trans hf4)
    have HNE := Lib.hid (own_ne HO4.out HR4.out (by decide))
    clear hown4 hgrow4 hf4
    refine hK.out _ _ ?_ (fun hHeld => ?_)
    · exact ⟨HR4.out.cells.1, HR4.out.cells.2.2.2.2.2⟩
    clear hK K
    try simp only [Act.put, List.setIfInBounds_toArray]
    refine take_at 24 (v := ?_) (some 57) rfl rfl (by kernel_rfl) (by kernel_rfl) (by kernel_rfl) (fun _ _ _ h => h) (Or.inl ⟨by rfl, ?_⟩) hHeld ?_
    rotate_left
    · (intro w hSw; (try dsimp only at hSw); go_simp; (try with_reducible rfl))
    simp only [Act.put]
    refine take_at 25 (v := ?_) (some 58) rfl rfl (by kernel_rfl) (by kernel_rfl) (by kernel_rfl) (fun _ _ _ h => h) (Or.inl ⟨by rfl, ?_⟩) hHeld ?_
    rotate_left
    · (intro w hSw; (try dsimp only at hSw); go_simp; (try with_reducible rfl))
    simp only [Act.put]
    refine wpAnyH_ready (rs := [26]) (by kernel_rfl) (by simp) ?_
    refine AllReadyH.cons rfl (fun K hK => ?_) AllReadyH.nil
    have fz := Bk.free HR4.out 3
    have a3 : v4.cell? ⟨rb, 3, none⟩ = some av := HR4.out.cells.2.2.2.1
    go_simp
    refine hK.out _ _ ?_ (fun hHeld => ?_)
    · (try dsimp only at hHeld ⊢)
      exact ⟨set_other hHeld.1 (.inr (by simp)), set_other hHeld.2 (.inr (by simp))⟩
    clear hK K hHeld a3 fz
    try simp only [Act.put, List.setIfInBounds_toArray, List.set_cons_zero, List.set_cons_succ]
    refine wpAnyH_done (by kernel_rfl) ?_ _
    try go_split_ands
    have HS5 := Lib.hid (show Fr [rb] v4 (v4.setCell ⟨rb, 3, none⟩ (.slice (some ⟨g4, 0, none⟩) (k + 1) cap4)) from (Fr.refl _ _).set (by simp) _)
    have HR5 := Lib.hid (show Rd (v4.setCell ⟨rb, 3, none⟩ (.slice (some ⟨g4, 0, none⟩) (k + 1) cap4)) rb bs wh n (.slice (some ⟨g4, 0, none⟩) (k + 1) cap4) false k from by simpa [Rd] using Bk.set HR4.out 3 (.slice (some ⟨g4, 0, none⟩) (k + 1) cap4))
    have HP5 := Lib.hid (show Pm (v4.setCell ⟨rb, 3, none⟩ (.slice (some ⟨g4, 0, none⟩) (k + 1) cap4)) b g zs from ⟨HP4.out.1.fr HS5.out (by simp; exact fun e => HRB.out.1 e.symm), HP4.out.2.1.fr HS5.out (by simp; exact fun e => HRB.out.2 e.symm), HP4.out.2.2⟩)
    have HO5 := Lib.hid (own_fr HO4.out HS5.out (fun i hi hm => HNE.out (by rw [List.mem_singleton.1 hm] at hi; exact rowB_mem.2 hi)))
    have HF5 := Lib.hid (show Fr (rb :: rowB av) w (v4.setCell ⟨rb, 3, none⟩ (.slice (some ⟨g4, 0, none⟩) (k + 1) cap4)) from (HF1.out.trans (HF4.out.mono (fun i hi => List.mem_cons_of_mem _ hi))).trans (HS5.out.mono (by simp)))
    have HNE5 := Lib.hid (own_ne HO5.out HR5.out (by decide))
    generalize (v4.setCell ⟨rb, 3, none⟩ (.slice (some ⟨g4, 0, none⟩) (k + 1) cap4)) = W5 at *
    generalize (Value.slice (some ⟨g4, 0, none⟩) (k + 1) cap4) = av4 at *
    clear HF4 HO4 HNE HP4 HR4 HF2 HO2 HP2 HR2 HR3 HY
    have y5 := HR5.out.cells.2.2.2.2.2
    have fz5 := Bk.free HR5.out 5
    go_wp2_with fail
    refine wp_gen (fun W => Rd W rb bs wh n av4 false (k + 1 : Nat) ∧ W.ownsRow N 29 1 av4 (k + 1) ((getE zs bs (k + 1)).map (Value.int .u64)) ∧ Pm W b g zs ∧ Fr (rb :: rowB av) w W) ?_ ?_
    · have S6 : Fr [rb] W5 (W5.setCell ⟨rb, 5, none⟩ (.int .i64 ((k : Int) + 1))) := (Fr.refl _ _).set (by simp) _
      exact ⟨by simpa [Rd] using Bk.set HR5.out 5 (.int .i64 ((k : Int) + 1)), own_fr HO5.out S6 (fun i hi hm => HNE5.out (by rw [List.mem_singleton.1 hm] at hi; exact rowB_mem.2 hi)), ⟨HP5.out.1.fr S6 (by simp; exact fun e => HRB.out.1 e.symm), HP5.out.2.1.fr S6 (by simp; exact fun e => HRB.out.2 e.symm), HP5.out.2.2⟩, HF5.out.trans (S6.mono (by simp))⟩
    intro W6 ⟨hr, hrow, hp, hf⟩
    clear y5 fz5 HR5 HO5 HP5 HF5 HS5 HNE5
    have HR6 := Lib.hid hr
    have HO6 := Lib.hid hrow
    have HP6 := Lib.hid hp
    have HF6 := Lib.hid hf
    have HNE6 := Lib.hid (own_ne hrow hr (by decide))
    obtain ⟨c0, c1, c2, c3, c4, c5⟩ := hr.cells
    clear hr hrow hp hf c3 c4
    refine wp_region_held_drew (S := (fun w' => w'.cell? ⟨rb, 0, none⟩ = some (.int .i64 bs) ∧ w'.cell? ⟨rb, 1, none⟩ = some (.int .i64 wh) ∧ w'.cell? ⟨rb, 2, none⟩ = some (.int .i64 n) ∧ w'.cell? ⟨rb, 5, none⟩ = some (.int .i64 ((k + 1 : Nat) : Int)))) (by kernel_rfl) ?_ (fun hHeld => ?_)
    · exact ⟨c0, c1, c2, c5⟩
    refine take_at 0 (v := ?_) (some 68) rfl rfl (by kernel_rfl) (by kernel_rfl) (by kernel_rfl) (fun _ _ _ h => h) (Or.inl ⟨by rfl, ?_⟩) hHeld ?_
    rotate_left
    · (intro w hSw; (try dsimp only at hSw); go_simp; (try with_reducible rfl))
    simp only [Act.put, List.setIfInBounds_toArray, List.set_cons_zero, List.set_cons_succ]
    refine take_at 1 (v := ?_) (some 69) rfl rfl (by kernel_rfl) (by kernel_rfl) (by kernel_rfl) (fun _ _ _ h => h) (Or.inl ⟨by rfl, ?_⟩) hHeld ?_
    rotate_left
    · (intro w hSw; (try dsimp only at hSw); go_simp; (try with_reducible rfl))
    simp only [Act.put, List.setIfInBounds_toArray, List.set_cons_zero, List.set_cons_succ]
    refine take_at 2 (v := ?_) (some 70) rfl rfl (by kernel_rfl) (by kernel_rfl) (by kernel_rfl) (fun _ _ _ h => h) (Or.inl ⟨by rfl, ?_⟩) hHeld ?_
    rotate_left
    · (intro w hSw; (try dsimp only at hSw); go_simp; (try with_reducible rfl))
    simp only [Act.put, List.setIfInBounds_toArray, List.set_cons_zero, List.set_cons_succ]
    refine take_at 3 (v := ?_) (some 71) rfl rfl (by kernel_rfl) (by kernel_rfl) (by kernel_rfl) (fun _ _ _ h => h) (Or.inl ⟨by rfl, ?_⟩) hHeld ?_
    rotate_left
    · (intro w hSw; (try dsimp only at hSw); go_simp; (try with_reducible rfl))
    simp only [Act.put, List.setIfInBounds_toArray, List.set_cons_zero, List.set_cons_succ]
    refine take_at 4 (v := ?_) (some 72) rfl rfl (by kernel_rfl) (by kernel_rfl) (by kernel_rfl) (fun _ _ _ h => h) (Or.inl ⟨by rfl, ?_⟩) hHeld ?_
    rotate_left
    · (intro w hSw; (try dsimp only at hSw); go_simp; (try with_reducible rfl))
    simp only [Act.put, List.setIfInBounds_toArray, List.set_cons_zero, List.set_cons_succ]
    refine take_at 5 (v := ?_) (some 73) rfl rfl (by kernel_rfl) (by kernel_rfl) (by kernel_rfl) (fun _ _ _ h => h) (Or.inl ⟨by rfl, ?_⟩) hHeld ?_
    rotate_left
    · (intro w hSw; (try dsimp only at hSw); go_simp; (try with_reducible rfl))
    simp only [Act.put, List.setIfInBounds_toArray, List.set_cons_zero, List.set_cons_succ]
    refine take_at 6 (v := ?_) (some 74) rfl rfl (by kernel_rfl) (by kernel_rfl) (by kernel_rfl) (fun _ _ _ h => h) (Or.inl ⟨by rfl, ?_⟩) hHeld ?_
    rotate_left
    · (intro w hSw; (try dsimp only at hSw); go_simp; (try with_reducible rfl))
    simp only [Act.put, List.setIfInBounds_toArray, List.set_cons_zero, List.set_cons_succ]
    refine take_at 7 (v := ?_) (some 75) rfl rfl (by kernel_rfl) (by kernel_rfl) (by kernel_rfl) (fun _ _ _ h => h) (Or.inl ⟨by rfl, ?_⟩) hHeld ?_
    rotate_left
    · (intro w hSw; (try dsimp only at hSw); go_simp; (try with_reducible rfl))
    simp only [Act.put, List.setIfInBounds_toArray, List.set_cons_zero, List.set_cons_succ]
    refine wpAnyH_ready (rs := [8]) (by kernel_rfl) (by simp) ?_
    refine AllReadyH.cons rfl (fun K hK => ?_) AllReadyH.nil
    go_simp
    refine (over_any rb 5 ((k + 1 : Nat) : Int) bs wh n _ (show W6.drew.cell? ⟨rb, 5, none⟩ = _ from HR6.out.cells.2.2.2.2.2)).mono ?_; rintro e v1 ⟨rfl, hB⟩; have HFv := Lib.hid (show Fr [] W6 v1 from ((Fr.refl [] W6).drew).trans (.of hB)); have HRv := Lib.hid (HR6.out.fr HFv.out (by simp)); rw [HQ.out, hdz]; clear hB
    go_wp2_with fail
    refine hK.out _ _ ?_ (fun hHeld => ?_)
    · (try dsimp only at hHeld ⊢)
      go_split_ands
      exact ⟨HRv.out.cells.1, HRv.out.cells.2.1, HRv.out.cells.2.2.1, HRv.out.cells.2.2.2.2.2⟩
    clear hK K
    try simp only [Act.put, List.setIfInBounds_toArray, List.set_cons_zero, List.set_cons_succ]
    refine take_at 9 (v := ?_) (some 77) rfl rfl (by kernel_rfl) (by kernel_rfl) (by kernel_rfl) (fun _ _ _ h => h) (Or.inl ⟨by rfl, ?_⟩) hHeld ?_
    rotate_left
    · (intro w hSw; (try dsimp only at hSw); go_simp; (try with_reducible rfl))
    simp only [Act.put, List.setIfInBounds_toArray, List.set_cons_zero, List.set_cons_succ]
    refine take_at 10 (v := ?_) (some 78) rfl rfl (by kernel_rfl) (by kernel_rfl) (by kernel_rfl) (fun _ _ _ h => h) (Or.inl ⟨by rfl, ?_⟩) hHeld ?_
    rotate_left
    · (intro w hSw; (try dsimp only at hSw); go_simp; (try with_reducible rfl))
    simp only [Act.put, List.setIfInBounds_toArray, List.set_cons_zero, List.set_cons_succ]

    clear c0 c1 c2 c5
    have HR7 := Lib.hid HRv.out
    have c4 := HRv.out.cells.2.2.2.2.1
    have fz4 := Bk.free HRv.out 4
    refine wpAnyH_ready (rs := [11]) (by kernel_rfl) (by simp) ?_
    refine AllReadyH.cons rfl (fun K hK => ?_) AllReadyH.nil
    go_simp
    refine hK.out _ _ ?_ (fun hHeld => ?_)
    · (try dsimp only at hHeld ⊢)
      exact ⟨set_other hHeld.1 (.inr (by simp)), set_other hHeld.2.1 (.inr (by simp)), set_other hHeld.2.2.1 (.inr (by simp)), set_other hHeld.2.2.2 (.inr (by simp))⟩
    clear hK K hHeld
    try simp only [Act.put]
    refine wpAnyH_done (by kernel_rfl) ?_ _
    have S7 := Lib.hid (show Fr [rb] v1 (v1.setCell ⟨rb, 4, none⟩ (.bool z)) from (Fr.refl _ _).set (by simp) _)
    have HR8 := Lib.hid (show Rd (v1.setCell ⟨rb, 4, none⟩ (.bool z)) rb bs wh n av4 z (k + 1 : Nat) from by simpa [Rd] using Bk.set HR7.out 4 (.bool z))
    have c4 := HR8.out.cells.2.2.2.2.1
    go_wp2_with fail
    go_ret
    exact ⟨_, by rw [HZ.out]; rfl, by rw [← HZ.out]; exact HR8.out, own_fr (own_fr HO6.out HFv.out (by simp)) S7.out (fun i hi hm => HNE6.out (by rw [List.mem_singleton.1 hm] at hi; exact rowB_mem.2 hi)), ⟨(HP6.out.1.fr HFv.out (by simp)).fr S7.out (by simp; exact fun e => HRB.out.1 e.symm), (HP6.out.2.1.fr HFv.out (by simp)).fr S7.out (by simp; exact fun e => HRB.out.2 e.symm), HP6.out.2.2⟩, (HF6.out.trans (HFv.out.mono (by simp))).trans (S7.out.mono (by simp))⟩

  · go_simp
    refine (or_some _ _ _).mono ?_
    rintro e v1 ⟨rfl, hww⟩
    subst v1
    go_wp2_with fail
    refine hK.out _ _ ?_ (fun hHeld => ?_)
    · exact hHeld
    clear hK K
    try simp only [Act.put, List.setIfInBounds_toArray, List.set_cons_zero, List.set_cons_succ]
    refine take_at 18 (v := ?_) (some 51) rfl rfl (by kernel_rfl) (by kernel_rfl) (by kernel_rfl) (fun _ _ _ h => h) (Or.inl ⟨by rfl, ?_⟩) hHeld ?_
    rotate_left
    · (intro w hSw; (try dsimp only at hSw); go_simp; (try with_reducible rfl))
    simp only [Act.put, List.setIfInBounds_toArray, List.set_cons_zero, List.set_cons_succ]
    refine take_at 19 (v := ?_) (some 52) rfl rfl (by kernel_rfl) (by kernel_rfl) (by kernel_rfl) (fun _ _ _ h => h) (Or.inl ⟨by rfl, ?_⟩) hHeld ?_
    rotate_left
    · (intro w hSw; (try dsimp only at hSw); go_simp; (try with_reducible rfl))
    simp only [Act.put, List.setIfInBounds_toArray, List.set_cons_zero, List.set_cons_succ]
    refine take_at 20 (v := ?_) (some 53) rfl rfl (by kernel_rfl) (by kernel_rfl) (by kernel_rfl) (fun _ _ _ h => h) (Or.inl ⟨by rfl, ?_⟩) hHeld ?_
    rotate_left
    · (intro w hSw; (try dsimp only at hSw); go_simp; (try with_reducible rfl))
    simp only [Act.put, List.setIfInBounds_toArray, List.set_cons_zero, List.set_cons_succ]
    refine wpAnyH_ready (rs := [4, 21]) (by kernel_rfl) (by simp) ?_
    refine AllReadyH.cons rfl (fun K hK => ?_) (AllReadyH.cons rfl (fun K hK => ?_) AllReadyH.nil)
    · have a3 : W1.drew.cell? ⟨rb, 3, none⟩ = some av := HR.out.cells.2.2.2.1
      go_simp
      refine hK.out _ _ ?_ (fun hHeld => ?_)
      · exact hHeld
      clear hK K a3
      try simp only [Act.put, List.setIfInBounds_toArray, List.set_cons_zero, List.set_cons_succ]
      refine wpAnyH_ready (rs := [21]) (by kernel_rfl) (by simp) ?_
      refine AllReadyH.cons rfl (fun K hK => ?_) AllReadyH.nil
      go_simp
      refine (load_any (bs + k) b g zs _ (show Pm W1.drew b g zs from HP.out)).mono ?_
      rintro e v2 ⟨rfl, hB⟩
      have HP2 := Lib.hid (show Pm v2 b g zs from Pm.below (show Pm W1.drew b g zs from HP.out) hB)
      have HF2 := Lib.hid (show Fr [] W1 v2 from ((Fr.refl [] W1).drew).trans (.of hB))
      have HO2 := Lib.hid (own_fr HO.out HF2.out (by simp))
      have HY := Lib.hid (getE_succ zs bs k)
      have HR2 := Lib.hid (HR.out.fr HF2.out (by simp))
      clear hB
      generalize ldv zs (bs + k) = y at *
      go_wp2_with fail
      refine hK.out _ _ ?_ (fun hHeld => ?_)
      · exact ⟨HR2.out.cells.1, HR2.out.cells.2.2.2.2.2⟩
      clear hK K
      try simp only [Act.put, List.setIfInBounds_toArray, List.set_cons_zero, List.set_cons_succ]
      refine wpAnyH_ready (rs := [22]) (by kernel_rfl) (by simp) ?_
      refine AllReadyH.cons rfl (fun K hK => ?_) AllReadyH.nil
      go_simp
      have HR3 := Lib.hid (HR2.out.alloc (.cells #[.int .u64 y] 29))
      refine hK.out _ _ ?_ (fun hHeld => ?_)
      · exact ⟨HR3.out.cells.1, HR3.out.cells.2.2.2.2.2⟩
      clear hK K
      try simp only [Act.put, List.setIfInBounds_toArray, List.set_cons_zero, List.set_cons_succ]
      refine wpAnyH_ready (rs := [23]) (by kernel_rfl) (by simp) ?_
      refine AllReadyH.cons rfl (fun K hK => ?_) AllReadyH.nil
      refine step_append_lies _ (by rfl) _ _ _ (by rfl) N 29 i0 (.int .u64 0) 1 8 Try.underlying22 hi hz0 hz1 hz2 rfl (by decide) _ k _ (by rfl) (HO2.out.alloc _) ⟨v2.heap.size, 0, none⟩ 1 1 [.int .u64 y] (by rfl) (by rfl) (cell_new1 _ _ _) (by simp [Value.oneCell']) (by decide) (by unfold maxLen; omega) (by omega) (by have := HF2.out.size; have := HF1.out.size; have := HN.out.2.2; rw [World.size_alloc]; omega) (v2.heap.size + 1) (by simp) ?_
      intro g4 cap4 v4 hown4 hgrow4 hat4 hlt4
      have hf4 := fr_grown hgrow4
      have HR4 := Lib.hid (HR2.out.fr hf4 (own_ne HO2.out HR2.out (by decide)))
      have HP4 := Lib.hid (show Pm v4 b g zs from ⟨HP2.out.1.fr hf4 (fun hm => by have := (HO2.out.lt b (rowB_mem.1 hm)).1; have := HN.out; omega), HP2.out.2.1.fr hf4 (fun hm => by have := (HO2.out.lt g (rowB_mem.1 hm)).1; have := HN.out; omega), HP2.out.2.2⟩)
      have HO4 := Lib.hid (show v4.ownsRow N 29 1 (.slice (some ⟨g4, 0, none⟩) (k + 1) cap4) (k + 1) ((getE zs bs (k + 1)).map (Value.int .u64)) by rw [HY.out, List.map_append]; exact hown4)
      have HF4 := Lib.hid ((HF2.out.mono (by simp)).trans hf4)
      have HNE := Lib.hid (own_ne HO4.out HR4.out (by decide))
      clear hown4 hgrow4 hf4
      refine hK.out _ _ ?_ (fun hHeld => ?_)
      · exact ⟨HR4.out.cells.1, HR4.out.cells.2.2.2.2.2⟩
      clear hK K
      try simp only [Act.put, List.setIfInBounds_toArray]
      refine take_at 24 (v := ?_) (some 57) rfl rfl (by kernel_rfl) (by kernel_rfl) (by kernel_rfl) (fun _ _ _ h => h) (Or.inl ⟨by rfl, ?_⟩) hHeld ?_
      rotate_left
      · (intro w hSw; (try dsimp only at hSw); go_simp; (try with_reducible rfl))
      simp only [Act.put]
      refine take_at 25 (v := ?_) (some 58) rfl rfl (by kernel_rfl) (by kernel_rfl) (by kernel_rfl) (fun _ _ _ h => h) (Or.inl ⟨by rfl, ?_⟩) hHeld ?_
      rotate_left
      · (intro w hSw; (try dsimp only at hSw); go_simp; (try with_reducible rfl))
      simp only [Act.put]
      refine wpAnyH_ready (rs := [26]) (by kernel_rfl) (by simp) ?_
      refine AllReadyH.cons rfl (fun K hK => ?_) AllReadyH.nil
      have fz := Bk.free HR4.out 3
      have a3 : v4.cell? ⟨rb, 3, none⟩ = some av := HR4.out.cells.2.2.2.1
      go_simp
      refine hK.out _ _ ?_ (fun hHeld => ?_)
      · (try dsimp only at hHeld ⊢)
        exact ⟨set_other hHeld.1 (.inr (by simp)), set_other hHeld.2 (.inr (by simp))⟩
      clear hK K hHeld a3 fz
      try simp only [Act.put, List.setIfInBounds_toArray, List.set_cons_zero, List.set_cons_succ]
      refine wpAnyH_done (by kernel_rfl) ?_ _
      try go_split_ands
      have HS5 := Lib.hid (show Fr [rb] v4 (v4.setCell ⟨rb, 3, none⟩ (.slice (some ⟨g4, 0, none⟩) (k + 1) cap4)) from (Fr.refl _ _).set (by simp) _)
      have HR5 := Lib.hid (show Rd (v4.setCell ⟨rb, 3, none⟩ (.slice (some ⟨g4, 0, none⟩) (k + 1) cap4)) rb bs wh n (.slice (some ⟨g4, 0, none⟩) (k + 1) cap4) false k from by simpa [Rd] using Bk.set HR4.out 3 (.slice (some ⟨g4, 0, none⟩) (k + 1) cap4))
      have HP5 := Lib.hid (show Pm (v4.setCell ⟨rb, 3, none⟩ (.slice (some ⟨g4, 0, none⟩) (k + 1) cap4)) b g zs from ⟨HP4.out.1.fr HS5.out (by simp; exact fun e => HRB.out.1 e.symm), HP4.out.2.1.fr HS5.out (by simp; exact fun e => HRB.out.2 e.symm), HP4.out.2.2⟩)
      have HO5 := Lib.hid (own_fr HO4.out HS5.out (fun i hi hm => HNE.out (by rw [List.mem_singleton.1 hm] at hi; exact rowB_mem.2 hi)))
      have HF5 := Lib.hid (show Fr (rb :: rowB av) w (v4.setCell ⟨rb, 3, none⟩ (.slice (some ⟨g4, 0, none⟩) (k + 1) cap4)) from (HF1.out.trans (HF4.out.mono (fun i hi => List.mem_cons_of_mem _ hi))).trans (HS5.out.mono (by simp)))
      have HNE5 := Lib.hid (own_ne HO5.out HR5.out (by decide))
      generalize (v4.setCell ⟨rb, 3, none⟩ (.slice (some ⟨g4, 0, none⟩) (k + 1) cap4)) = W5 at *
      generalize (Value.slice (some ⟨g4, 0, none⟩) (k + 1) cap4) = av4 at *
      clear HF4 HO4 HNE HP4 HR4 HF2 HO2 HP2 HR2 HR3 HY
      have y5 := HR5.out.cells.2.2.2.2.2
      have fz5 := Bk.free HR5.out 5
      go_wp2_with fail
      refine wp_gen (fun W => Rd W rb bs wh n av4 false (k + 1 : Nat) ∧ W.ownsRow N 29 1 av4 (k + 1) ((getE zs bs (k + 1)).map (Value.int .u64)) ∧ Pm W b g zs ∧ Fr (rb :: rowB av) w W) ?_ ?_
      · have S6 : Fr [rb] W5 (W5.setCell ⟨rb, 5, none⟩ (.int .i64 ((k : Int) + 1))) := (Fr.refl _ _).set (by simp) _
        exact ⟨by simpa [Rd] using Bk.set HR5.out 5 (.int .i64 ((k : Int) + 1)), own_fr HO5.out S6 (fun i hi hm => HNE5.out (by rw [List.mem_singleton.1 hm] at hi; exact rowB_mem.2 hi)), ⟨HP5.out.1.fr S6 (by simp; exact fun e => HRB.out.1 e.symm), HP5.out.2.1.fr S6 (by simp; exact fun e => HRB.out.2 e.symm), HP5.out.2.2⟩, HF5.out.trans (S6.mono (by simp))⟩
      intro W6 ⟨hr, hrow, hp, hf⟩
      clear y5 fz5 HR5 HO5 HP5 HF5 HS5 HNE5
      have HR6 := Lib.hid hr
      have HO6 := Lib.hid hrow
      have HP6 := Lib.hid hp
      have HF6 := Lib.hid hf
      have HNE6 := Lib.hid (own_ne hrow hr (by decide))
      obtain ⟨c0, c1, c2, c3, c4, c5⟩ := hr.cells
      clear hr hrow hp hf c3 c4
      refine wp_region_held_drew (S := (fun w' => w'.cell? ⟨rb, 0, none⟩ = some (.int .i64 bs) ∧ w'.cell? ⟨rb, 1, none⟩ = some (.int .i64 wh) ∧ w'.cell? ⟨rb, 2, none⟩ = some (.int .i64 n) ∧ w'.cell? ⟨rb, 5, none⟩ = some (.int .i64 ((k + 1 : Nat) : Int)))) (by kernel_rfl) ?_ (fun hHeld => ?_)
      · exact ⟨c0, c1, c2, c5⟩
      refine take_at 0 (v := ?_) (some 68) rfl rfl (by kernel_rfl) (by kernel_rfl) (by kernel_rfl) (fun _ _ _ h => h) (Or.inl ⟨by rfl, ?_⟩) hHeld ?_
      rotate_left
      · (intro w hSw; (try dsimp only at hSw); go_simp; (try with_reducible rfl))
      simp only [Act.put, List.setIfInBounds_toArray, List.set_cons_zero, List.set_cons_succ]
      refine take_at 1 (v := ?_) (some 69) rfl rfl (by kernel_rfl) (by kernel_rfl) (by kernel_rfl) (fun _ _ _ h => h) (Or.inl ⟨by rfl, ?_⟩) hHeld ?_
      rotate_left
      · (intro w hSw; (try dsimp only at hSw); go_simp; (try with_reducible rfl))
      simp only [Act.put, List.setIfInBounds_toArray, List.set_cons_zero, List.set_cons_succ]
      refine take_at 2 (v := ?_) (some 70) rfl rfl (by kernel_rfl) (by kernel_rfl) (by kernel_rfl) (fun _ _ _ h => h) (Or.inl ⟨by rfl, ?_⟩) hHeld ?_
      rotate_left
      · (intro w hSw; (try dsimp only at hSw); go_simp; (try with_reducible rfl))
      simp only [Act.put, List.setIfInBounds_toArray, List.set_cons_zero, List.set_cons_succ]
      refine take_at 3 (v := ?_) (some 71) rfl rfl (by kernel_rfl) (by kernel_rfl) (by kernel_rfl) (fun _ _ _ h => h) (Or.inl ⟨by rfl, ?_⟩) hHeld ?_
      rotate_left
      · (intro w hSw; (try dsimp only at hSw); go_simp; (try with_reducible rfl))
      simp only [Act.put, List.setIfInBounds_toArray, List.set_cons_zero, List.set_cons_succ]
      refine take_at 4 (v := ?_) (some 72) rfl rfl (by kernel_rfl) (by kernel_rfl) (by kernel_rfl) (fun _ _ _ h => h) (Or.inl ⟨by rfl, ?_⟩) hHeld ?_
      rotate_left
      · (intro w hSw; (try dsimp only at hSw); go_simp; (try with_reducible rfl))
      simp only [Act.put, List.setIfInBounds_toArray, List.set_cons_zero, List.set_cons_succ]
      refine take_at 5 (v := ?_) (some 73) rfl rfl (by kernel_rfl) (by kernel_rfl) (by kernel_rfl) (fun _ _ _ h => h) (Or.inl ⟨by rfl, ?_⟩) hHeld ?_
      rotate_left
      · (intro w hSw; (try dsimp only at hSw); go_simp; (try with_reducible rfl))
      simp only [Act.put, List.setIfInBounds_toArray, List.set_cons_zero, List.set_cons_succ]
      refine take_at 6 (v := ?_) (some 74) rfl rfl (by kernel_rfl) (by kernel_rfl) (by kernel_rfl) (fun _ _ _ h => h) (Or.inl ⟨by rfl, ?_⟩) hHeld ?_
      rotate_left
      · (intro w hSw; (try dsimp only at hSw); go_simp; (try with_reducible rfl))
      simp only [Act.put, List.setIfInBounds_toArray, List.set_cons_zero, List.set_cons_succ]
      refine take_at 7 (v := ?_) (some 75) rfl rfl (by kernel_rfl) (by kernel_rfl) (by kernel_rfl) (fun _ _ _ h => h) (Or.inl ⟨by rfl, ?_⟩) hHeld ?_
      rotate_left
      · (intro w hSw; (try dsimp only at hSw); go_simp; (try with_reducible rfl))
      simp only [Act.put, List.setIfInBounds_toArray, List.set_cons_zero, List.set_cons_succ]
      refine wpAnyH_ready (rs := [8]) (by kernel_rfl) (by simp) ?_
      refine AllReadyH.cons rfl (fun K hK => ?_) AllReadyH.nil
      go_simp
      refine (over_any rb 5 ((k + 1 : Nat) : Int) bs wh n _ (show W6.drew.cell? ⟨rb, 5, none⟩ = _ from HR6.out.cells.2.2.2.2.2)).mono ?_; rintro e v1 ⟨rfl, hB⟩; have HFv := Lib.hid (show Fr [] W6 v1 from ((Fr.refl [] W6).drew).trans (.of hB)); have HRv := Lib.hid (HR6.out.fr HFv.out (by simp)); rw [HQ.out, hdz]; clear hB
      go_wp2_with fail
      refine hK.out _ _ ?_ (fun hHeld => ?_)
      · (try dsimp only at hHeld ⊢)
        go_split_ands
        exact ⟨HRv.out.cells.1, HRv.out.cells.2.1, HRv.out.cells.2.2.1, HRv.out.cells.2.2.2.2.2⟩
      clear hK K
      try simp only [Act.put, List.setIfInBounds_toArray, List.set_cons_zero, List.set_cons_succ]
      refine take_at 9 (v := ?_) (some 77) rfl rfl (by kernel_rfl) (by kernel_rfl) (by kernel_rfl) (fun _ _ _ h => h) (Or.inl ⟨by rfl, ?_⟩) hHeld ?_
      rotate_left
      · (intro w hSw; (try dsimp only at hSw); go_simp; (try with_reducible rfl))
      simp only [Act.put, List.setIfInBounds_toArray, List.set_cons_zero, List.set_cons_succ]
      refine take_at 10 (v := ?_) (some 78) rfl rfl (by kernel_rfl) (by kernel_rfl) (by kernel_rfl) (fun _ _ _ h => h) (Or.inl ⟨by rfl, ?_⟩) hHeld ?_
      rotate_left
      · (intro w hSw; (try dsimp only at hSw); go_simp; (try with_reducible rfl))
      simp only [Act.put, List.setIfInBounds_toArray, List.set_cons_zero, List.set_cons_succ]

      clear c0 c1 c2 c5
      have HR7 := Lib.hid HRv.out
      have c4 := HRv.out.cells.2.2.2.2.1
      have fz4 := Bk.free HRv.out 4
      refine wpAnyH_ready (rs := [11]) (by kernel_rfl) (by simp) ?_
      refine AllReadyH.cons rfl (fun K hK => ?_) AllReadyH.nil
      go_simp
      refine hK.out _ _ ?_ (fun hHeld => ?_)
      · (try dsimp only at hHeld ⊢)
        exact ⟨set_other hHeld.1 (.inr (by simp)), set_other hHeld.2.1 (.inr (by simp)), set_other hHeld.2.2.1 (.inr (by simp)), set_other hHeld.2.2.2 (.inr (by simp))⟩
      clear hK K hHeld
      try simp only [Act.put]
      refine wpAnyH_done (by kernel_rfl) ?_ _
      have S7 := Lib.hid (show Fr [rb] v1 (v1.setCell ⟨rb, 4, none⟩ (.bool z)) from (Fr.refl _ _).set (by simp) _)
      have HR8 := Lib.hid (show Rd (v1.setCell ⟨rb, 4, none⟩ (.bool z)) rb bs wh n av4 z (k + 1 : Nat) from by simpa [Rd] using Bk.set HR7.out 4 (.bool z))
      have c4 := HR8.out.cells.2.2.2.2.1
      go_wp2_with fail
      go_ret
      exact ⟨_, by rw [HZ.out]; rfl, by rw [← HZ.out]; exact HR8.out, own_fr (own_fr HO6.out HFv.out (by simp)) S7.out (fun i hi hm => HNE6.out (by rw [List.mem_singleton.1 hm] at hi; exact rowB_mem.2 hi)), ⟨(HP6.out.1.fr HFv.out (by simp)).fr S7.out (by simp; exact fun e => HRB.out.1 e.symm), (HP6.out.2.1.fr HFv.out (by simp)).fr S7.out (by simp; exact fun e => HRB.out.2 e.symm), HP6.out.2.2⟩, (HF6.out.trans (HFv.out.mono (by simp))).trans (S7.out.mono (by simp))⟩

    · go_simp
      refine (load_any (bs + k) b g zs _ (show Pm W1.drew b g zs from HP.out)).mono ?_
      rintro e v2 ⟨rfl, hB⟩
      have HP2 := Lib.hid (show Pm v2 b g zs from Pm.below (show Pm W1.drew b g zs from HP.out) hB)
      have HF2 := Lib.hid (show Fr [] W1 v2 from ((Fr.refl [] W1).drew).trans (.of hB))
      have HO2 := Lib.hid (own_fr HO.out HF2.out (by simp))
      have HY := Lib.hid (getE_succ zs bs k)
      have HR2 := Lib.hid (HR.out.fr HF2.out (by simp))
      clear hB
      generalize ldv zs (bs + k) = y at *
      go_wp2_with fail
      refine hK.out _ _ ?_ (fun hHeld => ?_)
      · exact ⟨HR2.out.cells.1, HR2.out.cells.2.2.2.2.2⟩
      clear hK K
      try simp only [Act.put, List.setIfInBounds_toArray, List.set_cons_zero, List.set_cons_succ]
      refine wpAnyH_ready (rs := [4, 22]) (by kernel_rfl) (by simp) ?_
      refine AllReadyH.cons rfl (fun K hK => ?_) (AllReadyH.cons rfl (fun K hK => ?_) AllReadyH.nil)
      · have a3 : v2.cell? ⟨rb, 3, none⟩ = some av := HR2.out.cells.2.2.2.1
        go_simp
        refine hK.out _ _ ?_ (fun hHeld => ?_)
        · exact hHeld
        clear hK K a3
        try simp only [Act.put, List.setIfInBounds_toArray, List.set_cons_zero, List.set_cons_succ]
        refine wpAnyH_ready (rs := [22]) (by kernel_rfl) (by simp) ?_
        refine AllReadyH.cons rfl (fun K hK => ?_) AllReadyH.nil
        go_simp
        have HR3 := Lib.hid (HR2.out.alloc (.cells #[.int .u64 y] 29))
        refine hK.out _ _ ?_ (fun hHeld => ?_)
        · exact ⟨HR3.out.cells.1, HR3.out.cells.2.2.2.2.2⟩
        clear hK K
        try simp only [Act.put, List.setIfInBounds_toArray, List.set_cons_zero, List.set_cons_succ]
        refine wpAnyH_ready (rs := [23]) (by kernel_rfl) (by simp) ?_
        refine AllReadyH.cons rfl (fun K hK => ?_) AllReadyH.nil
        refine step_append_lies _ (by rfl) _ _ _ (by rfl) N 29 i0 (.int .u64 0) 1 8 Try.underlying22 hi hz0 hz1 hz2 rfl (by decide) _ k _ (by rfl) (HO2.out.alloc _) ⟨v2.heap.size, 0, none⟩ 1 1 [.int .u64 y] (by rfl) (by rfl) (cell_new1 _ _ _) (by simp [Value.oneCell']) (by decide) (by unfold maxLen; omega) (by omega) (by have := HF2.out.size; have := HF1.out.size; have := HN.out.2.2; rw [World.size_alloc]; omega) (v2.heap.size + 1) (by simp) ?_
        intro g4 cap4 v4 hown4 hgrow4 hat4 hlt4
        have hf4 := fr_grown hgrow4
        have HR4 := Lib.hid (HR2.out.fr hf4 (own_ne HO2.out HR2.out (by decide)))
        have HP4 := Lib.hid (show Pm v4 b g zs from ⟨HP2.out.1.fr hf4 (fun hm => by have := (HO2.out.lt b (rowB_mem.1 hm)).1; have := HN.out; omega), HP2.out.2.1.fr hf4 (fun hm => by have := (HO2.out.lt g (rowB_mem.1 hm)).1; have := HN.out; omega), HP2.out.2.2⟩)
        have HO4 := Lib.hid (show v4.ownsRow N 29 1 (.slice (some ⟨g4, 0, none⟩) (k + 1) cap4) (k + 1) ((getE zs bs (k + 1)).map (Value.int .u64)) by rw [HY.out, List.map_append]; exact hown4)
        have HF4 := Lib.hid ((HF2.out.mono (by simp)).trans hf4)
        have HNE := Lib.hid (own_ne HO4.out HR4.out (by decide))
        clear hown4 hgrow4 hf4
        refine hK.out _ _ ?_ (fun hHeld => ?_)
        · exact ⟨HR4.out.cells.1, HR4.out.cells.2.2.2.2.2⟩
        clear hK K
        try simp only [Act.put, List.setIfInBounds_toArray]
        refine take_at 24 (v := ?_) (some 57) rfl rfl (by kernel_rfl) (by kernel_rfl) (by kernel_rfl) (fun _ _ _ h => h) (Or.inl ⟨by rfl, ?_⟩) hHeld ?_
        rotate_left
        · (intro w hSw; (try dsimp only at hSw); go_simp; (try with_reducible rfl))
        simp only [Act.put]
        refine take_at 25 (v := ?_) (some 58) rfl rfl (by kernel_rfl) (by kernel_rfl) (by kernel_rfl) (fun _ _ _ h => h) (Or.inl ⟨by rfl, ?_⟩) hHeld ?_
        rotate_left
        · (intro w hSw; (try dsimp only at hSw); go_simp; (try with_reducible rfl))
        simp only [Act.put]
        refine wpAnyH_ready (rs := [26]) (by kernel_rfl) (by simp) ?_
        refine AllReadyH.cons rfl (fun K hK => ?_) AllReadyH.nil
        have fz := Bk.free HR4.out 3
        have a3 : v4.cell? ⟨rb, 3, none⟩ = some av := HR4.out.cells.2.2.2.1
        go_simp
        refine hK.out _ _ ?_ (fun hHeld => ?_)
        · (try dsimp only at hHeld ⊢)
          exact ⟨set_other hHeld.1 (.inr (by simp)), set_other hHeld.2 (.inr (by simp))⟩
        clear hK K hHeld a3 fz
        try simp only [Act.put, List.setIfInBounds_toArray, List.set_cons_zero, List.set_cons_succ]
        refine wpAnyH_done (by kernel_rfl) ?_ _
        try go_split_ands
        have HS5 := Lib.hid (show Fr [rb] v4 (v4.setCell ⟨rb, 3, none⟩ (.slice (some ⟨g4, 0, none⟩) (k + 1) cap4)) from (Fr.refl _ _).set (by simp) _)
        have HR5 := Lib.hid (show Rd (v4.setCell ⟨rb, 3, none⟩ (.slice (some ⟨g4, 0, none⟩) (k + 1) cap4)) rb bs wh n (.slice (some ⟨g4, 0, none⟩) (k + 1) cap4) false k from by simpa [Rd] using Bk.set HR4.out 3 (.slice (some ⟨g4, 0, none⟩) (k + 1) cap4))
        have HP5 := Lib.hid (show Pm (v4.setCell ⟨rb, 3, none⟩ (.slice (some ⟨g4, 0, none⟩) (k + 1) cap4)) b g zs from ⟨HP4.out.1.fr HS5.out (by simp; exact fun e => HRB.out.1 e.symm), HP4.out.2.1.fr HS5.out (by simp; exact fun e => HRB.out.2 e.symm), HP4.out.2.2⟩)
        have HO5 := Lib.hid (own_fr HO4.out HS5.out (fun i hi hm => HNE.out (by rw [List.mem_singleton.1 hm] at hi; exact rowB_mem.2 hi)))
        have HF5 := Lib.hid (show Fr (rb :: rowB av) w (v4.setCell ⟨rb, 3, none⟩ (.slice (some ⟨g4, 0, none⟩) (k + 1) cap4)) from (HF1.out.trans (HF4.out.mono (fun i hi => List.mem_cons_of_mem _ hi))).trans (HS5.out.mono (by simp)))
        have HNE5 := Lib.hid (own_ne HO5.out HR5.out (by decide))
        generalize (v4.setCell ⟨rb, 3, none⟩ (.slice (some ⟨g4, 0, none⟩) (k + 1) cap4)) = W5 at *
        generalize (Value.slice (some ⟨g4, 0, none⟩) (k + 1) cap4) = av4 at *
        clear HF4 HO4 HNE HP4 HR4 HF2 HO2 HP2 HR2 HR3 HY
        have y5 := HR5.out.cells.2.2.2.2.2
        have fz5 := Bk.free HR5.out 5
        go_wp2_with fail
        refine wp_gen (fun W => Rd W rb bs wh n av4 false (k + 1 : Nat) ∧ W.ownsRow N 29 1 av4 (k + 1) ((getE zs bs (k + 1)).map (Value.int .u64)) ∧ Pm W b g zs ∧ Fr (rb :: rowB av) w W) ?_ ?_
        · have S6 : Fr [rb] W5 (W5.setCell ⟨rb, 5, none⟩ (.int .i64 ((k : Int) + 1))) := (Fr.refl _ _).set (by simp) _
          exact ⟨by simpa [Rd] using Bk.set HR5.out 5 (.int .i64 ((k : Int) + 1)), own_fr HO5.out S6 (fun i hi hm => HNE5.out (by rw [List.mem_singleton.1 hm] at hi; exact rowB_mem.2 hi)), ⟨HP5.out.1.fr S6 (by simp; exact fun e => HRB.out.1 e.symm), HP5.out.2.1.fr S6 (by simp; exact fun e => HRB.out.2 e.symm), HP5.out.2.2⟩, HF5.out.trans (S6.mono (by simp))⟩
        intro W6 ⟨hr, hrow, hp, hf⟩
        clear y5 fz5 HR5 HO5 HP5 HF5 HS5 HNE5
        have HR6 := Lib.hid hr
        have HO6 := Lib.hid hrow
        have HP6 := Lib.hid hp
        have HF6 := Lib.hid hf
        have HNE6 := Lib.hid (own_ne hrow hr (by decide))
        obtain ⟨c0, c1, c2, c3, c4, c5⟩ := hr.cells
        clear hr hrow hp hf c3 c4
        refine wp_region_held_drew (S := (fun w' => w'.cell? ⟨rb, 0, none⟩ = some (.int .i64 bs) ∧ w'.cell? ⟨rb, 1, none⟩ = some (.int .i64 wh) ∧ w'.cell? ⟨rb, 2, none⟩ = some (.int .i64 n) ∧ w'.cell? ⟨rb, 5, none⟩ = some (.int .i64 ((k + 1 : Nat) : Int)))) (by kernel_rfl) ?_ (fun hHeld => ?_)
        · exact ⟨c0, c1, c2, c5⟩
        refine take_at 0 (v := ?_) (some 68) rfl rfl (by kernel_rfl) (by kernel_rfl) (by kernel_rfl) (fun _ _ _ h => h) (Or.inl ⟨by rfl, ?_⟩) hHeld ?_
        rotate_left
        · (intro w hSw; (try dsimp only at hSw); go_simp; (try with_reducible rfl))
        simp only [Act.put, List.setIfInBounds_toArray, List.set_cons_zero, List.set_cons_succ]
        refine take_at 1 (v := ?_) (some 69) rfl rfl (by kernel_rfl) (by kernel_rfl) (by kernel_rfl) (fun _ _ _ h => h) (Or.inl ⟨by rfl, ?_⟩) hHeld ?_
        rotate_left
        · (intro w hSw; (try dsimp only at hSw); go_simp; (try with_reducible rfl))
        simp only [Act.put, List.setIfInBounds_toArray, List.set_cons_zero, List.set_cons_succ]
        refine take_at 2 (v := ?_) (some 70) rfl rfl (by kernel_rfl) (by kernel_rfl) (by kernel_rfl) (fun _ _ _ h => h) (Or.inl ⟨by rfl, ?_⟩) hHeld ?_
        rotate_left
        · (intro w hSw; (try dsimp only at hSw); go_simp; (try with_reducible rfl))
        simp only [Act.put, List.setIfInBounds_toArray, List.set_cons_zero, List.set_cons_succ]
        refine take_at 3 (v := ?_) (some 71) rfl rfl (by kernel_rfl) (by kernel_rfl) (by kernel_rfl) (fun _ _ _ h => h) (Or.inl ⟨by rfl, ?_⟩) hHeld ?_
        rotate_left
        · (intro w hSw; (try dsimp only at hSw); go_simp; (try with_reducible rfl))
        simp only [Act.put, List.setIfInBounds_toArray, List.set_cons_zero, List.set_cons_succ]
        refine take_at 4 (v := ?_) (some 72) rfl rfl (by kernel_rfl) (by kernel_rfl) (by kernel_rfl) (fun _ _ _ h => h) (Or.inl ⟨by rfl, ?_⟩) hHeld ?_
        rotate_left
        · (intro w hSw; (try dsimp only at hSw); go_simp; (try with_reducible rfl))
        simp only [Act.put, List.setIfInBounds_toArray, List.set_cons_zero, List.set_cons_succ]
        refine take_at 5 (v := ?_) (some 73) rfl rfl (by kernel_rfl) (by kernel_rfl) (by kernel_rfl) (fun _ _ _ h => h) (Or.inl ⟨by rfl, ?_⟩) hHeld ?_
        rotate_left
        · (intro w hSw; (try dsimp only at hSw); go_simp; (try with_reducible rfl))
        simp only [Act.put, List.setIfInBounds_toArray, List.set_cons_zero, List.set_cons_succ]
        refine take_at 6 (v := ?_) (some 74) rfl rfl (by kernel_rfl) (by kernel_rfl) (by kernel_rfl) (fun _ _ _ h => h) (Or.inl ⟨by rfl, ?_⟩) hHeld ?_
        rotate_left
        · (intro w hSw; (try dsimp only at hSw); go_simp; (try with_reducible rfl))
        simp only [Act.put, List.setIfInBounds_toArray, List.set_cons_zero, List.set_cons_succ]
        refine take_at 7 (v := ?_) (some 75) rfl rfl (by kernel_rfl) (by kernel_rfl) (by kernel_rfl) (fun _ _ _ h => h) (Or.inl ⟨by rfl, ?_⟩) hHeld ?_
        rotate_left
        · (intro w hSw; (try dsimp only at hSw); go_simp; (try with_reducible rfl))
        simp only [Act.put, List.setIfInBounds_toArray, List.set_cons_zero, List.set_cons_succ]
        refine wpAnyH_ready (rs := [8]) (by kernel_rfl) (by simp) ?_
        refine AllReadyH.cons rfl (fun K hK => ?_) AllReadyH.nil
        go_simp
        refine (over_any rb 5 ((k + 1 : Nat) : Int) bs wh n _ (show W6.drew.cell? ⟨rb, 5, none⟩ = _ from HR6.out.cells.2.2.2.2.2)).mono ?_; rintro e v1 ⟨rfl, hB⟩; have HFv := Lib.hid (show Fr [] W6 v1 from ((Fr.refl [] W6).drew).trans (.of hB)); have HRv := Lib.hid (HR6.out.fr HFv.out (by simp)); rw [HQ.out, hdz]; clear hB
        go_wp2_with fail
        refine hK.out _ _ ?_ (fun hHeld => ?_)
        · (try dsimp only at hHeld ⊢)
          go_split_ands
          exact ⟨HRv.out.cells.1, HRv.out.cells.2.1, HRv.out.cells.2.2.1, HRv.out.cells.2.2.2.2.2⟩
        clear hK K
        try simp only [Act.put, List.setIfInBounds_toArray, List.set_cons_zero, List.set_cons_succ]
        refine take_at 9 (v := ?_) (some 77) rfl rfl (by kernel_rfl) (by kernel_rfl) (by kernel_rfl) (fun _ _ _ h => h) (Or.inl ⟨by rfl, ?_⟩) hHeld ?_
        rotate_left
        · (intro w hSw; (try dsimp only at hSw); go_simp; (try with_reducible rfl))
        simp only [Act.put, List.setIfInBounds_toArray, List.set_cons_zero, List.set_cons_succ]
        refine take_at 10 (v := ?_) (some 78) rfl rfl (by kernel_rfl) (by kernel_rfl) (by kernel_rfl) (fun _ _ _ h => h) (Or.inl ⟨by rfl, ?_⟩) hHeld ?_
        rotate_left
        · (intro w hSw; (try dsimp only at hSw); go_simp; (try with_reducible rfl))
        simp only [Act.put, List.setIfInBounds_toArray, List.set_cons_zero, List.set_cons_succ]

        clear c0 c1 c2 c5
        have HR7 := Lib.hid HRv.out
        have c4 := HRv.out.cells.2.2.2.2.1
        have fz4 := Bk.free HRv.out 4
        refine wpAnyH_ready (rs := [11]) (by kernel_rfl) (by simp) ?_
        refine AllReadyH.cons rfl (fun K hK => ?_) AllReadyH.nil
        go_simp
        refine hK.out _ _ ?_ (fun hHeld => ?_)
        · (try dsimp only at hHeld ⊢)
          exact ⟨set_other hHeld.1 (.inr (by simp)), set_other hHeld.2.1 (.inr (by simp)), set_other hHeld.2.2.1 (.inr (by simp)), set_other hHeld.2.2.2 (.inr (by simp))⟩
        clear hK K hHeld
        try simp only [Act.put]
        refine wpAnyH_done (by kernel_rfl) ?_ _
        have S7 := Lib.hid (show Fr [rb] v1 (v1.setCell ⟨rb, 4, none⟩ (.bool z)) from (Fr.refl _ _).set (by simp) _)
        have HR8 := Lib.hid (show Rd (v1.setCell ⟨rb, 4, none⟩ (.bool z)) rb bs wh n av4 z (k + 1 : Nat) from by simpa [Rd] using Bk.set HR7.out 4 (.bool z))
        have c4 := HR8.out.cells.2.2.2.2.1
        go_wp2_with fail
        go_ret
        exact ⟨_, by rw [HZ.out]; rfl, by rw [← HZ.out]; exact HR8.out, own_fr (own_fr HO6.out HFv.out (by simp)) S7.out (fun i hi hm => HNE6.out (by rw [List.mem_singleton.1 hm] at hi; exact rowB_mem.2 hi)), ⟨(HP6.out.1.fr HFv.out (by simp)).fr S7.out (by simp; exact fun e => HRB.out.1 e.symm), (HP6.out.2.1.fr HFv.out (by simp)).fr S7.out (by simp; exact fun e => HRB.out.2 e.symm), HP6.out.2.2⟩, (HF6.out.trans (HFv.out.mono (by simp))).trans (S7.out.mono (by simp))⟩

      · go_simp
        have HR3 := Lib.hid (HR2.out.alloc (.cells #[.int .u64 y] 29))
        refine hK.out _ _ ?_ (fun hHeld => ?_)
        · exact ⟨HR3.out.cells.1, HR3.out.cells.2.2.2.2.2⟩
        clear hK K
        try simp only [Act.put, List.setIfInBounds_toArray, List.set_cons_zero, List.set_cons_succ]
        refine wpAnyH_ready (rs := [4]) (by kernel_rfl) (by simp) ?_
        refine AllReadyH.cons rfl (fun K hK => ?_) AllReadyH.nil
        have a3 : (v2.alloc (.cells #[.int .u64 y] 29)).cell? ⟨rb, 3, none⟩ = some av := HR3.out.cells.2.2.2.1
        go_simp
        refine hK.out _ _ ?_ (fun hHeld => ?_)
        · exact hHeld
        clear hK K a3
        try simp only [Act.put, List.setIfInBounds_toArray, List.set_cons_zero, List.set_cons_succ]
        refine wpAnyH_ready (rs := [23]) (by kernel_rfl) (by simp) ?_
        refine AllReadyH.cons rfl (fun K hK => ?_) AllReadyH.nil
        refine step_append_lies _ (by rfl) _ _ _ (by rfl) N 29 i0 (.int .u64 0) 1 8 Try.underlying22 hi hz0 hz1 hz2 rfl (by decide) _ k _ (by rfl) (HO2.out.alloc _) ⟨v2.heap.size, 0, none⟩ 1 1 [.int .u64 y] (by rfl) (by rfl) (cell_new1 _ _ _) (by simp [Value.oneCell']) (by decide) (by unfold maxLen; omega) (by omega) (by have := HF2.out.size; have := HF1.out.size; have := HN.out.2.2; rw [World.size_alloc]; omega) (v2.heap.size + 1) (by simp) ?_
        intro g4 cap4 v4 hown4 hgrow4 hat4 hlt4
        have hf4 := fr_grown hgrow4
        have HR4 := Lib.hid (HR2.out.fr hf4 (own_ne HO2.out HR2.out (by decide)))
        have HP4 := Lib.hid (show Pm v4 b g zs from ⟨HP2.out.1.fr hf4 (fun hm => by have := (HO2.out.lt b (rowB_mem.1 hm)).1; have := HN.out; omega), HP2.out.2.1.fr hf4 (fun hm => by have := (HO2.out.lt g (rowB_mem.1 hm)).1; have := HN.out; omega), HP2.out.2.2⟩)
        have HO4 := Lib.hid (show v4.ownsRow N 29 1 (.slice (some ⟨g4, 0, none⟩) (k + 1) cap4) (k + 1) ((getE zs bs (k + 1)).map (Value.int .u64)) by rw [HY.out, List.map_append]; exact hown4)
        have HF4 := Lib.hid ((HF2.out.mono (by simp)).trans hf4)
        have HNE := Lib.hid (own_ne HO4.out HR4.out (by decide))
        clear hown4 hgrow4 hf4
        refine hK.out _ _ ?_ (fun hHeld => ?_)
        · exact ⟨HR4.out.cells.1, HR4.out.cells.2.2.2.2.2⟩
        clear hK K
        try simp only [Act.put, List.setIfInBounds_toArray]
        refine take_at 24 (v := ?_) (some 57) rfl rfl (by kernel_rfl) (by kernel_rfl) (by kernel_rfl) (fun _ _ _ h => h) (Or.inl ⟨by rfl, ?_⟩) hHeld ?_
        rotate_left
        · (intro w hSw; (try dsimp only at hSw); go_simp; (try with_reducible rfl))
        simp only [Act.put]
        refine take_at 25 (v := ?_) (some 58) rfl rfl (by kernel_rfl) (by kernel_rfl) (by kernel_rfl) (fun _ _ _ h => h) (Or.inl ⟨by rfl, ?_⟩) hHeld ?_
        rotate_left
        · (intro w hSw; (try dsimp only at hSw); go_simp; (try with_reducible rfl))
        simp only [Act.put]
        refine wpAnyH_ready (rs := [26]) (by kernel_rfl) (by simp) ?_
        refine AllReadyH.cons rfl (fun K hK => ?_) AllReadyH.nil
        have fz := Bk.free HR4.out 3
        have a3 : v4.cell? ⟨rb, 3, none⟩ = some av := HR4.out.cells.2.2.2.1
        go_simp
        refine hK.out _ _ ?_ (fun hHeld => ?_)
        · (try dsimp only at hHeld ⊢)
          exact ⟨set_other hHeld.1 (.inr (by simp)), set_other hHeld.2 (.inr (by simp))⟩
        clear hK K hHeld a3 fz
        try simp only [Act.put, List.setIfInBounds_toArray, List.set_cons_zero, List.set_cons_succ]
        refine wpAnyH_done (by kernel_rfl) ?_ _
        try go_split_ands
        have HS5 := Lib.hid (show Fr [rb] v4 (v4.setCell ⟨rb, 3, none⟩ (.slice (some ⟨g4, 0, none⟩) (k + 1) cap4)) from (Fr.refl _ _).set (by simp) _)
        have HR5 := Lib.hid (show Rd (v4.setCell ⟨rb, 3, none⟩ (.slice (some ⟨g4, 0, none⟩) (k + 1) cap4)) rb bs wh n (.slice (some ⟨g4, 0, none⟩) (k + 1) cap4) false k from by simpa [Rd] using Bk.set HR4.out 3 (.slice (some ⟨g4, 0, none⟩) (k + 1) cap4))
        have HP5 := Lib.hid (show Pm (v4.setCell ⟨rb, 3, none⟩ (.slice (some ⟨g4, 0, none⟩) (k + 1) cap4)) b g zs from ⟨HP4.out.1.fr HS5.out (by simp; exact fun e => HRB.out.1 e.symm), HP4.out.2.1.fr HS5.out (by simp; exact fun e => HRB.out.2 e.symm), HP4.out.2.2⟩)
        have HO5 := Lib.hid (own_fr HO4.out HS5.out (fun i hi hm => HNE.out (by rw [List.mem_singleton.1 hm] at hi; exact rowB_mem.2 hi)))
        have HF5 := Lib.hid (show Fr (rb :: rowB av) w (v4.setCell ⟨rb, 3, none⟩ (.slice (some ⟨g4, 0, none⟩) (k + 1) cap4)) from (HF1.out.trans (HF4.out.mono (fun i hi => List.mem_cons_of_mem _ hi))).trans (HS5.out.mono (by simp)))
        have HNE5 := Lib.hid (own_ne HO5.out HR5.out (by decide))
        generalize (v4.setCell ⟨rb, 3, none⟩ (.slice (some ⟨g4, 0, none⟩) (k + 1) cap4)) = W5 at *
        generalize (Value.slice (some ⟨g4, 0, none⟩) (k + 1) cap4) = av4 at *
        clear HF4 HO4 HNE HP4 HR4 HF2 HO2 HP2 HR2 HR3 HY
        have y5 := HR5.out.cells.2.2.2.2.2
        have fz5 := Bk.free HR5.out 5
        go_wp2_with fail
        refine wp_gen (fun W => Rd W rb bs wh n av4 false (k + 1 : Nat) ∧ W.ownsRow N 29 1 av4 (k + 1) ((getE zs bs (k + 1)).map (Value.int .u64)) ∧ Pm W b g zs ∧ Fr (rb :: rowB av) w W) ?_ ?_
        · have S6 : Fr [rb] W5 (W5.setCell ⟨rb, 5, none⟩ (.int .i64 ((k : Int) + 1))) := (Fr.refl _ _).set (by simp) _
          exact ⟨by simpa [Rd] using Bk.set HR5.out 5 (.int .i64 ((k : Int) + 1)), own_fr HO5.out S6 (fun i hi hm => HNE5.out (by rw [List.mem_singleton.1 hm] at hi; exact rowB_mem.2 hi)), ⟨HP5.out.1.fr S6 (by simp; exact fun e => HRB.out.1 e.symm), HP5.out.2.1.fr S6 (by simp; exact fun e => HRB.out.2 e.symm), HP5.out.2.2⟩, HF5.out.trans (S6.mono (by simp))⟩
        intro W6 ⟨hr, hrow, hp, hf⟩
        clear y5 fz5 HR5 HO5 HP5 HF5 HS5 HNE5
        have HR6 := Lib.hid hr
        have HO6 := Lib.hid hrow
        have HP6 := Lib.hid hp
        have HF6 := Lib.hid hf
        have HNE6 := Lib.hid (own_ne hrow hr (by decide))
        obtain ⟨c0, c1, c2, c3, c4, c5⟩ := hr.cells
        clear hr hrow hp hf c3 c4
        refine wp_region_held_drew (S := (fun w' => w'.cell? ⟨rb, 0, none⟩ = some (.int .i64 bs) ∧ w'.cell? ⟨rb, 1, none⟩ = some (.int .i64 wh) ∧ w'.cell? ⟨rb, 2, none⟩ = some (.int .i64 n) ∧ w'.cell? ⟨rb, 5, none⟩ = some (.int .i64 ((k + 1 : Nat) : Int)))) (by kernel_rfl) ?_ (fun hHeld => ?_)
        · exact ⟨c0, c1, c2, c5⟩
        refine take_at 0 (v := ?_) (some 68) rfl rfl (by kernel_rfl) (by kernel_rfl) (by kernel_rfl) (fun _ _ _ h => h) (Or.inl ⟨by rfl, ?_⟩) hHeld ?_
        rotate_left
        · (intro w hSw; (try dsimp only at hSw); go_simp; (try with_reducible rfl))
        simp only [Act.put, List.setIfInBounds_toArray, List.set_cons_zero, List.set_cons_succ]
        refine take_at 1 (v := ?_) (some 69) rfl rfl (by kernel_rfl) (by kernel_rfl) (by kernel_rfl) (fun _ _ _ h => h) (Or.inl ⟨by rfl, ?_⟩) hHeld ?_
        rotate_left
        · (intro w hSw; (try dsimp only at hSw); go_simp; (try with_reducible rfl))
        simp only [Act.put, List.setIfInBounds_toArray, List.set_cons_zero, List.set_cons_succ]
        refine take_at 2 (v := ?_) (some 70) rfl rfl (by kernel_rfl) (by kernel_rfl) (by kernel_rfl) (fun _ _ _ h => h) (Or.inl ⟨by rfl, ?_⟩) hHeld ?_
        rotate_left
        · (intro w hSw; (try dsimp only at hSw); go_simp; (try with_reducible rfl))
        simp only [Act.put, List.setIfInBounds_toArray, List.set_cons_zero, List.set_cons_succ]
        refine take_at 3 (v := ?_) (some 71) rfl rfl (by kernel_rfl) (by kernel_rfl) (by kernel_rfl) (fun _ _ _ h => h) (Or.inl ⟨by rfl, ?_⟩) hHeld ?_
        rotate_left
        · (intro w hSw; (try dsimp only at hSw); go_simp; (try with_reducible rfl))
        simp only [Act.put, List.setIfInBounds_toArray, List.set_cons_zero, List.set_cons_succ]
        refine take_at 4 (v := ?_) (some 72) rfl rfl (by kernel_rfl) (by kernel_rfl) (by kernel_rfl) (fun _ _ _ h => h) (Or.inl ⟨by rfl, ?_⟩) hHeld ?_
        rotate_left
        · (intro w hSw; (try dsimp only at hSw); go_simp; (try with_reducible rfl))
        simp only [Act.put, List.setIfInBounds_toArray, List.set_cons_zero, List.set_cons_succ]
        refine take_at 5 (v := ?_) (some 73) rfl rfl (by kernel_rfl) (by kernel_rfl) (by kernel_rfl) (fun _ _ _ h => h) (Or.inl ⟨by rfl, ?_⟩) hHeld ?_
        rotate_left
        · (intro w hSw; (try dsimp only at hSw); go_simp; (try with_reducible rfl))
        simp only [Act.put, List.setIfInBounds_toArray, List.set_cons_zero, List.set_cons_succ]
        refine take_at 6 (v := ?_) (some 74) rfl rfl (by kernel_rfl) (by kernel_rfl) (by kernel_rfl) (fun _ _ _ h => h) (Or.inl ⟨by rfl, ?_⟩) hHeld ?_
        rotate_left
        · (intro w hSw; (try dsimp only at hSw); go_simp; (try with_reducible rfl))
        simp only [Act.put, List.setIfInBounds_toArray, List.set_cons_zero, List.set_cons_succ]
        refine take_at 7 (v := ?_) (some 75) rfl rfl (by kernel_rfl) (by kernel_rfl) (by kernel_rfl) (fun _ _ _ h => h) (Or.inl ⟨by rfl, ?_⟩) hHeld ?_
        rotate_left
        · (intro w hSw; (try dsimp only at hSw); go_simp; (try with_reducible rfl))
        simp only [Act.put, List.setIfInBounds_toArray, List.set_cons_zero, List.set_cons_succ]
        refine wpAnyH_ready (rs := [8]) (by kernel_rfl) (by simp) ?_
        refine AllReadyH.cons rfl (fun K hK => ?_) AllReadyH.nil
        go_simp
        refine (over_any rb 5 ((k + 1 : Nat) : Int) bs wh n _ (show W6.drew.cell? ⟨rb, 5, none⟩ = _ from HR6.out.cells.2.2.2.2.2)).mono ?_; rintro e v1 ⟨rfl, hB⟩; have HFv := Lib.hid (show Fr [] W6 v1 from ((Fr.refl [] W6).drew).trans (.of hB)); have HRv := Lib.hid (HR6.out.fr HFv.out (by simp)); rw [HQ.out, hdz]; clear hB
        go_wp2_with fail
        refine hK.out _ _ ?_ (fun hHeld => ?_)
        · (try dsimp only at hHeld ⊢)
          go_split_ands
          exact ⟨HRv.out.cells.1, HRv.out.cells.2.1, HRv.out.cells.2.2.1, HRv.out.cells.2.2.2.2.2⟩
        clear hK K
        try simp only [Act.put, List.setIfInBounds_toArray, List.set_cons_zero, List.set_cons_succ]
        refine take_at 9 (v := ?_) (some 77) rfl rfl (by kernel_rfl) (by kernel_rfl) (by kernel_rfl) (fun _ _ _ h => h) (Or.inl ⟨by rfl, ?_⟩) hHeld ?_
        rotate_left
        · (intro w hSw; (try dsimp only at hSw); go_simp; (try with_reducible rfl))
        simp only [Act.put, List.setIfInBounds_toArray, List.set_cons_zero, List.set_cons_succ]
        refine take_at 10 (v := ?_) (some 78) rfl rfl (by kernel_rfl) (by kernel_rfl) (by kernel_rfl) (fun _ _ _ h => h) (Or.inl ⟨by rfl, ?_⟩) hHeld ?_
        rotate_left
        · (intro w hSw; (try dsimp only at hSw); go_simp; (try with_reducible rfl))
        simp only [Act.put, List.setIfInBounds_toArray, List.set_cons_zero, List.set_cons_succ]

        clear c0 c1 c2 c5
        have HR7 := Lib.hid HRv.out
        have c4 := HRv.out.cells.2.2.2.2.1
        have fz4 := Bk.free HRv.out 4
        refine wpAnyH_ready (rs := [11]) (by kernel_rfl) (by simp) ?_
        refine AllReadyH.cons rfl (fun K hK => ?_) AllReadyH.nil
        go_simp
        refine hK.out _ _ ?_ (fun hHeld => ?_)
        · (try dsimp only at hHeld ⊢)
          exact ⟨set_other hHeld.1 (.inr (by simp)), set_other hHeld.2.1 (.inr (by simp)), set_other hHeld.2.2.1 (.inr (by simp)), set_other hHeld.2.2.2 (.inr (by simp))⟩
        clear hK K hHeld
        try simp only [Act.put]
        refine wpAnyH_done (by kernel_rfl) ?_ _
        have S7 := Lib.hid (show Fr [rb] v1 (v1.setCell ⟨rb, 4, none⟩ (.bool z)) from (Fr.refl _ _).set (by simp) _)
        have HR8 := Lib.hid (show Rd (v1.setCell ⟨rb, 4, none⟩ (.bool z)) rb bs wh n av4 z (k + 1 : Nat) from by simpa [Rd] using Bk.set HR7.out 4 (.bool z))
        have c4 := HR8.out.cells.2.2.2.2.1
        go_wp2_with fail
        go_ret
        exact ⟨_, by rw [HZ.out]; rfl, by rw [← HZ.out]; exact HR8.out, own_fr (own_fr HO6.out HFv.out (by simp)) S7.out (fun i hi hm => HNE6.out (by rw [List.mem_singleton.1 hm] at hi; exact rowB_mem.2 hi)), ⟨(HP6.out.1.fr HFv.out (by simp)).fr S7.out (by simp; exact fun e => HRB.out.1 e.symm), (HP6.out.2.1.fr HFv.out (by simp)).fr S7.out (by simp; exact fun e => HRB.out.2 e.symm), HP6.out.2.2⟩, (HF6.out.trans (HFv.out.mono (by simp))).trans (S7.out.mono (by simp))⟩


set_option maxHeartbeats 3200000 in
set_option maxRecDepth 100000 in
theorem rdstep_first (d bs wh n : Int) (q k : Nat) (rb b g N : Nat) (av : Value) (zs : List Int) (w : World) (hbs : 0 ≤ bs ∧ bs ≤ 1000) (hq : cwn n = q) (hq2 : q ≤ 1024) (hk : k < q) (h : Rd w rb bs wh n av false k) (ho : w.ownsRow N 29 1 av k ((getE zs bs k).map (Value.int .u64))) (hm : Pm w b g zs) (hN : b < N ∧ g < N ∧ N ≤ w.heap.size) (hk0 : k = 0) (hav : av = .slice none 0 0) :
    Calls Try.prog 85 #[.pointer (some ⟨rb, 0, none⟩), .iface 64 (.pointer (some ⟨b, 0, none⟩)), .int .i64 d] w fun e w' => ∃ av', e = .returned (.bool (decide (q ≤ k + 1))) ∧ Rd w' rb bs wh n av' (decide (q ≤ k + 1)) (k + 1 : Nat) ∧ w'.ownsRow N 29 1 av' (k + 1) ((getE zs bs (k + 1)).map (Value.int .u64)) ∧ Pm w' b g zs ∧ Fr (rb :: rowB av) w w' := by
  have HAV := Lib.hid hav
  have hkz : ((k : Int) == 0) = true := by simp; omega
  clear hav hk0
  have HP0 := Lib.hid hm
  have HR0 := Lib.hid h
  have HO0 := Lib.hid ho
  have HN := Lib.hid hN
  have HQ := Lib.hid hq
  have HRB := Lib.hid (show rb ≠ b ∧ rb ≠ g from ⟨Bk.ne h hm.1 (by decide), Bk.ne h hm.2.1 (by decide)⟩)
  obtain ⟨c0, c1, c2, c3, c4, c5⟩ := h.cells
  have f3 := Bk.free h 3
  have hm' := m_load
  have hnl := n_load
  obtain ⟨i0, hi, hz0, hz1, hz2⟩ := info_parts u6_info
  obtain ⟨hb0, hb1⟩ := hbs
  have hdk : decide (q ≤ k) = false := by simp; omega
  obtain ⟨z, hz⟩ : ∃ z, z = decide (q ≤ k + 1) := ⟨_, rfl⟩
  have HZ := Lib.hid hz
  have hdz : decide ((q : Int) ≤ ((k + 1 : Nat) : Int)) = z := by rw [hz, decide_eq_decide]; omega
  clear hz
  have hsum : IntKind.i64.wrap (bs + k) = bs + k := IntWalk.i64_in _ (by omega)
  clear h ho hN hq hm
  go_enter Try.func85, Try.ntmps85
  go_wp2_with fail
  refine wp_gen (fun W => Rd W rb bs wh n av false k ∧ W.ownsRow N 29 1 av k ((getE zs bs k).map (Value.int .u64)) ∧ Pm W b g zs ∧ Fr (rb :: rowB av) w W) ?_ ?_
  · have S6 : Fr [rb] w (w.setCell ⟨rb, 3, none⟩ (.slice none 0 0)) := (Fr.refl _ _).set (by simp) _
    exact ⟨by rw [HAV.out]; simpa [Rd] using Bk.set HR0.out 3 (.slice none 0 0), own_fr HO0.out S6 (fun i hi hm => by rw [HAV.out] at hi; cases hi), ⟨HP0.out.1.fr S6 (by simp; exact fun e => HRB.out.1 e.symm), HP0.out.2.1.fr S6 (by simp; exact fun e => HRB.out.2 e.symm), HP0.out.2.2⟩, S6.mono (by simp)⟩
  clear c0 c1 c2 c3 c4 c5 f3
  intro W0 ⟨hr, hrow, hp, hf⟩
  have HR := Lib.hid hr
  have HO := Lib.hid hrow
  have HP := Lib.hid hp
  have HF0 := Lib.hid hf
  obtain ⟨c0, c1, c2, c3, c4, c5⟩ := hr.cells
  clear hr hrow hp hf
  refine wp_region_held_drew (S := (fun w' => w'.cell? ⟨rb, 0, none⟩ = some (.int .i64 bs) ∧ w'.cell? ⟨rb, 1, none⟩ = some (.int .i64 wh) ∧ w'.cell? ⟨rb, 2, none⟩ = some (.int .i64 n) ∧ w'.cell? ⟨rb, 5, none⟩ = some (.int .i64 k))) (by kernel_rfl) ?_ (fun hHeld => ?_)
  · exact ⟨c0, c1, c2, c5⟩
  refine take_at 0 (v := ?_) (some 24) rfl rfl (by kernel_rfl) (by kernel_rfl) (by kernel_rfl) (fun _ _ _ h => h) (Or.inl ⟨by rfl, ?_⟩) hHeld ?_
  rotate_left
  · (intro w hSw; (try dsimp only at hSw); go_simp; (try with_reducible rfl))
  simp only [Act.put, List.setIfInBounds_toArray, List.set_cons_zero, List.set_cons_succ]
  refine take_at 1 (v := ?_) (some 25) rfl rfl (by kernel_rfl) (by kernel_rfl) (by kernel_rfl) (fun _ _ _ h => h) (Or.inl ⟨by rfl, ?_⟩) hHeld ?_
  rotate_left
  · (intro w hSw; (try dsimp only at hSw); go_simp; (try with_reducible rfl))
  simp only [Act.put, List.setIfInBounds_toArray, List.set_cons_zero, List.set_cons_succ]
  refine take_at 2 (v := ?_) (some 26) rfl rfl (by kernel_rfl) (by kernel_rfl) (by kernel_rfl) (fun _ _ _ h => h) (Or.inl ⟨by rfl, ?_⟩) hHeld ?_
  rotate_left
  · (intro w hSw; (try dsimp only at hSw); go_simp; (try with_reducible rfl))
  simp only [Act.put, List.setIfInBounds_toArray, List.set_cons_zero, List.set_cons_succ]
  refine take_at 3 (v := ?_) (some 27) rfl rfl (by kernel_rfl) (by kernel_rfl) (by kernel_rfl) (fun _ _ _ h => h) (Or.inl ⟨by rfl, ?_⟩) hHeld ?_
  rotate_left
  · (intro w hSw; (try dsimp only at hSw); go_simp; (try with_reducible rfl))
  simp only [Act.put, List.setIfInBounds_toArray, List.set_cons_zero, List.set_cons_succ]
  refine take_at 4 (v := ?_) (some 28) rfl rfl (by kernel_rfl) (by kernel_rfl) (by kernel_rfl) (fun _ _ _ h => h) (Or.inl ⟨by rfl, ?_⟩) hHeld ?_
  rotate_left
  · (intro w hSw; (try dsimp only at hSw); go_simp; (try with_reducible rfl))
  simp only [Act.put, List.setIfInBounds_toArray, List.set_cons_zero, List.set_cons_succ]
  refine take_at 5 (v := ?_) (some 29) rfl rfl (by kernel_rfl) (by kernel_rfl) (by kernel_rfl) (fun _ _ _ h => h) (Or.inl ⟨by rfl, ?_⟩) hHeld ?_
  rotate_left
  · (intro w hSw; (try dsimp only at hSw); go_simp; (try with_reducible rfl))
  simp only [Act.put, List.setIfInBounds_toArray, List.set_cons_zero, List.set_cons_succ]
  refine take_at 6 (v := ?_) (some 30) rfl rfl (by kernel_rfl) (by kernel_rfl) (by kernel_rfl) (fun _ _ _ h => h) (Or.inl ⟨by rfl, ?_⟩) hHeld ?_
  rotate_left
  · (intro w hSw; (try dsimp only at hSw); go_simp; (try with_reducible rfl))
  simp only [Act.put, List.setIfInBounds_toArray, List.set_cons_zero, List.set_cons_succ]
  refine wpAnyH_ready (rs := [7]) (by kernel_rfl) (by simp) ?_
  refine AllReadyH.cons rfl (fun K hK => ?_) AllReadyH.nil
  go_simp
  refine (over_any rb 5 _ bs wh n _ (show W0.drew.cell? ⟨rb, 5, none⟩ = _ from HR.out.cells.2.2.2.2.2)).mono ?_; rintro e v1 ⟨rfl, hB⟩; have HFv := Lib.hid (show Fr [] W0 v1 from ((Fr.refl [] W0).drew).trans (.of hB)); have HRv := Lib.hid (HR.out.fr HFv.out (by simp)); rw [HQ.out]; clear hB
  go_wp2_with fail
  refine hK.out _ _ ?_ (fun hHeld => ?_)
  · (try dsimp only at hHeld ⊢)
    go_split_ands
    exact ⟨HRv.out.cells.1, HRv.out.cells.2.1, HRv.out.cells.2.2.1, HRv.out.cells.2.2.2.2.2⟩
  clear hK K
  try simp only [Act.put, List.setIfInBounds_toArray, List.set_cons_zero, List.set_cons_succ]
  refine take_at 8 (v := ?_) (some 32) rfl rfl (by kernel_rfl) (by kernel_rfl) (by kernel_rfl) (fun _ _ _ h => h) (Or.inl ⟨by rfl, ?_⟩) hHeld ?_
  rotate_left
  · (intro w hSw; (try dsimp only at hSw); go_simp; (try with_reducible rfl))
  simp only [Act.put, List.setIfInBounds_toArray, List.set_cons_zero, List.set_cons_succ]
  refine wpAnyH_done (by kernel_rfl) ?_ _
  go_split_ands

  try rw [hdk]
  clear c0 c1 c2 c3 c4 c5
  go_wp2_with fail
  have HR := Lib.hid HRv.out
  have HP := Lib.hid (show Pm v1 b g zs from ⟨HP.out.1.fr HFv.out (by simp), HP.out.2.1.fr HFv.out (by simp), HP.out.2.2⟩)
  have HO := Lib.hid (own_fr HO.out HFv.out (by simp))
  have HF1 := Lib.hid (HF0.out.trans (HFv.out.mono (by simp)))
  generalize v1 = W1 at *
  clear HRv HFv
  obtain ⟨c0, c1, c2, c3, c4, c5⟩ := HR.out.cells
  refine wp_region_held_drew (S := (fun w' => w'.cell? ⟨rb, 0, none⟩ = some (.int .i64 bs) ∧ w'.cell? ⟨rb, 5, none⟩ = some (.int .i64 k))) (by kernel_rfl) ?_ (fun hHeld => ?_)
  · exact ⟨c0, c5⟩
  clear c0 c1 c2 c3 c4 c5
  refine take_at 0 (v := ?_) (some 33) rfl rfl (by kernel_rfl) (by kernel_rfl) (by kernel_rfl) (fun _ _ _ h => h) (Or.inl ⟨by rfl, ?_⟩) hHeld ?_
  rotate_left
  · (intro w hSw; (try dsimp only at hSw); go_simp; (try with_reducible rfl))
  simp only [Act.put, List.setIfInBounds_toArray, List.set_cons_zero, List.set_cons_succ]
  refine take_at 1 (v := ?_) (some 34) rfl rfl (by kernel_rfl) (by kernel_rfl) (by kernel_rfl) (fun _ _ _ h => h) (Or.inl ⟨by rfl, ?_⟩) hHeld ?_
  rotate_left
  · (intro w hSw; (try dsimp only at hSw); go_simp; (try with_reducible rfl))
  simp only [Act.put, List.setIfInBounds_toArray, List.set_cons_zero, List.set_cons_succ]
  refine take_at 2 (v := ?_) (some 35) rfl rfl (by kernel_rfl) (by kernel_rfl) (by kernel_rfl) (fun _ _ _ h => h) (Or.inl ⟨by rfl, ?_⟩) hHeld ?_
  rotate_left
  · (intro w hSw; (try dsimp only at hSw); go_simp; (try with_reducible rfl))
  simp only [Act.put, List.setIfInBounds_toArray, List.set_cons_zero, List.set_cons_succ]
  refine take_at 3 (v := ?_) (some 36) rfl rfl (by kernel_rfl) (by kernel_rfl) (by kernel_rfl) (fun _ _ _ h => h) (Or.inl ⟨by rfl, ?_⟩) hHeld ?_
  rotate_left
  · (intro w hSw; (try dsimp only at hSw); go_simp; (try with_reducible rfl))
  simp only [Act.put, List.setIfInBounds_toArray, List.set_cons_zero, List.set_cons_succ]
  refine take_at 5 (v := ?_) (some 38) rfl rfl (by kernel_rfl) (by kernel_rfl) (by kernel_rfl) (fun _ _ _ h => h) (Or.inl ⟨by rfl, ?_⟩) hHeld ?_
  rotate_left
  · (intro w hSw; (try dsimp only at hSw); go_simp; (try with_reducible rfl))
  simp only [Act.put, List.setIfInBounds_toArray, List.set_cons_zero, List.set_cons_succ]
  refine take_at 7 (v := ?_) (some 40) rfl rfl (by kernel_rfl) (by kernel_rfl) (by kernel_rfl) (fun _ _ _ h => h) (Or.inl ⟨by rfl, ?_⟩) hHeld ?_
  rotate_left
  · (intro w hSw; (try dsimp only at hSw); go_simp; (try with_reducible rfl))
  simp only [Act.put, List.setIfInBounds_toArray, List.set_cons_zero, List.set_cons_succ]
  refine take_at 8 (v := ?_) (some 41) rfl rfl (by kernel_rfl) (by kernel_rfl) (by kernel_rfl) (fun _ _ _ h => h) (Or.inl ⟨by rfl, ?_⟩) hHeld ?_
  rotate_left
  · (intro w hSw; (try dsimp only at hSw); go_simp; (try with_reducible rfl))
  simp only [Act.put, List.setIfInBounds_toArray, List.set_cons_zero, List.set_cons_succ]
  refine take_at 9 (v := ?_) (some 42) rfl rfl (by kernel_rfl) (by kernel_rfl) (by kernel_rfl) (fun _ _ _ h => h) (Or.inl ⟨by rfl, ?_⟩) hHeld ?_
  rotate_left
  · (intro w hSw; (try dsimp only at hSw); go_simp; (try with_reducible rfl))
  simp only [Act.put, List.setIfInBounds_toArray, List.set_cons_zero, List.set_cons_succ]
  refine take_at 10 (v := ?_) (some 43) rfl rfl (by kernel_rfl) (by kernel_rfl) (by kernel_rfl) (fun _ _ _ h => h) (Or.inl ⟨by rfl, ?_⟩) hHeld ?_
  rotate_left
  · (intro w hSw; (try dsimp only at hSw); go_simp; (try with_reducible rfl))
  simp only [Act.put, List.setIfInBounds_toArray, List.set_cons_zero, List.set_cons_succ]
  refine take_at 11 (v := ?_) (some 44) rfl rfl (by kernel_rfl) (by kernel_rfl) (by kernel_rfl) (fun _ _ _ h => h) (Or.inl ⟨by rfl, ?_⟩) hHeld ?_
  rotate_left
  · (intro w hSw; (try dsimp only at hSw); go_simp; (try with_reducible rfl))
  simp only [Act.put, List.setIfInBounds_toArray, List.set_cons_zero, List.set_cons_succ]
  refine take_at 12 (v := ?_) (some 45) rfl rfl (by kernel_rfl) (by kernel_rfl) (by kernel_rfl) (fun _ _ _ h => h) (Or.inl ⟨by rfl, ?_⟩) hHeld ?_
  rotate_left
  · (intro w hSw; (try dsimp only at hSw); go_simp; (try with_reducible rfl))
  simp only [Act.put, List.setIfInBounds_toArray, List.set_cons_zero, List.set_cons_succ]
  refine take_at 13 (v := ?_) (some 46) rfl rfl (by kernel_rfl) (by kernel_rfl) (by kernel_rfl) (fun _ _ _ h => h) (Or.inl ⟨by rfl, ?_⟩) hHeld ?_
  rotate_left
  · (intro w hSw; (try dsimp only at hSw); go_simp; (try with_reducible rfl))
  simp only [Act.put, List.setIfInBounds_toArray, List.set_cons_zero, List.set_cons_succ]
  refine take_at 14 (v := ?_) (some 47) rfl rfl (by kernel_rfl) (by kernel_rfl) (by kernel_rfl) (fun _ _ _ h => h) (Or.inl ⟨by rfl, ?_⟩) hHeld ?_
  rotate_left
  · (intro w hSw; (try dsimp only at hSw); go_simp; (try with_reducible rfl))
  simp only [Act.put, List.setIfInBounds_toArray, List.set_cons_zero, List.set_cons_succ]
  refine take_at 15 (v := ?_) (some 48) rfl rfl (by kernel_rfl) (by kernel_rfl) (by kernel_rfl) (fun _ _ _ h => h) (Or.inl ⟨by rfl, ?_⟩) hHeld ?_
  rotate_left
  · (intro w hSw; (try dsimp only at hSw); go_simp; (try with_reducible rfl))
  simp only [Act.put, List.setIfInBounds_toArray, List.set_cons_zero, List.set_cons_succ]
  refine take_at 16 (v := ?_) (some 49) rfl rfl (by kernel_rfl) (by kernel_rfl) (by kernel_rfl) (fun _ _ _ h => h) (Or.inl ⟨by rfl, ?_⟩) hHeld ?_
  rotate_left
  · (intro w hSw; (try dsimp only at hSw); go_simp; (try with_reducible rfl))
  simp only [Act.put, List.setIfInBounds_toArray, List.set_cons_zero, List.set_cons_succ]
  refine take_at 17 (v := ?_) (some 50) rfl rfl (by kernel_rfl) (by kernel_rfl) (by kernel_rfl) (fun _ _ _ h => h) (Or.inl ⟨by rfl, ?_⟩) hHeld ?_
  rotate_left
  · (intro w hSw; (try dsimp only at hSw); go_simp; (try with_reducible rfl))
  simp only [Act.put, List.setIfInBounds_toArray, List.set_cons_zero, List.set_cons_succ]
  refine wpAnyH_ready (rs := [4, 6]) (by kernel_rfl) (by simp) ?_
  refine AllReadyH.cons rfl (fun K hK => ?_) (AllReadyH.cons rfl (fun K hK => ?_) AllReadyH.nil)
  · have a3 : W1.drew.cell? ⟨rb, 3, none⟩ = some av := HR.out.cells.2.2.2.1
    go_simp
    refine hK.out _ _ ?_ (fun hHeld => ?_)
    · exact hHeld
    clear hK K a3
    try simp only [Act.put, List.setIfInBounds_toArray, List.set_cons_zero, List.set_cons_succ]
    refine wpAnyH_ready (rs := [6]) (by kernel_rfl) (by simp) ?_
    refine AllReadyH.cons rfl (fun K hK => ?_) AllReadyH.nil
    go_simp
    refine (or_some _ _ _).mono ?_
    rintro e v1 ⟨rfl, hww⟩
    subst v1
    go_wp2_with fail
    refine hK.out _ _ ?_ (fun hHeld => ?_)
    · exact hHeld
    clear hK K
    try simp only [Act.put, List.setIfInBounds_toArray, List.set_cons_zero, List.set_cons_succ]
    refine take_at 18 (v := ?_) (some 51) rfl rfl (by kernel_rfl) (by kernel_rfl) (by kernel_rfl) (fun _ _ _ h => h) (Or.inl ⟨by rfl, ?_⟩) hHeld ?_
    rotate_left
    · (intro w hSw; (try dsimp only at hSw); go_simp; (try with_reducible rfl))
    simp only [Act.put, List.setIfInBounds_toArray, List.set_cons_zero, List.set_cons_succ]
    refine take_at 19 (v := ?_) (some 52) rfl rfl (by kernel_rfl) (by kernel_rfl) (by kernel_rfl) (fun _ _ _ h => h) (Or.inl ⟨by rfl, ?_⟩) hHeld ?_
    rotate_left
    · (intro w hSw; (try dsimp only at hSw); go_simp; (try with_reducible rfl))
    simp only [Act.put, List.setIfInBounds_toArray, List.set_cons_zero, List.set_cons_succ]
    refine take_at 20 (v := ?_) (some 53) rfl rfl (by kernel_rfl) (by kernel_rfl) (by kernel_rfl) (fun _ _ _ h => h) (Or.inl ⟨by rfl, ?_⟩) hHeld ?_
    rotate_left
    · (intro w hSw; (try dsimp only at hSw); go_simp; (try with_reducible rfl))
    simp only [Act.put, List.setIfInBounds_toArray, List.set_cons_zero, List.set_cons_succ]
    refine wpAnyH_ready (rs := [21]) (by kernel_rfl) (by simp) ?_
    refine AllReadyH.cons rfl (fun K hK => ?_) AllReadyH.nil
    go_simp
    refine (load_any (bs + k) b g zs _ (show Pm W1.drew b g zs from HP.out)).mono ?_
    rintro e v2 ⟨rfl, hB⟩
    have HP2 := Lib.hid (show Pm v2 b g zs from Pm.below (show Pm W1.drew b g zs from HP.out) hB)
    have HF2 := Lib.hid (show Fr [] W1 v2 from ((Fr.refl [] W1).drew).trans (.of hB))
    have HO2 := Lib.hid (own_fr HO.out HF2.out (by simp))
    have HY := Lib.hid (getE_succ zs bs k)
    have HR2 := Lib.hid (HR.out.fr HF2.out (by simp))
    clear hB
    generalize ldv zs (bs + k) = y at *
    go_wp2_with fail
    refine hK.out _ _ ?_ (fun hHeld => ?_)
    · exact ⟨HR2.out.cells.1, HR2.out.cells.2.2.2.2.2⟩
    clear hK K
    try simp only [Act.put, List.setIfInBounds_toArray, List.set_cons_zero, List.set_cons_succ]
    refine wpAnyH_ready (rs := [22]) (by kernel_rfl) (by simp) ?_
    refine AllReadyH.cons rfl (fun K hK => ?_) AllReadyH.nil
    go_simp
    have HR3 := Lib.hid (HR2.out.alloc (.cells #[.int .u64 y] 29))
    refine hK.out _ _ ?_ (fun hHeld => ?_)
    · exact ⟨HR3.out.cells.1, HR3.out.cells.2.2.2.2.2⟩
    clear hK K
    try simp only [Act.put, List.setIfInBounds_toArray, List.set_cons_zero, List.set_cons_succ]
    refine wpAnyH_ready (rs := [23]) (by kernel_rfl) (by simp) ?_
    refine AllReadyH.cons rfl (fun K hK => ?_) AllReadyH.nil
    refine step_append_lies _ (by rfl) _ _ _ (by rfl) N 29 i0 (.int .u64 0) 1 8 Try.underlying22 hi hz0 hz1 hz2 rfl (by decide) _ k _ (by rfl) (HO2.out.alloc _) ⟨v2.heap.size, 0, none⟩ 1 1 [.int .u64 y] (by rfl) (by rfl) (cell_new1 _ _ _) (by simp [Value.oneCell']) (by decide) (by unfold maxLen; omega) (by omega) (by have := HF2.out.size; have := HF1.out.size; have := HN.out.2.2; rw [World.size_alloc]; omega) (v2.heap.size + 1) (by simp) ?_
    intro g4 cap4 v4 hown4 hgrow4 hat4 hlt4
    have hf4 := fr_grown hgrow4
    have HR4 := Lib.hid (HR2.out.fr hf4 (own_ne HO2.out HR2.out (by decide)))
    have HP4 := Lib.hid (show Pm v4 b g zs from ⟨HP2.out.1.fr hf4 (fun hm => by have := (HO2.out.lt b (rowB_mem.1 hm)).1; have := HN.out; omega), HP2.out.2.1.fr hf4 (fun hm => by have := (HO2.out.lt g (rowB_mem.1 hm)).1; have := HN.out; omega), HP2.out.2.2⟩)
    have HO4 := Lib.hid (show v4.ownsRow N 29 1 (.slice (some ⟨g4, 0, none⟩) (k + 1) cap4) (k + 1) ((getE zs bs (k + 1)).map (Value.int .u64)) by rw [HY.out, List.map_append]; exact hown4)
    have HF4 := Lib.hid ((HF2.out.mono (by simp)).trans hf4)
    have HNE := Lib.hid (own_ne HO4.out HR4.out (by decide))
    clear hown4 hgrow4 hf4
    refine hK.out _ _ ?_ (fun hHeld => ?_)
    · exact ⟨HR4.out.cells.1, HR4.out.cells.2.2.2.2.2⟩
    clear hK K
    try simp only [Act.put, List.setIfInBounds_toArray]
    refine take_at 24 (v := ?_) (some 57) rfl rfl (by kernel_rfl) (by kernel_rfl) (by kernel_rfl) (fun _ _ _ h => h) (Or.inl ⟨by rfl, ?_⟩) hHeld ?_
    rotate_left
    · (intro w hSw; (try dsimp only at hSw); go_simp; (try with_reducible rfl))
    simp only [Act.put]
    refine take_at 25 (v := ?_) (some 58) rfl rfl (by kernel_rfl) (by kernel_rfl) (by kernel_rfl) (fun _ _ _ h => h) (Or.inl ⟨by rfl, ?_⟩) hHeld ?_
    rotate_left
    · (intro w hSw; (try dsimp only at hSw); go_simp; (try with_reducible rfl))
    simp only [Act.put]
    refine wpAnyH_ready (rs := [26]) (by kernel_rfl) (by simp) ?_
    refine AllReadyH.cons rfl (fun K hK => ?_) AllReadyH.nil
    have fz := Bk.free HR4.out 3
    have a3 : v4.cell? ⟨rb, 3, none⟩ = some av := HR4.out.cells.2.2.2.1
    go_simp
    refine hK.out _ _ ?_ (fun hHeld => ?_)
    · (try dsimp only at hHeld ⊢)
      exact ⟨set_other hHeld.1 (.inr (by simp)), set_other hHeld.2 (.inr (by simp))⟩
    clear hK K hHeld a3 fz
    try simp only [Act.put, List.setIfInBounds_toArray, List.set_cons_zero, List.set_cons_succ]
    refine wpAnyH_done (by kernel_rfl) ?_ _
    try go_split_ands
    have HS5 := Lib.hid (show Fr [rb] v4 (v4.setCell ⟨rb, 3, none⟩ (.slice (some ⟨g4, 0, none⟩) (k + 1) cap4)) from (Fr.refl _ _).set (by simp) _)
    have HR5 := Lib.hid (show Rd (v4.setCell ⟨rb, 3, none⟩ (.slice (some ⟨g4, 0, none⟩) (k + 1) cap4)) rb bs wh n (.slice (some ⟨g4, 0, none⟩) (k + 1) cap4) false k from by simpa [Rd] using Bk.set HR4.out 3 (.slice (some ⟨g4, 0, none⟩) (k + 1) cap4))
    have HP5 := Lib.hid (show Pm (v4.setCell ⟨rb, 3, none⟩ (.slice (some ⟨g4, 0, none⟩) (k + 1) cap4)) b g zs from ⟨HP4.out.1.fr HS5.out (by simp; exact fun e => HRB.out.1 e.symm), HP4.out.2.1.fr HS5.out (by simp; exact fun e => HRB.out.2 e.symm), HP4.out.2.2⟩)
    have HO5 := Lib.hid (own_fr HO4.out HS5.out (fun i hi hm => HNE.out (by rw [List.mem_singleton.1 hm] at hi; exact rowB_mem.2 hi)))
    have HF5 := Lib.hid (show Fr (rb :: rowB av) w (v4.setCell ⟨rb, 3, none⟩ (.slice (some ⟨g4, 0, none⟩) (k + 1) cap4)) from (HF1.out.trans (HF4.out.mono (fun i hi => List.mem_cons_of_mem _ hi))).trans (HS5.out.mono (by simp)))
    have HNE5 := Lib.hid (own_ne HO5.out HR5.out (by decide))
    generalize (v4.setCell ⟨rb, 3, none⟩ (.slice (some ⟨g4, 0, none⟩) (k + 1) cap4)) = W5 at *
    generalize (Value.slice (some ⟨g4, 0, none⟩) (k + 1) cap4) = av4 at *
    clear HF4 HO4 HNE HP4 HR4 HF2 HO2 HP2 HR2 HR3 HY
    have y5 := HR5.out.cells.2.2.2.2.2
    have fz5 := Bk.free HR5.out 5
    go_wp2_with fail
    refine wp_gen (fun W => Rd W rb bs wh n av4 false (k + 1 : Nat) ∧ W.ownsRow N 29 1 av4 (k + 1) ((getE zs bs (k + 1)).map (Value.int .u64)) ∧ Pm W b g zs ∧ Fr (rb :: rowB av) w W) ?_ ?_
    · have S6 : Fr [rb] W5 (W5.setCell ⟨rb, 5, none⟩ (.int .i64 ((k : Int) + 1))) := (Fr.refl _ _).set (by simp) _
      exact ⟨by simpa [Rd] using Bk.set HR5.out 5 (.int .i64 ((k : Int) + 1)), own_fr HO5.out S6 (fun i hi hm => HNE5.out (by rw [List.mem_singleton.1 hm] at hi; exact rowB_mem.2 hi)), ⟨HP5.out.1.fr S6 (by simp; exact fun e => HRB.out.1 e.symm), HP5.out.2.1.fr S6 (by simp; exact fun e => HRB.out.2 e.symm), HP5.out.2.2⟩, HF5.out.trans (S6.mono (by simp))⟩
    intro W6 ⟨hr, hrow, hp, hf⟩
    clear y5 fz5 HR5 HO5 HP5 HF5 HS5 HNE5
    have HR6 := Lib.hid hr
    have HO6 := Lib.hid hrow
    have HP6 := Lib.hid hp
    have HF6 := Lib.hid hf
    have HNE6 := Lib.hid (own_ne hrow hr (by decide))
    obtain ⟨c0, c1, c2, c3, c4, c5⟩ := hr.cells
    clear hr hrow hp hf c3 c4
    refine wp_region_held_drew (S := (fun w' => w'.cell? ⟨rb, 0, none⟩ = some (.int .i64 bs) ∧ w'.cell? ⟨rb, 1, none⟩ = some (.int .i64 wh) ∧ w'.cell? ⟨rb, 2, none⟩ = some (.int .i64 n) ∧ w'.cell? ⟨rb, 5, none⟩ = some (.int .i64 ((k + 1 : Nat) : Int)))) (by kernel_rfl) ?_ (fun hHeld => ?_)
    · exact ⟨c0, c1, c2, c5⟩
    refine take_at 0 (v := ?_) (some 68) rfl rfl (by kernel_rfl) (by kernel_rfl) (by kernel_rfl) (fun _ _ _ h => h) (Or.inl ⟨by rfl, ?_⟩) hHeld ?_
    rotate_left
    · (intro w hSw; (try dsimp only at hSw); go_simp; (try with_reducible rfl))
    simp only [Act.put, List.setIfInBounds_toArray, List.set_cons_zero, List.set_cons_succ]
    refine take_at 1 (v := ?_) (some 69) rfl rfl (by kernel_rfl) (by kernel_rfl) (by kernel_rfl) (fun _ _ _ h => h) (Or.inl ⟨by rfl, ?_⟩) hHeld ?_
    rotate_left
    · (intro w hSw; (try dsimp only at hSw); go_simp; (try with_reducible rfl))
    simp only [Act.put, List.setIfInBounds_toArray, List.set_cons_zero, List.set_cons_succ]
    refine take_at 2 (v := ?_) (some 70) rfl rfl (by kernel_rfl) (by kernel_rfl) (by kernel_rfl) (fun _ _ _ h => h) (Or.inl ⟨by rfl, ?_⟩) hHeld ?_
    rotate_left
    · (intro w hSw; (try dsimp only at hSw); go_simp; (try with_reducible rfl))
    simp only [Act.put, List.setIfInBounds_toArray, List.set_cons_zero, List.set_cons_succ]
    refine take_at 3 (v := ?_) (some 71) rfl rfl (by kernel_rfl) (by kernel_rfl) (by kernel_rfl) (fun _ _ _ h => h) (Or.inl ⟨by rfl, ?_⟩) hHeld ?_
    rotate_left
    · (intro w hSw; (try dsimp only at hSw); go_simp; (try with_reducible rfl))
    simp only [Act.put, List.setIfInBounds_toArray, List.set_cons_zero, List.set_cons_succ]
    refine take_at 4 (v := ?_) (some 72) rfl rfl (by kernel_rfl) (by kernel_rfl) (by kernel_rfl) (fun _ _ _ h => h) (Or.inl ⟨by rfl, ?_⟩) hHeld ?_
    rotate_left
    · (intro w hSw; (try dsimp only at hSw); go_simp; (try with_reducible rfl))
    simp only [Act.put, List.setIfInBounds_toArray, List.set_cons_zero, List.set_cons_succ]
    refine take_at 5 (v := ?_) (some 73) rfl rfl (by kernel_rfl) (by kernel_rfl) (by kernel_rfl) (fun _ _ _ h => h) (Or.inl ⟨by rfl, ?_⟩) hHeld ?_
    rotate_left
    · (intro w hSw; (try dsimp only at hSw); go_simp; (try with_reducible rfl))
    simp only [Act.put, List.setIfInBounds_toArray, List.set_cons_zero, List.set_cons_succ]
    refine take_at 6 (v := ?_) (some 74) rfl rfl (by kernel_rfl) (by kernel_rfl) (by kernel_rfl) (fun _ _ _ h => h) (Or.inl ⟨by rfl, ?_⟩) hHeld ?_
    rotate_left
    · (intro w hSw; (try dsimp only at hSw); go_simp; (try with_reducible rfl))
    simp only [Act.put, List.setIfInBounds_toArray, List.set_cons_zero, List.set_cons_succ]
    refine take_at 7 (v := ?_) (some 75) rfl rfl (by kernel_rfl) (by kernel_rfl) (by kernel_rfl) (fun _ _ _ h => h) (Or.inl ⟨by rfl, ?_⟩) hHeld ?_
    rotate_left
    · (intro w hSw; (try dsimp only at hSw); go_simp; (try with_reducible rfl))
    simp only [Act.put, List.setIfInBounds_toArray, List.set_cons_zero, List.set_cons_succ]
    refine wpAnyH_ready (rs := [8]) (by kernel_rfl) (by simp) ?_
    refine AllReadyH.cons rfl (fun K hK => ?_) AllReadyH.nil
    go_simp
    refine (over_any rb 5 ((k + 1 : Nat) : Int) bs wh n _ (show W6.drew.cell? ⟨rb, 5, none⟩ = _ from HR6.out.cells.2.2.2.2.2)).mono ?_; rintro e v1 ⟨rfl, hB⟩; have HFv := Lib.hid (show Fr [] W6 v1 from ((Fr.refl [] W6).drew).trans (.of hB)); have HRv := Lib.hid (HR6.out.fr HFv.out (by simp)); rw [HQ.out, hdz]; clear hB
    go_wp2_with fail
    refine hK.out _ _ ?_ (fun hHeld => ?_)
    · (try dsimp only at hHeld ⊢)
      go_split_ands
      exact ⟨HRv.out.cells.1, HRv.out.cells.2.1, HRv.out.cells.2.2.1, HRv.out.cells.2.2.2.2.2⟩
    clear hK K
    try simp only [Act.put, List.setIfInBounds_toArray, List.set_cons_zero, List.set_cons_succ]
    refine take_at 9 (v := ?_) (some 77) rfl rfl (by kernel_rfl) (by kernel_rfl) (by kernel_rfl) (fun _ _ _ h => h) (Or.inl ⟨by rfl, ?_⟩) hHeld ?_
    rotate_left
    · (intro w hSw; (try dsimp only at hSw); go_simp; (try with_reducible rfl))
    simp only [Act.put, List.setIfInBounds_toArray, List.set_cons_zero, List.set_cons_succ]
    refine take_at 10 (v := ?_) (some 78) rfl rfl (by kernel_rfl) (by kernel_rfl) (by kernel_rfl) (fun _ _ _ h => h) (Or.inl ⟨by rfl, ?_⟩) hHeld ?_
    rotate_left
    · (intro w hSw; (try dsimp only at hSw); go_simp; (try with_reducible rfl))
    simp only [Act.put, List.setIfInBounds_toArray, List.set_cons_zero, List.set_cons_succ]

    clear c0 c1 c2 c5
    have HR7 := Lib.hid HRv.out
    have c4 := HRv.out.cells.2.2.2.2.1
    have fz4 := Bk.free HRv.out 4
    refine wpAnyH_ready (rs := [11]) (by kernel_rfl) (by simp) ?_
    refine AllReadyH.cons rfl (fun K hK => ?_) AllReadyH.nil
    go_simp
    refine hK.out _ _ ?_ (fun hHeld => ?_)
    · (try dsimp only at hHeld ⊢)
      exact ⟨set_other hHeld.1 (.inr (by simp)), set_other hHeld.2.1 (.inr (by simp)), set_other hHeld.2.2.1 (.inr (by simp)), set_other hHeld.2.2.2 (.inr (by simp))⟩
    clear hK K hHeld
    try simp only [Act.put]
    refine wpAnyH_done (by kernel_rfl) ?_ _
    have S7 := Lib.hid (show Fr [rb] v1 (v1.setCell ⟨rb, 4, none⟩ (.bool z)) from (Fr.refl _ _).set (by simp) _)
    have HR8 := Lib.hid (show Rd (v1.setCell ⟨rb, 4, none⟩ (.bool z)) rb bs wh n av4 z (k + 1 : Nat) from by simpa [Rd] using Bk.set HR7.out 4 (.bool z))
    have c4 := HR8.out.cells.2.2.2.2.1
    go_wp2_with fail
    go_ret
    exact ⟨_, by rw [HZ.out]; rfl, by rw [← HZ.out]; exact HR8.out, own_fr (own_fr HO6.out HFv.out (by simp)) S7.out (fun i hi hm => HNE6.out (by rw [List.mem_singleton.1 hm] at hi; exact rowB_mem.2 hi)), ⟨(HP6.out.1.fr HFv.out (by simp)).fr S7.out (by simp; exact fun e => HRB.out.1 e.symm), (HP6.out.2.1.fr HFv.out (by simp)).fr S7.out (by simp; exact fun e => HRB.out.2 e.symm), HP6.out.2.2⟩, (HF6.out.trans (HFv.out.mono (by simp))).trans (S7.out.mono (by simp))⟩

  · go_simp
    refine (or_some _ _ _).mono ?_
    rintro e v1 ⟨rfl, hww⟩
    subst v1
    go_wp2_with fail
    refine hK.out _ _ ?_ (fun hHeld => ?_)
    · exact hHeld
    clear hK K
    try simp only [Act.put, List.setIfInBounds_toArray, List.set_cons_zero, List.set_cons_succ]
    refine take_at 18 (v := ?_) (some 51) rfl rfl (by kernel_rfl) (by kernel_rfl) (by kernel_rfl) (fun _ _ _ h => h) (Or.inl ⟨by rfl, ?_⟩) hHeld ?_
    rotate_left
    · (intro w hSw; (try dsimp only at hSw); go_simp; (try with_reducible rfl))
    simp only [Act.put, List.setIfInBounds_toArray, List.set_cons_zero, List.set_cons_succ]
    refine take_at 19 (v := ?_) (some 52) rfl rfl (by kernel_rfl) (by kernel_rfl) (by kernel_rfl) (fun _ _ _ h => h) (Or.inl ⟨by rfl, ?_⟩) hHeld ?_
    rotate_left
    · (intro w hSw; (try dsimp only at hSw); go_simp; (try with_reducible rfl))
    simp only [Act.put, List.setIfInBounds_toArray, List.set_cons_zero, List.set_cons_succ]
    refine take_at 20 (v := ?_) (some 53) rfl rfl (by kernel_rfl) (by kernel_rfl) (by kernel_rfl) (fun _ _ _ h => h) (Or.inl ⟨by rfl, ?_⟩) hHeld ?_
    rotate_left
    · (intro w hSw; (try dsimp only at hSw); go_simp; (try with_reducible rfl))
    simp only [Act.put, List.setIfInBounds_toArray, List.set_cons_zero, List.set_cons_succ]
    refine wpAnyH_ready (rs := [4, 21]) (by kernel_rfl) (by simp) ?_
    refine AllReadyH.cons rfl (fun K hK => ?_) (AllReadyH.cons rfl (fun K hK => ?_) AllReadyH.nil)
    · have a3 : W1.drew.cell? ⟨rb, 3, none⟩ = some av := HR.out.cells.2.2.2.1
      go_simp
      refine hK.out _ _ ?_ (fun hHeld => ?_)
      · exact hHeld
      clear hK K a3
      try simp only [Act.put, List.setIfInBounds_toArray, List.set_cons_zero, List.set_cons_succ]
      refine wpAnyH_ready (rs := [21]) (by kernel_rfl) (by simp) ?_
      refine AllReadyH.cons rfl (fun K hK => ?_) AllReadyH.nil
      go_simp
      refine (load_any (bs + k) b g zs _ (show Pm W1.drew b g zs from HP.out)).mono ?_
      rintro e v2 ⟨rfl, hB⟩
      have HP2 := Lib.hid (show Pm v2 b g zs from Pm.below (show Pm W1.drew b g zs from HP.out) hB)
      have HF2 := Lib.hid (show Fr [] W1 v2 from ((Fr.refl [] W1).drew).trans (.of hB))
      have HO2 := Lib.hid (own_fr HO.out HF2.out (by simp))
      have HY := Lib.hid (getE_succ zs bs k)
      have HR2 := Lib.hid (HR.out.fr HF2.out (by simp))
      clear hB
      generalize ldv zs (bs + k) = y at *
      go_wp2_with fail
      refine hK.out _ _ ?_ (fun hHeld => ?_)
      · exact ⟨HR2.out.cells.1, HR2.out.cells.2.2.2.2.2⟩
      clear hK K
      try simp only [Act.put, List.setIfInBounds_toArray, List.set_cons_zero, List.set_cons_succ]
      refine wpAnyH_ready (rs := [22]) (by kernel_rfl) (by simp) ?_
      refine AllReadyH.cons rfl (fun K hK => ?_) AllReadyH.nil
      go_simp
      have HR3 := Lib.hid (HR2.out.alloc (.cells #[.int .u64 y] 29))
      refine hK.out _ _ ?_ (fun hHeld => ?_)
      · exact ⟨HR3.out.cells.1, HR3.out.cells.2.2.2.2.2⟩
      clear hK K
      try simp only [Act.put, List.setIfInBounds_toArray, List.set_cons_zero, List.set_cons_succ]
      refine wpAnyH_ready (rs := [23]) (by kernel_rfl) (by simp) ?_
      refine AllReadyH.cons rfl (fun K hK => ?_) AllReadyH.nil
      refine step_append_lies _ (by rfl) _ _ _ (by rfl) N 29 i0 (.int .u64 0) 1 8 Try.underlying22 hi hz0 hz1 hz2 rfl (by decide) _ k _ (by rfl) (HO2.out.alloc _) ⟨v2.heap.size, 0, none⟩ 1 1 [.int .u64 y] (by rfl) (by rfl) (cell_new1 _ _ _) (by simp [Value.oneCell']) (by decide) (by unfold maxLen; omega) (by omega) (by have := HF2.out.size; have := HF1.out.size; have := HN.out.2.2; rw [World.size_alloc]; omega) (v2.heap.size + 1) (by simp) ?_
      intro g4 cap4 v4 hown4 hgrow4 hat4 hlt4
      have hf4 := fr_grown hgrow4
      have HR4 := Lib.hid (HR2.out.fr hf4 (own_ne HO2.out HR2.out (by decide)))
      have HP4 := Lib.hid (show Pm v4 b g zs from ⟨HP2.out.1.fr hf4 (fun hm => by have := (HO2.out.lt b (rowB_mem.1 hm)).1; have := HN.out; omega), HP2.out.2.1.fr hf4 (fun hm => by have := (HO2.out.lt g (rowB_mem.1 hm)).1; have := HN.out; omega), HP2.out.2.2⟩)
      have HO4 := Lib.hid (show v4.ownsRow N 29 1 (.slice (some ⟨g4, 0, none⟩) (k + 1) cap4) (k + 1) ((getE zs bs (k + 1)).map (Value.int .u64)) by rw [HY.out, List.map_append]; exact hown4)
      have HF4 := Lib.hid ((HF2.out.mono (by simp)).trans hf4)
      have HNE := Lib.hid (own_ne HO4.out HR4.out (by decide))
      clear hown4 hgrow4 hf4
      refine hK.out _ _ ?_ (fun hHeld => ?_)
      · exact ⟨HR4.out.cells.1, HR4.out.cells.2.2.2.2.2⟩
      clear hK K
      try simp only [Act.put, List.setIfInBounds_toArray]
      refine take_at 24 (v := ?_) (some 57) rfl rfl (by kernel_rfl) (by kernel_rfl) (by kernel_rfl) (fun _ _ _ h => h) (Or.inl ⟨by rfl, ?_⟩) hHeld ?_
      rotate_left
      · (intro w hSw; (try dsimp only at hSw); go_simp; (try with_reducible rfl))
      simp only [Act.put]
      refine take_at 25 (v := ?_) (some 58) rfl rfl (by kernel_rfl) (by kernel_rfl) (by kernel_rfl) (fun _ _ _ h => h) (Or.inl ⟨by rfl, ?_⟩) hHeld ?_
      rotate_left
      · (intro w hSw; (try dsimp only at hSw); go_simp; (try with_reducible rfl))
      simp only [Act.put]
      refine wpAnyH_ready (rs := [26]) (by kernel_rfl) (by simp) ?_
      refine AllReadyH.cons rfl (fun K hK => ?_) AllReadyH.nil
      have fz := Bk.free HR4.out 3
      have a3 : v4.cell? ⟨rb, 3, none⟩ = some av := HR4.out.cells.2.2.2.1
      go_simp
      refine hK.out _ _ ?_ (fun hHeld => ?_)
      · (try dsimp only at hHeld ⊢)
        exact ⟨set_other hHeld.1 (.inr (by simp)), set_other hHeld.2 (.inr (by simp))⟩
      clear hK K hHeld a3 fz
      try simp only [Act.put, List.setIfInBounds_toArray, List.set_cons_zero, List.set_cons_succ]
      refine wpAnyH_done (by kernel_rfl) ?_ _
      try go_split_ands
      have HS5 := Lib.hid (show Fr [rb] v4 (v4.setCell ⟨rb, 3, none⟩ (.slice (some ⟨g4, 0, none⟩) (k + 1) cap4)) from (Fr.refl _ _).set (by simp) _)
      have HR5 := Lib.hid (show Rd (v4.setCell ⟨rb, 3, none⟩ (.slice (some ⟨g4, 0, none⟩) (k + 1) cap4)) rb bs wh n (.slice (some ⟨g4, 0, none⟩) (k + 1) cap4) false k from by simpa [Rd] using Bk.set HR4.out 3 (.slice (some ⟨g4, 0, none⟩) (k + 1) cap4))
      have HP5 := Lib.hid (show Pm (v4.setCell ⟨rb, 3, none⟩ (.slice (some ⟨g4, 0, none⟩) (k + 1) cap4)) b g zs from ⟨HP4.out.1.fr HS5.out (by simp; exact fun e => HRB.out.1 e.symm), HP4.out.2.1.fr HS5.out (by simp; exact fun e => HRB.out.2 e.symm), HP4.out.2.2⟩)
      have HO5 := Lib.hid (own_fr HO4.out HS5.out (fun i hi hm => HNE.out (by rw [List.mem_singleton.1 hm] at hi; exact rowB_mem.2 hi)))
      have HF5 := Lib.hid (show Fr (rb :: rowB av) w (v4.setCell ⟨rb, 3, none⟩ (.slice (some ⟨g4, 0, none⟩) (k + 1) cap4)) from (HF1.out.trans (HF4.out.mono (fun i hi => List.mem_cons_of_mem _ hi))).trans (HS5.out.mono (by simp)))
      have HNE5 := Lib.hid (own_ne HO5.out HR5.out (by decide))
      generalize (v4.setCell ⟨rb, 3, none⟩ (.slice (some ⟨g4, 0, none⟩) (k + 1) cap4)) = W5 at *
      generalize (Value.slice (some ⟨g4, 0, none⟩) (k + 1) cap4) = av4 at *
      clear HF4 HO4 HNE HP4 HR4 HF2 HO2 HP2 HR2 HR3 HY
      have y5 := HR5.out.cells.2.2.2.2.2
      have fz5 := Bk.free HR5.out 5
      go_wp2_with fail
      refine wp_gen (fun W => Rd W rb bs wh n av4 false (k + 1 : Nat) ∧ W.ownsRow N 29 1 av4 (k + 1) ((getE zs bs (k + 1)).map (Value.int .u64)) ∧ Pm W b g zs ∧ Fr (rb :: rowB av) w W) ?_ ?_
      · have S6 : Fr [rb] W5 (W5.setCell ⟨rb, 5, none⟩ (.int .i64 ((k : Int) + 1))) := (Fr.refl _ _).set (by simp) _
        exact ⟨by simpa [Rd] using Bk.set HR5.out 5 (.int .i64 ((k : Int) + 1)), own_fr HO5.out S6 (fun i hi hm => HNE5.out (by rw [List.mem_singleton.1 hm] at hi; exact rowB_mem.2 hi)), ⟨HP5.out.1.fr S6 (by simp; exact fun e => HRB.out.1 e.symm), HP5.out.2.1.fr S6 (by simp; exact fun e => HRB.out.2 e.symm), HP5.out.2.2⟩, HF5.out.trans (S6.mono (by simp))⟩
      intro W6 ⟨hr, hrow, hp, hf⟩
      clear y5 fz5 HR5 HO5 HP5 HF5 HS5 HNE5
      have HR6 := Lib.hid hr
      have HO6 := Lib.hid hrow
      have HP6 := Lib.hid hp
      have HF6 := Lib.hid hf
      have HNE6 := Lib.hid (own_ne hrow hr (by decide))
      obtain ⟨c0, c1, c2, c3, c4, c5⟩ := hr.cells
      clear hr hrow hp hf c3 c4
      refine wp_region_held_drew (S := (fun w' => w'.cell? ⟨rb, 0, none⟩ = some (.int .i64 bs) ∧ w'.cell? ⟨rb, 1, none⟩ = some (.int .i64 wh) ∧ w'.cell? ⟨rb, 2, none⟩ = some (.int .i64 n) ∧ w'.cell? ⟨rb, 5, none⟩ = some (.int .i64 ((k + 1 : Nat) : Int)))) (by kernel_rfl) ?_ (fun hHeld => ?_)
      · exact ⟨c0, c1, c2, c5⟩
      refine take_at 0 (v := ?_) (some 68) rfl rfl (by kernel_rfl) (by kernel_rfl) (by kernel_rfl) (fun _ _ _ h => h) (Or.inl ⟨by rfl, ?_⟩) hHeld ?_
      rotate_left
      · (intro w hSw; (try dsimp only at hSw); go_simp; (try with_reducible rfl))
      simp only [Act.put, List.setIfInBounds_toArray, List.set_cons_zero, List.set_cons_succ]
      refine take_at 1 (v := ?_) (some 69) rfl rfl (by kernel_rfl) (by kernel_rfl) (by kernel_rfl) (fun _ _ _ h => h) (Or.inl ⟨by rfl, ?_⟩) hHeld ?_
      rotate_left
      · (intro w hSw; (try dsimp only at hSw); go_simp; (try with_reducible rfl))
      simp only [Act.put, List.setIfInBounds_toArray, List.set_cons_zero, List.set_cons_succ]
      refine take_at 2 (v := ?_) (some 70) rfl rfl (by kernel_rfl) (by kernel_rfl) (by kernel_rfl) (fun _ _ _ h => h) (Or.inl ⟨by rfl, ?_⟩) hHeld ?_
      rotate_left
      · (intro w hSw; (try dsimp only at hSw); go_simp; (try with_reducible rfl))
      simp only [Act.put, List.setIfInBounds_toArray, List.set_cons_zero, List.set_cons_succ]
      refine take_at 3 (v := ?_) (some 71) rfl rfl (by kernel_rfl) (by kernel_rfl) (by kernel_rfl) (fun _ _ _ h => h) (Or.inl ⟨by rfl, ?_⟩) hHeld ?_
      rotate_left
      · (intro w hSw; (try dsimp only at hSw); go_simp; (try with_reducible rfl))
      simp only [Act.put, List.setIfInBounds_toArray, List.set_cons_zero, List.set_cons_succ]
      refine take_at 4 (v := ?_) (some 72) rfl rfl (by kernel_rfl) (by kernel_rfl) (by kernel_rfl) (fun _ _ _ h => h) (Or.inl ⟨by rfl, ?_⟩) hHeld ?_
      rotate_left
      · (intro w hSw; (try dsimp only at hSw); go_simp; (try with_reducible rfl))
      simp only [Act.put, List.setIfInBounds_toArray, List.set_cons_zero, List.set_cons_succ]
      refine take_at 5 (v := ?_) (some 73) rfl rfl (by kernel_rfl) (by kernel_rfl) (by kernel_rfl) (fun _ _ _ h => h) (Or.inl ⟨by rfl, ?_⟩) hHeld ?_
      rotate_left
      · (intro w hSw; (try dsimp only at hSw); go_simp; (try with_reducible rfl))
      simp only [Act.put, List.setIfInBounds_toArray, List.set_cons_zero, List.set_cons_succ]
      refine take_at 6 (v := ?_) (some 74) rfl rfl (by kernel_rfl) (by kernel_rfl) (by kernel_rfl) (fun _ _ _ h => h) (Or.inl ⟨by rfl, ?_⟩) hHeld ?_
      rotate_left
      · (intro w hSw; (try dsimp only at hSw); go_simp; (try with_reducible rfl))
      simp only [Act.put, List.setIfInBounds_toArray, List.set_cons_zero, List.set_cons_succ]
      refine take_at 7 (v := ?_) (some 75) rfl rfl (by kernel_rfl) (by kernel_rfl) (by kernel_rfl) (fun _ _ _ h => h) (Or.inl ⟨by rfl, ?_⟩) hHeld ?_
      rotate_left
      · (intro w hSw; (try dsimp only at hSw); go_simp; (try with_reducible rfl))
      simp only [Act.put, List.setIfInBounds_toArray, List.set_cons_zero, List.set_cons_succ]
      refine wpAnyH_ready (rs := [8]) (by kernel_rfl) (by simp) ?_
      refine AllReadyH.cons rfl (fun K hK => ?_) AllReadyH.nil
      go_simp
      refine (over_any rb 5 ((k + 1 : Nat) : Int) bs wh n _ (show W6.drew.cell? ⟨rb, 5, none⟩ = _ from HR6.out.cells.2.2.2.2.2)).mono ?_; rintro e v1 ⟨rfl, hB⟩; have HFv := Lib.hid (show Fr [] W6 v1 from ((Fr.refl [] W6).drew).trans (.of hB)); have HRv := Lib.hid (HR6.out.fr HFv.out (by simp)); rw [HQ.out, hdz]; clear hB
      go_wp2_with fail
      refine hK.out _ _ ?_ (fun hHeld => ?_)
      · (try dsimp only at hHeld ⊢)
        go_split_ands
        exact ⟨HRv.out.cells.1, HRv.out.cells.2.1, HRv.out.cells.2.2.1, HRv.out.cells.2.2.2.2.2⟩
      clear hK K
      try simp only [Act.put, List.setIfInBounds_toArray, List.set_cons_zero, List.set_cons_succ]
      refine take_at 9 (v := ?_) (some 77) rfl rfl (by kernel_rfl) (by kernel_rfl) (by kernel_rfl) (fun _ _ _ h => h) (Or.inl ⟨by rfl, ?_⟩) hHeld ?_
      rotate_left
      · (intro w hSw; (try dsimp only at hSw); go_simp; (try with_reducible rfl))
      simp only [Act.put, List.setIfInBounds_toArray, List.set_cons_zero, List.set_cons_succ]
      refine take_at 10 (v := ?_) (some 78) rfl rfl (by kernel_rfl) (by kernel_rfl) (by kernel_rfl) (fun _ _ _ h => h) (Or.inl ⟨by rfl, ?_⟩) hHeld ?_
      rotate_left
      · (intro w hSw; (try dsimp only at hSw); go_simp; (try with_reducible rfl))
      simp only [Act.put, List.setIfInBounds_toArray, List.set_cons_zero, List.set_cons_succ]

      clear c0 c1 c2 c5
      have HR7 := Lib.hid HRv.out
      have c4 := HRv.out.cells.2.2.2.2.1
      have fz4 := Bk.free HRv.out 4
      refine wpAnyH_ready (rs := [11]) (by kernel_rfl) (by simp) ?_
      refine AllReadyH.cons rfl (fun K hK => ?_) AllReadyH.nil
      go_simp
      refine hK.out _ _ ?_ (fun hHeld => ?_)
      · (try dsimp only at hHeld ⊢)
        exact ⟨set_other hHeld.1 (.inr (by simp)), set_other hHeld.2.1 (.inr (by simp)), set_other hHeld.2.2.1 (.inr (by simp)), set_other hHeld.2.2.2 (.inr (by simp))⟩
      clear hK K hHeld
      try simp only [Act.put]
      refine wpAnyH_done (by kernel_rfl) ?_ _
      have S7 := Lib.hid (show Fr [rb] v1 (v1.setCell ⟨rb, 4, none⟩ (.bool z)) from (Fr.refl _ _).set (by simp) _)
      have HR8 := Lib.hid (show Rd (v1.setCell ⟨rb, 4, none⟩ (.bool z)) rb bs wh n av4 z (k + 1 : Nat) from by simpa [Rd] using Bk.set HR7.out 4 (.bool z))
      have c4 := HR8.out.cells.2.2.2.2.1
      go_wp2_with fail
      go_ret
      exact ⟨_, by rw [HZ.out]; rfl, by rw [← HZ.out]; exact HR8.out, own_fr (own_fr HO6.out HFv.out (by simp)) S7.out (fun i hi hm => HNE6.out (by rw [List.mem_singleton.1 hm] at hi; exact rowB_mem.2 hi)), ⟨(HP6.out.1.fr HFv.out (by simp)).fr S7.out (by simp; exact fun e => HRB.out.1 e.symm), (HP6.out.2.1.fr HFv.out (by simp)).fr S7.out (by simp; exact fun e => HRB.out.2 e.symm), HP6.out.2.2⟩, (HF6.out.trans (HFv.out.mono (by simp))).trans (S7.out.mono (by simp))⟩

    · go_simp
      refine (load_any (bs + k) b g zs _ (show Pm W1.drew b g zs from HP.out)).mono ?_
      rintro e v2 ⟨rfl, hB⟩
      have HP2 := Lib.hid (show Pm v2 b g zs from Pm.below (show Pm W1.drew b g zs from HP.out) hB)
      have HF2 := Lib.hid (show Fr [] W1 v2 from ((Fr.refl [] W1).drew).trans (.of hB))
      have HO2 := Lib.hid (own_fr HO.out HF2.out (by simp))
      have HY := Lib.hid (getE_succ zs bs k)
      have HR2 := Lib.hid (HR.out.fr HF2.out (by simp))
      clear hB
      generalize ldv zs (bs + k) = y at *
      go_wp2_with fail
      refine hK.out _ _ ?_ (fun hHeld => ?_)
      · exact ⟨HR2.out.cells.1, HR2.out.cells.2.2.2.2.2⟩
      clear hK K
      try simp only [Act.put, List.setIfInBounds_toArray, List.set_cons_zero, List.set_cons_succ]
      refine wpAnyH_ready (rs := [4, 22]) (by kernel_rfl) (by simp) ?_
      refine AllReadyH.cons rfl (fun K hK => ?_) (AllReadyH.cons rfl (fun K hK => ?_) AllReadyH.nil)
      · have a3 : v2.cell? ⟨rb, 3, none⟩ = some av := HR2.out.cells.2.2.2.1
        go_simp
        refine hK.out _ _ ?_ (fun hHeld => ?_)
        · exact hHeld
        clear hK K a3
        try simp only [Act.put, List.setIfInBounds_toArray, List.set_cons_zero, List.set_cons_succ]
        refine wpAnyH_ready (rs := [22]) (by kernel_rfl) (by simp) ?_
        refine AllReadyH.cons rfl (fun K hK => ?_) AllReadyH.nil
        go_simp
        have HR3 := Lib.hid (HR2.out.alloc (.cells #[.int .u64 y] 29))
        refine hK.out _ _ ?_ (fun hHeld => ?_)
        · exact ⟨HR3.out.cells.1, HR3.out.cells.2.2.2.2.2⟩
        clear hK K
        try simp only [Act.put, List.setIfInBounds_toArray, List.set_cons_zero, List.set_cons_succ]
        refine wpAnyH_ready (rs := [23]) (by kernel_rfl) (by simp) ?_
        refine AllReadyH.cons rfl (fun K hK => ?_) AllReadyH.nil
        refine step_append_lies _ (by rfl) _ _ _ (by rfl) N 29 i0 (.int .u64 0) 1 8 Try.underlying22 hi hz0 hz1 hz2 rfl (by decide) _ k _ (by rfl) (HO2.out.alloc _) ⟨v2.heap.size, 0, none⟩ 1 1 [.int .u64 y] (by rfl) (by rfl) (cell_new1 _ _ _) (by simp [Value.oneCell']) (by decide) (by unfold maxLen; omega) (by omega) (by have := HF2.out.size; have := HF1.out.size; have := HN.out.2.2; rw [World.size_alloc]; omega) (v2.heap.size + 1) (by simp) ?_
        intro g4 cap4 v4 hown4 hgrow4 hat4 hlt4
        have hf4 := fr_grown hgrow4
        have HR4 := Lib.hid (HR2.out.fr hf4 (own_ne HO2.out HR2.out (by decide)))
        have HP4 := Lib.hid (show Pm v4 b g zs from ⟨HP2.out.1.fr hf4 (fun hm => by have := (HO2.out.lt b (rowB_mem.1 hm)).1; have := HN.out; omega), HP2.out.2.1.fr hf4 (fun hm => by have := (HO2.out.lt g (rowB_mem.1 hm)).1; have := HN.out; omega), HP2.out.2.2⟩)
        have HO4 := Lib.hid (show v4.ownsRow N 29 1 (.slice (some ⟨g4, 0, none⟩) (k + 1) cap4) (k + 1) ((getE zs bs (k + 1)).map (Value.int .u64)) by rw [HY.out, List.map_append]; exact hown4)
        have HF4 := Lib.hid ((HF2.out.mono (by simp)).trans hf4)
        have HNE := Lib.hid (own_ne HO4.out HR4.out (by decide))
        clear hown4 hgrow4 hf4
        refine hK.out _ _ ?_ (fun hHeld => ?_)
        · exact ⟨HR4.out.cells.1, HR4.out.cells.2.2.2.2.2⟩
        clear hK K
        try simp only [Act.put, List.setIfInBounds_toArray]
        refine take_at 24 (v := ?_) (some 57) rfl rfl (by kernel_rfl) (by kernel_rfl) (by kernel_rfl) (fun _ _ _ h => h) (Or.inl ⟨by rfl, ?_⟩) hHeld ?_
        rotate_left
        · (intro w hSw; (try dsimp only at hSw); go_simp; (try with_reducible rfl))
        simp only [Act.put]
        refine take_at 25 (v := ?_) (some 58) rfl rfl (by kernel_rfl) (by kernel_rfl) (by kernel_rfl) (fun _ _ _ h => h) (Or.inl ⟨by rfl, ?_⟩) hHeld ?_
        rotate_left
        · (intro w hSw; (try dsimp only at hSw); go_simp; (try with_reducible rfl))
        simp only [Act.put]
        refine wpAnyH_ready (rs := [26]) (by kernel_rfl) (by simp) ?_
        refine AllReadyH.cons rfl (fun K hK => ?_) AllReadyH.nil
        have fz := Bk.free HR4.out 3
        have a3 : v4.cell? ⟨rb, 3, none⟩ = some av := HR4.out.cells.2.2.2.1
        go_simp
        refine hK.out _ _ ?_ (fun hHeld => ?_)
        · (try dsimp only at hHeld ⊢)
          exact ⟨set_other hHeld.1 (.inr (by simp)), set_other hHeld.2 (.inr (by simp))⟩
        clear hK K hHeld a3 fz
        try simp only [Act.put, List.setIfInBounds_toArray, List.set_cons_zero, List.set_cons_succ]
        refine wpAnyH_done (by kernel_rfl) ?_ _
        try go_split_ands
        have HS5 := Lib.hid (show Fr [rb] v4 (v4.setCell ⟨rb, 3, none⟩ (.slice (some ⟨g4, 0, none⟩) (k + 1) cap4)) from (Fr.refl _ _).set (by simp) _)
        have HR5 := Lib.hid (show Rd (v4.setCell ⟨rb, 3, none⟩ (.slice (some ⟨g4, 0, none⟩) (k + 1) cap4)) rb bs wh n (.slice (some ⟨g4, 0, none⟩) (k + 1) cap4) false k from by simpa [Rd] using Bk.set HR4.out 3 (.slice (some ⟨g4, 0, none⟩) (k + 1) cap4))
        have HP5 := Lib.hid (show Pm (v4.setCell ⟨rb, 3, none⟩ (.slice (some ⟨g4, 0, none⟩) (k + 1) cap4)) b g zs from ⟨HP4.out.1.fr HS5.out (by simp; exact fun e => HRB.out.1 e.symm), HP4.out.2.1.fr HS5.out (by simp; exact fun e => HRB.out.2 e.symm), HP4.out.2.2⟩)
        have HO5 := Lib.hid (own_fr HO4.out HS5.out (fun i hi hm => HNE.out (by rw [List.mem_singleton.1 hm] at hi; exact rowB_mem.2 hi)))
        have HF5 := Lib.hid (show Fr (rb :: rowB av) w (v4.setCell ⟨rb, 3, none⟩ (.slice (some ⟨g4, 0, none⟩) (k + 1) cap4)) from (HF1.out.trans (HF4.out.mono (fun i hi => List.mem_cons_of_mem _ hi))).trans (HS5.out.mono (by simp)))
        have HNE5 := Lib.hid (own_ne HO5.out HR5.out (by decide))
        generalize (v4.setCell ⟨rb, 3, none⟩ (.slice (some ⟨g4, 0, none⟩) (k + 1) cap4)) = W5 at *
        generalize (Value.slice (some ⟨g4, 0, none⟩) (k + 1) cap4) = av4 at *
        clear HF4 HO4 HNE HP4 HR4 HF2 HO2 HP2 HR2 HR3 HY
        have y5 := HR5.out.cells.2.2.2.2.2
        have fz5 := Bk.free HR5.out 5
        go_wp2_with fail
        refine wp_gen (fun W => Rd W rb bs wh n av4 false (k + 1 : Nat) ∧ W.ownsRow N 29 1 av4 (k + 1) ((getE zs bs (k + 1)).map (Value.int .u64)) ∧ Pm W b g zs ∧ Fr (rb :: rowB av) w W) ?_ ?_
        · have S6 : Fr [rb] W5 (W5.setCell ⟨rb, 5, none⟩ (.int .i64 ((k : Int) + 1))) := (Fr.refl _ _).set (by simp) _
          exact ⟨by simpa [Rd] using Bk.set HR5.out 5 (.int .i64 ((k : Int) + 1)), own_fr HO5.out S6 (fun i hi hm => HNE5.out (by rw [List.mem_singleton.1 hm] at hi; exact rowB_mem.2 hi)), ⟨HP5.out.1.fr S6 (by simp; exact fun e => HRB.out.1 e.symm), HP5.out.2.1.fr S6 (by simp; exact fun e => HRB.out.2 e.symm), HP5.out.2.2⟩, HF5.out.trans (S6.mono (by simp))⟩
        intro W6 ⟨hr, hrow, hp, hf⟩
        clear y5 fz5 HR5 HO5 HP5 HF5 HS5 HNE5
        have HR6 := Lib.hid hr
        have HO6 := Lib.hid hrow
        have HP6 := Lib.hid hp
        have HF6 := Lib.hid hf
        have HNE6 := Lib.hid (own_ne hrow hr (by decide))
        obtain ⟨c0, c1, c2, c3, c4, c5⟩ := hr.cells
        clear hr hrow hp hf c3 c4
        refine wp_region_held_drew (S := (fun w' => w'.cell? ⟨rb, 0, none⟩ = some (.int .i64 bs) ∧ w'.cell? ⟨rb, 1, none⟩ = some (.int .i64 wh) ∧ w'.cell? ⟨rb, 2, none⟩ = some (.int .i64 n) ∧ w'.cell? ⟨rb, 5, none⟩ = some (.int .i64 ((k + 1 : Nat) : Int)))) (by kernel_rfl) ?_ (fun hHeld => ?_)
        · exact ⟨c0, c1, c2, c5⟩
        refine take_at 0 (v := ?_) (some 68) rfl rfl (by kernel_rfl) (by kernel_rfl) (by kernel_rfl) (fun _ _ _ h => h) (Or.inl ⟨by rfl, ?_⟩) hHeld ?_
        rotate_left
        · (intro w hSw; (try dsimp only at hSw); go_simp; (try with_reducible rfl))
        simp only [Act.put, List.setIfInBounds_toArray, List.set_cons_zero, List.set_cons_succ]
        refine take_at 1 (v := ?_) (some 69) rfl rfl (by kernel_rfl) (by kernel_rfl) (by kernel_rfl) (fun _ _ _ h => h) (Or.inl ⟨by rfl, ?_⟩) hHeld ?_
        rotate_left
        · (intro w hSw; (try dsimp only at hSw); go_simp; (try with_reducible rfl))
        simp only [Act.put, List.setIfInBounds_toArray, List.set_cons_zero, List.set_cons_succ]
        refine take_at 2 (v := ?_) (some 70) rfl rfl (by kernel_rfl) (by kernel_rfl) (by kernel_rfl) (fun _ _ _ h => h) (Or.inl ⟨by rfl, ?_⟩) hHeld ?_
        rotate_left
        · (intro w hSw; (try dsimp only at hSw); go_simp; (try with_reducible rfl))
        simp only [Act.put, List.setIfInBounds_toArray, List.set_cons_zero, List.set_cons_succ]
        refine take_at 3 (v := ?_) (some 71) rfl rfl (by kernel_rfl) (by kernel_rfl) (by kernel_rfl) (fun _ _ _ h => h) (Or.inl ⟨by rfl, ?_⟩) hHeld ?_
        rotate_left
        · (intro w hSw; (try dsimp only at hSw); go_simp; (try with_reducible rfl))
        simp only [Act.put, List.setIfInBounds_toArray, List.set_cons_zero, List.set_cons_succ]
        refine take_at 4 (v := ?_) (some 72) rfl rfl (by kernel_rfl) (by kernel_rfl) (by kernel_rfl) (fun _ _ _ h => h) (Or.inl ⟨by rfl, ?_⟩) hHeld ?_
        rotate_left
        · (intro w hSw; (try dsimp only at hSw); go_simp; (try with_reducible rfl))
        simp only [Act.put, List.setIfInBounds_toArray, List.set_cons_zero, List.set_cons_succ]
        refine take_at 5 (v := ?_) (some 73) rfl rfl (by kernel_rfl) (by kernel_rfl) (by kernel_rfl) (fun _ _ _ h => h) (Or.inl ⟨by rfl, ?_⟩) hHeld ?_
        rotate_left
        · (intro w hSw; (try dsimp only at hSw); go_simp; (try with_reducible rfl))
        simp only [Act.put, List.setIfInBounds_toArray, List.set_cons_zero, List.set_cons_succ]
        refine take_at 6 (v := ?_) (some 74) rfl rfl (by kernel_rfl) (by kernel_rfl) (by kernel_rfl) (fun _ _ _ h => h) (Or.inl ⟨by rfl, ?_⟩) hHeld ?_
        rotate_left
        · (intro w hSw; (try dsimp only at hSw); go_simp; (try with_reducible rfl))
        simp only [Act.put, List.setIfInBounds_toArray, List.set_cons_zero, List.set_cons_succ]
        refine take_at 7 (v := ?_) (some 75) rfl rfl (by kernel_rfl) (by kernel_rfl) (by kernel_rfl) (fun _ _ _ h => h) (Or.inl ⟨by rfl, ?_⟩) hHeld ?_
        rotate_left
        · (intro w hSw; (try dsimp only at hSw); go_simp; (try with_reducible rfl))
        simp only [Act.put, List.setIfInBounds_toArray, List.set_cons_zero, List.set_cons_succ]
        refine wpAnyH_ready (rs := [8]) (by kernel_rfl) (by simp) ?_
        refine AllReadyH.cons rfl (fun K hK => ?_) AllReadyH.nil
        go_simp
        refine (over_any rb 5 ((k + 1 : Nat) : Int) bs wh n _ (show W6.drew.cell? ⟨rb, 5, none⟩ = _ from HR6.out.cells.2.2.2.2.2)).mono ?_; rintro e v1 ⟨rfl, hB⟩; have HFv := Lib.hid (show Fr [] W6 v1 from ((Fr.refl [] W6).drew).trans (.of hB)); have HRv := Lib.hid (HR6.out.fr HFv.out (by simp)); rw [HQ.out, hdz]; clear hB
        go_wp2_with fail
        refine hK.out _ _ ?_ (fun hHeld => ?_)
        · (try dsimp only at hHeld ⊢)
          go_split_ands
          exact ⟨HRv.out.cells.1, HRv.out.cells.2.1, HRv.out.cells.2.2.1, HRv.out.cells.2.2.2.2.2⟩
        clear hK K
        try simp only [Act.put, List.setIfInBounds_toArray, List.set_cons_zero, List.set_cons_succ]
        refine take_at 9 (v := ?_) (some 77) rfl rfl (by kernel_rfl) (by kernel_rfl) (by kernel_rfl) (fun _ _ _ h => h) (Or.inl ⟨by rfl, ?_⟩) hHeld ?_
        rotate_left
        · (intro w hSw; (try dsimp only at hSw); go_simp; (try with_reducible rfl))
        simp only [Act.put, List.setIfInBounds_toArray, List.set_cons_zero, List.set_cons_succ]
        refine take_at 10 (v := ?_) (some 78) rfl rfl (by kernel_rfl) (by kernel_rfl) (by kernel_rfl) (fun _ _ _ h => h) (Or.inl ⟨by rfl, ?_⟩) hHeld ?_
        rotate_left
        · (intro w hSw; (try dsimp only at hSw); go_simp; (try with_reducible rfl))
        simp only [Act.put, List.setIfInBounds_toArray, List.set_cons_zero, List.set_cons_succ]

        clear c0 c1 c2 c5
        have HR7 := Lib.hid HRv.out
        have c4 := HRv.out.cells.2.2.2.2.1
        have fz4 := Bk.free HRv.out 4
        refine wpAnyH_ready (rs := [11]) (by kernel_rfl) (by simp) ?_
        refine AllReadyH.cons rfl (fun K hK => ?_) AllReadyH.nil
        go_simp
        refine hK.out _ _ ?_ (fun hHeld => ?_)
        · (try dsimp only at hHeld ⊢)
          exact ⟨set_other hHeld.1 (.inr (by simp)), set_other hHeld.2.1 (.inr (by simp)), set_other hHeld.2.2.1 (.inr (by simp)), set_other hHeld.2.2.2 (.inr (by simp))⟩
        clear hK K hHeld
        try simp only [Act.put]
        refine wpAnyH_done (by kernel_rfl) ?_ _
        have S7 := Lib.hid (show Fr [rb] v1 (v1.setCell ⟨rb, 4, none⟩ (.bool z)) from (Fr.refl _ _).set (by simp) _)
        have HR8 := Lib.hid (show Rd (v1.setCell ⟨rb, 4, none⟩ (.bool z)) rb bs wh n av4 z (k + 1 : Nat) from by simpa [Rd] using Bk.set HR7.out 4 (.bool z))
        have c4 := HR8.out.cells.2.2.2.2.1
        go_wp2_with fail
        go_ret
        exact ⟨_, by rw [HZ.out]; rfl, by rw [← HZ.out]; exact HR8.out, own_fr (own_fr HO6.out HFv.out (by simp)) S7.out (fun i hi hm => HNE6.out (by rw [List.mem_singleton.1 hm] at hi; exact rowB_mem.2 hi)), ⟨(HP6.out.1.fr HFv.out (by simp)).fr S7.out (by simp; exact fun e => HRB.out.1 e.symm), (HP6.out.2.1.fr HFv.out (by simp)).fr S7.out (by simp; exact fun e => HRB.out.2 e.symm), HP6.out.2.2⟩, (HF6.out.trans (HFv.out.mono (by simp))).trans (S7.out.mono (by simp))⟩

      · go_simp
        have HR3 := Lib.hid (HR2.out.alloc (.cells #[.int .u64 y] 29))
        refine hK.out _ _ ?_ (fun hHeld => ?_)
        · exact ⟨HR3.out.cells.1, HR3.out.cells.2.2.2.2.2⟩
        clear hK K
        try simp only [Act.put, List.setIfInBounds_toArray, List.set_cons_zero, List.set_cons_succ]
        refine wpAnyH_ready (rs := [4]) (by kernel_rfl) (by simp) ?_
        refine AllReadyH.cons rfl (fun K hK => ?_) AllReadyH.nil
        have a3 : (v2.alloc (.cells #[.int .u64 y] 29)).cell? ⟨rb, 3, none⟩ = some av := HR3.out.cells.2.2.2.1
        go_simp
        refine hK.out _ _ ?_ (fun hHeld => ?_)
        · exact hHeld
        clear hK K a3
        try simp only [Act.put, List.setIfInBounds_toArray, List.set_cons_zero, List.set_cons_succ]
        refine wpAnyH_ready (rs := [23]) (by kernel_rfl) (by simp) ?_
        refine AllReadyH.cons rfl (fun K hK => ?_) AllReadyH.nil
        refine step_append_lies _ (by rfl) _ _ _ (by rfl) N 29 i0 (.int .u64 0) 1 8 Try.underlying22 hi hz0 hz1 hz2 rfl (by decide) _ k _ (by rfl) (HO2.out.alloc _) ⟨v2.heap.size, 0, none⟩ 1 1 [.int .u64 y] (by rfl) (by rfl) (cell_new1 _ _ _) (by simp [Value.oneCell']) (by decide) (by unfold maxLen; omega) (by omega) (by have := HF2.out.size; have := HF1.out.size; have := HN.out.2.2; rw [World.size_alloc]; omega) (v2.heap.size + 1) (by simp) ?_
        intro g4 cap4 v4 hown4 hgrow4 hat4 hlt4
        have hf4 := fr_grown hgrow4
        have HR4 := Lib.hid (HR2.out.fr hf4 (own_ne HO2.out HR2.out (by decide)))
        have HP4 := Lib.hid (show Pm v4 b g zs from ⟨HP2.out.1.fr hf4 (fun hm => by have := (HO2.out.lt b (rowB_mem.1 hm)).1; have := HN.out; omega), HP2.out.2.1.fr hf4 (fun hm => by have := (HO2.out.lt g (rowB_mem.1 hm)).1; have := HN.out; omega), HP2.out.2.2⟩)
        have HO4 := Lib.hid (show v4.ownsRow N 29 1 (.slice (some ⟨g4, 0, none⟩) (k + 1) cap4) (k + 1) ((getE zs bs (k + 1)).map (Value.int .u64)) by rw [HY.out, List.map_append]; exact hown4)
        have HF4 := Lib.hid ((HF2.out.mono (by simp)).trans hf4)
        have HNE := Lib.hid (own_ne HO4.out HR4.out (by decide))
        clear hown4 hgrow4 hf4
        refine hK.out _ _ ?_ (fun hHeld => ?_)
        · exact ⟨HR4.out.cells.1, HR4.out.cells.2.2.2.2.2⟩
        clear hK K
        try simp only [Act.put, List.setIfInBounds_toArray]
        refine take_at 24 (v := ?_) (some 57) rfl rfl (by kernel_rfl) (by kernel_rfl) (by kernel_rfl) (fun _ _ _ h => h) (Or.inl ⟨by rfl, ?_⟩) hHeld ?_
        rotate_left
        · (intro w hSw; (try dsimp only at hSw); go_simp; (try with_reducible rfl))
        simp only [Act.put]
        refine take_at 25 (v := ?_) (some 58) rfl rfl (by kernel_rfl) (by kernel_rfl) (by kernel_rfl) (fun _ _ _ h => h) (Or.inl ⟨by rfl, ?_⟩) hHeld ?_
        rotate_left
        · (intro w hSw; (try dsimp only at hSw); go_simp; (try with_reducible rfl))
        simp only [Act.put]
        refine wpAnyH_ready (rs := [26]) (by kernel_rfl) (by simp) ?_
        refine AllReadyH.cons rfl (fun K hK => ?_) AllReadyH.nil
        have fz := Bk.free HR4.out 3
        have a3 : v4.cell? ⟨rb, 3, none⟩ = some av := HR4.out.cells.2.2.2.1
        go_simp
        refine hK.out _ _ ?_ (fun hHeld => ?_)
        · (try dsimp only at hHeld ⊢)
          exact ⟨set_other hHeld.1 (.inr (by simp)), set_other hHeld.2 (.inr (by simp))⟩
        clear hK K hHeld a3 fz
        try simp only [Act.put, List.setIfInBounds_toArray, List.set_cons_zero, List.set_cons_succ]
        refine wpAnyH_done (by kernel_rfl) ?_ _
        try go_split_ands
        have HS5 := Lib.hid (show Fr [rb] v4 (v4.setCell ⟨rb, 3, none⟩ (.slice (some ⟨g4, 0, none⟩) (k + 1) cap4)) from (Fr.refl _ _).set (by simp) _)
        have HR5 := Lib.hid (show Rd (v4.setCell ⟨rb, 3, none⟩ (.slice (some ⟨g4, 0, none⟩) (k + 1) cap4)) rb bs wh n (.slice (some ⟨g4, 0, none⟩) (k + 1) cap4) false k from by simpa [Rd] using Bk.set HR4.out 3 (.slice (some ⟨g4, 0, none⟩) (k + 1) cap4))
        have HP5 := Lib.hid (show Pm (v4.setCell ⟨rb, 3, none⟩ (.slice (some ⟨g4, 0, none⟩) (k + 1) cap4)) b g zs from ⟨HP4.out.1.fr HS5.out (by simp; exact fun e => HRB.out.1 e.symm), HP4.out.2.1.fr HS5.out (by simp; exact fun e => HRB.out.2 e.symm), HP4.out.2.2⟩)
        have HO5 := Lib.hid (own_fr HO4.out HS5.out (fun i hi hm => HNE.out (by rw [List.mem_singleton.1 hm] at hi; exact rowB_mem.2 hi)))
        have HF5 := Lib.hid (show Fr (rb :: rowB av) w (v4.setCell ⟨rb, 3, none⟩ (.slice (some ⟨g4, 0, none⟩) (k + 1) cap4)) from (HF1.out.trans (HF4.out.mono (fun i hi => List.mem_cons_of_mem _ hi))).trans (HS5.out.mono (by simp)))
        have HNE5 := Lib.hid (own_ne HO5.out HR5.out (by decide))
        generalize (v4.setCell ⟨rb, 3, none⟩ (.slice (some ⟨g4, 0, none⟩) (k + 1) cap4)) = W5 at *
        generalize (Value.slice (some ⟨g4, 0, none⟩) (k + 1) cap4) = av4 at *
        clear HF4 HO4 HNE HP4 HR4 HF2 HO2 HP2 HR2 HR3 HY
        have y5 := HR5.out.cells.2.2.2.2.2
        have fz5 := Bk.free HR5.out 5
        go_wp2_with fail
        refine wp_gen (fun W => Rd W rb bs wh n av4 false (k + 1 : Nat) ∧ W.ownsRow N 29 1 av4 (k + 1) ((getE zs bs (k + 1)).map (Value.int .u64)) ∧ Pm W b g zs ∧ Fr (rb :: rowB av) w W) ?_ ?_
        · have S6 : Fr [rb] W5 (W5.setCell ⟨rb, 5, none⟩ (.int .i64 ((k : Int) + 1))) := (Fr.refl _ _).set (by simp) _
          exact ⟨by simpa [Rd] using Bk.set HR5.out 5 (.int .i64 ((k : Int) + 1)), own_fr HO5.out S6 (fun i hi hm => HNE5.out (by rw [List.mem_singleton.1 hm] at hi; exact rowB_mem.2 hi)), ⟨HP5.out.1.fr S6 (by simp; exact fun e => HRB.out.1 e.symm), HP5.out.2.1.fr S6 (by simp; exact fun e => HRB.out.2 e.symm), HP5.out.2.2⟩, HF5.out.trans (S6.mono (by simp))⟩
        intro W6 ⟨hr, hrow, hp, hf⟩
        clear y5 fz5 HR5 HO5 HP5 HF5 HS5 HNE5
        have HR6 := Lib.hid hr
        have HO6 := Lib.hid hrow
        have HP6 := Lib.hid hp
        have HF6 := Lib.hid hf
        have HNE6 := Lib.hid (own_ne hrow hr (by decide))
        obtain ⟨c0, c1, c2, c3, c4, c5⟩ := hr.cells
        clear hr hrow hp hf c3 c4
        refine wp_region_held_drew (S := (fun w' => w'.cell? ⟨rb, 0, none⟩ = some (.int .i64 bs) ∧ w'.cell? ⟨rb, 1, none⟩ = some (.int .i64 wh) ∧ w'.cell? ⟨rb, 2, none⟩ = some (.int .i64 n) ∧ w'.cell? ⟨rb, 5, none⟩ = some (.int .i64 ((k + 1 : Nat) : Int)))) (by kernel_rfl) ?_ (fun hHeld => ?_)
        · exact ⟨c0, c1, c2, c5⟩
        refine take_at 0 (v := ?_) (some 68) rfl rfl (by kernel_rfl) (by kernel_rfl) (by kernel_rfl) (fun _ _ _ h => h) (Or.inl ⟨by rfl, ?_⟩) hHeld ?_
        rotate_left
        · (intro w hSw; (try dsimp only at hSw); go_simp; (try with_reducible rfl))
        simp only [Act.put, List.setIfInBounds_toArray, List.set_cons_zero, List.set_cons_succ]
        refine take_at 1 (v := ?_) (some 69) rfl rfl (by kernel_rfl) (by kernel_rfl) (by kernel_rfl) (fun _ _ _ h => h) (Or.inl ⟨by rfl, ?_⟩) hHeld ?_
        rotate_left
        · (intro w hSw; (try dsimp only at hSw); go_simp; (try with_reducible rfl))
        simp only [Act.put, List.setIfInBounds_toArray, List.set_cons_zero, List.set_cons_succ]
        refine take_at 2 (v := ?_) (some 70) rfl rfl (by kernel_rfl) (by kernel_rfl) (by kernel_rfl) (fun _ _ _ h => h) (Or.inl ⟨by rfl, ?_⟩) hHeld ?_
        rotate_left
        · (intro w hSw; (try dsimp only at hSw); go_simp; (try with_reducible rfl))
        simp only [Act.put, List.setIfInBounds_toArray, List.set_cons_zero, List.set_cons_succ]
        refine take_at 3 (v := ?_) (some 71) rfl rfl (by kernel_rfl) (by kernel_rfl) (by kernel_rfl) (fun _ _ _ h => h) (Or.inl ⟨by rfl, ?_⟩) hHeld ?_
        rotate_left
        · (intro w hSw; (try dsimp only at hSw); go_simp; (try with_reducible rfl))
        simp only [Act.put, List.setIfInBounds_toArray, List.set_cons_zero, List.set_cons_succ]
        refine take_at 4 (v := ?_) (some 72) rfl rfl (by kernel_rfl) (by kernel_rfl) (by kernel_rfl) (fun _ _ _ h => h) (Or.inl ⟨by rfl, ?_⟩) hHeld ?_
        rotate_left
        · (intro w hSw; (try dsimp only at hSw); go_simp; (try with_reducible rfl))
        simp only [Act.put, List.setIfInBounds_toArray, List.set_cons_zero, List.set_cons_succ]
        refine take_at 5 (v := ?_) (some 73) rfl rfl (by kernel_rfl) (by kernel_rfl) (by kernel_rfl) (fun _ _ _ h => h) (Or.inl ⟨by rfl, ?_⟩) hHeld ?_
        rotate_left
        · (intro w hSw; (try dsimp only at hSw); go_simp; (try with_reducible rfl))
        simp only [Act.put, List.setIfInBounds_toArray, List.set_cons_zero, List.set_cons_succ]
        refine take_at 6 (v := ?_) (some 74) rfl rfl (by kernel_rfl) (by kernel_rfl) (by kernel_rfl) (fun _ _ _ h => h) (Or.inl ⟨by rfl, ?_⟩) hHeld ?_
        rotate_left
        · (intro w hSw; (try dsimp only at hSw); go_simp; (try with_reducible rfl))
        simp only [Act.put, List.setIfInBounds_toArray, List.set_cons_zero, List.set_cons_succ]
        refine take_at 7 (v := ?_) (some 75) rfl rfl (by kernel_rfl) (by kernel_rfl) (by kernel_rfl) (fun _ _ _ h => h) (Or.inl ⟨by rfl, ?_⟩) hHeld ?_
        rotate_left
        · (intro w hSw; (try dsimp only at hSw); go_simp; (try with_reducible rfl))
        simp only [Act.put, List.setIfInBounds_toArray, List.set_cons_zero, List.set_cons_succ]
        refine wpAnyH_ready (rs := [8]) (by kernel_rfl) (by simp) ?_
        refine AllReadyH.cons rfl (fun K hK => ?_) AllReadyH.nil
        go_simp
        refine (over_any rb 5 ((k + 1 : Nat) : Int) bs wh n _ (show W6.drew.cell? ⟨rb, 5, none⟩ = _ from HR6.out.cells.2.2.2.2.2)).mono ?_; rintro e v1 ⟨rfl, hB⟩; have HFv := Lib.hid (show Fr [] W6 v1 from ((Fr.refl [] W6).drew).trans (.of hB)); have HRv := Lib.hid (HR6.out.fr HFv.out (by simp)); rw [HQ.out, hdz]; clear hB
        go_wp2_with fail
        refine hK.out _ _ ?_ (fun hHeld => ?_)
        · (try dsimp only at hHeld ⊢)
          go_split_ands
          exact ⟨HRv.out.cells.1, HRv.out.cells.2.1, HRv.out.cells.2.2.1, HRv.out.cells.2.2.2.2.2⟩
        clear hK K
        try simp only [Act.put, List.setIfInBounds_toArray, List.set_cons_zero, List.set_cons_succ]
        refine take_at 9 (v := ?_) (some 77) rfl rfl (by kernel_rfl) (by kernel_rfl) (by kernel_rfl) (fun _ _ _ h => h) (Or.inl ⟨by rfl, ?_⟩) hHeld ?_
        rotate_left
        · (intro w hSw; (try dsimp only at hSw); go_simp; (try with_reducible rfl))
        simp only [Act.put, List.setIfInBounds_toArray, List.set_cons_zero, List.set_cons_succ]
        refine take_at 10 (v := ?_) (some 78) rfl rfl (by kernel_rfl) (by kernel_rfl) (by kernel_rfl) (fun _ _ _ h => h) (Or.inl ⟨by rfl, ?_⟩) hHeld ?_
        rotate_left
        · (intro w hSw; (try dsimp only at hSw); go_simp; (try with_reducible rfl))
        simp only [Act.put, List.setIfInBounds_toArray, List.set_cons_zero, List.set_cons_succ]

        clear c0 c1 c2 c5
        have HR7 := Lib.hid HRv.out
        have c4 := HRv.out.cells.2.2.2.2.1
        have fz4 := Bk.free HRv.out 4
        refine wpAnyH_ready (rs := [11]) (by kernel_rfl) (by simp) ?_
        refine AllReadyH.cons rfl (fun K hK => ?_) AllReadyH.nil
        go_simp
        refine hK.out _ _ ?_ (fun hHeld => ?_)
        · (try dsimp only at hHeld ⊢)
          exact ⟨set_other hHeld.1 (.inr (by simp)), set_other hHeld.2.1 (.inr (by simp)), set_other hHeld.2.2.1 (.inr (by simp)), set_other hHeld.2.2.2 (.inr (by simp))⟩
        clear hK K hHeld
        try simp only [Act.put]
        refine wpAnyH_done (by kernel_rfl) ?_ _
        have S7 := Lib.hid (show Fr [rb] v1 (v1.setCell ⟨rb, 4, none⟩ (.bool z)) from (Fr.refl _ _).set (by simp) _)
        have HR8 := Lib.hid (show Rd (v1.setCell ⟨rb, 4, none⟩ (.bool z)) rb bs wh n av4 z (k + 1 : Nat) from by simpa [Rd] using Bk.set HR7.out 4 (.bool z))
        have c4 := HR8.out.cells.2.2.2.2.1
        go_wp2_with fail
        go_ret
        exact ⟨_, by rw [HZ.out]; rfl, by rw [← HZ.out]; exact HR8.out, own_fr (own_fr HO6.out HFv.out (by simp)) S7.out (fun i hi hm => HNE6.out (by rw [List.mem_singleton.1 hm] at hi; exact rowB_mem.2 hi)), ⟨(HP6.out.1.fr HFv.out (by simp)).fr S7.out (by simp; exact fun e => HRB.out.1 e.symm), (HP6.out.2.1.fr HFv.out (by simp)).fr S7.out (by simp; exact fun e => HRB.out.2 e.symm), HP6.out.2.2⟩, (HF6.out.trans (HFv.out.mono (by simp))).trans (S7.out.mono (by simp))⟩



end Go.Proofs.Yteheckcflnogbaa
