/-
  soughref30.Join.Step, Get; soughlaw30.few: contracts. Written by wip/gen/mkcell9.py.
-/
import Derived.Test.YteheckcflnogbaaCell8
import Derived.Test.YteheckcflnogbaaCell6
import Derived.Test.YteheckcflnogbaaTp2
namespace Go.Proofs.Yteheckcflnogbaa
open Go.RowKit

/-- The reference's Join. -/
def Rj (w : World) (jb : Nat) (bs wh n : Int) (av : Value) (x : JnS) : Prop := Bk w jb 132 [.int .i64 bs, .int .i64 wh, .int .i64 n, av, .int .i64 x.k, .bool x.tr, .int .u64 x.was, .bool x.ch, .bool x.en, .int .i64 x.tries]
theorem Rj.fr {S : List Nat} {w w' : World} {jb : Nat} {bs wh n : Int} {av : Value} {x : JnS} (h : Rj w jb bs wh n av x) (hf : Fr S w w') (hb : jb ∉ S) : Rj w' jb bs wh n av x := Bk.fr h hf hb

set_option maxHeartbeats 3200000 in
set_option maxRecDepth 100000 in
theorem rj_look (bs wh n : Int) (q : Nat) (jb b g : Nat) (av : Value) (A : List Nat) (zs : List Int) (ch : Bool) (tries : Int) (k x0 : Nat) (w : World) (hbs : 0 ≤ bs ∧ bs ≤ 1000) (hq : cwn n = q) (hq2 : q ≤ 1024) (hk : k < q) (hA : Ws w av A) (hAj : ∀ a c, av = .slice (some a) A.length c → 0 < A.length → a.block ≠ jb ∧ a.block ≠ g) (hm : Rm w b g zs) (hx064 : x0 < 18446744073709551616) (y : Nat) (hy : wdA A k = (y : Int)) (hy64 : y < 18446744073709551616) (f : Nat → Nat → Nat) (hf : ∀ (x y : Nat) (w : World), x < 18446744073709551616 → y < 18446744073709551616 → Calls Try.prog 31 #[.int .i64 wh, .int .u64 x, .int .u64 y] w fun e w' => e = .returned (.int .u64 (f x y : Nat)) ∧ Below w.heap.size w w') (hJ : Rj w jb bs wh n av ⟨ch, false, tries, k, x0, false⟩) (x : Nat) (hx : ldv zs (bs + k) = (x : Int)) (hx64 : x < 18446744073709551616) (hd : f x y ≠ x) :
    Calls Try.prog 82 #[.pointer (some ⟨jb, 0, none⟩), .pointer (some ⟨b, 0, none⟩)] w fun e w' => e = .returned (.bool false) ∧ Rj w' jb bs wh n av ⟨ch, false, tries, k, x, true⟩ ∧ Rm w' b g zs ∧ Fr [jb, g] w w' := by
  have HR := Lib.hid (show Bk w jb 132 [.int .i64 bs, .int .i64 wh, .int .i64 n, av, .int .i64 k, .bool false, .int .u64 x0, .bool ch, .bool false, .int .i64 tries] from hJ)
  have HM := Lib.hid hm
  have HA := Lib.hid hA
  have HAJ := Lib.hid hAj
  have HQ := Lib.hid hq
  have HY := Lib.hid hy
  have HY64 := Lib.hid hy64
  have HX0 := Lib.hid hx064
  have HWD := Lib.hid hf
  have HRB := Lib.hid (show jb ≠ b ∧ jb ≠ g from ⟨Bk.ne HR.out hm.1 (by decide), Bk.ne HR.out hm.2.1 (by decide)⟩)
  obtain ⟨hb0, hb1⟩ := hbs
  have hdk : decide ((q : Int) ≤ k) = false := decide_eq_false (by omega)
  have c0 : w.cell? ⟨jb, 0, none⟩ = some (.int .i64 bs) := HR.out.cell 0
  have c1 : w.cell? ⟨jb, 1, none⟩ = some (.int .i64 wh) := HR.out.cell 1
  have c2 : w.cell? ⟨jb, 2, none⟩ = some (.int .i64 n) := HR.out.cell 2
  have c3 : w.cell? ⟨jb, 3, none⟩ = some (av) := HR.out.cell 3
  have c4 : w.cell? ⟨jb, 4, none⟩ = some (.int .i64 k) := HR.out.cell 4
  have c5 : w.cell? ⟨jb, 5, none⟩ = some (.bool false) := HR.out.cell 5
  have c6 : w.cell? ⟨jb, 6, none⟩ = some (.int .u64 x0) := HR.out.cell 6
  have c7 : w.cell? ⟨jb, 7, none⟩ = some (.bool ch) := HR.out.cell 7
  have c8 : w.cell? ⟨jb, 8, none⟩ = some (.bool false) := HR.out.cell 8
  have c9 : w.cell? ⟨jb, 9, none⟩ = some (.int .i64 tries) := HR.out.cell 9
  have HX := Lib.hid hx
  have HX64 := Lib.hid hx64
  clear hx
  have hbe : (((f x y : Nat) : Int) == (x : Int)) = false := by simp only [beq_eq_false_iff_ne, ne_eq]; omega
  clear hJ hm hA hAj hq hy hf
  go_enter Try.func82, Try.ntmps82
  go_wp2_with fail
  refine (rcwords_any _ _).mono ?_
  rintro e w1 ⟨rfl, hww⟩
  subst w1
  rw [HQ.out]
  go_wp2_with fail
  refine wp_region_held_drew (S := (fun w' => w'.cell? ⟨jb, 1, none⟩ = some (.int .i64 wh) ∧ w'.cell? ⟨jb, 6, none⟩ = some (.int .u64 x0) ∧ w'.cell? ⟨jb, 3, none⟩ = some (av) ∧ w'.cell? ⟨jb, 4, none⟩ = some (.int .i64 k))) (by kernel_rfl) ?_ (fun hHeld => ?_)
  · exact ⟨c1, c6, c3, c4⟩
  refine take_at 0 (v := ?_) (some 29) rfl rfl (by kernel_rfl) (by kernel_rfl) (by kernel_rfl) (fun _ _ _ h => h) (Or.inl ⟨by rfl, ?_⟩) hHeld ?_
  rotate_left
  · (intro w hSw; (try dsimp only at hSw); go_simp; (try with_reducible rfl))
  simp only [Act.put, List.setIfInBounds_toArray, List.set_cons_zero, List.set_cons_succ]
  refine take_at 1 (v := ?_) (some 30) rfl rfl (by kernel_rfl) (by kernel_rfl) (by kernel_rfl) (fun _ _ _ h => h) (Or.inl ⟨by rfl, ?_⟩) hHeld ?_
  rotate_left
  · (intro w hSw; (try dsimp only at hSw); go_simp; (try with_reducible rfl))
  simp only [Act.put, List.setIfInBounds_toArray, List.set_cons_zero, List.set_cons_succ]
  refine take_at 2 (v := ?_) (some 31) rfl rfl (by kernel_rfl) (by kernel_rfl) (by kernel_rfl) (fun _ _ _ h => h) (Or.inl ⟨by rfl, ?_⟩) hHeld ?_
  rotate_left
  · (intro w hSw; (try dsimp only at hSw); go_simp; (try with_reducible rfl))
  simp only [Act.put, List.setIfInBounds_toArray, List.set_cons_zero, List.set_cons_succ]
  refine take_at 3 (v := ?_) (some 32) rfl rfl (by kernel_rfl) (by kernel_rfl) (by kernel_rfl) (fun _ _ _ h => h) (Or.inl ⟨by rfl, ?_⟩) hHeld ?_
  rotate_left
  · (intro w hSw; (try dsimp only at hSw); go_simp; (try with_reducible rfl))
  simp only [Act.put, List.setIfInBounds_toArray, List.set_cons_zero, List.set_cons_succ]
  refine take_at 4 (v := ?_) (some 33) rfl rfl (by kernel_rfl) (by kernel_rfl) (by kernel_rfl) (fun _ _ _ h => h) (Or.inl ⟨by rfl, ?_⟩) hHeld ?_
  rotate_left
  · (intro w hSw; (try dsimp only at hSw); go_simp; (try with_reducible rfl))
  simp only [Act.put, List.setIfInBounds_toArray, List.set_cons_zero, List.set_cons_succ]
  refine take_at 5 (v := ?_) (some 34) rfl rfl (by kernel_rfl) (by kernel_rfl) (by kernel_rfl) (fun _ _ _ h => h) (Or.inl ⟨by rfl, ?_⟩) hHeld ?_
  rotate_left
  · (intro w hSw; (try dsimp only at hSw); go_simp; (try with_reducible rfl))
  simp only [Act.put, List.setIfInBounds_toArray, List.set_cons_zero, List.set_cons_succ]
  refine take_at 6 (v := ?_) (some 35) rfl rfl (by kernel_rfl) (by kernel_rfl) (by kernel_rfl) (fun _ _ _ h => h) (Or.inl ⟨by rfl, ?_⟩) hHeld ?_
  rotate_left
  · (intro w hSw; (try dsimp only at hSw); go_simp; (try with_reducible rfl))
  simp only [Act.put, List.setIfInBounds_toArray, List.set_cons_zero, List.set_cons_succ]
  refine take_at 7 (v := ?_) (some 36) rfl rfl (by kernel_rfl) (by kernel_rfl) (by kernel_rfl) (fun _ _ _ h => h) (Or.inl ⟨by rfl, ?_⟩) hHeld ?_
  rotate_left
  · (intro w hSw; (try dsimp only at hSw); go_simp; (try with_reducible rfl))
  simp only [Act.put, List.setIfInBounds_toArray, List.set_cons_zero, List.set_cons_succ]
  refine take_at 8 (v := ?_) (some 37) rfl rfl (by kernel_rfl) (by kernel_rfl) (by kernel_rfl) (fun _ _ _ h => h) (Or.inl ⟨by rfl, ?_⟩) hHeld ?_
  rotate_left
  · (intro w hSw; (try dsimp only at hSw); go_simp; (try with_reducible rfl))
  simp only [Act.put, List.setIfInBounds_toArray, List.set_cons_zero, List.set_cons_succ]
  refine take_at 9 (v := ?_) (some 38) rfl rfl (by kernel_rfl) (by kernel_rfl) (by kernel_rfl) (fun _ _ _ h => h) (Or.inl ⟨by rfl, ?_⟩) hHeld ?_
  rotate_left
  · (intro w hSw; (try dsimp only at hSw); go_simp; (try with_reducible rfl))
  simp only [Act.put, List.setIfInBounds_toArray, List.set_cons_zero, List.set_cons_succ]
  refine take_at 10 (v := ?_) (some 39) rfl rfl (by kernel_rfl) (by kernel_rfl) (by kernel_rfl) (fun _ _ _ h => h) (Or.inl ⟨by rfl, ?_⟩) hHeld ?_
  rotate_left
  · (intro w hSw; (try dsimp only at hSw); go_simp; (try with_reducible rfl))
  simp only [Act.put, List.setIfInBounds_toArray, List.set_cons_zero, List.set_cons_succ]
  refine take_at 11 (v := ?_) (some 40) rfl rfl (by kernel_rfl) (by kernel_rfl) (by kernel_rfl) (fun _ _ _ h => h) (Or.inl ⟨by rfl, ?_⟩) hHeld ?_
  rotate_left
  · (intro w hSw; (try dsimp only at hSw); go_simp; (try with_reducible rfl))
  simp only [Act.put, List.setIfInBounds_toArray, List.set_cons_zero, List.set_cons_succ]
  refine take_at 12 (v := ?_) (some 41) rfl rfl (by kernel_rfl) (by kernel_rfl) (by kernel_rfl) (fun _ _ _ h => h) (Or.inl ⟨by rfl, ?_⟩) hHeld ?_
  rotate_left
  · (intro w hSw; (try dsimp only at hSw); go_simp; (try with_reducible rfl))
  simp only [Act.put, List.setIfInBounds_toArray, List.set_cons_zero, List.set_cons_succ]
  refine take_at 13 (v := ?_) (some 42) rfl rfl (by kernel_rfl) (by kernel_rfl) (by kernel_rfl) (fun _ _ _ h => h) (Or.inl ⟨by rfl, ?_⟩) hHeld ?_
  rotate_left
  · (intro w hSw; (try dsimp only at hSw); go_simp; (try with_reducible rfl))
  simp only [Act.put, List.setIfInBounds_toArray, List.set_cons_zero, List.set_cons_succ]
  refine take_at 14 (v := ?_) (some 43) rfl rfl (by kernel_rfl) (by kernel_rfl) (by kernel_rfl) (fun _ _ _ h => h) (Or.inl ⟨by rfl, ?_⟩) hHeld ?_
  rotate_left
  · (intro w hSw; (try dsimp only at hSw); go_simp; (try with_reducible rfl))
  simp only [Act.put, List.setIfInBounds_toArray, List.set_cons_zero, List.set_cons_succ]
  refine take_at 15 (v := ?_) (some 44) rfl rfl (by kernel_rfl) (by kernel_rfl) (by kernel_rfl) (fun _ _ _ h => h) (Or.inl ⟨by rfl, ?_⟩) hHeld ?_
  rotate_left
  · (intro w hSw; (try dsimp only at hSw); go_simp; (try with_reducible rfl))
  simp only [Act.put, List.setIfInBounds_toArray, List.set_cons_zero, List.set_cons_succ]
  refine wpAnyH_ready (rs := [16]) (by kernel_rfl) (by simp) ?_
  refine AllReadyH.cons rfl (fun K hK => ?_) AllReadyH.nil
  go_simp
  refine (rcword30_any av A k _ (show Ws w.drew av A from HA.out)).mono ?_; rintro e v0 ⟨rfl, hww⟩; subst v0; rw [HY.out]; have HFv := Lib.hid (Fr.refl ([] : List Nat) w.drew)
  go_wp2_with fail
  refine hK.out _ _ ?_ (fun hHeld => ?_)
  · exact ⟨cell_fr hHeld.1 HFv.out (by simp), cell_fr hHeld.2.1 HFv.out (by simp), cell_fr hHeld.2.2.1 HFv.out (by simp), cell_fr hHeld.2.2.2 HFv.out (by simp)⟩
  clear hK K
  try simp only [Act.put, List.setIfInBounds_toArray, List.set_cons_zero, List.set_cons_succ]
  refine wpAnyH_ready (rs := [17]) (by kernel_rfl) (by simp) ?_
  refine AllReadyH.cons rfl (fun K hK => ?_) AllReadyH.nil
  go_simp
  refine (HWD.out x0 y _ HX0.out HY64.out).mono ?_; rintro e v1 ⟨rfl, hB⟩; have HFv := Lib.hid (show Fr [] w.drew v1 from .of hB); clear hB
  go_wp2_with fail
  refine hK.out _ _ ?_ (fun hHeld => ?_)
  · exact ⟨cell_fr hHeld.1 HFv.out (by simp), cell_fr hHeld.2.1 HFv.out (by simp), cell_fr hHeld.2.2.1 HFv.out (by simp), cell_fr hHeld.2.2.2 HFv.out (by simp)⟩
  clear hK K
  try simp only [Act.put, List.setIfInBounds_toArray, List.set_cons_zero, List.set_cons_succ]
  refine take_at 18 (v := ?_) (some 6) rfl rfl (by kernel_rfl) (by kernel_rfl) (by kernel_rfl) (fun _ _ _ h => h) (Or.inl ⟨by rfl, ?_⟩) hHeld ?_
  rotate_left
  · (intro w hSw; (try dsimp only at hSw); go_simp; (try with_reducible rfl))
  simp only [Act.put, List.setIfInBounds_toArray, List.set_cons_zero, List.set_cons_succ]
  refine wpAnyH_done (by kernel_rfl) ?_ _
  go_split_ands

  have HF1 := Lib.hid (show Fr [] w v1 from (Fr.refl [] w).drew.trans HFv.out)
  have HR1 := Lib.hid (HR.out.fr HF1.out (by simp))
  have HM1 := Lib.hid (rmfr HM.out HF1.out (by simp) (by simp))
  have HA1 := Lib.hid (HA.out.fr HF1.out (by simp))
  clear c0 c1 c2 c3 c4 c5 c6 c7 c8 c9 HFv HR HM HA
  have d5 : v1.cell? ⟨jb, 5, none⟩ = some (.bool false) := HR1.out.cell 5
  have g5 := HR1.out.free 5
  go_wp2_with fail
  have c0 : v1.cell? ⟨jb, 0, none⟩ = some (.int .i64 bs) := HR1.out.cell 0
  have c4 : v1.cell? ⟨jb, 4, none⟩ = some (.int .i64 k) := HR1.out.cell 4
  have hsum : IntKind.i64.wrap (bs + k) = bs + k := IntWalk.i64_in _ (by omega)
  refine wp_region_held_drew (S := (fun w' => w'.cell? ⟨jb, 0, none⟩ = some (.int .i64 bs) ∧ w'.cell? ⟨jb, 4, none⟩ = some (.int .i64 k))) (by kernel_rfl) ?_ (fun hHeld => ?_)
  · exact ⟨c0, c4⟩
  refine take_at 0 (v := ?_) (some 93) rfl rfl (by kernel_rfl) (by kernel_rfl) (by kernel_rfl) (fun _ _ _ h => h) (Or.inl ⟨by rfl, ?_⟩) hHeld ?_
  rotate_left
  · (intro w hSw; (try dsimp only at hSw); go_simp; (try with_reducible rfl))
  simp only [Act.put, List.setIfInBounds_toArray, List.set_cons_zero, List.set_cons_succ]
  refine take_at 1 (v := ?_) (some 94) rfl rfl (by kernel_rfl) (by kernel_rfl) (by kernel_rfl) (fun _ _ _ h => h) (Or.inl ⟨by rfl, ?_⟩) hHeld ?_
  rotate_left
  · (intro w hSw; (try dsimp only at hSw); go_simp; (try with_reducible rfl))
  simp only [Act.put, List.setIfInBounds_toArray, List.set_cons_zero, List.set_cons_succ]
  refine take_at 2 (v := ?_) (some 95) rfl rfl (by kernel_rfl) (by kernel_rfl) (by kernel_rfl) (fun _ _ _ h => h) (Or.inl ⟨by rfl, ?_⟩) hHeld ?_
  rotate_left
  · (intro w hSw; (try dsimp only at hSw); go_simp; (try with_reducible rfl))
  simp only [Act.put, List.setIfInBounds_toArray, List.set_cons_zero, List.set_cons_succ]
  refine take_at 3 (v := ?_) (some 96) rfl rfl (by kernel_rfl) (by kernel_rfl) (by kernel_rfl) (fun _ _ _ h => h) (Or.inl ⟨by rfl, ?_⟩) hHeld ?_
  rotate_left
  · (intro w hSw; (try dsimp only at hSw); go_simp; (try with_reducible rfl))
  simp only [Act.put, List.setIfInBounds_toArray, List.set_cons_zero, List.set_cons_succ]
  refine take_at 4 (v := ?_) (some 97) rfl rfl (by kernel_rfl) (by kernel_rfl) (by kernel_rfl) (fun _ _ _ h => h) (Or.inl ⟨by rfl, ?_⟩) hHeld ?_
  rotate_left
  · (intro w hSw; (try dsimp only at hSw); go_simp; (try with_reducible rfl))
  simp only [Act.put, List.setIfInBounds_toArray, List.set_cons_zero, List.set_cons_succ]
  refine take_at 5 (v := ?_) (some 98) rfl rfl (by kernel_rfl) (by kernel_rfl) (by kernel_rfl) (fun _ _ _ h => h) (Or.inl ⟨by rfl, ?_⟩) hHeld ?_
  rotate_left
  · (intro w hSw; (try dsimp only at hSw); go_simp; (try with_reducible rfl))
  simp only [Act.put, List.setIfInBounds_toArray, List.set_cons_zero, List.set_cons_succ]
  refine take_at 6 (v := ?_) (some 99) rfl rfl (by kernel_rfl) (by kernel_rfl) (by kernel_rfl) (fun _ _ _ h => h) (Or.inl ⟨by rfl, ?_⟩) hHeld ?_
  rotate_left
  · (intro w hSw; (try dsimp only at hSw); go_simp; (try with_reducible rfl))
  simp only [Act.put, List.setIfInBounds_toArray, List.set_cons_zero, List.set_cons_succ]
  refine take_at 7 (v := ?_) (some 100) rfl rfl (by kernel_rfl) (by kernel_rfl) (by kernel_rfl) (fun _ _ _ h => h) (Or.inl ⟨by rfl, ?_⟩) hHeld ?_
  rotate_left
  · (intro w hSw; (try dsimp only at hSw); go_simp; (try with_reducible rfl))
  simp only [Act.put, List.setIfInBounds_toArray, List.set_cons_zero, List.set_cons_succ]
  refine take_at 8 (v := ?_) (some 101) rfl rfl (by kernel_rfl) (by kernel_rfl) (by kernel_rfl) (fun _ _ _ h => h) (Or.inl ⟨by rfl, ?_⟩) hHeld ?_
  rotate_left
  · (intro w hSw; (try dsimp only at hSw); go_simp; (try with_reducible rfl))
  simp only [Act.put, List.setIfInBounds_toArray, List.set_cons_zero, List.set_cons_succ]
  refine take_at 9 (v := ?_) (some 102) rfl rfl (by kernel_rfl) (by kernel_rfl) (by kernel_rfl) (fun _ _ _ h => h) (Or.inl ⟨by rfl, ?_⟩) hHeld ?_
  rotate_left
  · (intro w hSw; (try dsimp only at hSw); go_simp; (try with_reducible rfl))
  simp only [Act.put, List.setIfInBounds_toArray, List.set_cons_zero, List.set_cons_succ]
  refine take_at 10 (v := ?_) (some 103) rfl rfl (by kernel_rfl) (by kernel_rfl) (by kernel_rfl) (fun _ _ _ h => h) (Or.inl ⟨by rfl, ?_⟩) hHeld ?_
  rotate_left
  · (intro w hSw; (try dsimp only at hSw); go_simp; (try with_reducible rfl))
  simp only [Act.put, List.setIfInBounds_toArray, List.set_cons_zero, List.set_cons_succ]
  refine wpAnyH_ready (rs := [11]) (by kernel_rfl) (by simp) ?_
  refine AllReadyH.cons rfl (fun K hK => ?_) AllReadyH.nil
  go_simp
  refine (rload27_any (bs + k) b g zs _ (show Rm v1.drew b g zs from HM1.out)).mono ?_; rintro e v2 ⟨rfl, hM2, hF2⟩; rw [HX.out]; have HM2 := Lib.hid hM2; have HFv := Lib.hid hF2; clear hM2 hF2
  go_wp2_with fail
  refine hK.out _ _ ?_ (fun hHeld => ?_)
  · exact ⟨cell_fr hHeld.1 HFv.out (by simp; exact HRB.out.2), cell_fr hHeld.2 HFv.out (by simp; exact HRB.out.2)⟩
  clear hK K
  try simp only [Act.put, List.setIfInBounds_toArray, List.set_cons_zero, List.set_cons_succ]
  refine take_at 12 (v := ?_) (some 105) rfl rfl (by kernel_rfl) (by kernel_rfl) (by kernel_rfl) (fun _ _ _ h => h) (Or.inl ⟨by rfl, ?_⟩) hHeld ?_
  rotate_left
  · (intro w hSw; (try dsimp only at hSw); go_simp; (try with_reducible rfl))
  simp only [Act.put, List.setIfInBounds_toArray, List.set_cons_zero, List.set_cons_succ]
  refine take_at 13 (v := ?_) (some 106) rfl rfl (by kernel_rfl) (by kernel_rfl) (by kernel_rfl) (fun _ _ _ h => h) (Or.inl ⟨by rfl, ?_⟩) hHeld ?_
  rotate_left
  · (intro w hSw; (try dsimp only at hSw); go_simp; (try with_reducible rfl))
  simp only [Act.put, List.setIfInBounds_toArray, List.set_cons_zero, List.set_cons_succ]

  clear c0 c4 hsum d5 g5
  have HF2 := Lib.hid (show Fr [g] v1 v2 from (Fr.refl [g] v1).drew.trans HFv.out)
  have HR2 := Lib.hid (HR1.out.fr HF2.out (by simp; exact HRB.out.2))
  have HA2 := Lib.hid (HA1.out.fr HF2.out (fun a c h h0 => by simp; exact (HAJ.out a c h h0).2))
  have c6 : v2.cell? ⟨jb, 6, none⟩ = some (.int .u64 x0) := HR2.out.cell 6
  have fz := HR2.out.free 6
  refine wpAnyH_ready (rs := [14]) (by kernel_rfl) (by simp) ?_
  refine AllReadyH.cons rfl (fun K hK => ?_) AllReadyH.nil
  go_simp
  refine hK.out _ _ ?_ (fun hHeld => ?_)
  · (try dsimp only at hHeld ⊢)
    exact ⟨set_other hHeld.1 (.inr (by simp)), set_other hHeld.2 (.inr (by simp))⟩
  clear hK K hHeld c6 fz
  try simp only [Act.put, List.setIfInBounds_toArray, List.set_cons_zero, List.set_cons_succ]
  refine wpAnyH_done (by kernel_rfl) ?_ _
  have HS := Lib.hid (show Fr [jb] v2 (v2.setCell ⟨jb, 6, none⟩ (.int .u64 x)) from (Fr.refl _ _).set (by simp) _)
  have HR3 := Lib.hid (show Bk (v2.setCell ⟨jb, 6, none⟩ (.int .u64 x)) jb 132 [.int .i64 bs, .int .i64 wh, .int .i64 n, av, .int .i64 k, .bool false, .int .u64 x, .bool ch, .bool false, .int .i64 tries] from Bk.set HR2.out 6 (.int .u64 x))
  have HM3 := Lib.hid (rmfr HM2.out HS.out (by simp; exact fun e => HRB.out.1 e.symm) (by simp; exact fun e => HRB.out.2 e.symm))
  have HA := Lib.hid (HA2.out.fr HS.out (fun a c h h0 => by simp; exact (HAJ.out a c h h0).1))
  have HF3 := Lib.hid (show Fr [jb, g] w (v2.setCell ⟨jb, 6, none⟩ (.int .u64 x)) from ((HF1.out.mono (by simp)).trans (HF2.out.mono (by simp))).trans (HS.out.mono (by simp)))
  generalize v2.setCell ⟨jb, 6, none⟩ (.int .u64 x) = W3 at *
  clear HS HFv HR2 HM2 HA2 HR1 HM1 HA1 HF1 HF2
  have c1 : W3.cell? ⟨jb, 1, none⟩ = some (.int .i64 wh) := HR3.out.cell 1
  have c3 : W3.cell? ⟨jb, 3, none⟩ = some (av) := HR3.out.cell 3
  have c4 : W3.cell? ⟨jb, 4, none⟩ = some (.int .i64 k) := HR3.out.cell 4
  have c6 : W3.cell? ⟨jb, 6, none⟩ = some (.int .u64 x) := HR3.out.cell 6
  go_wp2_with fail
  refine wp_region_held_drew (S := (fun w' => w'.cell? ⟨jb, 1, none⟩ = some (.int .i64 wh) ∧ w'.cell? ⟨jb, 6, none⟩ = some (.int .u64 x) ∧ w'.cell? ⟨jb, 3, none⟩ = some (av) ∧ w'.cell? ⟨jb, 4, none⟩ = some (.int .i64 k))) (by kernel_rfl) ?_ (fun hHeld => ?_)
  · exact ⟨c1, c6, c3, c4⟩
  refine take_at 0 (v := ?_) (some 107) rfl rfl (by kernel_rfl) (by kernel_rfl) (by kernel_rfl) (fun _ _ _ h => h) (Or.inl ⟨by rfl, ?_⟩) hHeld ?_
  rotate_left
  · (intro w hSw; (try dsimp only at hSw); go_simp; (try with_reducible rfl))
  simp only [Act.put, List.setIfInBounds_toArray, List.set_cons_zero, List.set_cons_succ]
  refine take_at 1 (v := ?_) (some 108) rfl rfl (by kernel_rfl) (by kernel_rfl) (by kernel_rfl) (fun _ _ _ h => h) (Or.inl ⟨by rfl, ?_⟩) hHeld ?_
  rotate_left
  · (intro w hSw; (try dsimp only at hSw); go_simp; (try with_reducible rfl))
  simp only [Act.put, List.setIfInBounds_toArray, List.set_cons_zero, List.set_cons_succ]
  refine take_at 2 (v := ?_) (some 109) rfl rfl (by kernel_rfl) (by kernel_rfl) (by kernel_rfl) (fun _ _ _ h => h) (Or.inl ⟨by rfl, ?_⟩) hHeld ?_
  rotate_left
  · (intro w hSw; (try dsimp only at hSw); go_simp; (try with_reducible rfl))
  simp only [Act.put, List.setIfInBounds_toArray, List.set_cons_zero, List.set_cons_succ]
  refine take_at 3 (v := ?_) (some 110) rfl rfl (by kernel_rfl) (by kernel_rfl) (by kernel_rfl) (fun _ _ _ h => h) (Or.inl ⟨by rfl, ?_⟩) hHeld ?_
  rotate_left
  · (intro w hSw; (try dsimp only at hSw); go_simp; (try with_reducible rfl))
  simp only [Act.put, List.setIfInBounds_toArray, List.set_cons_zero, List.set_cons_succ]
  refine take_at 4 (v := ?_) (some 111) rfl rfl (by kernel_rfl) (by kernel_rfl) (by kernel_rfl) (fun _ _ _ h => h) (Or.inl ⟨by rfl, ?_⟩) hHeld ?_
  rotate_left
  · (intro w hSw; (try dsimp only at hSw); go_simp; (try with_reducible rfl))
  simp only [Act.put, List.setIfInBounds_toArray, List.set_cons_zero, List.set_cons_succ]
  refine take_at 5 (v := ?_) (some 112) rfl rfl (by kernel_rfl) (by kernel_rfl) (by kernel_rfl) (fun _ _ _ h => h) (Or.inl ⟨by rfl, ?_⟩) hHeld ?_
  rotate_left
  · (intro w hSw; (try dsimp only at hSw); go_simp; (try with_reducible rfl))
  simp only [Act.put, List.setIfInBounds_toArray, List.set_cons_zero, List.set_cons_succ]
  refine take_at 6 (v := ?_) (some 113) rfl rfl (by kernel_rfl) (by kernel_rfl) (by kernel_rfl) (fun _ _ _ h => h) (Or.inl ⟨by rfl, ?_⟩) hHeld ?_
  rotate_left
  · (intro w hSw; (try dsimp only at hSw); go_simp; (try with_reducible rfl))
  simp only [Act.put, List.setIfInBounds_toArray, List.set_cons_zero, List.set_cons_succ]
  refine take_at 7 (v := ?_) (some 114) rfl rfl (by kernel_rfl) (by kernel_rfl) (by kernel_rfl) (fun _ _ _ h => h) (Or.inl ⟨by rfl, ?_⟩) hHeld ?_
  rotate_left
  · (intro w hSw; (try dsimp only at hSw); go_simp; (try with_reducible rfl))
  simp only [Act.put, List.setIfInBounds_toArray, List.set_cons_zero, List.set_cons_succ]
  refine take_at 8 (v := ?_) (some 115) rfl rfl (by kernel_rfl) (by kernel_rfl) (by kernel_rfl) (fun _ _ _ h => h) (Or.inl ⟨by rfl, ?_⟩) hHeld ?_
  rotate_left
  · (intro w hSw; (try dsimp only at hSw); go_simp; (try with_reducible rfl))
  simp only [Act.put, List.setIfInBounds_toArray, List.set_cons_zero, List.set_cons_succ]
  refine take_at 9 (v := ?_) (some 116) rfl rfl (by kernel_rfl) (by kernel_rfl) (by kernel_rfl) (fun _ _ _ h => h) (Or.inl ⟨by rfl, ?_⟩) hHeld ?_
  rotate_left
  · (intro w hSw; (try dsimp only at hSw); go_simp; (try with_reducible rfl))
  simp only [Act.put, List.setIfInBounds_toArray, List.set_cons_zero, List.set_cons_succ]
  refine take_at 10 (v := ?_) (some 117) rfl rfl (by kernel_rfl) (by kernel_rfl) (by kernel_rfl) (fun _ _ _ h => h) (Or.inl ⟨by rfl, ?_⟩) hHeld ?_
  rotate_left
  · (intro w hSw; (try dsimp only at hSw); go_simp; (try with_reducible rfl))
  simp only [Act.put, List.setIfInBounds_toArray, List.set_cons_zero, List.set_cons_succ]
  refine take_at 11 (v := ?_) (some 118) rfl rfl (by kernel_rfl) (by kernel_rfl) (by kernel_rfl) (fun _ _ _ h => h) (Or.inl ⟨by rfl, ?_⟩) hHeld ?_
  rotate_left
  · (intro w hSw; (try dsimp only at hSw); go_simp; (try with_reducible rfl))
  simp only [Act.put, List.setIfInBounds_toArray, List.set_cons_zero, List.set_cons_succ]
  refine take_at 12 (v := ?_) (some 119) rfl rfl (by kernel_rfl) (by kernel_rfl) (by kernel_rfl) (fun _ _ _ h => h) (Or.inl ⟨by rfl, ?_⟩) hHeld ?_
  rotate_left
  · (intro w hSw; (try dsimp only at hSw); go_simp; (try with_reducible rfl))
  simp only [Act.put, List.setIfInBounds_toArray, List.set_cons_zero, List.set_cons_succ]
  refine take_at 13 (v := ?_) (some 120) rfl rfl (by kernel_rfl) (by kernel_rfl) (by kernel_rfl) (fun _ _ _ h => h) (Or.inl ⟨by rfl, ?_⟩) hHeld ?_
  rotate_left
  · (intro w hSw; (try dsimp only at hSw); go_simp; (try with_reducible rfl))
  simp only [Act.put, List.setIfInBounds_toArray, List.set_cons_zero, List.set_cons_succ]
  refine take_at 14 (v := ?_) (some 121) rfl rfl (by kernel_rfl) (by kernel_rfl) (by kernel_rfl) (fun _ _ _ h => h) (Or.inl ⟨by rfl, ?_⟩) hHeld ?_
  rotate_left
  · (intro w hSw; (try dsimp only at hSw); go_simp; (try with_reducible rfl))
  simp only [Act.put, List.setIfInBounds_toArray, List.set_cons_zero, List.set_cons_succ]
  refine take_at 15 (v := ?_) (some 122) rfl rfl (by kernel_rfl) (by kernel_rfl) (by kernel_rfl) (fun _ _ _ h => h) (Or.inl ⟨by rfl, ?_⟩) hHeld ?_
  rotate_left
  · (intro w hSw; (try dsimp only at hSw); go_simp; (try with_reducible rfl))
  simp only [Act.put, List.setIfInBounds_toArray, List.set_cons_zero, List.set_cons_succ]
  refine take_at 18 (v := ?_) (some 125) rfl rfl (by kernel_rfl) (by kernel_rfl) (by kernel_rfl) (fun _ _ _ h => h) (Or.inl ⟨by rfl, ?_⟩) hHeld ?_
  rotate_left
  · (intro w hSw; (try dsimp only at hSw); go_simp; (try with_reducible rfl))
  simp only [Act.put, List.setIfInBounds_toArray, List.set_cons_zero, List.set_cons_succ]
  refine take_at 19 (v := ?_) (some 126) rfl rfl (by kernel_rfl) (by kernel_rfl) (by kernel_rfl) (fun _ _ _ h => h) (Or.inl ⟨by rfl, ?_⟩) hHeld ?_
  rotate_left
  · (intro w hSw; (try dsimp only at hSw); go_simp; (try with_reducible rfl))
  simp only [Act.put, List.setIfInBounds_toArray, List.set_cons_zero, List.set_cons_succ]
  refine take_at 20 (v := ?_) (some 127) rfl rfl (by kernel_rfl) (by kernel_rfl) (by kernel_rfl) (fun _ _ _ h => h) (Or.inl ⟨by rfl, ?_⟩) hHeld ?_
  rotate_left
  · (intro w hSw; (try dsimp only at hSw); go_simp; (try with_reducible rfl))
  simp only [Act.put, List.setIfInBounds_toArray, List.set_cons_zero, List.set_cons_succ]
  refine take_at 21 (v := ?_) (some 128) rfl rfl (by kernel_rfl) (by kernel_rfl) (by kernel_rfl) (fun _ _ _ h => h) (Or.inl ⟨by rfl, ?_⟩) hHeld ?_
  rotate_left
  · (intro w hSw; (try dsimp only at hSw); go_simp; (try with_reducible rfl))
  simp only [Act.put, List.setIfInBounds_toArray, List.set_cons_zero, List.set_cons_succ]
  refine wpAnyH_ready (rs := [16]) (by kernel_rfl) (by simp) ?_
  refine AllReadyH.cons rfl (fun K hK => ?_) AllReadyH.nil
  go_simp
  refine (rcword30_any av A k _ (show Ws W3.drew av A from HA.out)).mono ?_; rintro e v0 ⟨rfl, hww⟩; subst v0; rw [HY.out]; have HFv := Lib.hid (Fr.refl ([] : List Nat) W3.drew)
  go_wp2_with fail
  refine hK.out _ _ ?_ (fun hHeld => ?_)
  · exact ⟨cell_fr hHeld.1 HFv.out (by simp), cell_fr hHeld.2.1 HFv.out (by simp), cell_fr hHeld.2.2.1 HFv.out (by simp), cell_fr hHeld.2.2.2 HFv.out (by simp)⟩
  clear hK K
  try simp only [Act.put, List.setIfInBounds_toArray, List.set_cons_zero, List.set_cons_succ]
  refine wpAnyH_ready (rs := [17]) (by kernel_rfl) (by simp) ?_
  refine AllReadyH.cons rfl (fun K hK => ?_) AllReadyH.nil
  go_simp
  refine (HWD.out x y _ HX64.out HY64.out).mono ?_; rintro e v5 ⟨rfl, hB⟩; have HFv := Lib.hid (show Fr [] W3.drew v5 from .of hB); clear hB
  go_wp2_with fail
  refine hK.out _ _ ?_ (fun hHeld => ?_)
  · exact ⟨cell_fr hHeld.1 HFv.out (by simp), cell_fr hHeld.2.1 HFv.out (by simp), cell_fr hHeld.2.2.1 HFv.out (by simp), cell_fr hHeld.2.2.2 HFv.out (by simp)⟩
  clear hK K
  try simp only [Act.put, List.setIfInBounds_toArray, List.set_cons_zero, List.set_cons_succ]
  refine take_at 22 (v := ?_) (some 129) rfl rfl (by kernel_rfl) (by kernel_rfl) (by kernel_rfl) (fun _ _ _ h => h) (Or.inl ⟨by rfl, ?_⟩) hHeld ?_
  rotate_left
  · (intro w hSw; (try dsimp only at hSw); go_simp; (try with_reducible rfl))
  simp only [Act.put, List.setIfInBounds_toArray, List.set_cons_zero, List.set_cons_succ]
  refine wpAnyH_done (by kernel_rfl) ?_ _
  go_split_ands

  clear c1 c3 c4 c6
  have HF5 := Lib.hid (show Fr [] W3 v5 from (Fr.refl [] W3).drew.trans HFv.out)
  have HR5 := Lib.hid (HR3.out.fr HF5.out (by simp))
  have HM5 := Lib.hid (rmfr HM3.out HF5.out (by simp) (by simp))
  have HF6 := Lib.hid (show Fr [jb, g] w v5 from HF3.out.trans (HF5.out.mono (by simp)))
  clear HFv HR3 HM3 HA HF3 HF5
  have d4 : v5.cell? ⟨jb, 4, none⟩ = some (.int .i64 k) := HR5.out.cell 4
  have d5 : v5.cell? ⟨jb, 5, none⟩ = some (.bool false) := HR5.out.cell 5
  have d8 : v5.cell? ⟨jb, 8, none⟩ = some (.bool false) := HR5.out.cell 8
  have g5 := HR5.out.free 5
  have g8 := HR5.out.free 8
  have hkq : ((k : Int) == (q : Int)) = false := by simp only [beq_eq_false_iff_ne, ne_eq]; omega
  have HFIN := Lib.hid (show Rj ((v5.setCell ⟨jb, 5, none⟩ (.bool true)).setCell ⟨jb, 8, none⟩ (.bool false)) jb bs wh n av ⟨ch, false, tries, k, x, true⟩ ∧ Rm ((v5.setCell ⟨jb, 5, none⟩ (.bool true)).setCell ⟨jb, 8, none⟩ (.bool false)) b g zs ∧ Fr [jb, g] w ((v5.setCell ⟨jb, 5, none⟩ (.bool true)).setCell ⟨jb, 8, none⟩ (.bool false)) from by
    have f2 : Fr [jb] v5 ((v5.setCell ⟨jb, 5, none⟩ (.bool true)).setCell ⟨jb, 8, none⟩ (.bool false)) := (((Fr.refl _ _).set (by simp) _).set (by simp) _)
    exact ⟨(Bk.set (Bk.set HR5.out 5 (.bool true)) 8 (.bool false)), rmfr HM5.out f2 (by simp; exact fun e => HRB.out.1 e.symm) (by simp; exact fun e => HRB.out.2 e.symm), HF6.out.trans (f2.mono (by simp))⟩)
  go_wp2_with fail
  go_ret
  exact ⟨rfl, HFIN.out⟩

set_option maxHeartbeats 3200000 in
set_option maxRecDepth 100000 in
theorem rj_same (bs wh n : Int) (q : Nat) (jb b g : Nat) (av : Value) (A : List Nat) (zs : List Int) (ch : Bool) (tries : Int) (k x0 : Nat) (w : World) (hbs : 0 ≤ bs ∧ bs ≤ 1000) (hq : cwn n = q) (hq2 : q ≤ 1024) (hk : k < q) (hA : Ws w av A) (hAj : ∀ a c, av = .slice (some a) A.length c → 0 < A.length → a.block ≠ jb ∧ a.block ≠ g) (hm : Rm w b g zs) (hx064 : x0 < 18446744073709551616) (y : Nat) (hy : wdA A k = (y : Int)) (hy64 : y < 18446744073709551616) (f : Nat → Nat → Nat) (hf : ∀ (x y : Nat) (w : World), x < 18446744073709551616 → y < 18446744073709551616 → Calls Try.prog 31 #[.int .i64 wh, .int .u64 x, .int .u64 y] w fun e w' => e = .returned (.int .u64 (f x y : Nat)) ∧ Below w.heap.size w w') (hJ : Rj w jb bs wh n av ⟨ch, false, tries, k, x0, false⟩) (x : Nat) (hx : ldv zs (bs + k) = (x : Int)) (hx64 : x < 18446744073709551616) (hd : f x y = x) :
    Calls Try.prog 82 #[.pointer (some ⟨jb, 0, none⟩), .pointer (some ⟨b, 0, none⟩)] w fun e w' => e = .returned (.bool (decide (q ≤ k + 1))) ∧ Rj w' jb bs wh n av ⟨ch, decide (q ≤ k + 1), tries, k + 1, x, false⟩ ∧ Rm w' b g zs ∧ Fr [jb, g] w w' := by
  have HR := Lib.hid (show Bk w jb 132 [.int .i64 bs, .int .i64 wh, .int .i64 n, av, .int .i64 k, .bool false, .int .u64 x0, .bool ch, .bool false, .int .i64 tries] from hJ)
  have HM := Lib.hid hm
  have HA := Lib.hid hA
  have HAJ := Lib.hid hAj
  have HQ := Lib.hid hq
  have HY := Lib.hid hy
  have HY64 := Lib.hid hy64
  have HX0 := Lib.hid hx064
  have HWD := Lib.hid hf
  have HRB := Lib.hid (show jb ≠ b ∧ jb ≠ g from ⟨Bk.ne HR.out hm.1 (by decide), Bk.ne HR.out hm.2.1 (by decide)⟩)
  obtain ⟨hb0, hb1⟩ := hbs
  have hdk : decide ((q : Int) ≤ k) = false := decide_eq_false (by omega)
  have c0 : w.cell? ⟨jb, 0, none⟩ = some (.int .i64 bs) := HR.out.cell 0
  have c1 : w.cell? ⟨jb, 1, none⟩ = some (.int .i64 wh) := HR.out.cell 1
  have c2 : w.cell? ⟨jb, 2, none⟩ = some (.int .i64 n) := HR.out.cell 2
  have c3 : w.cell? ⟨jb, 3, none⟩ = some (av) := HR.out.cell 3
  have c4 : w.cell? ⟨jb, 4, none⟩ = some (.int .i64 k) := HR.out.cell 4
  have c5 : w.cell? ⟨jb, 5, none⟩ = some (.bool false) := HR.out.cell 5
  have c6 : w.cell? ⟨jb, 6, none⟩ = some (.int .u64 x0) := HR.out.cell 6
  have c7 : w.cell? ⟨jb, 7, none⟩ = some (.bool ch) := HR.out.cell 7
  have c8 : w.cell? ⟨jb, 8, none⟩ = some (.bool false) := HR.out.cell 8
  have c9 : w.cell? ⟨jb, 9, none⟩ = some (.int .i64 tries) := HR.out.cell 9
  have HX := Lib.hid hx
  have HX64 := Lib.hid hx64
  clear hx
  have hbe : (((f x y : Nat) : Int) == (x : Int)) = true := by rw [hd]; simp
  obtain ⟨z, hz⟩ : ∃ z, z = decide (q ≤ k + 1) := ⟨_, rfl⟩
  have hkq : (((k : Int) + 1) == (q : Int)) = z := by rw [hz, Bool.eq_iff_iff]; simp; omega
  rw [← hz]
  clear hz
  clear hJ hm hA hAj hq hy hf
  go_enter Try.func82, Try.ntmps82
  go_wp2_with fail
  refine (rcwords_any _ _).mono ?_
  rintro e w1 ⟨rfl, hww⟩
  subst w1
  rw [HQ.out]
  go_wp2_with fail
  refine wp_region_held_drew (S := (fun w' => w'.cell? ⟨jb, 1, none⟩ = some (.int .i64 wh) ∧ w'.cell? ⟨jb, 6, none⟩ = some (.int .u64 x0) ∧ w'.cell? ⟨jb, 3, none⟩ = some (av) ∧ w'.cell? ⟨jb, 4, none⟩ = some (.int .i64 k))) (by kernel_rfl) ?_ (fun hHeld => ?_)
  · exact ⟨c1, c6, c3, c4⟩
  refine take_at 0 (v := ?_) (some 29) rfl rfl (by kernel_rfl) (by kernel_rfl) (by kernel_rfl) (fun _ _ _ h => h) (Or.inl ⟨by rfl, ?_⟩) hHeld ?_
  rotate_left
  · (intro w hSw; (try dsimp only at hSw); go_simp; (try with_reducible rfl))
  simp only [Act.put, List.setIfInBounds_toArray, List.set_cons_zero, List.set_cons_succ]
  refine take_at 1 (v := ?_) (some 30) rfl rfl (by kernel_rfl) (by kernel_rfl) (by kernel_rfl) (fun _ _ _ h => h) (Or.inl ⟨by rfl, ?_⟩) hHeld ?_
  rotate_left
  · (intro w hSw; (try dsimp only at hSw); go_simp; (try with_reducible rfl))
  simp only [Act.put, List.setIfInBounds_toArray, List.set_cons_zero, List.set_cons_succ]
  refine take_at 2 (v := ?_) (some 31) rfl rfl (by kernel_rfl) (by kernel_rfl) (by kernel_rfl) (fun _ _ _ h => h) (Or.inl ⟨by rfl, ?_⟩) hHeld ?_
  rotate_left
  · (intro w hSw; (try dsimp only at hSw); go_simp; (try with_reducible rfl))
  simp only [Act.put, List.setIfInBounds_toArray, List.set_cons_zero, List.set_cons_succ]
  refine take_at 3 (v := ?_) (some 32) rfl rfl (by kernel_rfl) (by kernel_rfl) (by kernel_rfl) (fun _ _ _ h => h) (Or.inl ⟨by rfl, ?_⟩) hHeld ?_
  rotate_left
  · (intro w hSw; (try dsimp only at hSw); go_simp; (try with_reducible rfl))
  simp only [Act.put, List.setIfInBounds_toArray, List.set_cons_zero, List.set_cons_succ]
  refine take_at 4 (v := ?_) (some 33) rfl rfl (by kernel_rfl) (by kernel_rfl) (by kernel_rfl) (fun _ _ _ h => h) (Or.inl ⟨by rfl, ?_⟩) hHeld ?_
  rotate_left
  · (intro w hSw; (try dsimp only at hSw); go_simp; (try with_reducible rfl))
  simp only [Act.put, List.setIfInBounds_toArray, List.set_cons_zero, List.set_cons_succ]
  refine take_at 5 (v := ?_) (some 34) rfl rfl (by kernel_rfl) (by kernel_rfl) (by kernel_rfl) (fun _ _ _ h => h) (Or.inl ⟨by rfl, ?_⟩) hHeld ?_
  rotate_left
  · (intro w hSw; (try dsimp only at hSw); go_simp; (try with_reducible rfl))
  simp only [Act.put, List.setIfInBounds_toArray, List.set_cons_zero, List.set_cons_succ]
  refine take_at 6 (v := ?_) (some 35) rfl rfl (by kernel_rfl) (by kernel_rfl) (by kernel_rfl) (fun _ _ _ h => h) (Or.inl ⟨by rfl, ?_⟩) hHeld ?_
  rotate_left
  · (intro w hSw; (try dsimp only at hSw); go_simp; (try with_reducible rfl))
  simp only [Act.put, List.setIfInBounds_toArray, List.set_cons_zero, List.set_cons_succ]
  refine take_at 7 (v := ?_) (some 36) rfl rfl (by kernel_rfl) (by kernel_rfl) (by kernel_rfl) (fun _ _ _ h => h) (Or.inl ⟨by rfl, ?_⟩) hHeld ?_
  rotate_left
  · (intro w hSw; (try dsimp only at hSw); go_simp; (try with_reducible rfl))
  simp only [Act.put, List.setIfInBounds_toArray, List.set_cons_zero, List.set_cons_succ]
  refine take_at 8 (v := ?_) (some 37) rfl rfl (by kernel_rfl) (by kernel_rfl) (by kernel_rfl) (fun _ _ _ h => h) (Or.inl ⟨by rfl, ?_⟩) hHeld ?_
  rotate_left
  · (intro w hSw; (try dsimp only at hSw); go_simp; (try with_reducible rfl))
  simp only [Act.put, List.setIfInBounds_toArray, List.set_cons_zero, List.set_cons_succ]
  refine take_at 9 (v := ?_) (some 38) rfl rfl (by kernel_rfl) (by kernel_rfl) (by kernel_rfl) (fun _ _ _ h => h) (Or.inl ⟨by rfl, ?_⟩) hHeld ?_
  rotate_left
  · (intro w hSw; (try dsimp only at hSw); go_simp; (try with_reducible rfl))
  simp only [Act.put, List.setIfInBounds_toArray, List.set_cons_zero, List.set_cons_succ]
  refine take_at 10 (v := ?_) (some 39) rfl rfl (by kernel_rfl) (by kernel_rfl) (by kernel_rfl) (fun _ _ _ h => h) (Or.inl ⟨by rfl, ?_⟩) hHeld ?_
  rotate_left
  · (intro w hSw; (try dsimp only at hSw); go_simp; (try with_reducible rfl))
  simp only [Act.put, List.setIfInBounds_toArray, List.set_cons_zero, List.set_cons_succ]
  refine take_at 11 (v := ?_) (some 40) rfl rfl (by kernel_rfl) (by kernel_rfl) (by kernel_rfl) (fun _ _ _ h => h) (Or.inl ⟨by rfl, ?_⟩) hHeld ?_
  rotate_left
  · (intro w hSw; (try dsimp only at hSw); go_simp; (try with_reducible rfl))
  simp only [Act.put, List.setIfInBounds_toArray, List.set_cons_zero, List.set_cons_succ]
  refine take_at 12 (v := ?_) (some 41) rfl rfl (by kernel_rfl) (by kernel_rfl) (by kernel_rfl) (fun _ _ _ h => h) (Or.inl ⟨by rfl, ?_⟩) hHeld ?_
  rotate_left
  · (intro w hSw; (try dsimp only at hSw); go_simp; (try with_reducible rfl))
  simp only [Act.put, List.setIfInBounds_toArray, List.set_cons_zero, List.set_cons_succ]
  refine take_at 13 (v := ?_) (some 42) rfl rfl (by kernel_rfl) (by kernel_rfl) (by kernel_rfl) (fun _ _ _ h => h) (Or.inl ⟨by rfl, ?_⟩) hHeld ?_
  rotate_left
  · (intro w hSw; (try dsimp only at hSw); go_simp; (try with_reducible rfl))
  simp only [Act.put, List.setIfInBounds_toArray, List.set_cons_zero, List.set_cons_succ]
  refine take_at 14 (v := ?_) (some 43) rfl rfl (by kernel_rfl) (by kernel_rfl) (by kernel_rfl) (fun _ _ _ h => h) (Or.inl ⟨by rfl, ?_⟩) hHeld ?_
  rotate_left
  · (intro w hSw; (try dsimp only at hSw); go_simp; (try with_reducible rfl))
  simp only [Act.put, List.setIfInBounds_toArray, List.set_cons_zero, List.set_cons_succ]
  refine take_at 15 (v := ?_) (some 44) rfl rfl (by kernel_rfl) (by kernel_rfl) (by kernel_rfl) (fun _ _ _ h => h) (Or.inl ⟨by rfl, ?_⟩) hHeld ?_
  rotate_left
  · (intro w hSw; (try dsimp only at hSw); go_simp; (try with_reducible rfl))
  simp only [Act.put, List.setIfInBounds_toArray, List.set_cons_zero, List.set_cons_succ]
  refine wpAnyH_ready (rs := [16]) (by kernel_rfl) (by simp) ?_
  refine AllReadyH.cons rfl (fun K hK => ?_) AllReadyH.nil
  go_simp
  refine (rcword30_any av A k _ (show Ws w.drew av A from HA.out)).mono ?_; rintro e v0 ⟨rfl, hww⟩; subst v0; rw [HY.out]; have HFv := Lib.hid (Fr.refl ([] : List Nat) w.drew)
  go_wp2_with fail
  refine hK.out _ _ ?_ (fun hHeld => ?_)
  · exact ⟨cell_fr hHeld.1 HFv.out (by simp), cell_fr hHeld.2.1 HFv.out (by simp), cell_fr hHeld.2.2.1 HFv.out (by simp), cell_fr hHeld.2.2.2 HFv.out (by simp)⟩
  clear hK K
  try simp only [Act.put, List.setIfInBounds_toArray, List.set_cons_zero, List.set_cons_succ]
  refine wpAnyH_ready (rs := [17]) (by kernel_rfl) (by simp) ?_
  refine AllReadyH.cons rfl (fun K hK => ?_) AllReadyH.nil
  go_simp
  refine (HWD.out x0 y _ HX0.out HY64.out).mono ?_; rintro e v1 ⟨rfl, hB⟩; have HFv := Lib.hid (show Fr [] w.drew v1 from .of hB); clear hB
  go_wp2_with fail
  refine hK.out _ _ ?_ (fun hHeld => ?_)
  · exact ⟨cell_fr hHeld.1 HFv.out (by simp), cell_fr hHeld.2.1 HFv.out (by simp), cell_fr hHeld.2.2.1 HFv.out (by simp), cell_fr hHeld.2.2.2 HFv.out (by simp)⟩
  clear hK K
  try simp only [Act.put, List.setIfInBounds_toArray, List.set_cons_zero, List.set_cons_succ]
  refine take_at 18 (v := ?_) (some 6) rfl rfl (by kernel_rfl) (by kernel_rfl) (by kernel_rfl) (fun _ _ _ h => h) (Or.inl ⟨by rfl, ?_⟩) hHeld ?_
  rotate_left
  · (intro w hSw; (try dsimp only at hSw); go_simp; (try with_reducible rfl))
  simp only [Act.put, List.setIfInBounds_toArray, List.set_cons_zero, List.set_cons_succ]
  refine wpAnyH_done (by kernel_rfl) ?_ _
  go_split_ands

  have HF1 := Lib.hid (show Fr [] w v1 from (Fr.refl [] w).drew.trans HFv.out)
  have HR1 := Lib.hid (HR.out.fr HF1.out (by simp))
  have HM1 := Lib.hid (rmfr HM.out HF1.out (by simp) (by simp))
  have HA1 := Lib.hid (HA.out.fr HF1.out (by simp))
  clear c0 c1 c2 c3 c4 c5 c6 c7 c8 c9 HFv HR HM HA
  have d5 : v1.cell? ⟨jb, 5, none⟩ = some (.bool false) := HR1.out.cell 5
  have g5 := HR1.out.free 5
  go_wp2_with fail
  have c0 : v1.cell? ⟨jb, 0, none⟩ = some (.int .i64 bs) := HR1.out.cell 0
  have c4 : v1.cell? ⟨jb, 4, none⟩ = some (.int .i64 k) := HR1.out.cell 4
  have hsum : IntKind.i64.wrap (bs + k) = bs + k := IntWalk.i64_in _ (by omega)
  refine wp_region_held_drew (S := (fun w' => w'.cell? ⟨jb, 0, none⟩ = some (.int .i64 bs) ∧ w'.cell? ⟨jb, 4, none⟩ = some (.int .i64 k))) (by kernel_rfl) ?_ (fun hHeld => ?_)
  · exact ⟨c0, c4⟩
  refine take_at 0 (v := ?_) (some 93) rfl rfl (by kernel_rfl) (by kernel_rfl) (by kernel_rfl) (fun _ _ _ h => h) (Or.inl ⟨by rfl, ?_⟩) hHeld ?_
  rotate_left
  · (intro w hSw; (try dsimp only at hSw); go_simp; (try with_reducible rfl))
  simp only [Act.put, List.setIfInBounds_toArray, List.set_cons_zero, List.set_cons_succ]
  refine take_at 1 (v := ?_) (some 94) rfl rfl (by kernel_rfl) (by kernel_rfl) (by kernel_rfl) (fun _ _ _ h => h) (Or.inl ⟨by rfl, ?_⟩) hHeld ?_
  rotate_left
  · (intro w hSw; (try dsimp only at hSw); go_simp; (try with_reducible rfl))
  simp only [Act.put, List.setIfInBounds_toArray, List.set_cons_zero, List.set_cons_succ]
  refine take_at 2 (v := ?_) (some 95) rfl rfl (by kernel_rfl) (by kernel_rfl) (by kernel_rfl) (fun _ _ _ h => h) (Or.inl ⟨by rfl, ?_⟩) hHeld ?_
  rotate_left
  · (intro w hSw; (try dsimp only at hSw); go_simp; (try with_reducible rfl))
  simp only [Act.put, List.setIfInBounds_toArray, List.set_cons_zero, List.set_cons_succ]
  refine take_at 3 (v := ?_) (some 96) rfl rfl (by kernel_rfl) (by kernel_rfl) (by kernel_rfl) (fun _ _ _ h => h) (Or.inl ⟨by rfl, ?_⟩) hHeld ?_
  rotate_left
  · (intro w hSw; (try dsimp only at hSw); go_simp; (try with_reducible rfl))
  simp only [Act.put, List.setIfInBounds_toArray, List.set_cons_zero, List.set_cons_succ]
  refine take_at 4 (v := ?_) (some 97) rfl rfl (by kernel_rfl) (by kernel_rfl) (by kernel_rfl) (fun _ _ _ h => h) (Or.inl ⟨by rfl, ?_⟩) hHeld ?_
  rotate_left
  · (intro w hSw; (try dsimp only at hSw); go_simp; (try with_reducible rfl))
  simp only [Act.put, List.setIfInBounds_toArray, List.set_cons_zero, List.set_cons_succ]
  refine take_at 5 (v := ?_) (some 98) rfl rfl (by kernel_rfl) (by kernel_rfl) (by kernel_rfl) (fun _ _ _ h => h) (Or.inl ⟨by rfl, ?_⟩) hHeld ?_
  rotate_left
  · (intro w hSw; (try dsimp only at hSw); go_simp; (try with_reducible rfl))
  simp only [Act.put, List.setIfInBounds_toArray, List.set_cons_zero, List.set_cons_succ]
  refine take_at 6 (v := ?_) (some 99) rfl rfl (by kernel_rfl) (by kernel_rfl) (by kernel_rfl) (fun _ _ _ h => h) (Or.inl ⟨by rfl, ?_⟩) hHeld ?_
  rotate_left
  · (intro w hSw; (try dsimp only at hSw); go_simp; (try with_reducible rfl))
  simp only [Act.put, List.setIfInBounds_toArray, List.set_cons_zero, List.set_cons_succ]
  refine take_at 7 (v := ?_) (some 100) rfl rfl (by kernel_rfl) (by kernel_rfl) (by kernel_rfl) (fun _ _ _ h => h) (Or.inl ⟨by rfl, ?_⟩) hHeld ?_
  rotate_left
  · (intro w hSw; (try dsimp only at hSw); go_simp; (try with_reducible rfl))
  simp only [Act.put, List.setIfInBounds_toArray, List.set_cons_zero, List.set_cons_succ]
  refine take_at 8 (v := ?_) (some 101) rfl rfl (by kernel_rfl) (by kernel_rfl) (by kernel_rfl) (fun _ _ _ h => h) (Or.inl ⟨by rfl, ?_⟩) hHeld ?_
  rotate_left
  · (intro w hSw; (try dsimp only at hSw); go_simp; (try with_reducible rfl))
  simp only [Act.put, List.setIfInBounds_toArray, List.set_cons_zero, List.set_cons_succ]
  refine take_at 9 (v := ?_) (some 102) rfl rfl (by kernel_rfl) (by kernel_rfl) (by kernel_rfl) (fun _ _ _ h => h) (Or.inl ⟨by rfl, ?_⟩) hHeld ?_
  rotate_left
  · (intro w hSw; (try dsimp only at hSw); go_simp; (try with_reducible rfl))
  simp only [Act.put, List.setIfInBounds_toArray, List.set_cons_zero, List.set_cons_succ]
  refine take_at 10 (v := ?_) (some 103) rfl rfl (by kernel_rfl) (by kernel_rfl) (by kernel_rfl) (fun _ _ _ h => h) (Or.inl ⟨by rfl, ?_⟩) hHeld ?_
  rotate_left
  · (intro w hSw; (try dsimp only at hSw); go_simp; (try with_reducible rfl))
  simp only [Act.put, List.setIfInBounds_toArray, List.set_cons_zero, List.set_cons_succ]
  refine wpAnyH_ready (rs := [11]) (by kernel_rfl) (by simp) ?_
  refine AllReadyH.cons rfl (fun K hK => ?_) AllReadyH.nil
  go_simp
  refine (rload27_any (bs + k) b g zs _ (show Rm v1.drew b g zs from HM1.out)).mono ?_; rintro e v2 ⟨rfl, hM2, hF2⟩; rw [HX.out]; have HM2 := Lib.hid hM2; have HFv := Lib.hid hF2; clear hM2 hF2
  go_wp2_with fail
  refine hK.out _ _ ?_ (fun hHeld => ?_)
  · exact ⟨cell_fr hHeld.1 HFv.out (by simp; exact HRB.out.2), cell_fr hHeld.2 HFv.out (by simp; exact HRB.out.2)⟩
  clear hK K
  try simp only [Act.put, List.setIfInBounds_toArray, List.set_cons_zero, List.set_cons_succ]
  refine take_at 12 (v := ?_) (some 105) rfl rfl (by kernel_rfl) (by kernel_rfl) (by kernel_rfl) (fun _ _ _ h => h) (Or.inl ⟨by rfl, ?_⟩) hHeld ?_
  rotate_left
  · (intro w hSw; (try dsimp only at hSw); go_simp; (try with_reducible rfl))
  simp only [Act.put, List.setIfInBounds_toArray, List.set_cons_zero, List.set_cons_succ]
  refine take_at 13 (v := ?_) (some 106) rfl rfl (by kernel_rfl) (by kernel_rfl) (by kernel_rfl) (fun _ _ _ h => h) (Or.inl ⟨by rfl, ?_⟩) hHeld ?_
  rotate_left
  · (intro w hSw; (try dsimp only at hSw); go_simp; (try with_reducible rfl))
  simp only [Act.put, List.setIfInBounds_toArray, List.set_cons_zero, List.set_cons_succ]

  clear c0 c4 hsum d5 g5
  have HF2 := Lib.hid (show Fr [g] v1 v2 from (Fr.refl [g] v1).drew.trans HFv.out)
  have HR2 := Lib.hid (HR1.out.fr HF2.out (by simp; exact HRB.out.2))
  have HA2 := Lib.hid (HA1.out.fr HF2.out (fun a c h h0 => by simp; exact (HAJ.out a c h h0).2))
  have c6 : v2.cell? ⟨jb, 6, none⟩ = some (.int .u64 x0) := HR2.out.cell 6
  have fz := HR2.out.free 6
  refine wpAnyH_ready (rs := [14]) (by kernel_rfl) (by simp) ?_
  refine AllReadyH.cons rfl (fun K hK => ?_) AllReadyH.nil
  go_simp
  refine hK.out _ _ ?_ (fun hHeld => ?_)
  · (try dsimp only at hHeld ⊢)
    exact ⟨set_other hHeld.1 (.inr (by simp)), set_other hHeld.2 (.inr (by simp))⟩
  clear hK K hHeld c6 fz
  try simp only [Act.put, List.setIfInBounds_toArray, List.set_cons_zero, List.set_cons_succ]
  refine wpAnyH_done (by kernel_rfl) ?_ _
  have HS := Lib.hid (show Fr [jb] v2 (v2.setCell ⟨jb, 6, none⟩ (.int .u64 x)) from (Fr.refl _ _).set (by simp) _)
  have HR3 := Lib.hid (show Bk (v2.setCell ⟨jb, 6, none⟩ (.int .u64 x)) jb 132 [.int .i64 bs, .int .i64 wh, .int .i64 n, av, .int .i64 k, .bool false, .int .u64 x, .bool ch, .bool false, .int .i64 tries] from Bk.set HR2.out 6 (.int .u64 x))
  have HM3 := Lib.hid (rmfr HM2.out HS.out (by simp; exact fun e => HRB.out.1 e.symm) (by simp; exact fun e => HRB.out.2 e.symm))
  have HA := Lib.hid (HA2.out.fr HS.out (fun a c h h0 => by simp; exact (HAJ.out a c h h0).1))
  have HF3 := Lib.hid (show Fr [jb, g] w (v2.setCell ⟨jb, 6, none⟩ (.int .u64 x)) from ((HF1.out.mono (by simp)).trans (HF2.out.mono (by simp))).trans (HS.out.mono (by simp)))
  generalize v2.setCell ⟨jb, 6, none⟩ (.int .u64 x) = W3 at *
  clear HS HFv HR2 HM2 HA2 HR1 HM1 HA1 HF1 HF2
  have c1 : W3.cell? ⟨jb, 1, none⟩ = some (.int .i64 wh) := HR3.out.cell 1
  have c3 : W3.cell? ⟨jb, 3, none⟩ = some (av) := HR3.out.cell 3
  have c4 : W3.cell? ⟨jb, 4, none⟩ = some (.int .i64 k) := HR3.out.cell 4
  have c6 : W3.cell? ⟨jb, 6, none⟩ = some (.int .u64 x) := HR3.out.cell 6
  go_wp2_with fail
  refine wp_region_held_drew (S := (fun w' => w'.cell? ⟨jb, 1, none⟩ = some (.int .i64 wh) ∧ w'.cell? ⟨jb, 6, none⟩ = some (.int .u64 x) ∧ w'.cell? ⟨jb, 3, none⟩ = some (av) ∧ w'.cell? ⟨jb, 4, none⟩ = some (.int .i64 k))) (by kernel_rfl) ?_ (fun hHeld => ?_)
  · exact ⟨c1, c6, c3, c4⟩
  refine take_at 0 (v := ?_) (some 107) rfl rfl (by kernel_rfl) (by kernel_rfl) (by kernel_rfl) (fun _ _ _ h => h) (Or.inl ⟨by rfl, ?_⟩) hHeld ?_
  rotate_left
  · (intro w hSw; (try dsimp only at hSw); go_simp; (try with_reducible rfl))
  simp only [Act.put, List.setIfInBounds_toArray, List.set_cons_zero, List.set_cons_succ]
  refine take_at 1 (v := ?_) (some 108) rfl rfl (by kernel_rfl) (by kernel_rfl) (by kernel_rfl) (fun _ _ _ h => h) (Or.inl ⟨by rfl, ?_⟩) hHeld ?_
  rotate_left
  · (intro w hSw; (try dsimp only at hSw); go_simp; (try with_reducible rfl))
  simp only [Act.put, List.setIfInBounds_toArray, List.set_cons_zero, List.set_cons_succ]
  refine take_at 2 (v := ?_) (some 109) rfl rfl (by kernel_rfl) (by kernel_rfl) (by kernel_rfl) (fun _ _ _ h => h) (Or.inl ⟨by rfl, ?_⟩) hHeld ?_
  rotate_left
  · (intro w hSw; (try dsimp only at hSw); go_simp; (try with_reducible rfl))
  simp only [Act.put, List.setIfInBounds_toArray, List.set_cons_zero, List.set_cons_succ]
  refine take_at 3 (v := ?_) (some 110) rfl rfl (by kernel_rfl) (by kernel_rfl) (by kernel_rfl) (fun _ _ _ h => h) (Or.inl ⟨by rfl, ?_⟩) hHeld ?_
  rotate_left
  · (intro w hSw; (try dsimp only at hSw); go_simp; (try with_reducible rfl))
  simp only [Act.put, List.setIfInBounds_toArray, List.set_cons_zero, List.set_cons_succ]
  refine take_at 4 (v := ?_) (some 111) rfl rfl (by kernel_rfl) (by kernel_rfl) (by kernel_rfl) (fun _ _ _ h => h) (Or.inl ⟨by rfl, ?_⟩) hHeld ?_
  rotate_left
  · (intro w hSw; (try dsimp only at hSw); go_simp; (try with_reducible rfl))
  simp only [Act.put, List.setIfInBounds_toArray, List.set_cons_zero, List.set_cons_succ]
  refine take_at 5 (v := ?_) (some 112) rfl rfl (by kernel_rfl) (by kernel_rfl) (by kernel_rfl) (fun _ _ _ h => h) (Or.inl ⟨by rfl, ?_⟩) hHeld ?_
  rotate_left
  · (intro w hSw; (try dsimp only at hSw); go_simp; (try with_reducible rfl))
  simp only [Act.put, List.setIfInBounds_toArray, List.set_cons_zero, List.set_cons_succ]
  refine take_at 6 (v := ?_) (some 113) rfl rfl (by kernel_rfl) (by kernel_rfl) (by kernel_rfl) (fun _ _ _ h => h) (Or.inl ⟨by rfl, ?_⟩) hHeld ?_
  rotate_left
  · (intro w hSw; (try dsimp only at hSw); go_simp; (try with_reducible rfl))
  simp only [Act.put, List.setIfInBounds_toArray, List.set_cons_zero, List.set_cons_succ]
  refine take_at 7 (v := ?_) (some 114) rfl rfl (by kernel_rfl) (by kernel_rfl) (by kernel_rfl) (fun _ _ _ h => h) (Or.inl ⟨by rfl, ?_⟩) hHeld ?_
  rotate_left
  · (intro w hSw; (try dsimp only at hSw); go_simp; (try with_reducible rfl))
  simp only [Act.put, List.setIfInBounds_toArray, List.set_cons_zero, List.set_cons_succ]
  refine take_at 8 (v := ?_) (some 115) rfl rfl (by kernel_rfl) (by kernel_rfl) (by kernel_rfl) (fun _ _ _ h => h) (Or.inl ⟨by rfl, ?_⟩) hHeld ?_
  rotate_left
  · (intro w hSw; (try dsimp only at hSw); go_simp; (try with_reducible rfl))
  simp only [Act.put, List.setIfInBounds_toArray, List.set_cons_zero, List.set_cons_succ]
  refine take_at 9 (v := ?_) (some 116) rfl rfl (by kernel_rfl) (by kernel_rfl) (by kernel_rfl) (fun _ _ _ h => h) (Or.inl ⟨by rfl, ?_⟩) hHeld ?_
  rotate_left
  · (intro w hSw; (try dsimp only at hSw); go_simp; (try with_reducible rfl))
  simp only [Act.put, List.setIfInBounds_toArray, List.set_cons_zero, List.set_cons_succ]
  refine take_at 10 (v := ?_) (some 117) rfl rfl (by kernel_rfl) (by kernel_rfl) (by kernel_rfl) (fun _ _ _ h => h) (Or.inl ⟨by rfl, ?_⟩) hHeld ?_
  rotate_left
  · (intro w hSw; (try dsimp only at hSw); go_simp; (try with_reducible rfl))
  simp only [Act.put, List.setIfInBounds_toArray, List.set_cons_zero, List.set_cons_succ]
  refine take_at 11 (v := ?_) (some 118) rfl rfl (by kernel_rfl) (by kernel_rfl) (by kernel_rfl) (fun _ _ _ h => h) (Or.inl ⟨by rfl, ?_⟩) hHeld ?_
  rotate_left
  · (intro w hSw; (try dsimp only at hSw); go_simp; (try with_reducible rfl))
  simp only [Act.put, List.setIfInBounds_toArray, List.set_cons_zero, List.set_cons_succ]
  refine take_at 12 (v := ?_) (some 119) rfl rfl (by kernel_rfl) (by kernel_rfl) (by kernel_rfl) (fun _ _ _ h => h) (Or.inl ⟨by rfl, ?_⟩) hHeld ?_
  rotate_left
  · (intro w hSw; (try dsimp only at hSw); go_simp; (try with_reducible rfl))
  simp only [Act.put, List.setIfInBounds_toArray, List.set_cons_zero, List.set_cons_succ]
  refine take_at 13 (v := ?_) (some 120) rfl rfl (by kernel_rfl) (by kernel_rfl) (by kernel_rfl) (fun _ _ _ h => h) (Or.inl ⟨by rfl, ?_⟩) hHeld ?_
  rotate_left
  · (intro w hSw; (try dsimp only at hSw); go_simp; (try with_reducible rfl))
  simp only [Act.put, List.setIfInBounds_toArray, List.set_cons_zero, List.set_cons_succ]
  refine take_at 14 (v := ?_) (some 121) rfl rfl (by kernel_rfl) (by kernel_rfl) (by kernel_rfl) (fun _ _ _ h => h) (Or.inl ⟨by rfl, ?_⟩) hHeld ?_
  rotate_left
  · (intro w hSw; (try dsimp only at hSw); go_simp; (try with_reducible rfl))
  simp only [Act.put, List.setIfInBounds_toArray, List.set_cons_zero, List.set_cons_succ]
  refine take_at 15 (v := ?_) (some 122) rfl rfl (by kernel_rfl) (by kernel_rfl) (by kernel_rfl) (fun _ _ _ h => h) (Or.inl ⟨by rfl, ?_⟩) hHeld ?_
  rotate_left
  · (intro w hSw; (try dsimp only at hSw); go_simp; (try with_reducible rfl))
  simp only [Act.put, List.setIfInBounds_toArray, List.set_cons_zero, List.set_cons_succ]
  refine take_at 18 (v := ?_) (some 125) rfl rfl (by kernel_rfl) (by kernel_rfl) (by kernel_rfl) (fun _ _ _ h => h) (Or.inl ⟨by rfl, ?_⟩) hHeld ?_
  rotate_left
  · (intro w hSw; (try dsimp only at hSw); go_simp; (try with_reducible rfl))
  simp only [Act.put, List.setIfInBounds_toArray, List.set_cons_zero, List.set_cons_succ]
  refine take_at 19 (v := ?_) (some 126) rfl rfl (by kernel_rfl) (by kernel_rfl) (by kernel_rfl) (fun _ _ _ h => h) (Or.inl ⟨by rfl, ?_⟩) hHeld ?_
  rotate_left
  · (intro w hSw; (try dsimp only at hSw); go_simp; (try with_reducible rfl))
  simp only [Act.put, List.setIfInBounds_toArray, List.set_cons_zero, List.set_cons_succ]
  refine take_at 20 (v := ?_) (some 127) rfl rfl (by kernel_rfl) (by kernel_rfl) (by kernel_rfl) (fun _ _ _ h => h) (Or.inl ⟨by rfl, ?_⟩) hHeld ?_
  rotate_left
  · (intro w hSw; (try dsimp only at hSw); go_simp; (try with_reducible rfl))
  simp only [Act.put, List.setIfInBounds_toArray, List.set_cons_zero, List.set_cons_succ]
  refine take_at 21 (v := ?_) (some 128) rfl rfl (by kernel_rfl) (by kernel_rfl) (by kernel_rfl) (fun _ _ _ h => h) (Or.inl ⟨by rfl, ?_⟩) hHeld ?_
  rotate_left
  · (intro w hSw; (try dsimp only at hSw); go_simp; (try with_reducible rfl))
  simp only [Act.put, List.setIfInBounds_toArray, List.set_cons_zero, List.set_cons_succ]
  refine wpAnyH_ready (rs := [16]) (by kernel_rfl) (by simp) ?_
  refine AllReadyH.cons rfl (fun K hK => ?_) AllReadyH.nil
  go_simp
  refine (rcword30_any av A k _ (show Ws W3.drew av A from HA.out)).mono ?_; rintro e v0 ⟨rfl, hww⟩; subst v0; rw [HY.out]; have HFv := Lib.hid (Fr.refl ([] : List Nat) W3.drew)
  go_wp2_with fail
  refine hK.out _ _ ?_ (fun hHeld => ?_)
  · exact ⟨cell_fr hHeld.1 HFv.out (by simp), cell_fr hHeld.2.1 HFv.out (by simp), cell_fr hHeld.2.2.1 HFv.out (by simp), cell_fr hHeld.2.2.2 HFv.out (by simp)⟩
  clear hK K
  try simp only [Act.put, List.setIfInBounds_toArray, List.set_cons_zero, List.set_cons_succ]
  refine wpAnyH_ready (rs := [17]) (by kernel_rfl) (by simp) ?_
  refine AllReadyH.cons rfl (fun K hK => ?_) AllReadyH.nil
  go_simp
  refine (HWD.out x y _ HX64.out HY64.out).mono ?_; rintro e v5 ⟨rfl, hB⟩; have HFv := Lib.hid (show Fr [] W3.drew v5 from .of hB); clear hB
  go_wp2_with fail
  refine hK.out _ _ ?_ (fun hHeld => ?_)
  · exact ⟨cell_fr hHeld.1 HFv.out (by simp), cell_fr hHeld.2.1 HFv.out (by simp), cell_fr hHeld.2.2.1 HFv.out (by simp), cell_fr hHeld.2.2.2 HFv.out (by simp)⟩
  clear hK K
  try simp only [Act.put, List.setIfInBounds_toArray, List.set_cons_zero, List.set_cons_succ]
  refine take_at 22 (v := ?_) (some 129) rfl rfl (by kernel_rfl) (by kernel_rfl) (by kernel_rfl) (fun _ _ _ h => h) (Or.inl ⟨by rfl, ?_⟩) hHeld ?_
  rotate_left
  · (intro w hSw; (try dsimp only at hSw); go_simp; (try with_reducible rfl))
  simp only [Act.put, List.setIfInBounds_toArray, List.set_cons_zero, List.set_cons_succ]
  refine wpAnyH_done (by kernel_rfl) ?_ _
  go_split_ands

  clear c1 c3 c4 c6
  have HF5 := Lib.hid (show Fr [] W3 v5 from (Fr.refl [] W3).drew.trans HFv.out)
  have HR5 := Lib.hid (HR3.out.fr HF5.out (by simp))
  have HM5 := Lib.hid (rmfr HM3.out HF5.out (by simp) (by simp))
  have HF6 := Lib.hid (show Fr [jb, g] w v5 from HF3.out.trans (HF5.out.mono (by simp)))
  clear HFv HR3 HM3 HA HF3 HF5
  have d4 : v5.cell? ⟨jb, 4, none⟩ = some (.int .i64 k) := HR5.out.cell 4
  have d5 : v5.cell? ⟨jb, 5, none⟩ = some (.bool false) := HR5.out.cell 5
  have d8 : v5.cell? ⟨jb, 8, none⟩ = some (.bool false) := HR5.out.cell 8
  have g4 := HR5.out.free 4
  have g8 := HR5.out.free 8
  have HFIN := Lib.hid (show Rj ((v5.setCell ⟨jb, 4, none⟩ (.int .i64 ((k : Int) + 1))).setCell ⟨jb, 8, none⟩ (.bool z)) jb bs wh n av ⟨ch, z, tries, (k + 1), x, false⟩ ∧ Rm ((v5.setCell ⟨jb, 4, none⟩ (.int .i64 ((k : Int) + 1))).setCell ⟨jb, 8, none⟩ (.bool z)) b g zs ∧ Fr [jb, g] w ((v5.setCell ⟨jb, 4, none⟩ (.int .i64 ((k : Int) + 1))).setCell ⟨jb, 8, none⟩ (.bool z)) from by
    have f2 : Fr [jb] v5 ((v5.setCell ⟨jb, 4, none⟩ (.int .i64 ((k : Int) + 1))).setCell ⟨jb, 8, none⟩ (.bool z)) := (((Fr.refl _ _).set (by simp) _).set (by simp) _)
    exact ⟨(Bk.set (Bk.set HR5.out 4 (.int .i64 ((k : Int) + 1))) 8 (.bool z)), rmfr HM5.out f2 (by simp; exact fun e => HRB.out.1 e.symm) (by simp; exact fun e => HRB.out.2 e.symm), HF6.out.trans (f2.mono (by simp))⟩)
  go_wp2_with fail
  go_ret
  exact ⟨rfl, HFIN.out⟩

set_option maxHeartbeats 3200000 in
set_option maxRecDepth 100000 in
theorem rj_hit (bs wh n : Int) (q : Nat) (jb b g : Nat) (av : Value) (A : List Nat) (zs : List Int) (ch : Bool) (tries : Int) (k x0 : Nat) (w : World) (hbs : 0 ≤ bs ∧ bs ≤ 1000) (hq : cwn n = q) (hq2 : q ≤ 1024) (hk : k < q) (hA : Ws w av A) (hAj : ∀ a c, av = .slice (some a) A.length c → 0 < A.length → a.block ≠ jb ∧ a.block ≠ g) (hm : Rm w b g zs) (hx064 : x0 < 18446744073709551616) (y : Nat) (hy : wdA A k = (y : Int)) (hy64 : y < 18446744073709551616) (f : Nat → Nat → Nat) (hf : ∀ (x y : Nat) (w : World), x < 18446744073709551616 → y < 18446744073709551616 → Calls Try.prog 31 #[.int .i64 wh, .int .u64 x, .int .u64 y] w fun e w' => e = .returned (.int .u64 (f x y : Nat)) ∧ Below w.heap.size w w') (hJ : Rj w jb bs wh n av ⟨ch, false, tries, k, x0, true⟩) (hc : casb zs (bs + k) x0 = true) :
    Calls Try.prog 82 #[.pointer (some ⟨jb, 0, none⟩), .pointer (some ⟨b, 0, none⟩)] w fun e w' => e = .returned (.bool (decide (q ≤ k + 1))) ∧ Rj w' jb bs wh n av ⟨true, decide (q ≤ k + 1), tries, k + 1, x0, false⟩ ∧ Rm w' b g (casv zs (bs + k) x0 (f x0 y : Nat)) ∧ Fr [jb, g] w w' := by
  have HR := Lib.hid (show Bk w jb 132 [.int .i64 bs, .int .i64 wh, .int .i64 n, av, .int .i64 k, .bool true, .int .u64 x0, .bool ch, .bool false, .int .i64 tries] from hJ)
  have HM := Lib.hid hm
  have HA := Lib.hid hA
  have HAJ := Lib.hid hAj
  have HQ := Lib.hid hq
  have HY := Lib.hid hy
  have HY64 := Lib.hid hy64
  have HX0 := Lib.hid hx064
  have HWD := Lib.hid hf
  have HRB := Lib.hid (show jb ≠ b ∧ jb ≠ g from ⟨Bk.ne HR.out hm.1 (by decide), Bk.ne HR.out hm.2.1 (by decide)⟩)
  obtain ⟨hb0, hb1⟩ := hbs
  have hdk : decide ((q : Int) ≤ k) = false := decide_eq_false (by omega)
  have c0 : w.cell? ⟨jb, 0, none⟩ = some (.int .i64 bs) := HR.out.cell 0
  have c1 : w.cell? ⟨jb, 1, none⟩ = some (.int .i64 wh) := HR.out.cell 1
  have c2 : w.cell? ⟨jb, 2, none⟩ = some (.int .i64 n) := HR.out.cell 2
  have c3 : w.cell? ⟨jb, 3, none⟩ = some (av) := HR.out.cell 3
  have c4 : w.cell? ⟨jb, 4, none⟩ = some (.int .i64 k) := HR.out.cell 4
  have c5 : w.cell? ⟨jb, 5, none⟩ = some (.bool true) := HR.out.cell 5
  have c6 : w.cell? ⟨jb, 6, none⟩ = some (.int .u64 x0) := HR.out.cell 6
  have c7 : w.cell? ⟨jb, 7, none⟩ = some (.bool ch) := HR.out.cell 7
  have c8 : w.cell? ⟨jb, 8, none⟩ = some (.bool false) := HR.out.cell 8
  have c9 : w.cell? ⟨jb, 9, none⟩ = some (.int .i64 tries) := HR.out.cell 9
  have HC := Lib.hid hc
  clear hc
  obtain ⟨z, hz⟩ : ∃ z, z = decide (q ≤ k + 1) := ⟨_, rfl⟩
  have hkq : (((k : Int) + 1) == (q : Int)) = z := by rw [hz, Bool.eq_iff_iff]; simp; omega
  rw [← hz]
  clear hz
  clear hJ hm hA hAj hq hy hf
  go_enter Try.func82, Try.ntmps82
  go_wp2_with fail
  refine (rcwords_any _ _).mono ?_
  rintro e w1 ⟨rfl, hww⟩
  subst w1
  rw [HQ.out]
  go_wp2_with fail
  refine wp_region_held_drew (S := (fun w' => w'.cell? ⟨jb, 1, none⟩ = some (.int .i64 wh) ∧ w'.cell? ⟨jb, 6, none⟩ = some (.int .u64 x0) ∧ w'.cell? ⟨jb, 3, none⟩ = some (av) ∧ w'.cell? ⟨jb, 4, none⟩ = some (.int .i64 k))) (by kernel_rfl) ?_ (fun hHeld => ?_)
  · exact ⟨c1, c6, c3, c4⟩
  refine take_at 0 (v := ?_) (some 29) rfl rfl (by kernel_rfl) (by kernel_rfl) (by kernel_rfl) (fun _ _ _ h => h) (Or.inl ⟨by rfl, ?_⟩) hHeld ?_
  rotate_left
  · (intro w hSw; (try dsimp only at hSw); go_simp; (try with_reducible rfl))
  simp only [Act.put, List.setIfInBounds_toArray, List.set_cons_zero, List.set_cons_succ]
  refine take_at 1 (v := ?_) (some 30) rfl rfl (by kernel_rfl) (by kernel_rfl) (by kernel_rfl) (fun _ _ _ h => h) (Or.inl ⟨by rfl, ?_⟩) hHeld ?_
  rotate_left
  · (intro w hSw; (try dsimp only at hSw); go_simp; (try with_reducible rfl))
  simp only [Act.put, List.setIfInBounds_toArray, List.set_cons_zero, List.set_cons_succ]
  refine take_at 2 (v := ?_) (some 31) rfl rfl (by kernel_rfl) (by kernel_rfl) (by kernel_rfl) (fun _ _ _ h => h) (Or.inl ⟨by rfl, ?_⟩) hHeld ?_
  rotate_left
  · (intro w hSw; (try dsimp only at hSw); go_simp; (try with_reducible rfl))
  simp only [Act.put, List.setIfInBounds_toArray, List.set_cons_zero, List.set_cons_succ]
  refine take_at 3 (v := ?_) (some 32) rfl rfl (by kernel_rfl) (by kernel_rfl) (by kernel_rfl) (fun _ _ _ h => h) (Or.inl ⟨by rfl, ?_⟩) hHeld ?_
  rotate_left
  · (intro w hSw; (try dsimp only at hSw); go_simp; (try with_reducible rfl))
  simp only [Act.put, List.setIfInBounds_toArray, List.set_cons_zero, List.set_cons_succ]
  refine take_at 4 (v := ?_) (some 33) rfl rfl (by kernel_rfl) (by kernel_rfl) (by kernel_rfl) (fun _ _ _ h => h) (Or.inl ⟨by rfl, ?_⟩) hHeld ?_
  rotate_left
  · (intro w hSw; (try dsimp only at hSw); go_simp; (try with_reducible rfl))
  simp only [Act.put, List.setIfInBounds_toArray, List.set_cons_zero, List.set_cons_succ]
  refine take_at 5 (v := ?_) (some 34) rfl rfl (by kernel_rfl) (by kernel_rfl) (by kernel_rfl) (fun _ _ _ h => h) (Or.inl ⟨by rfl, ?_⟩) hHeld ?_
  rotate_left
  · (intro w hSw; (try dsimp only at hSw); go_simp; (try with_reducible rfl))
  simp only [Act.put, List.setIfInBounds_toArray, List.set_cons_zero, List.set_cons_succ]
  refine take_at 6 (v := ?_) (some 35) rfl rfl (by kernel_rfl) (by kernel_rfl) (by kernel_rfl) (fun _ _ _ h => h) (Or.inl ⟨by rfl, ?_⟩) hHeld ?_
  rotate_left
  · (intro w hSw; (try dsimp only at hSw); go_simp; (try with_reducible rfl))
  simp only [Act.put, List.setIfInBounds_toArray, List.set_cons_zero, List.set_cons_succ]
  refine take_at 7 (v := ?_) (some 36) rfl rfl (by kernel_rfl) (by kernel_rfl) (by kernel_rfl) (fun _ _ _ h => h) (Or.inl ⟨by rfl, ?_⟩) hHeld ?_
  rotate_left
  · (intro w hSw; (try dsimp only at hSw); go_simp; (try with_reducible rfl))
  simp only [Act.put, List.setIfInBounds_toArray, List.set_cons_zero, List.set_cons_succ]
  refine take_at 8 (v := ?_) (some 37) rfl rfl (by kernel_rfl) (by kernel_rfl) (by kernel_rfl) (fun _ _ _ h => h) (Or.inl ⟨by rfl, ?_⟩) hHeld ?_
  rotate_left
  · (intro w hSw; (try dsimp only at hSw); go_simp; (try with_reducible rfl))
  simp only [Act.put, List.setIfInBounds_toArray, List.set_cons_zero, List.set_cons_succ]
  refine take_at 9 (v := ?_) (some 38) rfl rfl (by kernel_rfl) (by kernel_rfl) (by kernel_rfl) (fun _ _ _ h => h) (Or.inl ⟨by rfl, ?_⟩) hHeld ?_
  rotate_left
  · (intro w hSw; (try dsimp only at hSw); go_simp; (try with_reducible rfl))
  simp only [Act.put, List.setIfInBounds_toArray, List.set_cons_zero, List.set_cons_succ]
  refine take_at 10 (v := ?_) (some 39) rfl rfl (by kernel_rfl) (by kernel_rfl) (by kernel_rfl) (fun _ _ _ h => h) (Or.inl ⟨by rfl, ?_⟩) hHeld ?_
  rotate_left
  · (intro w hSw; (try dsimp only at hSw); go_simp; (try with_reducible rfl))
  simp only [Act.put, List.setIfInBounds_toArray, List.set_cons_zero, List.set_cons_succ]
  refine take_at 11 (v := ?_) (some 40) rfl rfl (by kernel_rfl) (by kernel_rfl) (by kernel_rfl) (fun _ _ _ h => h) (Or.inl ⟨by rfl, ?_⟩) hHeld ?_
  rotate_left
  · (intro w hSw; (try dsimp only at hSw); go_simp; (try with_reducible rfl))
  simp only [Act.put, List.setIfInBounds_toArray, List.set_cons_zero, List.set_cons_succ]
  refine take_at 12 (v := ?_) (some 41) rfl rfl (by kernel_rfl) (by kernel_rfl) (by kernel_rfl) (fun _ _ _ h => h) (Or.inl ⟨by rfl, ?_⟩) hHeld ?_
  rotate_left
  · (intro w hSw; (try dsimp only at hSw); go_simp; (try with_reducible rfl))
  simp only [Act.put, List.setIfInBounds_toArray, List.set_cons_zero, List.set_cons_succ]
  refine take_at 13 (v := ?_) (some 42) rfl rfl (by kernel_rfl) (by kernel_rfl) (by kernel_rfl) (fun _ _ _ h => h) (Or.inl ⟨by rfl, ?_⟩) hHeld ?_
  rotate_left
  · (intro w hSw; (try dsimp only at hSw); go_simp; (try with_reducible rfl))
  simp only [Act.put, List.setIfInBounds_toArray, List.set_cons_zero, List.set_cons_succ]
  refine take_at 14 (v := ?_) (some 43) rfl rfl (by kernel_rfl) (by kernel_rfl) (by kernel_rfl) (fun _ _ _ h => h) (Or.inl ⟨by rfl, ?_⟩) hHeld ?_
  rotate_left
  · (intro w hSw; (try dsimp only at hSw); go_simp; (try with_reducible rfl))
  simp only [Act.put, List.setIfInBounds_toArray, List.set_cons_zero, List.set_cons_succ]
  refine take_at 15 (v := ?_) (some 44) rfl rfl (by kernel_rfl) (by kernel_rfl) (by kernel_rfl) (fun _ _ _ h => h) (Or.inl ⟨by rfl, ?_⟩) hHeld ?_
  rotate_left
  · (intro w hSw; (try dsimp only at hSw); go_simp; (try with_reducible rfl))
  simp only [Act.put, List.setIfInBounds_toArray, List.set_cons_zero, List.set_cons_succ]
  refine wpAnyH_ready (rs := [16]) (by kernel_rfl) (by simp) ?_
  refine AllReadyH.cons rfl (fun K hK => ?_) AllReadyH.nil
  go_simp
  refine (rcword30_any av A k _ (show Ws w.drew av A from HA.out)).mono ?_; rintro e v0 ⟨rfl, hww⟩; subst v0; rw [HY.out]; have HFv := Lib.hid (Fr.refl ([] : List Nat) w.drew)
  go_wp2_with fail
  refine hK.out _ _ ?_ (fun hHeld => ?_)
  · exact ⟨cell_fr hHeld.1 HFv.out (by simp), cell_fr hHeld.2.1 HFv.out (by simp), cell_fr hHeld.2.2.1 HFv.out (by simp), cell_fr hHeld.2.2.2 HFv.out (by simp)⟩
  clear hK K
  try simp only [Act.put, List.setIfInBounds_toArray, List.set_cons_zero, List.set_cons_succ]
  refine wpAnyH_ready (rs := [17]) (by kernel_rfl) (by simp) ?_
  refine AllReadyH.cons rfl (fun K hK => ?_) AllReadyH.nil
  go_simp
  refine (HWD.out x0 y _ HX0.out HY64.out).mono ?_; rintro e v1 ⟨rfl, hB⟩; have HFv := Lib.hid (show Fr [] w.drew v1 from .of hB); clear hB
  go_wp2_with fail
  refine hK.out _ _ ?_ (fun hHeld => ?_)
  · exact ⟨cell_fr hHeld.1 HFv.out (by simp), cell_fr hHeld.2.1 HFv.out (by simp), cell_fr hHeld.2.2.1 HFv.out (by simp), cell_fr hHeld.2.2.2 HFv.out (by simp)⟩
  clear hK K
  try simp only [Act.put, List.setIfInBounds_toArray, List.set_cons_zero, List.set_cons_succ]
  refine take_at 18 (v := ?_) (some 6) rfl rfl (by kernel_rfl) (by kernel_rfl) (by kernel_rfl) (fun _ _ _ h => h) (Or.inl ⟨by rfl, ?_⟩) hHeld ?_
  rotate_left
  · (intro w hSw; (try dsimp only at hSw); go_simp; (try with_reducible rfl))
  simp only [Act.put, List.setIfInBounds_toArray, List.set_cons_zero, List.set_cons_succ]
  refine wpAnyH_done (by kernel_rfl) ?_ _
  go_split_ands

  have HF1 := Lib.hid (show Fr [] w v1 from (Fr.refl [] w).drew.trans HFv.out)
  have HR1 := Lib.hid (HR.out.fr HF1.out (by simp))
  have HM1 := Lib.hid (rmfr HM.out HF1.out (by simp) (by simp))
  have HA1 := Lib.hid (HA.out.fr HF1.out (by simp))
  clear c0 c1 c2 c3 c4 c5 c6 c7 c8 c9 HFv HR HM HA
  have d5 : v1.cell? ⟨jb, 5, none⟩ = some (.bool true) := HR1.out.cell 5
  have g5 := HR1.out.free 5
  have HS := Lib.hid (show Fr [jb] v1 (v1.setCell ⟨jb, 5, none⟩ (.bool false)) from (Fr.refl _ _).set (by simp) _)
  have HR3 := Lib.hid (show Bk (v1.setCell ⟨jb, 5, none⟩ (.bool false)) jb 132 [.int .i64 bs, .int .i64 wh, .int .i64 n, av, .int .i64 k, .bool false, .int .u64 x0, .bool ch, .bool false, .int .i64 tries] from Bk.set HR1.out 5 (.bool false))
  have HM3 := Lib.hid (rmfr HM1.out HS.out (by simp; exact fun e => HRB.out.1 e.symm) (by simp; exact fun e => HRB.out.2 e.symm))
  have HF3 := Lib.hid (show Fr [jb, g] w (v1.setCell ⟨jb, 5, none⟩ (.bool false)) from (HF1.out.mono (by simp)).trans (HS.out.mono (by simp)))
  have hsum : IntKind.i64.wrap (bs + k) = bs + k := IntWalk.i64_in _ (by omega)
  go_wp2_with fail
  generalize v1.setCell ⟨jb, 5, none⟩ (.bool false) = W3 at *
  clear HS HR1 HM1 HA1 HF1 d5 g5
  have c0 : W3.cell? ⟨jb, 0, none⟩ = some (.int .i64 bs) := HR3.out.cell 0
  have c4 : W3.cell? ⟨jb, 4, none⟩ = some (.int .i64 k) := HR3.out.cell 4
  have c6 : W3.cell? ⟨jb, 6, none⟩ = some (.int .u64 x0) := HR3.out.cell 6
  refine wp_region_held_drew (S := (fun w' => w'.cell? ⟨jb, 0, none⟩ = some (.int .i64 bs) ∧ w'.cell? ⟨jb, 4, none⟩ = some (.int .i64 k) ∧ w'.cell? ⟨jb, 6, none⟩ = some (.int .u64 x0))) (by kernel_rfl) ?_ (fun hHeld => ?_)
  · exact ⟨c0, c4, c6⟩
  refine take_at 0 (v := ?_) (some 55) rfl rfl (by kernel_rfl) (by kernel_rfl) (by kernel_rfl) (fun _ _ _ h => h) (Or.inl ⟨by rfl, ?_⟩) hHeld ?_
  rotate_left
  · (intro w hSw; (try dsimp only at hSw); go_simp; (try with_reducible rfl))
  simp only [Act.put, List.setIfInBounds_toArray, List.set_cons_zero, List.set_cons_succ]
  refine take_at 1 (v := ?_) (some 56) rfl rfl (by kernel_rfl) (by kernel_rfl) (by kernel_rfl) (fun _ _ _ h => h) (Or.inl ⟨by rfl, ?_⟩) hHeld ?_
  rotate_left
  · (intro w hSw; (try dsimp only at hSw); go_simp; (try with_reducible rfl))
  simp only [Act.put, List.setIfInBounds_toArray, List.set_cons_zero, List.set_cons_succ]
  refine take_at 2 (v := ?_) (some 57) rfl rfl (by kernel_rfl) (by kernel_rfl) (by kernel_rfl) (fun _ _ _ h => h) (Or.inl ⟨by rfl, ?_⟩) hHeld ?_
  rotate_left
  · (intro w hSw; (try dsimp only at hSw); go_simp; (try with_reducible rfl))
  simp only [Act.put, List.setIfInBounds_toArray, List.set_cons_zero, List.set_cons_succ]
  refine take_at 3 (v := ?_) (some 58) rfl rfl (by kernel_rfl) (by kernel_rfl) (by kernel_rfl) (fun _ _ _ h => h) (Or.inl ⟨by rfl, ?_⟩) hHeld ?_
  rotate_left
  · (intro w hSw; (try dsimp only at hSw); go_simp; (try with_reducible rfl))
  simp only [Act.put, List.setIfInBounds_toArray, List.set_cons_zero, List.set_cons_succ]
  refine take_at 4 (v := ?_) (some 59) rfl rfl (by kernel_rfl) (by kernel_rfl) (by kernel_rfl) (fun _ _ _ h => h) (Or.inl ⟨by rfl, ?_⟩) hHeld ?_
  rotate_left
  · (intro w hSw; (try dsimp only at hSw); go_simp; (try with_reducible rfl))
  simp only [Act.put, List.setIfInBounds_toArray, List.set_cons_zero, List.set_cons_succ]
  refine take_at 5 (v := ?_) (some 60) rfl rfl (by kernel_rfl) (by kernel_rfl) (by kernel_rfl) (fun _ _ _ h => h) (Or.inl ⟨by rfl, ?_⟩) hHeld ?_
  rotate_left
  · (intro w hSw; (try dsimp only at hSw); go_simp; (try with_reducible rfl))
  simp only [Act.put, List.setIfInBounds_toArray, List.set_cons_zero, List.set_cons_succ]
  refine take_at 6 (v := ?_) (some 61) rfl rfl (by kernel_rfl) (by kernel_rfl) (by kernel_rfl) (fun _ _ _ h => h) (Or.inl ⟨by rfl, ?_⟩) hHeld ?_
  rotate_left
  · (intro w hSw; (try dsimp only at hSw); go_simp; (try with_reducible rfl))
  simp only [Act.put, List.setIfInBounds_toArray, List.set_cons_zero, List.set_cons_succ]
  refine take_at 7 (v := ?_) (some 62) rfl rfl (by kernel_rfl) (by kernel_rfl) (by kernel_rfl) (fun _ _ _ h => h) (Or.inl ⟨by rfl, ?_⟩) hHeld ?_
  rotate_left
  · (intro w hSw; (try dsimp only at hSw); go_simp; (try with_reducible rfl))
  simp only [Act.put, List.setIfInBounds_toArray, List.set_cons_zero, List.set_cons_succ]
  refine take_at 8 (v := ?_) (some 63) rfl rfl (by kernel_rfl) (by kernel_rfl) (by kernel_rfl) (fun _ _ _ h => h) (Or.inl ⟨by rfl, ?_⟩) hHeld ?_
  rotate_left
  · (intro w hSw; (try dsimp only at hSw); go_simp; (try with_reducible rfl))
  simp only [Act.put, List.setIfInBounds_toArray, List.set_cons_zero, List.set_cons_succ]
  refine take_at 9 (v := ?_) (some 64) rfl rfl (by kernel_rfl) (by kernel_rfl) (by kernel_rfl) (fun _ _ _ h => h) (Or.inl ⟨by rfl, ?_⟩) hHeld ?_
  rotate_left
  · (intro w hSw; (try dsimp only at hSw); go_simp; (try with_reducible rfl))
  simp only [Act.put, List.setIfInBounds_toArray, List.set_cons_zero, List.set_cons_succ]
  refine take_at 10 (v := ?_) (some 65) rfl rfl (by kernel_rfl) (by kernel_rfl) (by kernel_rfl) (fun _ _ _ h => h) (Or.inl ⟨by rfl, ?_⟩) hHeld ?_
  rotate_left
  · (intro w hSw; (try dsimp only at hSw); go_simp; (try with_reducible rfl))
  simp only [Act.put, List.setIfInBounds_toArray, List.set_cons_zero, List.set_cons_succ]
  refine take_at 11 (v := ?_) (some 66) rfl rfl (by kernel_rfl) (by kernel_rfl) (by kernel_rfl) (fun _ _ _ h => h) (Or.inl ⟨by rfl, ?_⟩) hHeld ?_
  rotate_left
  · (intro w hSw; (try dsimp only at hSw); go_simp; (try with_reducible rfl))
  simp only [Act.put, List.setIfInBounds_toArray, List.set_cons_zero, List.set_cons_succ]
  refine take_at 12 (v := ?_) (some 67) rfl rfl (by kernel_rfl) (by kernel_rfl) (by kernel_rfl) (fun _ _ _ h => h) (Or.inl ⟨by rfl, ?_⟩) hHeld ?_
  rotate_left
  · (intro w hSw; (try dsimp only at hSw); go_simp; (try with_reducible rfl))
  simp only [Act.put, List.setIfInBounds_toArray, List.set_cons_zero, List.set_cons_succ]
  refine take_at 13 (v := ?_) (some 68) rfl rfl (by kernel_rfl) (by kernel_rfl) (by kernel_rfl) (fun _ _ _ h => h) (Or.inl ⟨by rfl, ?_⟩) hHeld ?_
  rotate_left
  · (intro w hSw; (try dsimp only at hSw); go_simp; (try with_reducible rfl))
  simp only [Act.put, List.setIfInBounds_toArray, List.set_cons_zero, List.set_cons_succ]
  refine take_at 14 (v := ?_) (some 69) rfl rfl (by kernel_rfl) (by kernel_rfl) (by kernel_rfl) (fun _ _ _ h => h) (Or.inl ⟨by rfl, ?_⟩) hHeld ?_
  rotate_left
  · (intro w hSw; (try dsimp only at hSw); go_simp; (try with_reducible rfl))
  simp only [Act.put, List.setIfInBounds_toArray, List.set_cons_zero, List.set_cons_succ]
  refine take_at 15 (v := ?_) (some 70) rfl rfl (by kernel_rfl) (by kernel_rfl) (by kernel_rfl) (fun _ _ _ h => h) (Or.inl ⟨by rfl, ?_⟩) hHeld ?_
  rotate_left
  · (intro w hSw; (try dsimp only at hSw); go_simp; (try with_reducible rfl))
  simp only [Act.put, List.setIfInBounds_toArray, List.set_cons_zero, List.set_cons_succ]
  refine wpAnyH_ready (rs := [16]) (by kernel_rfl) (by simp) ?_
  refine AllReadyH.cons rfl (fun K hK => ?_) AllReadyH.nil
  go_simp
  refine (do_any 3 (bs + k) x0 (f x0 y : Nat) b g zs _ (show Rm W3.drew b g zs from HM3.out)).mono ?_; rintro e v5 ⟨rfl, hM5, hK5⟩; rw [show actb zs 3 (bs + k) x0 = casb zs (bs + k) x0 from rfl, HC.out]; have HM5 := Lib.hid (show Rm v5 b g (casv zs (bs + k) x0 (f x0 y : Nat)) from hM5); have HFv := Lib.hid (show Fr [g] W3.drew v5 from .gb hK5 (by simp)); clear hM5 hK5
  go_wp2_with fail
  refine hK.out _ _ ?_ (fun hHeld => ?_)
  · exact ⟨cell_fr hHeld.1 HFv.out (by simp; exact HRB.out.2), cell_fr hHeld.2.1 HFv.out (by simp; exact HRB.out.2), cell_fr hHeld.2.2 HFv.out (by simp; exact HRB.out.2)⟩
  clear hK K
  try simp only [Act.put, List.setIfInBounds_toArray, List.set_cons_zero, List.set_cons_succ]
  refine take_at 17 (v := ?_) (some 54) rfl rfl (by kernel_rfl) (by kernel_rfl) (by kernel_rfl) (fun _ _ _ h => h) (Or.inl ⟨by rfl, ?_⟩) hHeld ?_
  rotate_left
  · (intro w hSw; (try dsimp only at hSw); go_simp; (try with_reducible rfl))
  simp only [Act.put, List.setIfInBounds_toArray, List.set_cons_zero, List.set_cons_succ]
  refine take_at 18 (v := ?_) (some 72) rfl rfl (by kernel_rfl) (by kernel_rfl) (by kernel_rfl) (fun _ _ _ h => h) (Or.inl ⟨by rfl, ?_⟩) hHeld ?_
  rotate_left
  · (intro w hSw; (try dsimp only at hSw); go_simp; (try with_reducible rfl))
  simp only [Act.put, List.setIfInBounds_toArray, List.set_cons_zero, List.set_cons_succ]
  refine take_at 19 (v := ?_) (some 73) rfl rfl (by kernel_rfl) (by kernel_rfl) (by kernel_rfl) (fun _ _ _ h => h) (Or.inl ⟨by rfl, ?_⟩) hHeld ?_
  rotate_left
  · (intro w hSw; (try dsimp only at hSw); go_simp; (try with_reducible rfl))
  simp only [Act.put, List.setIfInBounds_toArray, List.set_cons_zero, List.set_cons_succ]
  refine take_at 20 (v := ?_) (some 7) rfl rfl (by kernel_rfl) (by kernel_rfl) (by kernel_rfl) (fun _ _ _ h => h) (Or.inl ⟨by rfl, ?_⟩) hHeld ?_
  rotate_left
  · (intro w hSw; (try dsimp only at hSw); go_simp; (try with_reducible rfl))
  simp only [Act.put, List.setIfInBounds_toArray, List.set_cons_zero, List.set_cons_succ]
  refine take_at 21 (v := ?_) (some 8) rfl rfl (by kernel_rfl) (by kernel_rfl) (by kernel_rfl) (fun _ _ _ h => h) (Or.inl ⟨by rfl, ?_⟩) hHeld ?_
  rotate_left
  · (intro w hSw; (try dsimp only at hSw); go_simp; (try with_reducible rfl))
  simp only [Act.put, List.setIfInBounds_toArray, List.set_cons_zero, List.set_cons_succ]
  refine wpAnyH_done (by kernel_rfl) ?_ _
  go_split_ands

  clear c0 c4 c6 hsum
  have HF5 := Lib.hid (show Fr [g] W3 v5 from (Fr.refl [g] W3).drew.trans HFv.out)
  have HR5 := Lib.hid (HR3.out.fr HF5.out (by simp; exact HRB.out.2))
  have HF6 := Lib.hid (show Fr [jb, g] w v5 from HF3.out.trans (HF5.out.mono (by simp)))
  clear HFv HR3 HM3 HF3 HF5
  have e4 : v5.cell? ⟨jb, 4, none⟩ = some (.int .i64 k) := HR5.out.cell 4
  have g4 := HR5.out.free 4
  have e7 : v5.cell? ⟨jb, 7, none⟩ = some (.bool ch) := HR5.out.cell 7
  have g7 := HR5.out.free 7
  have e8 : v5.cell? ⟨jb, 8, none⟩ = some (.bool false) := HR5.out.cell 8
  have g8 := HR5.out.free 8
  have HFIN := Lib.hid (show Rj (((v5.setCell ⟨jb, 7, none⟩ (.bool true)).setCell ⟨jb, 4, none⟩ (.int .i64 ((k : Int) + 1))).setCell ⟨jb, 8, none⟩ (.bool z)) jb bs wh n av ⟨true, z, tries, (k + 1), x0, false⟩ ∧ Rm (((v5.setCell ⟨jb, 7, none⟩ (.bool true)).setCell ⟨jb, 4, none⟩ (.int .i64 ((k : Int) + 1))).setCell ⟨jb, 8, none⟩ (.bool z)) b g (casv zs (bs + k) x0 (f x0 y : Nat)) ∧ Fr [jb, g] w (((v5.setCell ⟨jb, 7, none⟩ (.bool true)).setCell ⟨jb, 4, none⟩ (.int .i64 ((k : Int) + 1))).setCell ⟨jb, 8, none⟩ (.bool z)) from by
    have f2 : Fr [jb] v5 (((v5.setCell ⟨jb, 7, none⟩ (.bool true)).setCell ⟨jb, 4, none⟩ (.int .i64 ((k : Int) + 1))).setCell ⟨jb, 8, none⟩ (.bool z)) := ((((Fr.refl _ _).set (by simp) _).set (by simp) _).set (by simp) _)
    exact ⟨(Bk.set (Bk.set (Bk.set HR5.out 7 (.bool true)) 4 (.int .i64 ((k : Int) + 1))) 8 (.bool z)), rmfr HM5.out f2 (by simp; exact fun e => HRB.out.1 e.symm) (by simp; exact fun e => HRB.out.2 e.symm), HF6.out.trans (f2.mono (by simp))⟩)
  clear HR5 HM5 HF6
  go_wp2_with fail
  go_ret
  exact ⟨rfl, HFIN.out⟩

set_option maxHeartbeats 3200000 in
set_option maxRecDepth 100000 in
theorem rj_miss (bs wh n : Int) (q : Nat) (jb b g : Nat) (av : Value) (A : List Nat) (zs : List Int) (ch : Bool) (tries : Int) (k x0 : Nat) (w : World) (hbs : 0 ≤ bs ∧ bs ≤ 1000) (hq : cwn n = q) (hq2 : q ≤ 1024) (hk : k < q) (hA : Ws w av A) (hAj : ∀ a c, av = .slice (some a) A.length c → 0 < A.length → a.block ≠ jb ∧ a.block ≠ g) (hm : Rm w b g zs) (hx064 : x0 < 18446744073709551616) (y : Nat) (hy : wdA A k = (y : Int)) (hy64 : y < 18446744073709551616) (f : Nat → Nat → Nat) (hf : ∀ (x y : Nat) (w : World), x < 18446744073709551616 → y < 18446744073709551616 → Calls Try.prog 31 #[.int .i64 wh, .int .u64 x, .int .u64 y] w fun e w' => e = .returned (.int .u64 (f x y : Nat)) ∧ Below w.heap.size w w') (hJ : Rj w jb bs wh n av ⟨ch, false, tries, k, x0, true⟩) (hc : casb zs (bs + k) x0 = false) (htr : 0 ≤ tries ∧ tries ≤ 1000000) :
    Calls Try.prog 82 #[.pointer (some ⟨jb, 0, none⟩), .pointer (some ⟨b, 0, none⟩)] w fun e w' => e = .returned (.bool false) ∧ Rj w' jb bs wh n av ⟨ch, false, tries + 1, k, x0, false⟩ ∧ Rm w' b g zs ∧ Fr [jb, g] w w' := by
  have HR := Lib.hid (show Bk w jb 132 [.int .i64 bs, .int .i64 wh, .int .i64 n, av, .int .i64 k, .bool true, .int .u64 x0, .bool ch, .bool false, .int .i64 tries] from hJ)
  have HM := Lib.hid hm
  have HA := Lib.hid hA
  have HAJ := Lib.hid hAj
  have HQ := Lib.hid hq
  have HY := Lib.hid hy
  have HY64 := Lib.hid hy64
  have HX0 := Lib.hid hx064
  have HWD := Lib.hid hf
  have HRB := Lib.hid (show jb ≠ b ∧ jb ≠ g from ⟨Bk.ne HR.out hm.1 (by decide), Bk.ne HR.out hm.2.1 (by decide)⟩)
  obtain ⟨hb0, hb1⟩ := hbs
  have hdk : decide ((q : Int) ≤ k) = false := decide_eq_false (by omega)
  have c0 : w.cell? ⟨jb, 0, none⟩ = some (.int .i64 bs) := HR.out.cell 0
  have c1 : w.cell? ⟨jb, 1, none⟩ = some (.int .i64 wh) := HR.out.cell 1
  have c2 : w.cell? ⟨jb, 2, none⟩ = some (.int .i64 n) := HR.out.cell 2
  have c3 : w.cell? ⟨jb, 3, none⟩ = some (av) := HR.out.cell 3
  have c4 : w.cell? ⟨jb, 4, none⟩ = some (.int .i64 k) := HR.out.cell 4
  have c5 : w.cell? ⟨jb, 5, none⟩ = some (.bool true) := HR.out.cell 5
  have c6 : w.cell? ⟨jb, 6, none⟩ = some (.int .u64 x0) := HR.out.cell 6
  have c7 : w.cell? ⟨jb, 7, none⟩ = some (.bool ch) := HR.out.cell 7
  have c8 : w.cell? ⟨jb, 8, none⟩ = some (.bool false) := HR.out.cell 8
  have c9 : w.cell? ⟨jb, 9, none⟩ = some (.int .i64 tries) := HR.out.cell 9
  have HC := Lib.hid hc
  clear hc
  obtain ⟨ht0, ht1⟩ := htr
  clear hJ hm hA hAj hq hy hf
  go_enter Try.func82, Try.ntmps82
  go_wp2_with fail
  refine (rcwords_any _ _).mono ?_
  rintro e w1 ⟨rfl, hww⟩
  subst w1
  rw [HQ.out]
  go_wp2_with fail
  refine wp_region_held_drew (S := (fun w' => w'.cell? ⟨jb, 1, none⟩ = some (.int .i64 wh) ∧ w'.cell? ⟨jb, 6, none⟩ = some (.int .u64 x0) ∧ w'.cell? ⟨jb, 3, none⟩ = some (av) ∧ w'.cell? ⟨jb, 4, none⟩ = some (.int .i64 k))) (by kernel_rfl) ?_ (fun hHeld => ?_)
  · exact ⟨c1, c6, c3, c4⟩
  refine take_at 0 (v := ?_) (some 29) rfl rfl (by kernel_rfl) (by kernel_rfl) (by kernel_rfl) (fun _ _ _ h => h) (Or.inl ⟨by rfl, ?_⟩) hHeld ?_
  rotate_left
  · (intro w hSw; (try dsimp only at hSw); go_simp; (try with_reducible rfl))
  simp only [Act.put, List.setIfInBounds_toArray, List.set_cons_zero, List.set_cons_succ]
  refine take_at 1 (v := ?_) (some 30) rfl rfl (by kernel_rfl) (by kernel_rfl) (by kernel_rfl) (fun _ _ _ h => h) (Or.inl ⟨by rfl, ?_⟩) hHeld ?_
  rotate_left
  · (intro w hSw; (try dsimp only at hSw); go_simp; (try with_reducible rfl))
  simp only [Act.put, List.setIfInBounds_toArray, List.set_cons_zero, List.set_cons_succ]
  refine take_at 2 (v := ?_) (some 31) rfl rfl (by kernel_rfl) (by kernel_rfl) (by kernel_rfl) (fun _ _ _ h => h) (Or.inl ⟨by rfl, ?_⟩) hHeld ?_
  rotate_left
  · (intro w hSw; (try dsimp only at hSw); go_simp; (try with_reducible rfl))
  simp only [Act.put, List.setIfInBounds_toArray, List.set_cons_zero, List.set_cons_succ]
  refine take_at 3 (v := ?_) (some 32) rfl rfl (by kernel_rfl) (by kernel_rfl) (by kernel_rfl) (fun _ _ _ h => h) (Or.inl ⟨by rfl, ?_⟩) hHeld ?_
  rotate_left
  · (intro w hSw; (try dsimp only at hSw); go_simp; (try with_reducible rfl))
  simp only [Act.put, List.setIfInBounds_toArray, List.set_cons_zero, List.set_cons_succ]
  refine take_at 4 (v := ?_) (some 33) rfl rfl (by kernel_rfl) (by kernel_rfl) (by kernel_rfl) (fun _ _ _ h => h) (Or.inl ⟨by rfl, ?_⟩) hHeld ?_
  rotate_left
  · (intro w hSw; (try dsimp only at hSw); go_simp; (try with_reducible rfl))
  simp only [Act.put, List.setIfInBounds_toArray, List.set_cons_zero, List.set_cons_succ]
  refine take_at 5 (v := ?_) (some 34) rfl rfl (by kernel_rfl) (by kernel_rfl) (by kernel_rfl) (fun _ _ _ h => h) (Or.inl ⟨by rfl, ?_⟩) hHeld ?_
  rotate_left
  · (intro w hSw; (try dsimp only at hSw); go_simp; (try with_reducible rfl))
  simp only [Act.put, List.setIfInBounds_toArray, List.set_cons_zero, List.set_cons_succ]
  refine take_at 6 (v := ?_) (some 35) rfl rfl (by kernel_rfl) (by kernel_rfl) (by kernel_rfl) (fun _ _ _ h => h) (Or.inl ⟨by rfl, ?_⟩) hHeld ?_
  rotate_left
  · (intro w hSw; (try dsimp only at hSw); go_simp; (try with_reducible rfl))
  simp only [Act.put, List.setIfInBounds_toArray, List.set_cons_zero, List.set_cons_succ]
  refine take_at 7 (v := ?_) (some 36) rfl rfl (by kernel_rfl) (by kernel_rfl) (by kernel_rfl) (fun _ _ _ h => h) (Or.inl ⟨by rfl, ?_⟩) hHeld ?_
  rotate_left
  · (intro w hSw; (try dsimp only at hSw); go_simp; (try with_reducible rfl))
  simp only [Act.put, List.setIfInBounds_toArray, List.set_cons_zero, List.set_cons_succ]
  refine take_at 8 (v := ?_) (some 37) rfl rfl (by kernel_rfl) (by kernel_rfl) (by kernel_rfl) (fun _ _ _ h => h) (Or.inl ⟨by rfl, ?_⟩) hHeld ?_
  rotate_left
  · (intro w hSw; (try dsimp only at hSw); go_simp; (try with_reducible rfl))
  simp only [Act.put, List.setIfInBounds_toArray, List.set_cons_zero, List.set_cons_succ]
  refine take_at 9 (v := ?_) (some 38) rfl rfl (by kernel_rfl) (by kernel_rfl) (by kernel_rfl) (fun _ _ _ h => h) (Or.inl ⟨by rfl, ?_⟩) hHeld ?_
  rotate_left
  · (intro w hSw; (try dsimp only at hSw); go_simp; (try with_reducible rfl))
  simp only [Act.put, List.setIfInBounds_toArray, List.set_cons_zero, List.set_cons_succ]
  refine take_at 10 (v := ?_) (some 39) rfl rfl (by kernel_rfl) (by kernel_rfl) (by kernel_rfl) (fun _ _ _ h => h) (Or.inl ⟨by rfl, ?_⟩) hHeld ?_
  rotate_left
  · (intro w hSw; (try dsimp only at hSw); go_simp; (try with_reducible rfl))
  simp only [Act.put, List.setIfInBounds_toArray, List.set_cons_zero, List.set_cons_succ]
  refine take_at 11 (v := ?_) (some 40) rfl rfl (by kernel_rfl) (by kernel_rfl) (by kernel_rfl) (fun _ _ _ h => h) (Or.inl ⟨by rfl, ?_⟩) hHeld ?_
  rotate_left
  · (intro w hSw; (try dsimp only at hSw); go_simp; (try with_reducible rfl))
  simp only [Act.put, List.setIfInBounds_toArray, List.set_cons_zero, List.set_cons_succ]
  refine take_at 12 (v := ?_) (some 41) rfl rfl (by kernel_rfl) (by kernel_rfl) (by kernel_rfl) (fun _ _ _ h => h) (Or.inl ⟨by rfl, ?_⟩) hHeld ?_
  rotate_left
  · (intro w hSw; (try dsimp only at hSw); go_simp; (try with_reducible rfl))
  simp only [Act.put, List.setIfInBounds_toArray, List.set_cons_zero, List.set_cons_succ]
  refine take_at 13 (v := ?_) (some 42) rfl rfl (by kernel_rfl) (by kernel_rfl) (by kernel_rfl) (fun _ _ _ h => h) (Or.inl ⟨by rfl, ?_⟩) hHeld ?_
  rotate_left
  · (intro w hSw; (try dsimp only at hSw); go_simp; (try with_reducible rfl))
  simp only [Act.put, List.setIfInBounds_toArray, List.set_cons_zero, List.set_cons_succ]
  refine take_at 14 (v := ?_) (some 43) rfl rfl (by kernel_rfl) (by kernel_rfl) (by kernel_rfl) (fun _ _ _ h => h) (Or.inl ⟨by rfl, ?_⟩) hHeld ?_
  rotate_left
  · (intro w hSw; (try dsimp only at hSw); go_simp; (try with_reducible rfl))
  simp only [Act.put, List.setIfInBounds_toArray, List.set_cons_zero, List.set_cons_succ]
  refine take_at 15 (v := ?_) (some 44) rfl rfl (by kernel_rfl) (by kernel_rfl) (by kernel_rfl) (fun _ _ _ h => h) (Or.inl ⟨by rfl, ?_⟩) hHeld ?_
  rotate_left
  · (intro w hSw; (try dsimp only at hSw); go_simp; (try with_reducible rfl))
  simp only [Act.put, List.setIfInBounds_toArray, List.set_cons_zero, List.set_cons_succ]
  refine wpAnyH_ready (rs := [16]) (by kernel_rfl) (by simp) ?_
  refine AllReadyH.cons rfl (fun K hK => ?_) AllReadyH.nil
  go_simp
  refine (rcword30_any av A k _ (show Ws w.drew av A from HA.out)).mono ?_; rintro e v0 ⟨rfl, hww⟩; subst v0; rw [HY.out]; have HFv := Lib.hid (Fr.refl ([] : List Nat) w.drew)
  go_wp2_with fail
  refine hK.out _ _ ?_ (fun hHeld => ?_)
  · exact ⟨cell_fr hHeld.1 HFv.out (by simp), cell_fr hHeld.2.1 HFv.out (by simp), cell_fr hHeld.2.2.1 HFv.out (by simp), cell_fr hHeld.2.2.2 HFv.out (by simp)⟩
  clear hK K
  try simp only [Act.put, List.setIfInBounds_toArray, List.set_cons_zero, List.set_cons_succ]
  refine wpAnyH_ready (rs := [17]) (by kernel_rfl) (by simp) ?_
  refine AllReadyH.cons rfl (fun K hK => ?_) AllReadyH.nil
  go_simp
  refine (HWD.out x0 y _ HX0.out HY64.out).mono ?_; rintro e v1 ⟨rfl, hB⟩; have HFv := Lib.hid (show Fr [] w.drew v1 from .of hB); clear hB
  go_wp2_with fail
  refine hK.out _ _ ?_ (fun hHeld => ?_)
  · exact ⟨cell_fr hHeld.1 HFv.out (by simp), cell_fr hHeld.2.1 HFv.out (by simp), cell_fr hHeld.2.2.1 HFv.out (by simp), cell_fr hHeld.2.2.2 HFv.out (by simp)⟩
  clear hK K
  try simp only [Act.put, List.setIfInBounds_toArray, List.set_cons_zero, List.set_cons_succ]
  refine take_at 18 (v := ?_) (some 6) rfl rfl (by kernel_rfl) (by kernel_rfl) (by kernel_rfl) (fun _ _ _ h => h) (Or.inl ⟨by rfl, ?_⟩) hHeld ?_
  rotate_left
  · (intro w hSw; (try dsimp only at hSw); go_simp; (try with_reducible rfl))
  simp only [Act.put, List.setIfInBounds_toArray, List.set_cons_zero, List.set_cons_succ]
  refine wpAnyH_done (by kernel_rfl) ?_ _
  go_split_ands

  have HF1 := Lib.hid (show Fr [] w v1 from (Fr.refl [] w).drew.trans HFv.out)
  have HR1 := Lib.hid (HR.out.fr HF1.out (by simp))
  have HM1 := Lib.hid (rmfr HM.out HF1.out (by simp) (by simp))
  have HA1 := Lib.hid (HA.out.fr HF1.out (by simp))
  clear c0 c1 c2 c3 c4 c5 c6 c7 c8 c9 HFv HR HM HA
  have d5 : v1.cell? ⟨jb, 5, none⟩ = some (.bool true) := HR1.out.cell 5
  have g5 := HR1.out.free 5
  have HS := Lib.hid (show Fr [jb] v1 (v1.setCell ⟨jb, 5, none⟩ (.bool false)) from (Fr.refl _ _).set (by simp) _)
  have HR3 := Lib.hid (show Bk (v1.setCell ⟨jb, 5, none⟩ (.bool false)) jb 132 [.int .i64 bs, .int .i64 wh, .int .i64 n, av, .int .i64 k, .bool false, .int .u64 x0, .bool ch, .bool false, .int .i64 tries] from Bk.set HR1.out 5 (.bool false))
  have HM3 := Lib.hid (rmfr HM1.out HS.out (by simp; exact fun e => HRB.out.1 e.symm) (by simp; exact fun e => HRB.out.2 e.symm))
  have HF3 := Lib.hid (show Fr [jb, g] w (v1.setCell ⟨jb, 5, none⟩ (.bool false)) from (HF1.out.mono (by simp)).trans (HS.out.mono (by simp)))
  have hsum : IntKind.i64.wrap (bs + k) = bs + k := IntWalk.i64_in _ (by omega)
  go_wp2_with fail
  generalize v1.setCell ⟨jb, 5, none⟩ (.bool false) = W3 at *
  clear HS HR1 HM1 HA1 HF1 d5 g5
  have c0 : W3.cell? ⟨jb, 0, none⟩ = some (.int .i64 bs) := HR3.out.cell 0
  have c4 : W3.cell? ⟨jb, 4, none⟩ = some (.int .i64 k) := HR3.out.cell 4
  have c6 : W3.cell? ⟨jb, 6, none⟩ = some (.int .u64 x0) := HR3.out.cell 6
  refine wp_region_held_drew (S := (fun w' => w'.cell? ⟨jb, 0, none⟩ = some (.int .i64 bs) ∧ w'.cell? ⟨jb, 4, none⟩ = some (.int .i64 k) ∧ w'.cell? ⟨jb, 6, none⟩ = some (.int .u64 x0))) (by kernel_rfl) ?_ (fun hHeld => ?_)
  · exact ⟨c0, c4, c6⟩
  refine take_at 0 (v := ?_) (some 55) rfl rfl (by kernel_rfl) (by kernel_rfl) (by kernel_rfl) (fun _ _ _ h => h) (Or.inl ⟨by rfl, ?_⟩) hHeld ?_
  rotate_left
  · (intro w hSw; (try dsimp only at hSw); go_simp; (try with_reducible rfl))
  simp only [Act.put, List.setIfInBounds_toArray, List.set_cons_zero, List.set_cons_succ]
  refine take_at 1 (v := ?_) (some 56) rfl rfl (by kernel_rfl) (by kernel_rfl) (by kernel_rfl) (fun _ _ _ h => h) (Or.inl ⟨by rfl, ?_⟩) hHeld ?_
  rotate_left
  · (intro w hSw; (try dsimp only at hSw); go_simp; (try with_reducible rfl))
  simp only [Act.put, List.setIfInBounds_toArray, List.set_cons_zero, List.set_cons_succ]
  refine take_at 2 (v := ?_) (some 57) rfl rfl (by kernel_rfl) (by kernel_rfl) (by kernel_rfl) (fun _ _ _ h => h) (Or.inl ⟨by rfl, ?_⟩) hHeld ?_
  rotate_left
  · (intro w hSw; (try dsimp only at hSw); go_simp; (try with_reducible rfl))
  simp only [Act.put, List.setIfInBounds_toArray, List.set_cons_zero, List.set_cons_succ]
  refine take_at 3 (v := ?_) (some 58) rfl rfl (by kernel_rfl) (by kernel_rfl) (by kernel_rfl) (fun _ _ _ h => h) (Or.inl ⟨by rfl, ?_⟩) hHeld ?_
  rotate_left
  · (intro w hSw; (try dsimp only at hSw); go_simp; (try with_reducible rfl))
  simp only [Act.put, List.setIfInBounds_toArray, List.set_cons_zero, List.set_cons_succ]
  refine take_at 4 (v := ?_) (some 59) rfl rfl (by kernel_rfl) (by kernel_rfl) (by kernel_rfl) (fun _ _ _ h => h) (Or.inl ⟨by rfl, ?_⟩) hHeld ?_
  rotate_left
  · (intro w hSw; (try dsimp only at hSw); go_simp; (try with_reducible rfl))
  simp only [Act.put, List.setIfInBounds_toArray, List.set_cons_zero, List.set_cons_succ]
  refine take_at 5 (v := ?_) (some 60) rfl rfl (by kernel_rfl) (by kernel_rfl) (by kernel_rfl) (fun _ _ _ h => h) (Or.inl ⟨by rfl, ?_⟩) hHeld ?_
  rotate_left
  · (intro w hSw; (try dsimp only at hSw); go_simp; (try with_reducible rfl))
  simp only [Act.put, List.setIfInBounds_toArray, List.set_cons_zero, List.set_cons_succ]
  refine take_at 6 (v := ?_) (some 61) rfl rfl (by kernel_rfl) (by kernel_rfl) (by kernel_rfl) (fun _ _ _ h => h) (Or.inl ⟨by rfl, ?_⟩) hHeld ?_
  rotate_left
  · (intro w hSw; (try dsimp only at hSw); go_simp; (try with_reducible rfl))
  simp only [Act.put, List.setIfInBounds_toArray, List.set_cons_zero, List.set_cons_succ]
  refine take_at 7 (v := ?_) (some 62) rfl rfl (by kernel_rfl) (by kernel_rfl) (by kernel_rfl) (fun _ _ _ h => h) (Or.inl ⟨by rfl, ?_⟩) hHeld ?_
  rotate_left
  · (intro w hSw; (try dsimp only at hSw); go_simp; (try with_reducible rfl))
  simp only [Act.put, List.setIfInBounds_toArray, List.set_cons_zero, List.set_cons_succ]
  refine take_at 8 (v := ?_) (some 63) rfl rfl (by kernel_rfl) (by kernel_rfl) (by kernel_rfl) (fun _ _ _ h => h) (Or.inl ⟨by rfl, ?_⟩) hHeld ?_
  rotate_left
  · (intro w hSw; (try dsimp only at hSw); go_simp; (try with_reducible rfl))
  simp only [Act.put, List.setIfInBounds_toArray, List.set_cons_zero, List.set_cons_succ]
  refine take_at 9 (v := ?_) (some 64) rfl rfl (by kernel_rfl) (by kernel_rfl) (by kernel_rfl) (fun _ _ _ h => h) (Or.inl ⟨by rfl, ?_⟩) hHeld ?_
  rotate_left
  · (intro w hSw; (try dsimp only at hSw); go_simp; (try with_reducible rfl))
  simp only [Act.put, List.setIfInBounds_toArray, List.set_cons_zero, List.set_cons_succ]
  refine take_at 10 (v := ?_) (some 65) rfl rfl (by kernel_rfl) (by kernel_rfl) (by kernel_rfl) (fun _ _ _ h => h) (Or.inl ⟨by rfl, ?_⟩) hHeld ?_
  rotate_left
  · (intro w hSw; (try dsimp only at hSw); go_simp; (try with_reducible rfl))
  simp only [Act.put, List.setIfInBounds_toArray, List.set_cons_zero, List.set_cons_succ]
  refine take_at 11 (v := ?_) (some 66) rfl rfl (by kernel_rfl) (by kernel_rfl) (by kernel_rfl) (fun _ _ _ h => h) (Or.inl ⟨by rfl, ?_⟩) hHeld ?_
  rotate_left
  · (intro w hSw; (try dsimp only at hSw); go_simp; (try with_reducible rfl))
  simp only [Act.put, List.setIfInBounds_toArray, List.set_cons_zero, List.set_cons_succ]
  refine take_at 12 (v := ?_) (some 67) rfl rfl (by kernel_rfl) (by kernel_rfl) (by kernel_rfl) (fun _ _ _ h => h) (Or.inl ⟨by rfl, ?_⟩) hHeld ?_
  rotate_left
  · (intro w hSw; (try dsimp only at hSw); go_simp; (try with_reducible rfl))
  simp only [Act.put, List.setIfInBounds_toArray, List.set_cons_zero, List.set_cons_succ]
  refine take_at 13 (v := ?_) (some 68) rfl rfl (by kernel_rfl) (by kernel_rfl) (by kernel_rfl) (fun _ _ _ h => h) (Or.inl ⟨by rfl, ?_⟩) hHeld ?_
  rotate_left
  · (intro w hSw; (try dsimp only at hSw); go_simp; (try with_reducible rfl))
  simp only [Act.put, List.setIfInBounds_toArray, List.set_cons_zero, List.set_cons_succ]
  refine take_at 14 (v := ?_) (some 69) rfl rfl (by kernel_rfl) (by kernel_rfl) (by kernel_rfl) (fun _ _ _ h => h) (Or.inl ⟨by rfl, ?_⟩) hHeld ?_
  rotate_left
  · (intro w hSw; (try dsimp only at hSw); go_simp; (try with_reducible rfl))
  simp only [Act.put, List.setIfInBounds_toArray, List.set_cons_zero, List.set_cons_succ]
  refine take_at 15 (v := ?_) (some 70) rfl rfl (by kernel_rfl) (by kernel_rfl) (by kernel_rfl) (fun _ _ _ h => h) (Or.inl ⟨by rfl, ?_⟩) hHeld ?_
  rotate_left
  · (intro w hSw; (try dsimp only at hSw); go_simp; (try with_reducible rfl))
  simp only [Act.put, List.setIfInBounds_toArray, List.set_cons_zero, List.set_cons_succ]
  refine wpAnyH_ready (rs := [16]) (by kernel_rfl) (by simp) ?_
  refine AllReadyH.cons rfl (fun K hK => ?_) AllReadyH.nil
  go_simp
  refine (do_any 3 (bs + k) x0 (f x0 y : Nat) b g zs _ (show Rm W3.drew b g zs from HM3.out)).mono ?_; rintro e v5 ⟨rfl, hM5, hK5⟩; rw [show actb zs 3 (bs + k) x0 = casb zs (bs + k) x0 from rfl, HC.out]; have HM5 := Lib.hid (show Rm v5 b g (casv zs (bs + k) x0 (f x0 y : Nat)) from hM5); have HFv := Lib.hid (show Fr [g] W3.drew v5 from .gb hK5 (by simp)); clear hM5 hK5
  go_wp2_with fail
  refine hK.out _ _ ?_ (fun hHeld => ?_)
  · exact ⟨cell_fr hHeld.1 HFv.out (by simp; exact HRB.out.2), cell_fr hHeld.2.1 HFv.out (by simp; exact HRB.out.2), cell_fr hHeld.2.2 HFv.out (by simp; exact HRB.out.2)⟩
  clear hK K
  try simp only [Act.put, List.setIfInBounds_toArray, List.set_cons_zero, List.set_cons_succ]
  refine take_at 17 (v := ?_) (some 54) rfl rfl (by kernel_rfl) (by kernel_rfl) (by kernel_rfl) (fun _ _ _ h => h) (Or.inl ⟨by rfl, ?_⟩) hHeld ?_
  rotate_left
  · (intro w hSw; (try dsimp only at hSw); go_simp; (try with_reducible rfl))
  simp only [Act.put, List.setIfInBounds_toArray, List.set_cons_zero, List.set_cons_succ]
  refine take_at 18 (v := ?_) (some 72) rfl rfl (by kernel_rfl) (by kernel_rfl) (by kernel_rfl) (fun _ _ _ h => h) (Or.inl ⟨by rfl, ?_⟩) hHeld ?_
  rotate_left
  · (intro w hSw; (try dsimp only at hSw); go_simp; (try with_reducible rfl))
  simp only [Act.put, List.setIfInBounds_toArray, List.set_cons_zero, List.set_cons_succ]
  refine take_at 19 (v := ?_) (some 73) rfl rfl (by kernel_rfl) (by kernel_rfl) (by kernel_rfl) (fun _ _ _ h => h) (Or.inl ⟨by rfl, ?_⟩) hHeld ?_
  rotate_left
  · (intro w hSw; (try dsimp only at hSw); go_simp; (try with_reducible rfl))
  simp only [Act.put, List.setIfInBounds_toArray, List.set_cons_zero, List.set_cons_succ]
  refine take_at 20 (v := ?_) (some 7) rfl rfl (by kernel_rfl) (by kernel_rfl) (by kernel_rfl) (fun _ _ _ h => h) (Or.inl ⟨by rfl, ?_⟩) hHeld ?_
  rotate_left
  · (intro w hSw; (try dsimp only at hSw); go_simp; (try with_reducible rfl))
  simp only [Act.put, List.setIfInBounds_toArray, List.set_cons_zero, List.set_cons_succ]
  refine take_at 21 (v := ?_) (some 8) rfl rfl (by kernel_rfl) (by kernel_rfl) (by kernel_rfl) (fun _ _ _ h => h) (Or.inl ⟨by rfl, ?_⟩) hHeld ?_
  rotate_left
  · (intro w hSw; (try dsimp only at hSw); go_simp; (try with_reducible rfl))
  simp only [Act.put, List.setIfInBounds_toArray, List.set_cons_zero, List.set_cons_succ]
  refine wpAnyH_done (by kernel_rfl) ?_ _
  go_split_ands

  clear c0 c4 c6 hsum
  have HF5 := Lib.hid (show Fr [g] W3 v5 from (Fr.refl [g] W3).drew.trans HFv.out)
  have HR5 := Lib.hid (HR3.out.fr HF5.out (by simp; exact HRB.out.2))
  have HF6 := Lib.hid (show Fr [jb, g] w v5 from HF3.out.trans (HF5.out.mono (by simp)))
  clear HFv HR3 HM3 HF3 HF5
  have HM5 := Lib.hid (show Rm v5 b g zs by have h := HM5.out; rw [show casv zs (bs + k) x0 (f x0 y : Nat) = zs by unfold casv; rw [HC.out]; rfl] at h; exact h)
  have e4 : v5.cell? ⟨jb, 4, none⟩ = some (.int .i64 k) := HR5.out.cell 4
  have g4 := HR5.out.free 4
  have e8 : v5.cell? ⟨jb, 8, none⟩ = some (.bool false) := HR5.out.cell 8
  have g8 := HR5.out.free 8
  have e9 : v5.cell? ⟨jb, 9, none⟩ = some (.int .i64 tries) := HR5.out.cell 9
  have g9 := HR5.out.free 9
  have HFIN := Lib.hid (show Rj (v5.setCell ⟨jb, 9, none⟩ (.int .i64 (tries + 1))) jb bs wh n av ⟨ch, false, (tries + 1), k, x0, false⟩ ∧ Rm (v5.setCell ⟨jb, 9, none⟩ (.int .i64 (tries + 1))) b g zs ∧ Fr [jb, g] w (v5.setCell ⟨jb, 9, none⟩ (.int .i64 (tries + 1))) from by
    have f2 : Fr [jb] v5 (v5.setCell ⟨jb, 9, none⟩ (.int .i64 (tries + 1))) := ((Fr.refl _ _).set (by simp) _)
    exact ⟨(Bk.set HR5.out 9 (.int .i64 (tries + 1))), rmfr HM5.out f2 (by simp; exact fun e => HRB.out.1 e.symm) (by simp; exact fun e => HRB.out.2 e.symm), HF6.out.trans (f2.mono (by simp))⟩)
  clear HR5 HM5 HF6
  go_wp2_with fail
  go_ret
  exact ⟨rfl, HFIN.out⟩

set_option maxHeartbeats 3200000 in
set_option maxRecDepth 100000 in
theorem rj_end (bs wh n : Int) (jb : Nat) (av m : Value) (x : JnS) (w : World) (h : Rj w jb bs wh n av x) (he : x.en = true) :
    Calls Try.prog 82 #[.pointer (some ⟨jb, 0, none⟩), m] w fun e w' => e = .returned (.bool true) ∧ Rj w' jb bs wh n av x ∧ Fr [jb] w w' := by
  obtain ⟨xc, xe, xt, xk, xw, xr⟩ := x
  dsimp only at he
  subst he
  have c2 : w.cell? ⟨jb, 2, none⟩ = some (.int .i64 n) := h.cell 2
  have c8 : w.cell? ⟨jb, 8, none⟩ = some (.bool true) := h.cell 8
  have g8 := Bk.free h 8
  have HFIN := Lib.hid (show Rj (w.setCell ⟨jb, 8, none⟩ (.bool true)) jb bs wh n av ⟨xc, true, xt, xk, xw, xr⟩ ∧ Fr [jb] w (w.setCell ⟨jb, 8, none⟩ (.bool true)) from ⟨Bk.set h 8 (.bool true), (Fr.refl _ _).set (by simp) _⟩)
  clear h
  go_enter Try.func82, Try.ntmps82
  go_wp2_with fail
  refine (rcwords_any _ _).mono ?_
  rintro e w1 ⟨rfl, hww⟩
  subst w1
  go_wp2_with fail
  try go_quiet (fail)
  try go_wp2_with fail
  go_ret
  exact ⟨rfl, HFIN.out⟩

set_option maxHeartbeats 3200000 in
set_option maxRecDepth 100000 in
theorem rj_over (bs wh n : Int) (jb : Nat) (av m : Value) (ch : Bool) (tries : Int) (x0 : Nat) (w : World) (hq : cwn n = 0) (h : Rj w jb bs wh n av ⟨ch, false, tries, 0, x0, false⟩) :
    Calls Try.prog 82 #[.pointer (some ⟨jb, 0, none⟩), m] w fun e w' => e = .returned (.bool true) ∧ Rj w' jb bs wh n av ⟨ch, true, tries, 0, x0, false⟩ ∧ Fr [jb] w w' := by
  have c2 : w.cell? ⟨jb, 2, none⟩ = some (.int .i64 n) := h.cell 2
  have c4 : w.cell? ⟨jb, 4, none⟩ = some (.int .i64 ((0 : Nat) : Int)) := h.cell 4
  have c8 : w.cell? ⟨jb, 8, none⟩ = some (.bool false) := h.cell 8
  have g8 := Bk.free h 8
  have HFIN := Lib.hid (show Rj (w.setCell ⟨jb, 8, none⟩ (.bool true)) jb bs wh n av ⟨ch, true, tries, 0, x0, false⟩ ∧ Fr [jb] w (w.setCell ⟨jb, 8, none⟩ (.bool true)) from ⟨Bk.set h 8 (.bool true), (Fr.refl _ _).set (by simp) _⟩)
  have HQ := Lib.hid hq
  clear h hq
  go_enter Try.func82, Try.ntmps82
  go_wp2_with fail
  refine (rcwords_any _ _).mono ?_
  rintro e w1 ⟨rfl, hww⟩
  subst w1
  rw [HQ.out]
  go_wp2_with fail
  try go_quiet (fail)
  try go_wp2_with fail
  go_ret
  exact ⟨rfl, HFIN.out⟩


end Go.Proofs.Yteheckcflnogbaa
