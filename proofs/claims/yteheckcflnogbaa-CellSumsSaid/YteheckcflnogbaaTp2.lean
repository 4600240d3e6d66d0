/-
  soughref27.Load, Store; soughref31.Machine.Step: contracts. Written by wip/gen/mktp2.py.
-/
import Derived.Test.YteheckcflnogbaaMemRef
import Derived.Test.YteheckcflnogbaaFr
import Derived.Test.YteheckcflnogbaaTake
import Derived.Test.YteheckcflnogbaaMemI
import Derived.Outline
import Derived.RegionTactic
import Derived.BigRegion
import Derived.Deep.CutRange
import Derived.Deep.DeepCutAuto
namespace Go.Proofs.Yteheckcflnogbaa
open Go.RowKit

theorem rmfr {S : List Nat} {w w' : World} {b g : Nat} {zs : List Int} (h : Rm w b g zs) (k : Fr S w w') (hb : b ∉ S) (hg : g ∉ S) : Rm w' b g zs := ⟨h.1.fr k hb, h.2.1.fr k hg, h.2.2⟩

set_option maxHeartbeats 3200000 in
set_option maxRecDepth 100000 in
theorem rload27_any (a : Int) (b g : Nat) (zs : List Int) (w : World) (h : Rm w b g zs) :
    Calls Try.prog 75 #[.pointer (some ⟨b, 0, none⟩), .int .i64 a] w fun e w' => e = .returned (.int .u64 (ldv zs a)) ∧ Rm w' b g zs ∧ Fr [g] w w' := by
  have HM := Lib.hid h
  clear h
  go_enter Try.func75, Try.ntmps75
  go_wp2_with fail
  refine (do_any 1 a 0 0 b g zs _ HM.out).mono ?_
  rintro e w1 ⟨rfl, hM, hK⟩
  have HM1 := Lib.hid hM
  have HF := Lib.hid (show Fr [g] w w1 from .gb hK (by simp))
  clear hM hK
  go_wp2_with fail
  go_ret
  exact ⟨rfl, HM1.out, HF.out⟩

set_option maxHeartbeats 3200000 in
set_option maxRecDepth 100000 in
theorem rstore27_any (a u : Int) (b g : Nat) (zs : List Int) (w : World) (h : Rm w b g zs) :
    Calls Try.prog 69 #[.pointer (some ⟨b, 0, none⟩), .int .i64 a, .int .u64 u] w fun e w' => e = .returned (.tuple #[]) ∧ Rm w' b g (stv zs a u) ∧ Fr [g] w w' := by
  have HM := Lib.hid h
  clear h
  go_enter Try.func69, Try.ntmps69
  go_wp2_with fail
  refine (do_any 2 a u 0 b g zs _ HM.out).mono ?_
  rintro e w1 ⟨rfl, hM, hK⟩
  have HM1 := Lib.hid hM
  have HF := Lib.hid (show Fr [g] w w1 from .gb hK (by simp))
  clear hM hK
  go_wp2_with fail
  exact bodyPost_end (v := .tuple #[]) (by simp [results, Try.results69, go_sem]) rfl ⟨rfl, HM1.out, HF.out⟩

/-- What a machine of the reference has come to. -/
structure OpS where
  k : Int
  v : Int
  at' : Int
  new : Bool
  ended : Bool
  is : Bool
  left : Int
def RB (w : World) (rb : Nat) (f c : Int) (x : OpS) : Prop := Bk w rb 227 [.int .i64 x.k, .int .i64 x.v, .int .i64 f, .int .i64 c, .int .i64 x.at', .bool x.new, .bool x.ended, .bool x.is, .int .i64 x.left]
theorem RB.fr {S : List Nat} {w w' : World} {rb : Nat} {f c : Int} {x : OpS} (h : RB w rb f c x) (k : Fr S w w') (hb : rb ∉ S) : RB w' rb f c x := Bk.fr h k hb
/-- Its next Step. -/
def opX (a c : Int) (x : OpS) (zs : List Int) : OpS :=
  if x.ended = true then x else if x.k = 1 then (if x.at' = 1 then { x with at' := 2, ended := true } else if 0 ≤ x.v then { x with at' := 1, new := casb zs a 0, ended := !(casb zs a 0) } else { x with at' := 1, ended := true })
  else if x.k = 2 then { x with at' := 1, ended := true } else if x.k = 3 then { x with at' := 1, ended := true, left := wrap64 (addw zs c 18446744073709551615) } else { x with at' := 1, ended := true, is := ldv zs c == 0 }
def opZ (a c : Int) (x : OpS) (zs : List Int) : List Int :=
  if x.ended = true then zs else if x.k = 1 then (if x.at' = 1 then addv zs c 1 else if 0 ≤ x.v then casv zs a 0 1 else zs)
  else if x.k = 2 then (if 0 ≤ x.v then stv zs a 0 else zs) else if x.k = 3 then addv zs c 18446744073709551615 else zs

set_option maxHeartbeats 3200000 in
set_option maxRecDepth 100000 in
theorem ref_end (k v f c at1 left : Int) (new is : Bool) (rb : Nat) (m : Value) (w : World) (h : RB w rb f c ⟨k, v, at1, new, true, is, left⟩) :
    Calls Try.prog 151 #[.pointer (some ⟨rb, 0, none⟩), m] w fun e w' => e = .returned (.bool true) ∧ w' = w := by
  have q6 : w.cell? ⟨rb, 6, none⟩ = some (.bool true) := h.cell 6
  clear h
  go_enter Try.func151, Try.ntmps151
  go_wp2_with fail
  go_ret
  exact ⟨rfl, rfl⟩

set_option maxHeartbeats 3200000 in
set_option maxRecDepth 100000 in
theorem ref_waits (v f c left : Int) (new is : Bool) (rb b g : Nat) (zs : List Int) (w : World) (h : RB w rb f c ⟨1, v, 1, new, false, is, left⟩) (hm : Rm w b g zs) :
    Calls Try.prog 151 #[.pointer (some ⟨rb, 0, none⟩), .pointer (some ⟨b, 0, none⟩)] w fun e w' => e = .returned (.bool true) ∧ RB w' rb f c ⟨1, v, 2, new, true, is, left⟩ ∧ Rm w' b g (addv zs c 1) ∧ Fr [rb, g] w w' := by
  have HR0 := Lib.hid (show Bk w rb 227 [.int .i64 1, .int .i64 v, .int .i64 f, .int .i64 c, .int .i64 1, .bool new, .bool false, .bool is, .int .i64 left] from h)
  have HM0 := Lib.hid hm
  have hne1 : rb ≠ g := Bk.ne HR0.out hm.2.1 (by decide)
  have hne2 : rb ≠ b := Bk.ne HR0.out hm.1 (by decide)
  have q4 : w.cell? ⟨rb, 4, none⟩ = some (.int .i64 1) := HR0.out.cell 4
  have q6 : w.cell? ⟨rb, 6, none⟩ = some (.bool false) := HR0.out.cell 6
  have f4 := HR0.out.free 4
  have f6 := HR0.out.free 6
  clear h hm
  go_enter Try.func151, Try.ntmps151
  go_upto_region 5 with (fail)
  refine wp_gen (fun W => Bk W rb 227 [.int .i64 1, .int .i64 v, .int .i64 f, .int .i64 c, .int .i64 2, .bool new, .bool true, .bool is, .int .i64 left] ∧ Rm W b g zs ∧ Fr [rb] w W) ?_ ?_
  · have f2 : Fr [rb] w ((w.setCell ⟨rb, 4, none⟩ (.int .i64 2)).setCell ⟨rb, 6, none⟩ (.bool true)) := ((Fr.refl _ _).set (by simp) _).set (by simp) _
    exact ⟨Bk.set (Bk.set HR0.out 4 (.int .i64 2)) 6 (.bool true), rmfr HM0.out f2 (by simp; exact fun e => hne2 e.symm) (by simp; exact fun e => hne1 e.symm), f2⟩
  intro W ⟨hR, hM, hF⟩
  clear q4 q6 f4 f6
  have HR := Lib.hid hR
  have HM := Lib.hid hM
  have HF := Lib.hid hF
  have c0 : W.cell? ⟨rb, 0, none⟩ = some (.int .i64 1) := hR.cell 0
  have c1 : W.cell? ⟨rb, 1, none⟩ = some (.int .i64 v) := hR.cell 1
  have c2 : W.cell? ⟨rb, 2, none⟩ = some (.int .i64 f) := hR.cell 2
  have c3 : W.cell? ⟨rb, 3, none⟩ = some (.int .i64 c) := hR.cell 3
  have c4 : W.cell? ⟨rb, 4, none⟩ = some (.int .i64 2) := hR.cell 4
  have c5 : W.cell? ⟨rb, 5, none⟩ = some (.bool new) := hR.cell 5
  have c6 : W.cell? ⟨rb, 6, none⟩ = some (.bool true) := hR.cell 6
  have c7 : W.cell? ⟨rb, 7, none⟩ = some (.bool is) := hR.cell 7
  have c8 : W.cell? ⟨rb, 8, none⟩ = some (.int .i64 left) := hR.cell 8
  clear hR hM hF
  go_wp2_with fail
  refine (do_any 4 c 1 0 b g zs _ HM.out).mono ?_
  rintro e w2 ⟨rfl, hM2, hK⟩
  have hF2 : Fr [g] W w2 := .gb hK (by simp)
  clear hK
  have HF2 := Lib.hid hF2
  have HM2 := Lib.hid hM2
  have HR2 := Lib.hid (HR.out.fr hF2 (by simp; exact hne1))
  have HFF := Lib.hid (show Fr [rb, g] w w2 from (HF.out.mono (by simp)).trans (hF2.mono (by simp)))
  clear hF2 hM2 c0 c1 c2 c3 c4 c5 c6 c7 c8
  have d6 : w2.cell? ⟨rb, 6, none⟩ = some (.bool true) := HR2.out.cell 6
  go_wp2_with fail
  go_ret
  exact ⟨rfl, HR2.out, HM2.out, HFF.out⟩

set_option maxHeartbeats 3200000 in
set_option maxRecDepth 100000 in
theorem ref_neg (v f c left : Int) (new is : Bool) (rb b g : Nat) (zs : List Int) (w : World) (hv : v < 0) (h : RB w rb f c ⟨1, v, 0, new, false, is, left⟩) (hm : Rm w b g zs) :
    Calls Try.prog 151 #[.pointer (some ⟨rb, 0, none⟩), .pointer (some ⟨b, 0, none⟩)] w fun e w' => e = .returned (.bool true) ∧ RB w' rb f c ⟨1, v, 1, new, true, is, left⟩ ∧ Rm w' b g zs ∧ Fr [rb, g] w w' := by
  have HR0 := Lib.hid (show Bk w rb 227 [.int .i64 1, .int .i64 v, .int .i64 f, .int .i64 c, .int .i64 0, .bool new, .bool false, .bool is, .int .i64 left] from h)
  have HM0 := Lib.hid hm
  have hne1 : rb ≠ g := Bk.ne HR0.out hm.2.1 (by decide)
  have hne2 : rb ≠ b := Bk.ne HR0.out hm.1 (by decide)
  have q4 : w.cell? ⟨rb, 4, none⟩ = some (.int .i64 0) := HR0.out.cell 4
  have q6 : w.cell? ⟨rb, 6, none⟩ = some (.bool false) := HR0.out.cell 6
  have f4 := HR0.out.free 4
  have f6 := HR0.out.free 6
  clear h hm
  go_enter Try.func151, Try.ntmps151
  go_upto_region 5 with (fail)
  refine wp_gen (fun W => Bk W rb 227 [.int .i64 1, .int .i64 v, .int .i64 f, .int .i64 c, .int .i64 1, .bool new, .bool true, .bool is, .int .i64 left] ∧ Rm W b g zs ∧ Fr [rb] w W) ?_ ?_
  · have f2 : Fr [rb] w ((w.setCell ⟨rb, 4, none⟩ (.int .i64 1)).setCell ⟨rb, 6, none⟩ (.bool true)) := ((Fr.refl _ _).set (by simp) _).set (by simp) _
    exact ⟨Bk.set (Bk.set HR0.out 4 (.int .i64 1)) 6 (.bool true), rmfr HM0.out f2 (by simp; exact fun e => hne2 e.symm) (by simp; exact fun e => hne1 e.symm), f2⟩
  intro W ⟨hR, hM, hF⟩
  clear q4 q6 f4 f6
  have HR := Lib.hid hR
  have HM := Lib.hid hM
  have HF := Lib.hid hF
  have c0 : W.cell? ⟨rb, 0, none⟩ = some (.int .i64 1) := hR.cell 0
  have c1 : W.cell? ⟨rb, 1, none⟩ = some (.int .i64 v) := hR.cell 1
  have c2 : W.cell? ⟨rb, 2, none⟩ = some (.int .i64 f) := hR.cell 2
  have c3 : W.cell? ⟨rb, 3, none⟩ = some (.int .i64 c) := hR.cell 3
  have c4 : W.cell? ⟨rb, 4, none⟩ = some (.int .i64 1) := hR.cell 4
  have c5 : W.cell? ⟨rb, 5, none⟩ = some (.bool new) := hR.cell 5
  have c6 : W.cell? ⟨rb, 6, none⟩ = some (.bool true) := hR.cell 6
  have c7 : W.cell? ⟨rb, 7, none⟩ = some (.bool is) := hR.cell 7
  have c8 : W.cell? ⟨rb, 8, none⟩ = some (.int .i64 left) := hR.cell 8
  clear hR hM hF
  have hvd : decide (0 ≤ v) = false := by simp; omega
  go_wp2_with fail
  go_ret
  exact ⟨rfl, HR.out, HM.out, HF.out.mono (by simp)⟩

set_option maxHeartbeats 3200000 in
set_option maxRecDepth 100000 in
theorem ref_try (v f c a left : Int) (new is : Bool) (rb b g : Nat) (zs : List Int) (w : World) (hsum : IntKind.i64.wrap (f + v) = a) (hv : 0 ≤ v) (h : RB w rb f c ⟨1, v, 0, new, false, is, left⟩) (hm : Rm w b g zs) :
    Calls Try.prog 151 #[.pointer (some ⟨rb, 0, none⟩), .pointer (some ⟨b, 0, none⟩)] w fun e w' => e = .returned (.bool (!(casb zs a 0))) ∧ RB w' rb f c ⟨1, v, 1, (casb zs a 0), (!(casb zs a 0)), is, left⟩ ∧ Rm w' b g (casv zs a 0 1) ∧ Fr [rb, g] w w' := by
  have HR0 := Lib.hid (show Bk w rb 227 [.int .i64 1, .int .i64 v, .int .i64 f, .int .i64 c, .int .i64 0, .bool new, .bool false, .bool is, .int .i64 left] from h)
  have HM0 := Lib.hid hm
  have hne1 : rb ≠ g := Bk.ne HR0.out hm.2.1 (by decide)
  have hne2 : rb ≠ b := Bk.ne HR0.out hm.1 (by decide)
  have q4 : w.cell? ⟨rb, 4, none⟩ = some (.int .i64 0) := HR0.out.cell 4
  have q6 : w.cell? ⟨rb, 6, none⟩ = some (.bool false) := HR0.out.cell 6
  have f4 := HR0.out.free 4
  have f6 := HR0.out.free 6
  clear h hm
  go_enter Try.func151, Try.ntmps151
  go_upto_region 5 with (fail)
  refine wp_gen (fun W => Bk W rb 227 [.int .i64 1, .int .i64 v, .int .i64 f, .int .i64 c, .int .i64 1, .bool new, .bool true, .bool is, .int .i64 left] ∧ Rm W b g zs ∧ Fr [rb] w W) ?_ ?_
  · have f2 : Fr [rb] w ((w.setCell ⟨rb, 4, none⟩ (.int .i64 1)).setCell ⟨rb, 6, none⟩ (.bool true)) := ((Fr.refl _ _).set (by simp) _).set (by simp) _
    exact ⟨Bk.set (Bk.set HR0.out 4 (.int .i64 1)) 6 (.bool true), rmfr HM0.out f2 (by simp; exact fun e => hne2 e.symm) (by simp; exact fun e => hne1 e.symm), f2⟩
  intro W ⟨hR, hM, hF⟩
  clear q4 q6 f4 f6
  have HR := Lib.hid hR
  have HM := Lib.hid hM
  have HF := Lib.hid hF
  have c0 : W.cell? ⟨rb, 0, none⟩ = some (.int .i64 1) := hR.cell 0
  have c1 : W.cell? ⟨rb, 1, none⟩ = some (.int .i64 v) := hR.cell 1
  have c2 : W.cell? ⟨rb, 2, none⟩ = some (.int .i64 f) := hR.cell 2
  have c3 : W.cell? ⟨rb, 3, none⟩ = some (.int .i64 c) := hR.cell 3
  have c4 : W.cell? ⟨rb, 4, none⟩ = some (.int .i64 1) := hR.cell 4
  have c5 : W.cell? ⟨rb, 5, none⟩ = some (.bool new) := hR.cell 5
  have c6 : W.cell? ⟨rb, 6, none⟩ = some (.bool true) := hR.cell 6
  have c7 : W.cell? ⟨rb, 7, none⟩ = some (.bool is) := hR.cell 7
  have c8 : W.cell? ⟨rb, 8, none⟩ = some (.int .i64 left) := hR.cell 8
  clear hR hM hF
  have HSUM := Lib.hid hsum
  clear hsum
  go_wp2_with fail
  have hsum := HSUM.out
  refine wp_region_held_drew (S := (fun w' => w'.cell? ⟨rb, 1, none⟩ = some (.int .i64 v) ∧ w'.cell? ⟨rb, 2, none⟩ = some (.int .i64 f))) (by kernel_rfl) ?_ (fun hHeld => ?_)
  · exact ⟨c1, c2⟩
  refine take_at 0 (v := ?_) (some 46) rfl rfl (by kernel_rfl) (by kernel_rfl) (by kernel_rfl) (fun _ _ _ h => h) (Or.inl ⟨by rfl, ?_⟩) hHeld ?_
  rotate_left
  · (intro w hSw; (try dsimp only at hSw); go_simp; (try with_reducible rfl))
  simp only [Act.put, List.setIfInBounds_toArray, List.set_cons_zero, List.set_cons_succ]
  refine take_at 1 (v := ?_) (some 47) rfl rfl (by kernel_rfl) (by kernel_rfl) (by kernel_rfl) (fun _ _ _ h => h) (Or.inl ⟨by rfl, ?_⟩) hHeld ?_
  rotate_left
  · (intro w hSw; (try dsimp only at hSw); go_simp; (try with_reducible rfl))
  simp only [Act.put, List.setIfInBounds_toArray, List.set_cons_zero, List.set_cons_succ]
  refine take_at 2 (v := ?_) (some 48) rfl rfl (by kernel_rfl) (by kernel_rfl) (by kernel_rfl) (fun _ _ _ h => h) (Or.inl ⟨by rfl, ?_⟩) hHeld ?_
  rotate_left
  · (intro w hSw; (try dsimp only at hSw); go_simp; (try with_reducible rfl))
  simp only [Act.put, List.setIfInBounds_toArray, List.set_cons_zero, List.set_cons_succ]
  refine take_at 3 (v := ?_) (some 49) rfl rfl (by kernel_rfl) (by kernel_rfl) (by kernel_rfl) (fun _ _ _ h => h) (Or.inl ⟨by rfl, ?_⟩) hHeld ?_
  rotate_left
  · (intro w hSw; (try dsimp only at hSw); go_simp; (try with_reducible rfl))
  simp only [Act.put, List.setIfInBounds_toArray, List.set_cons_zero, List.set_cons_succ]
  refine take_at 4 (v := ?_) (some 50) rfl rfl (by kernel_rfl) (by kernel_rfl) (by kernel_rfl) (fun _ _ _ h => h) (Or.inl ⟨by rfl, ?_⟩) hHeld ?_
  rotate_left
  · (intro w hSw; (try dsimp only at hSw); go_simp; (try with_reducible rfl))
  simp only [Act.put, List.setIfInBounds_toArray, List.set_cons_zero, List.set_cons_succ]
  refine take_at 5 (v := ?_) (some 51) rfl rfl (by kernel_rfl) (by kernel_rfl) (by kernel_rfl) (fun _ _ _ h => h) (Or.inl ⟨by rfl, ?_⟩) hHeld ?_
  rotate_left
  · (intro w hSw; (try dsimp only at hSw); go_simp; (try with_reducible rfl))
  simp only [Act.put, List.setIfInBounds_toArray, List.set_cons_zero, List.set_cons_succ]
  refine take_at 6 (v := ?_) (some 52) rfl rfl (by kernel_rfl) (by kernel_rfl) (by kernel_rfl) (fun _ _ _ h => h) (Or.inl ⟨by rfl, ?_⟩) hHeld ?_
  rotate_left
  · (intro w hSw; (try dsimp only at hSw); go_simp; (try with_reducible rfl))
  simp only [Act.put, List.setIfInBounds_toArray, List.set_cons_zero, List.set_cons_succ]
  refine take_at 7 (v := ?_) (some 53) rfl rfl (by kernel_rfl) (by kernel_rfl) (by kernel_rfl) (fun _ _ _ h => h) (Or.inl ⟨by rfl, ?_⟩) hHeld ?_
  rotate_left
  · (intro w hSw; (try dsimp only at hSw); go_simp; (try with_reducible rfl))
  simp only [Act.put, List.setIfInBounds_toArray, List.set_cons_zero, List.set_cons_succ]
  refine take_at 8 (v := ?_) (some 54) rfl rfl (by kernel_rfl) (by kernel_rfl) (by kernel_rfl) (fun _ _ _ h => h) (Or.inl ⟨by rfl, ?_⟩) hHeld ?_
  rotate_left
  · (intro w hSw; (try dsimp only at hSw); go_simp; (try with_reducible rfl))
  simp only [Act.put, List.setIfInBounds_toArray, List.set_cons_zero, List.set_cons_succ]
  refine take_at 9 (v := ?_) (some 55) rfl rfl (by kernel_rfl) (by kernel_rfl) (by kernel_rfl) (fun _ _ _ h => h) (Or.inl ⟨by rfl, ?_⟩) hHeld ?_
  rotate_left
  · (intro w hSw; (try dsimp only at hSw); go_simp; (try with_reducible rfl))
  simp only [Act.put, List.setIfInBounds_toArray, List.set_cons_zero, List.set_cons_succ]
  refine take_at 10 (v := ?_) (some 56) rfl rfl (by kernel_rfl) (by kernel_rfl) (by kernel_rfl) (fun _ _ _ h => h) (Or.inl ⟨by rfl, ?_⟩) hHeld ?_
  rotate_left
  · (intro w hSw; (try dsimp only at hSw); go_simp; (try with_reducible rfl))
  simp only [Act.put, List.setIfInBounds_toArray, List.set_cons_zero, List.set_cons_succ]
  refine wpAnyH_ready (rs := [11]) (by kernel_rfl) (by simp) ?_
  refine AllReadyH.cons rfl (fun K hK => ?_) AllReadyH.nil
  go_simp
  refine (do_any 3 a 0 1 b g zs _ (show Rm W.drew b g zs from HM.out)).mono ?_; rintro e w2 ⟨rfl, hM2, hK⟩; have HM2 := Lib.hid hM2; have HFd := Lib.hid (show Fr [g] W.drew w2 from .gb hK (by simp)); clear hM2 hK
  go_wp2_with fail
  refine hK.out _ _ ?_ (fun hHeld => ?_)
  · exact ⟨cell_fr hHeld.1 HFd.out (by simp; exact hne1), cell_fr hHeld.2 HFd.out (by simp; exact hne1)⟩
  clear hK K
  try simp only [Act.put, List.setIfInBounds_toArray, List.set_cons_zero, List.set_cons_succ]
  refine take_at 12 (v := ?_) (some 45) rfl rfl (by kernel_rfl) (by kernel_rfl) (by kernel_rfl) (fun _ _ _ h => h) (Or.inl ⟨by rfl, ?_⟩) hHeld ?_
  rotate_left
  · (intro w hSw; (try dsimp only at hSw); go_simp; (try with_reducible rfl))
  simp only [Act.put, List.setIfInBounds_toArray, List.set_cons_zero, List.set_cons_succ]
  refine take_at 13 (v := ?_) (some 58) rfl rfl (by kernel_rfl) (by kernel_rfl) (by kernel_rfl) (fun _ _ _ h => h) (Or.inl ⟨by rfl, ?_⟩) hHeld ?_
  rotate_left
  · (intro w hSw; (try dsimp only at hSw); go_simp; (try with_reducible rfl))
  simp only [Act.put, List.setIfInBounds_toArray, List.set_cons_zero, List.set_cons_succ]
  refine take_at 14 (v := ?_) (some 59) rfl rfl (by kernel_rfl) (by kernel_rfl) (by kernel_rfl) (fun _ _ _ h => h) (Or.inl ⟨by rfl, ?_⟩) hHeld ?_
  rotate_left
  · (intro w hSw; (try dsimp only at hSw); go_simp; (try with_reducible rfl))
  simp only [Act.put, List.setIfInBounds_toArray, List.set_cons_zero, List.set_cons_succ]
  refine take_at 15 (v := ?_) (some 5) rfl rfl (by kernel_rfl) (by kernel_rfl) (by kernel_rfl) (fun _ _ _ h => h) (Or.inl ⟨by rfl, ?_⟩) hHeld ?_
  rotate_left
  · (intro w hSw; (try dsimp only at hSw); go_simp; (try with_reducible rfl))
  simp only [Act.put, List.setIfInBounds_toArray, List.set_cons_zero, List.set_cons_succ]
  refine take_at 16 (v := ?_) (some 6) rfl rfl (by kernel_rfl) (by kernel_rfl) (by kernel_rfl) (fun _ _ _ h => h) (Or.inl ⟨by rfl, ?_⟩) hHeld ?_
  rotate_left
  · (intro w hSw; (try dsimp only at hSw); go_simp; (try with_reducible rfl))
  simp only [Act.put, List.setIfInBounds_toArray, List.set_cons_zero, List.set_cons_succ]
  refine wpAnyH_done (by kernel_rfl) ?_ _
  go_split_ands
  clear hsum
  have hF2 : Fr [g] W w2 := ((Fr.refl [g] W).drew).trans HFd.out
  have HR2 := Lib.hid (HR.out.fr hF2 (by simp; exact hne1))
  have HFF := Lib.hid (show Fr [rb, g] w w2 from (HF.out.mono (by simp)).trans (hF2.mono (by simp)))
  clear hF2 c0 c1 c2 c3 c4 c5 c6 c7 c8 HFd
  obtain ⟨q, hq⟩ : ∃ q, q = actb zs 3 a 0 := ⟨_, rfl⟩
  have HQ := Lib.hid (show q = casb zs a 0 from hq)
  rw [← hq]
  clear hq
  have d5 : w2.cell? ⟨rb, 5, none⟩ = some (.bool new) := HR2.out.cell 5
  have d6 : w2.cell? ⟨rb, 6, none⟩ = some (.bool true) := HR2.out.cell 6
  have g5 := HR2.out.free 5
  have g6 := HR2.out.free 6
  have HFIN := Lib.hid (show RB ((w2.setCell ⟨rb, 5, none⟩ (.bool q)).setCell ⟨rb, 6, none⟩ (.bool !q)) rb f c ⟨1, v, 1, q, !q, is, left⟩ ∧ Rm ((w2.setCell ⟨rb, 5, none⟩ (.bool q)).setCell ⟨rb, 6, none⟩ (.bool !q)) b g (casv zs a 0 1) ∧ Fr [rb, g] w ((w2.setCell ⟨rb, 5, none⟩ (.bool q)).setCell ⟨rb, 6, none⟩ (.bool !q)) from by
    have f2 : Fr [rb] w2 ((w2.setCell ⟨rb, 5, none⟩ (.bool q)).setCell ⟨rb, 6, none⟩ (.bool !q)) := ((Fr.refl _ _).set (by simp) _).set (by simp) _
    exact ⟨Bk.set (Bk.set HR2.out 5 (.bool q)) 6 (.bool !q), rmfr HM2.out f2 (by simp; exact fun e => hne2 e.symm) (by simp; exact fun e => hne1 e.symm), HFF.out.trans (f2.mono (by simp))⟩)
  go_wp2_with fail
  go_ret
  exact ⟨by rw [← HQ.out]; rfl, by rw [← HQ.out]; exact HFIN.out.1, HFIN.out.2.1, HFIN.out.2.2⟩

set_option maxHeartbeats 3200000 in
set_option maxRecDepth 100000 in
theorem ref_clear (v f c a left : Int) (new is : Bool) (rb b g : Nat) (zs : List Int) (w : World) (hsum : IntKind.i64.wrap (f + v) = a) (hv : 0 ≤ v) (h : RB w rb f c ⟨2, v, 0, new, false, is, left⟩) (hm : Rm w b g zs) :
    Calls Try.prog 151 #[.pointer (some ⟨rb, 0, none⟩), .pointer (some ⟨b, 0, none⟩)] w fun e w' => e = .returned (.bool true) ∧ RB w' rb f c ⟨2, v, 1, new, true, is, left⟩ ∧ Rm w' b g (stv zs a 0) ∧ Fr [rb, g] w w' := by
  have HR0 := Lib.hid (show Bk w rb 227 [.int .i64 2, .int .i64 v, .int .i64 f, .int .i64 c, .int .i64 0, .bool new, .bool false, .bool is, .int .i64 left] from h)
  have HM0 := Lib.hid hm
  have hne1 : rb ≠ g := Bk.ne HR0.out hm.2.1 (by decide)
  have hne2 : rb ≠ b := Bk.ne HR0.out hm.1 (by decide)
  have q4 : w.cell? ⟨rb, 4, none⟩ = some (.int .i64 0) := HR0.out.cell 4
  have q6 : w.cell? ⟨rb, 6, none⟩ = some (.bool false) := HR0.out.cell 6
  have f4 := HR0.out.free 4
  have f6 := HR0.out.free 6
  clear h hm
  go_enter Try.func151, Try.ntmps151
  go_upto_region 5 with (fail)
  refine wp_gen (fun W => Bk W rb 227 [.int .i64 2, .int .i64 v, .int .i64 f, .int .i64 c, .int .i64 1, .bool new, .bool true, .bool is, .int .i64 left] ∧ Rm W b g zs ∧ Fr [rb] w W) ?_ ?_
  · have f2 : Fr [rb] w ((w.setCell ⟨rb, 4, none⟩ (.int .i64 1)).setCell ⟨rb, 6, none⟩ (.bool true)) := ((Fr.refl _ _).set (by simp) _).set (by simp) _
    exact ⟨Bk.set (Bk.set HR0.out 4 (.int .i64 1)) 6 (.bool true), rmfr HM0.out f2 (by simp; exact fun e => hne2 e.symm) (by simp; exact fun e => hne1 e.symm), f2⟩
  intro W ⟨hR, hM, hF⟩
  clear q4 q6 f4 f6
  have HR := Lib.hid hR
  have HM := Lib.hid hM
  have HF := Lib.hid hF
  have c0 : W.cell? ⟨rb, 0, none⟩ = some (.int .i64 2) := hR.cell 0
  have c1 : W.cell? ⟨rb, 1, none⟩ = some (.int .i64 v) := hR.cell 1
  have c2 : W.cell? ⟨rb, 2, none⟩ = some (.int .i64 f) := hR.cell 2
  have c3 : W.cell? ⟨rb, 3, none⟩ = some (.int .i64 c) := hR.cell 3
  have c4 : W.cell? ⟨rb, 4, none⟩ = some (.int .i64 1) := hR.cell 4
  have c5 : W.cell? ⟨rb, 5, none⟩ = some (.bool new) := hR.cell 5
  have c6 : W.cell? ⟨rb, 6, none⟩ = some (.bool true) := hR.cell 6
  have c7 : W.cell? ⟨rb, 7, none⟩ = some (.bool is) := hR.cell 7
  have c8 : W.cell? ⟨rb, 8, none⟩ = some (.int .i64 left) := hR.cell 8
  clear hR hM hF
  have HSUM := Lib.hid hsum
  clear hsum
  go_wp2_with fail
  have hsum := HSUM.out
  refine wp_region_held_drew (S := (fun w' => w'.cell? ⟨rb, 1, none⟩ = some (.int .i64 v) ∧ w'.cell? ⟨rb, 2, none⟩ = some (.int .i64 f))) (by kernel_rfl) ?_ (fun hHeld => ?_)
  · exact ⟨c1, c2⟩
  refine take_at 0 (v := ?_) (some 79) rfl rfl (by kernel_rfl) (by kernel_rfl) (by kernel_rfl) (fun _ _ _ h => h) (Or.inl ⟨by rfl, ?_⟩) hHeld ?_
  rotate_left
  · (intro w hSw; (try dsimp only at hSw); go_simp; (try with_reducible rfl))
  simp only [Act.put, List.setIfInBounds_toArray, List.set_cons_zero, List.set_cons_succ]
  refine take_at 1 (v := ?_) (some 80) rfl rfl (by kernel_rfl) (by kernel_rfl) (by kernel_rfl) (fun _ _ _ h => h) (Or.inl ⟨by rfl, ?_⟩) hHeld ?_
  rotate_left
  · (intro w hSw; (try dsimp only at hSw); go_simp; (try with_reducible rfl))
  simp only [Act.put, List.setIfInBounds_toArray, List.set_cons_zero, List.set_cons_succ]
  refine take_at 2 (v := ?_) (some 81) rfl rfl (by kernel_rfl) (by kernel_rfl) (by kernel_rfl) (fun _ _ _ h => h) (Or.inl ⟨by rfl, ?_⟩) hHeld ?_
  rotate_left
  · (intro w hSw; (try dsimp only at hSw); go_simp; (try with_reducible rfl))
  simp only [Act.put, List.setIfInBounds_toArray, List.set_cons_zero, List.set_cons_succ]
  refine take_at 3 (v := ?_) (some 82) rfl rfl (by kernel_rfl) (by kernel_rfl) (by kernel_rfl) (fun _ _ _ h => h) (Or.inl ⟨by rfl, ?_⟩) hHeld ?_
  rotate_left
  · (intro w hSw; (try dsimp only at hSw); go_simp; (try with_reducible rfl))
  simp only [Act.put, List.setIfInBounds_toArray, List.set_cons_zero, List.set_cons_succ]
  refine take_at 4 (v := ?_) (some 83) rfl rfl (by kernel_rfl) (by kernel_rfl) (by kernel_rfl) (fun _ _ _ h => h) (Or.inl ⟨by rfl, ?_⟩) hHeld ?_
  rotate_left
  · (intro w hSw; (try dsimp only at hSw); go_simp; (try with_reducible rfl))
  simp only [Act.put, List.setIfInBounds_toArray, List.set_cons_zero, List.set_cons_succ]
  refine take_at 5 (v := ?_) (some 84) rfl rfl (by kernel_rfl) (by kernel_rfl) (by kernel_rfl) (fun _ _ _ h => h) (Or.inl ⟨by rfl, ?_⟩) hHeld ?_
  rotate_left
  · (intro w hSw; (try dsimp only at hSw); go_simp; (try with_reducible rfl))
  simp only [Act.put, List.setIfInBounds_toArray, List.set_cons_zero, List.set_cons_succ]
  refine take_at 6 (v := ?_) (some 85) rfl rfl (by kernel_rfl) (by kernel_rfl) (by kernel_rfl) (fun _ _ _ h => h) (Or.inl ⟨by rfl, ?_⟩) hHeld ?_
  rotate_left
  · (intro w hSw; (try dsimp only at hSw); go_simp; (try with_reducible rfl))
  simp only [Act.put, List.setIfInBounds_toArray, List.set_cons_zero, List.set_cons_succ]
  refine take_at 7 (v := ?_) (some 86) rfl rfl (by kernel_rfl) (by kernel_rfl) (by kernel_rfl) (fun _ _ _ h => h) (Or.inl ⟨by rfl, ?_⟩) hHeld ?_
  rotate_left
  · (intro w hSw; (try dsimp only at hSw); go_simp; (try with_reducible rfl))
  simp only [Act.put, List.setIfInBounds_toArray, List.set_cons_zero, List.set_cons_succ]
  refine take_at 8 (v := ?_) (some 87) rfl rfl (by kernel_rfl) (by kernel_rfl) (by kernel_rfl) (fun _ _ _ h => h) (Or.inl ⟨by rfl, ?_⟩) hHeld ?_
  rotate_left
  · (intro w hSw; (try dsimp only at hSw); go_simp; (try with_reducible rfl))
  simp only [Act.put, List.setIfInBounds_toArray, List.set_cons_zero, List.set_cons_succ]
  refine take_at 9 (v := ?_) (some 88) rfl rfl (by kernel_rfl) (by kernel_rfl) (by kernel_rfl) (fun _ _ _ h => h) (Or.inl ⟨by rfl, ?_⟩) hHeld ?_
  rotate_left
  · (intro w hSw; (try dsimp only at hSw); go_simp; (try with_reducible rfl))
  simp only [Act.put, List.setIfInBounds_toArray, List.set_cons_zero, List.set_cons_succ]
  refine wpAnyH_ready (rs := [10]) (by kernel_rfl) (by simp) ?_
  refine AllReadyH.cons rfl (fun K hK => ?_) AllReadyH.nil
  go_simp
  refine (rstore27_any a 0 b g zs _ (show Rm W.drew b g zs from HM.out)).mono ?_; rintro e w2 ⟨rfl, hM2, hF2⟩; have HM2 := Lib.hid hM2; have HFd := Lib.hid hF2; clear hM2 hF2
  go_wp2_with fail
  refine hK.out _ _ ?_ (fun hHeld => ?_)
  · exact ⟨cell_fr hHeld.1 HFd.out (by simp; exact hne1), cell_fr hHeld.2 HFd.out (by simp; exact hne1)⟩
  clear hK K
  try simp only [Act.put, List.setIfInBounds_toArray, List.set_cons_zero, List.set_cons_succ]
  refine wpAnyH_done (by kernel_rfl) ?_ _
  go_split_ands
  clear hsum
  have hF2 : Fr [g] W w2 := ((Fr.refl [g] W).drew).trans HFd.out
  have HR2 := Lib.hid (HR.out.fr hF2 (by simp; exact hne1))
  have HFF := Lib.hid (show Fr [rb, g] w w2 from (HF.out.mono (by simp)).trans (hF2.mono (by simp)))
  clear hF2 c0 c1 c2 c3 c4 c5 c6 c7 c8 HFd
  have d6 : w2.cell? ⟨rb, 6, none⟩ = some (.bool true) := HR2.out.cell 6
  go_wp2_with fail
  go_ret
  exact ⟨rfl, HR2.out, HM2.out, HFF.out⟩

set_option maxHeartbeats 3200000 in
set_option maxRecDepth 100000 in
theorem ref_clneg (v f c left : Int) (new is : Bool) (rb b g : Nat) (zs : List Int) (w : World) (hv : v < 0) (h : RB w rb f c ⟨2, v, 0, new, false, is, left⟩) (hm : Rm w b g zs) :
    Calls Try.prog 151 #[.pointer (some ⟨rb, 0, none⟩), .pointer (some ⟨b, 0, none⟩)] w fun e w' => e = .returned (.bool true) ∧ RB w' rb f c ⟨2, v, 1, new, true, is, left⟩ ∧ Rm w' b g zs ∧ Fr [rb, g] w w' := by
  have HR0 := Lib.hid (show Bk w rb 227 [.int .i64 2, .int .i64 v, .int .i64 f, .int .i64 c, .int .i64 0, .bool new, .bool false, .bool is, .int .i64 left] from h)
  have HM0 := Lib.hid hm
  have hne1 : rb ≠ g := Bk.ne HR0.out hm.2.1 (by decide)
  have hne2 : rb ≠ b := Bk.ne HR0.out hm.1 (by decide)
  have q4 : w.cell? ⟨rb, 4, none⟩ = some (.int .i64 0) := HR0.out.cell 4
  have q6 : w.cell? ⟨rb, 6, none⟩ = some (.bool false) := HR0.out.cell 6
  have f4 := HR0.out.free 4
  have f6 := HR0.out.free 6
  clear h hm
  go_enter Try.func151, Try.ntmps151
  go_upto_region 5 with (fail)
  refine wp_gen (fun W => Bk W rb 227 [.int .i64 2, .int .i64 v, .int .i64 f, .int .i64 c, .int .i64 1, .bool new, .bool true, .bool is, .int .i64 left] ∧ Rm W b g zs ∧ Fr [rb] w W) ?_ ?_
  · have f2 : Fr [rb] w ((w.setCell ⟨rb, 4, none⟩ (.int .i64 1)).setCell ⟨rb, 6, none⟩ (.bool true)) := ((Fr.refl _ _).set (by simp) _).set (by simp) _
    exact ⟨Bk.set (Bk.set HR0.out 4 (.int .i64 1)) 6 (.bool true), rmfr HM0.out f2 (by simp; exact fun e => hne2 e.symm) (by simp; exact fun e => hne1 e.symm), f2⟩
  intro W ⟨hR, hM, hF⟩
  clear q4 q6 f4 f6
  have HR := Lib.hid hR
  have HM := Lib.hid hM
  have HF := Lib.hid hF
  have c0 : W.cell? ⟨rb, 0, none⟩ = some (.int .i64 2) := hR.cell 0
  have c1 : W.cell? ⟨rb, 1, none⟩ = some (.int .i64 v) := hR.cell 1
  have c2 : W.cell? ⟨rb, 2, none⟩ = some (.int .i64 f) := hR.cell 2
  have c3 : W.cell? ⟨rb, 3, none⟩ = some (.int .i64 c) := hR.cell 3
  have c4 : W.cell? ⟨rb, 4, none⟩ = some (.int .i64 1) := hR.cell 4
  have c5 : W.cell? ⟨rb, 5, none⟩ = some (.bool new) := hR.cell 5
  have c6 : W.cell? ⟨rb, 6, none⟩ = some (.bool true) := hR.cell 6
  have c7 : W.cell? ⟨rb, 7, none⟩ = some (.bool is) := hR.cell 7
  have c8 : W.cell? ⟨rb, 8, none⟩ = some (.int .i64 left) := hR.cell 8
  clear hR hM hF
  have hvd : decide (0 ≤ v) = false := by simp; omega
  go_wp2_with fail
  go_ret
  exact ⟨rfl, HR.out, HM.out, HF.out.mono (by simp)⟩

set_option maxHeartbeats 3200000 in
set_option maxRecDepth 100000 in
theorem ref_retire (v f c left : Int) (new is : Bool) (rb b g : Nat) (zs : List Int) (w : World) (h : RB w rb f c ⟨3, v, 0, new, false, is, left⟩) (hm : Rm w b g zs) :
    Calls Try.prog 151 #[.pointer (some ⟨rb, 0, none⟩), .pointer (some ⟨b, 0, none⟩)] w fun e w' => e = .returned (.bool true) ∧ RB w' rb f c ⟨3, v, 1, new, true, is, (wrap64 (addw zs c 18446744073709551615))⟩ ∧ Rm w' b g (addv zs c 18446744073709551615) ∧ Fr [rb, g] w w' := by
  have HR0 := Lib.hid (show Bk w rb 227 [.int .i64 3, .int .i64 v, .int .i64 f, .int .i64 c, .int .i64 0, .bool new, .bool false, .bool is, .int .i64 left] from h)
  have HM0 := Lib.hid hm
  have hne1 : rb ≠ g := Bk.ne HR0.out hm.2.1 (by decide)
  have hne2 : rb ≠ b := Bk.ne HR0.out hm.1 (by decide)
  have q4 : w.cell? ⟨rb, 4, none⟩ = some (.int .i64 0) := HR0.out.cell 4
  have q6 : w.cell? ⟨rb, 6, none⟩ = some (.bool false) := HR0.out.cell 6
  have f4 := HR0.out.free 4
  have f6 := HR0.out.free 6
  clear h hm
  go_enter Try.func151, Try.ntmps151
  go_upto_region 5 with (fail)
  refine wp_gen (fun W => Bk W rb 227 [.int .i64 3, .int .i64 v, .int .i64 f, .int .i64 c, .int .i64 1, .bool new, .bool true, .bool is, .int .i64 left] ∧ Rm W b g zs ∧ Fr [rb] w W) ?_ ?_
  · have f2 : Fr [rb] w ((w.setCell ⟨rb, 4, none⟩ (.int .i64 1)).setCell ⟨rb, 6, none⟩ (.bool true)) := ((Fr.refl _ _).set (by simp) _).set (by simp) _
    exact ⟨Bk.set (Bk.set HR0.out 4 (.int .i64 1)) 6 (.bool true), rmfr HM0.out f2 (by simp; exact fun e => hne2 e.symm) (by simp; exact fun e => hne1 e.symm), f2⟩
  intro W ⟨hR, hM, hF⟩
  clear q4 q6 f4 f6
  have HR := Lib.hid hR
  have HM := Lib.hid hM
  have HF := Lib.hid hF
  have c0 : W.cell? ⟨rb, 0, none⟩ = some (.int .i64 3) := hR.cell 0
  have c1 : W.cell? ⟨rb, 1, none⟩ = some (.int .i64 v) := hR.cell 1
  have c2 : W.cell? ⟨rb, 2, none⟩ = some (.int .i64 f) := hR.cell 2
  have c3 : W.cell? ⟨rb, 3, none⟩ = some (.int .i64 c) := hR.cell 3
  have c4 : W.cell? ⟨rb, 4, none⟩ = some (.int .i64 1) := hR.cell 4
  have c5 : W.cell? ⟨rb, 5, none⟩ = some (.bool new) := hR.cell 5
  have c6 : W.cell? ⟨rb, 6, none⟩ = some (.bool true) := hR.cell 6
  have c7 : W.cell? ⟨rb, 7, none⟩ = some (.bool is) := hR.cell 7
  have c8 : W.cell? ⟨rb, 8, none⟩ = some (.int .i64 left) := hR.cell 8
  clear hR hM hF
  go_wp2_with fail
  refine (do_any 4 c 18446744073709551615 0 b g zs _ HM.out).mono ?_
  rintro e w2 ⟨rfl, hM2, hK⟩
  have hF2 : Fr [g] W w2 := .gb hK (by simp)
  clear hK
  have HF2 := Lib.hid hF2
  have HM2 := Lib.hid hM2
  have HR2 := Lib.hid (HR.out.fr hF2 (by simp; exact hne1))
  have HFF := Lib.hid (show Fr [rb, g] w w2 from (HF.out.mono (by simp)).trans (hF2.mono (by simp)))
  clear hF2 hM2 c0 c1 c2 c3 c4 c5 c6 c7 c8
  rw [show actw zs 4 c 18446744073709551615 = addw zs c 18446744073709551615 from rfl]
  have d6 : w2.cell? ⟨rb, 6, none⟩ = some (.bool true) := HR2.out.cell 6
  have d8 : w2.cell? ⟨rb, 8, none⟩ = some (.int .i64 left) := HR2.out.cell 8
  have g8 := HR2.out.free 8
  obtain ⟨q, hq⟩ : ∃ q, q = wrap64 (addw zs c 18446744073709551615) := ⟨_, rfl⟩
  have HFIN := Lib.hid (show RB (w2.setCell ⟨rb, 8, none⟩ (.int .i64 q)) rb f c ⟨3, v, 1, new, true, is, q⟩ ∧ Rm (w2.setCell ⟨rb, 8, none⟩ (.int .i64 q)) b g (addv zs c 18446744073709551615) ∧ Fr [rb, g] w (w2.setCell ⟨rb, 8, none⟩ (.int .i64 q)) from by
    have f2 : Fr [rb] w2 (w2.setCell ⟨rb, 8, none⟩ (.int .i64 q)) := (Fr.refl _ _).set (by simp) _
    exact ⟨Bk.set HR2.out 8 (.int .i64 q), rmfr HM2.out f2 (by simp; exact fun e => hne2 e.symm) (by simp; exact fun e => hne1 e.symm), HFF.out.trans (f2.mono (by simp))⟩)
  rw [hq] at HFIN
  clear hq
  go_wp2_with fail
  go_ret
  exact ⟨rfl, HFIN.out⟩

set_option maxHeartbeats 3200000 in
set_option maxRecDepth 100000 in
theorem ref_quiet (k v f c left : Int) (new is : Bool) (rb b g : Nat) (zs : List Int) (w : World) (h1 : k ≠ 1) (h2 : k ≠ 2) (h3 : k ≠ 3) (h : RB w rb f c ⟨k, v, 0, new, false, is, left⟩) (hm : Rm w b g zs) :
    Calls Try.prog 151 #[.pointer (some ⟨rb, 0, none⟩), .pointer (some ⟨b, 0, none⟩)] w fun e w' => e = .returned (.bool true) ∧ RB w' rb f c ⟨k, v, 1, new, true, (ldv zs c == 0), left⟩ ∧ Rm w' b g zs ∧ Fr [rb, g] w w' := by
  have HR0 := Lib.hid (show Bk w rb 227 [.int .i64 k, .int .i64 v, .int .i64 f, .int .i64 c, .int .i64 0, .bool new, .bool false, .bool is, .int .i64 left] from h)
  have HM0 := Lib.hid hm
  have hne1 : rb ≠ g := Bk.ne HR0.out hm.2.1 (by decide)
  have hne2 : rb ≠ b := Bk.ne HR0.out hm.1 (by decide)
  have q4 : w.cell? ⟨rb, 4, none⟩ = some (.int .i64 0) := HR0.out.cell 4
  have q6 : w.cell? ⟨rb, 6, none⟩ = some (.bool false) := HR0.out.cell 6
  have f4 := HR0.out.free 4
  have f6 := HR0.out.free 6
  clear h hm
  go_enter Try.func151, Try.ntmps151
  go_upto_region 5 with (fail)
  refine wp_gen (fun W => Bk W rb 227 [.int .i64 k, .int .i64 v, .int .i64 f, .int .i64 c, .int .i64 1, .bool new, .bool true, .bool is, .int .i64 left] ∧ Rm W b g zs ∧ Fr [rb] w W) ?_ ?_
  · have f2 : Fr [rb] w ((w.setCell ⟨rb, 4, none⟩ (.int .i64 1)).setCell ⟨rb, 6, none⟩ (.bool true)) := ((Fr.refl _ _).set (by simp) _).set (by simp) _
    exact ⟨Bk.set (Bk.set HR0.out 4 (.int .i64 1)) 6 (.bool true), rmfr HM0.out f2 (by simp; exact fun e => hne2 e.symm) (by simp; exact fun e => hne1 e.symm), f2⟩
  intro W ⟨hR, hM, hF⟩
  clear q4 q6 f4 f6
  have HR := Lib.hid hR
  have HM := Lib.hid hM
  have HF := Lib.hid hF
  have c0 : W.cell? ⟨rb, 0, none⟩ = some (.int .i64 k) := hR.cell 0
  have c1 : W.cell? ⟨rb, 1, none⟩ = some (.int .i64 v) := hR.cell 1
  have c2 : W.cell? ⟨rb, 2, none⟩ = some (.int .i64 f) := hR.cell 2
  have c3 : W.cell? ⟨rb, 3, none⟩ = some (.int .i64 c) := hR.cell 3
  have c4 : W.cell? ⟨rb, 4, none⟩ = some (.int .i64 1) := hR.cell 4
  have c5 : W.cell? ⟨rb, 5, none⟩ = some (.bool new) := hR.cell 5
  have c6 : W.cell? ⟨rb, 6, none⟩ = some (.bool true) := hR.cell 6
  have c7 : W.cell? ⟨rb, 7, none⟩ = some (.bool is) := hR.cell 7
  have c8 : W.cell? ⟨rb, 8, none⟩ = some (.int .i64 left) := hR.cell 8
  clear hR hM hF
  have b1 : (k == 1) = false := by simpa using h1
  have b2 : (k == 2) = false := by simpa using h2
  have b3 : (k == 3) = false := by simpa using h3
  clear h1 h2 h3
  go_wp2_with fail
  refine (rload27_any c b g zs _ HM.out).mono ?_
  rintro e w2 ⟨rfl, hM2, hF2⟩
  have HF2 := Lib.hid hF2
  have HM2 := Lib.hid hM2
  have HR2 := Lib.hid (HR.out.fr hF2 (by simp; exact hne1))
  have HFF := Lib.hid (show Fr [rb, g] w w2 from (HF.out.mono (by simp)).trans (hF2.mono (by simp)))
  clear hF2 hM2 c0 c1 c2 c3 c4 c5 c6 c7 c8
  have d6 : w2.cell? ⟨rb, 6, none⟩ = some (.bool true) := HR2.out.cell 6
  have d7 : w2.cell? ⟨rb, 7, none⟩ = some (.bool is) := HR2.out.cell 7
  have g7 := HR2.out.free 7
  obtain ⟨q, hq⟩ : ∃ q, q = (ldv zs c == 0) := ⟨_, rfl⟩
  have HFIN := Lib.hid (show RB (w2.setCell ⟨rb, 7, none⟩ (.bool q)) rb f c ⟨k, v, 1, new, true, q, left⟩ ∧ Rm (w2.setCell ⟨rb, 7, none⟩ (.bool q)) b g zs ∧ Fr [rb, g] w (w2.setCell ⟨rb, 7, none⟩ (.bool q)) from by
    have f2 : Fr [rb] w2 (w2.setCell ⟨rb, 7, none⟩ (.bool q)) := (Fr.refl _ _).set (by simp) _
    exact ⟨Bk.set HR2.out 7 (.bool q), rmfr HM2.out f2 (by simp; exact fun e => hne2 e.symm) (by simp; exact fun e => hne1 e.symm), HFF.out.trans (f2.mono (by simp))⟩)
  rw [hq] at HFIN
  clear hq
  go_wp2_with fail
  go_ret
  exact ⟨rfl, HFIN.out⟩


end Go.Proofs.Yteheckcflnogbaa
