/-
  soughlaw31.begin, move: contracts. Written by wip/gen/mktp4.py.
-/
import Derived.Test.YteheckcflnogbaaTp3
import Derived.BigQuiet
namespace Go.Proofs.Yteheckcflnogbaa
open Go.RowKit

def ptr (n : Nat) : Value := .pointer (some ⟨n, 0, none⟩)
/-- What both do, as a struct's cells. -/
def opc (k : Int) (pb rb : Nat) : List Value := [if k = 1 then ptr pb else .pointer none, if k = 2 then ptr pb else .pointer none, if k = 3 then ptr pb else .pointer none, if k = 1 ∨ k = 2 ∨ k = 3 then .pointer none else ptr pb, ptr rb]
def pbk (w : World) (pb : Nat) (x : OpS) : Prop := if x.k = 1 then pb1 w pb x else if x.k = 2 then pb2 w pb x else if x.k = 3 then pb3 w pb x else pb4 w pb x
theorem pbk_bk {w : World} {pb : Nat} {x : OpS} (h : pbk w pb x) : ∃ t cs, Bk w pb t cs ∧ t ∈ [225, 229, 231, 233] := by
  unfold pbk at h
  split at h
  · exact ⟨_, _, h, by simp⟩
  split at h
  · exact ⟨_, _, h, by simp⟩
  split at h
  · exact ⟨_, _, h, by simp⟩
  · exact ⟨_, _, h, by simp⟩
theorem pbk_fr {S : List Nat} {w w' : World} {pb : Nat} {x : OpS} (h : pbk w pb x) (k : Fr S w w') (hb : pb ∉ S) : pbk w' pb x := by
  unfold pbk at h ⊢
  repeat' split
  · rw [if_pos (by assumption)] at h; exact Bk.fr h k hb
  · rw [if_neg (by assumption), if_pos (by assumption)] at h; exact Bk.fr h k hb
  · rw [if_neg (by assumption), if_neg (by assumption), if_pos (by assumption)] at h; exact Bk.fr h k hb
  · rw [if_neg (by assumption), if_neg (by assumption), if_neg (by assumption)] at h; exact Bk.fr h k hb

set_option maxHeartbeats 3200000 in
set_option maxRecDepth 100000 in
theorem p1_y (x y : OpS) (pb b g : Nat) (zs zz : List Int) (w : World) (hy : opX (adr x.v) 6 x zs = y) (hzz : opZ (adr x.v) 6 x zs = zz) (hk : x.k = 1) (hok : OkS x) (hz : w64 zs) (h : pb1 w pb x) (hm : Pm w b g zs) :
    Calls Try.prog 150 #[.pointer (some ⟨pb, 0, none⟩), .iface 64 (.pointer (some ⟨b, 0, none⟩)), .int .i64 0] w fun e w' => e = .returned (.bool y.ended) ∧ pb1 w' pb y ∧ Pm w' b g zz ∧ Fr [pb, g] w w' := by
  subst hy hzz
  exact p1_any x pb b g zs w hk hok hz h hm

set_option maxHeartbeats 3200000 in
set_option maxRecDepth 100000 in
theorem p2_y (x y : OpS) (pb b g : Nat) (zs zz : List Int) (w : World) (hy : opX (adr x.v) 6 x zs = y) (hzz : opZ (adr x.v) 6 x zs = zz) (hk : x.k = 2) (hok : OkS x) (hz : w64 zs) (h : pb2 w pb x) (hm : Pm w b g zs) :
    Calls Try.prog 152 #[.pointer (some ⟨pb, 0, none⟩), .iface 64 (.pointer (some ⟨b, 0, none⟩)), .int .i64 0] w fun e w' => e = .returned (.bool y.ended) ∧ pb2 w' pb y ∧ Pm w' b g zz ∧ Fr [pb, g] w w' := by
  subst hy hzz
  exact p2_any x pb b g zs w hk hok hz h hm

set_option maxHeartbeats 3200000 in
set_option maxRecDepth 100000 in
theorem p3_y (x y : OpS) (pb b g : Nat) (zs zz : List Int) (w : World) (hy : opX (adr x.v) 6 x zs = y) (hzz : opZ (adr x.v) 6 x zs = zz) (hk : x.k = 3) (hok : OkS x) (hz : w64 zs) (h : pb3 w pb x) (hm : Pm w b g zs) :
    Calls Try.prog 153 #[.pointer (some ⟨pb, 0, none⟩), .iface 64 (.pointer (some ⟨b, 0, none⟩)), .int .i64 0] w fun e w' => e = .returned (.bool y.ended) ∧ pb3 w' pb y ∧ Pm w' b g zz ∧ Fr [pb, g] w w' := by
  subst hy hzz
  exact p3_any x pb b g zs w hk hok hz h hm

set_option maxHeartbeats 3200000 in
set_option maxRecDepth 100000 in
theorem p4_y (x y : OpS) (pb b g : Nat) (zs zz : List Int) (w : World) (hy : opX (adr x.v) 6 x zs = y) (hzz : opZ (adr x.v) 6 x zs = zz) (hk : x.k ≠ 1 ∧ x.k ≠ 2 ∧ x.k ≠ 3) (hok : OkS x) (hz : w64 zs) (h : pb4 w pb x) (hm : Pm w b g zs) :
    Calls Try.prog 154 #[.pointer (some ⟨pb, 0, none⟩), .iface 64 (.pointer (some ⟨b, 0, none⟩)), .int .i64 0] w fun e w' => e = .returned (.bool y.ended) ∧ pb4 w' pb y ∧ Pm w' b g zz ∧ Fr [pb, g] w w' := by
  subst hy hzz
  exact p4_any x pb b g zs w hk hok hz h hm

set_option maxHeartbeats 3200000 in
set_option maxRecDepth 100000 in
theorem r_y (x y : OpS) (rb b g : Nat) (zs zz : List Int) (w : World) (hy : opX (adr x.v) 6 x zs = y) (hzz : opZ (adr x.v) 6 x zs = zz) (hok : OkS x) (h : RB w rb 1 6 x) (hm : Rm w b g zs) :
    Calls Try.prog 151 #[.pointer (some ⟨rb, 0, none⟩), .pointer (some ⟨b, 0, none⟩)] w fun e w' => e = .returned (.bool y.ended) ∧ RB w' rb 1 6 y ∧ Rm w' b g zz ∧ Fr [rb, g] w w' := by
  subst hy hzz
  exact r_any x rb b g zs w hok h hm

set_option maxHeartbeats 3200000 in
set_option maxRecDepth 100000 in
theorem move1 (x y : OpS) (pb rb b g bw gw : Nat) (zs zz : List Int) (w : World) (hy : opX (adr x.v) 6 x zs = y) (hzz : opZ (adr x.v) 6 x zs = zz) (hk : x.k = 1) (hok : OkS x) (hz : w64 zs) (hp : pb1 w pb x) (hr : RB w rb 1 6 x) (hm : Pm w b g zs) (hw : Rm w bw gw zs) (hgg : g ≠ gw) :
    Calls Try.prog 91 #[.agg #[.pointer (some ⟨pb, 0, none⟩), .pointer none, .pointer none, .pointer none, .pointer (some ⟨rb, 0, none⟩)], .pointer (some ⟨b, 0, none⟩), .pointer (some ⟨bw, 0, none⟩)] w fun e w' => e = .returned (.bool true) ∧ pb1 w' pb y ∧ RB w' rb 1 6 y ∧ Pm w' b g zz ∧ Rm w' bw gw zz ∧ Fr [pb, rb, g, gw] w w' := by
  have HY := Lib.hid hy
  have HZZ := Lib.hid hzz
  have HKX := Lib.hid hk
  have HOK := Lib.hid hok
  have HZ := Lib.hid hz
  obtain ⟨W0, hW0⟩ : ∃ W0, W0 = w.alloc (.cells #[.pointer (some ⟨pb, 0, none⟩), .pointer none, .pointer none, .pointer none, .pointer (some ⟨rb, 0, none⟩)] 153) := ⟨_, rfl⟩
  have b0 : Below w.heap.size w W0 := by rw [hW0]; exact (Below.refl _ _).alloc (Nat.le_refl _) _
  have HB0 := Lib.hid b0
  have ho : Bk W0 w.heap.size 153 [.pointer (some ⟨pb, 0, none⟩), .pointer none, .pointer none, .pointer none, .pointer (some ⟨rb, 0, none⟩)] := by rw [hW0]; exact Bk.new w 153 [_, _, _, _, _]
  have o0 : W0.cell? ⟨w.heap.size, 0, none⟩ = some (.pointer (some ⟨pb, 0, none⟩)) := ho.cell 0
  have o1 : W0.cell? ⟨w.heap.size, 1, none⟩ = some (.pointer none) := ho.cell 1
  have o2 : W0.cell? ⟨w.heap.size, 2, none⟩ = some (.pointer none) := ho.cell 2
  have HO0 := Lib.hid (show W0.cell? ⟨w.heap.size, 0, none⟩ = some (.pointer (some ⟨pb, 0, none⟩)) ∧ W0.cell? ⟨w.heap.size, 4, none⟩ = some (.pointer (some ⟨rb, 0, none⟩)) from ⟨ho.cell 0, ho.cell 4⟩)
  have HP0 := Lib.hid (show pb1 W0 pb x from Bk.below hp b0)
  have HR0 := Lib.hid (show RB W0 rb 1 6 x from Bk.below hr b0)
  have HM0 := Lib.hid (hm.below b0)
  have HW0 := Lib.hid (hw.below b0)
  have l1 := Bk.lt hp
  have l2 := Bk.lt hr
  have l3 := hm.1.lt
  have l4 := hm.2.1.lt
  have l5 := hw.1.lt
  have l6 := hw.2.1.lt
  have HNR := Lib.hid (show rb ∉ [pb, g] ∧ bw ∉ [pb, g] ∧ gw ∉ [pb, g] ∧ w.heap.size ∉ [pb, g] from ⟨by simp; exact ⟨Bk.ne hr hp (by decide), Bk.ne hr hm.2.1 (by decide)⟩, by simp; exact ⟨Bk.ne hw.1 hp (by decide), Bk.ne hw.1 hm.2.1 (by decide)⟩, by simp; exact ⟨Bk.ne hw.2.1 hp (by decide), fun e => hgg e.symm⟩, by simp; omega⟩)
  have HNP := Lib.hid (show pb ∉ [rb, gw] ∧ b ∉ [rb, gw] ∧ g ∉ [rb, gw] ∧ w.heap.size ∉ [rb, gw] from ⟨by simp; exact ⟨Bk.ne hp hr (by decide), Bk.ne hp hw.2.1 (by decide)⟩, by simp; exact ⟨Bk.ne hm.1 hr (by decide), Bk.ne hm.1 hw.2.1 (by decide)⟩, by simp; exact ⟨Bk.ne hm.2.1 hr (by decide), hgg⟩, by simp; omega⟩)
  clear hy hzz hk hok hz hp hr hm hw b0 l1 l2 l3 l4 l5 l6 ho
  go_enter Try.func91, Try.ntmps91
  go_wp2_with fail
  simp only [← hW0]
  clear hW0 o0 o1 o2
  refine wp_region_held_drew (S := (fun w' => w'.cell? ⟨w.heap.size, 0, none⟩ = some (.pointer (some ⟨pb, 0, none⟩)) ∧ w'.cell? ⟨w.heap.size, 4, none⟩ = some (.pointer (some ⟨rb, 0, none⟩)))) (by kernel_rfl) ?_ (fun hHeld => ?_)
  · exact ⟨HO0.out.1, HO0.out.2⟩
  refine take_at 0 (v := ?_) (some 11) rfl rfl (by kernel_rfl) (by kernel_rfl) (by kernel_rfl) (fun _ _ _ h => h) (Or.inl ⟨by rfl, ?_⟩) hHeld ?_
  rotate_left
  · (intro w hSw; (try dsimp only at hSw); go_simp; (try with_reducible rfl))
  simp only [Act.put, List.setIfInBounds_toArray, List.set_cons_zero, List.set_cons_succ]
  refine take_at 1 (v := ?_) (some 12) rfl rfl (by kernel_rfl) (by kernel_rfl) (by kernel_rfl) (fun _ _ _ h => h) (Or.inl ⟨by rfl, ?_⟩) hHeld ?_
  rotate_left
  · (intro w hSw; (try dsimp only at hSw); go_simp; (try with_reducible rfl))
  simp only [Act.put, List.setIfInBounds_toArray, List.set_cons_zero, List.set_cons_succ]
  refine take_at 2 (v := ?_) (some 13) rfl rfl (by kernel_rfl) (by kernel_rfl) (by kernel_rfl) (fun _ _ _ h => h) (Or.inl ⟨by rfl, ?_⟩) hHeld ?_
  rotate_left
  · (intro w hSw; (try dsimp only at hSw); go_simp; (try with_reducible rfl))
  simp only [Act.put, List.setIfInBounds_toArray, List.set_cons_zero, List.set_cons_succ]
  refine take_at 3 (v := ?_) (some 14) rfl rfl (by kernel_rfl) (by kernel_rfl) (by kernel_rfl) (fun _ _ _ h => h) (Or.inl ⟨by rfl, ?_⟩) hHeld ?_
  rotate_left
  · (intro w hSw; (try dsimp only at hSw); go_simp; (try with_reducible rfl))
  simp only [Act.put, List.setIfInBounds_toArray, List.set_cons_zero, List.set_cons_succ]
  refine take_at 5 (v := ?_) (some 16) rfl rfl (by kernel_rfl) (by kernel_rfl) (by kernel_rfl) (fun _ _ _ h => h) (Or.inl ⟨by rfl, ?_⟩) hHeld ?_
  rotate_left
  · (intro w hSw; (try dsimp only at hSw); go_simp; (try with_reducible rfl))
  simp only [Act.put, List.setIfInBounds_toArray, List.set_cons_zero, List.set_cons_succ]
  refine take_at 6 (v := ?_) (some 17) rfl rfl (by kernel_rfl) (by kernel_rfl) (by kernel_rfl) (fun _ _ _ h => h) (Or.inl ⟨by rfl, ?_⟩) hHeld ?_
  rotate_left
  · (intro w hSw; (try dsimp only at hSw); go_simp; (try with_reducible rfl))
  simp only [Act.put, List.setIfInBounds_toArray, List.set_cons_zero, List.set_cons_succ]
  refine take_at 7 (v := ?_) (some 18) rfl rfl (by kernel_rfl) (by kernel_rfl) (by kernel_rfl) (fun _ _ _ h => h) (Or.inl ⟨by rfl, ?_⟩) hHeld ?_
  rotate_left
  · (intro w hSw; (try dsimp only at hSw); go_simp; (try with_reducible rfl))
  simp only [Act.put, List.setIfInBounds_toArray, List.set_cons_zero, List.set_cons_succ]
  refine wpAnyH_ready (rs := [4]) (by kernel_rfl) (by simp) ?_
  refine AllReadyH.cons rfl (fun K hK => ?_) AllReadyH.nil
  go_simp
  refine (p1_y x y pb b g zs zz _ HY.out HZZ.out HKX.out HOK.out HZ.out (show pb1 W0.drew pb x from HP0.out) (show Pm W0.drew b g zs from HM0.out)).mono ?_
  rintro e v1 ⟨rfl, hp, hm, hf⟩
  have HP1 := Lib.hid hp
  have HM1 := Lib.hid hm
  have HF1 := Lib.hid (show Fr [pb, g] W0 v1 from ((Fr.refl [pb, g] W0).drew).trans hf)
  have HR1 := Lib.hid (HR0.out.fr HF1.out HNR.out.1)
  have HW1 := Lib.hid (rmfr HW0.out HF1.out HNR.out.2.1 HNR.out.2.2.1)
  clear hp hm hf
  go_wp2_with fail
  refine hK.out _ _ ?_ (fun hHeld => ?_)
  · exact ⟨cell_fr HO0.out.1 HF1.out HNR.out.2.2.2, cell_fr HO0.out.2 HF1.out HNR.out.2.2.2⟩
  clear hK K
  try simp only [Act.put, List.setIfInBounds_toArray, List.set_cons_zero, List.set_cons_succ]
  refine wpAnyH_ready (rs := [8]) (by kernel_rfl) (by simp) ?_
  refine AllReadyH.cons rfl (fun K hK => ?_) AllReadyH.nil
  go_simp
  refine (r_y x y rb bw gw zs zz v1 HY.out HZZ.out HOK.out HR1.out HW1.out).mono ?_
  rintro e v2 ⟨rfl, hr, hw, hf⟩
  have HR2 := Lib.hid hr
  have HW2 := Lib.hid hw
  have HF2 := Lib.hid hf
  have HP2 := Lib.hid (show pb1 v2 pb y from Bk.fr HP1.out hf HNP.out.1)
  have HM2 := Lib.hid (show Pm v2 b g zz from ⟨HM1.out.1.fr hf HNP.out.2.1, HM1.out.2.1.fr hf HNP.out.2.2.1, HM1.out.2.2⟩)
  clear hr hw hf
  go_wp2_with fail
  refine hK.out _ _ ?_ (fun hHeld => ?_)
  · exact ⟨cell_fr hHeld.1 HF2.out HNP.out.2.2.2, cell_fr hHeld.2 HF2.out HNP.out.2.2.2⟩
  clear hK K
  try simp only [Act.put, List.setIfInBounds_toArray, List.set_cons_zero, List.set_cons_succ]
  refine wpAnyH_weaken (S' := (fun w' => (w'.cell? ⟨w.heap.size, 0, none⟩ = some (.pointer (some ⟨pb, 0, none⟩)) ∧ w'.cell? ⟨w.heap.size, 4, none⟩ = some (.pointer (some ⟨rb, 0, none⟩))) ∧ w'.cell? ⟨pb, 3, none⟩ = some (.bool y.new) ∧ w'.cell? ⟨pb, 4, none⟩ = some (.bool y.ended) ∧ w'.cell? ⟨rb, 5, none⟩ = some (.bool y.new) ∧ w'.cell? ⟨rb, 6, none⟩ = some (.bool y.ended))) (fun _ h => h.1) _ _ _ _ ?_
  replace hHeld : (fun w' => (w'.cell? ⟨w.heap.size, 0, none⟩ = some (.pointer (some ⟨pb, 0, none⟩)) ∧ w'.cell? ⟨w.heap.size, 4, none⟩ = some (.pointer (some ⟨rb, 0, none⟩))) ∧ w'.cell? ⟨pb, 3, none⟩ = some (.bool y.new) ∧ w'.cell? ⟨pb, 4, none⟩ = some (.bool y.ended) ∧ w'.cell? ⟨rb, 5, none⟩ = some (.bool y.new) ∧ w'.cell? ⟨rb, 6, none⟩ = some (.bool y.ended)) v2 := ⟨hHeld, HP2.out.cell 3, HP2.out.cell 4, HR2.out.cell 5, HR2.out.cell 6⟩
  refine take_at 9 (v := ?_) (some 20) rfl rfl (by kernel_rfl) (by kernel_rfl) (by kernel_rfl) (fun _ _ _ h => h) (Or.inl ⟨by rfl, ?_⟩) hHeld ?_
  rotate_left
  · (intro w hSw; (try dsimp only at hSw); go_simp; (try with_reducible rfl))
  simp only [Act.put, List.setIfInBounds_toArray, List.set_cons_zero, List.set_cons_succ]
  refine take_at 10 (v := ?_) (some 21) rfl rfl (by kernel_rfl) (by kernel_rfl) (by kernel_rfl) (fun _ _ _ h => h) (Or.inl ⟨by rfl, ?_⟩) hHeld ?_
  rotate_left
  · (intro w hSw; (try dsimp only at hSw); go_simp; (try with_reducible rfl))
  simp only [Act.put, List.setIfInBounds_toArray, List.set_cons_zero, List.set_cons_succ]
  refine take_at 11 (v := ?_) (some 22) rfl rfl (by kernel_rfl) (by kernel_rfl) (by kernel_rfl) (fun _ _ _ h => h) (Or.inl ⟨by rfl, ?_⟩) hHeld ?_
  rotate_left
  · (intro w hSw; (try dsimp only at hSw); go_simp; (try with_reducible rfl))
  simp only [Act.put, List.setIfInBounds_toArray, List.set_cons_zero, List.set_cons_succ]
  refine take_at 12 (v := ?_) (some 23) rfl rfl (by kernel_rfl) (by kernel_rfl) (by kernel_rfl) (fun _ _ _ h => h) (Or.inl ⟨by rfl, ?_⟩) hHeld ?_
  rotate_left
  · (intro w hSw; (try dsimp only at hSw); go_simp; (try with_reducible rfl))
  simp only [Act.put, List.setIfInBounds_toArray, List.set_cons_zero, List.set_cons_succ]
  refine take_at 13 (v := ?_) (some 24) rfl rfl (by kernel_rfl) (by kernel_rfl) (by kernel_rfl) (fun _ _ _ h => h) (Or.inl ⟨by rfl, ?_⟩) hHeld ?_
  rotate_left
  · (intro w hSw; (try dsimp only at hSw); go_simp; (try with_reducible rfl))
  simp only [Act.put, List.setIfInBounds_toArray, List.set_cons_zero, List.set_cons_succ]
  refine take_at 14 (v := ?_) (some 25) rfl rfl (by kernel_rfl) (by kernel_rfl) (by kernel_rfl) (fun _ _ _ h => h) (Or.inl ⟨by rfl, ?_⟩) hHeld ?_
  rotate_left
  · (intro w hSw; (try dsimp only at hSw); go_simp; (try with_reducible rfl))
  simp only [Act.put, List.setIfInBounds_toArray, List.set_cons_zero, List.set_cons_succ]
  refine take_at 15 (v := ?_) (some 26) rfl rfl (by kernel_rfl) (by kernel_rfl) (by kernel_rfl) (fun _ _ _ h => h) (Or.inl ⟨by rfl, ?_⟩) hHeld ?_
  rotate_left
  · (intro w hSw; (try dsimp only at hSw); go_simp; (try with_reducible rfl))
  simp only [Act.put, List.setIfInBounds_toArray, List.set_cons_zero, List.set_cons_succ]
  refine take_at 16 (v := ?_) (some 27) rfl rfl (by kernel_rfl) (by kernel_rfl) (by kernel_rfl) (fun _ _ _ h => h) (Or.inl ⟨by rfl, ?_⟩) hHeld ?_
  rotate_left
  · (intro w hSw; (try dsimp only at hSw); go_simp; (try with_reducible rfl))
  simp only [Act.put, List.setIfInBounds_toArray, List.set_cons_zero, List.set_cons_succ]
  refine take_at 17 (v := ?_) (some 28) rfl rfl (by kernel_rfl) (by kernel_rfl) (by kernel_rfl) (fun _ _ _ h => h) (Or.inl ⟨by rfl, ?_⟩) hHeld ?_
  rotate_left
  · (intro w hSw; (try dsimp only at hSw); go_simp; (try with_reducible rfl))
  simp only [Act.put, List.setIfInBounds_toArray, List.set_cons_zero, List.set_cons_succ]
  refine take_at 18 (v := ?_) (some 29) rfl rfl (by kernel_rfl) (by kernel_rfl) (by kernel_rfl) (fun _ _ _ h => h) (Or.inl ⟨by rfl, ?_⟩) hHeld ?_
  rotate_left
  · (intro w hSw; (try dsimp only at hSw); go_simp; (try with_reducible rfl))
  simp only [Act.put, List.setIfInBounds_toArray, List.set_cons_zero, List.set_cons_succ]
  refine take_at 19 (v := ?_) (some 30) rfl rfl (by kernel_rfl) (by kernel_rfl) (by kernel_rfl) (fun _ _ _ h => h) (Or.inl ⟨by rfl, ?_⟩) hHeld ?_
  rotate_left
  · (intro w hSw; (try dsimp only at hSw); go_simp; (try with_reducible rfl))
  simp only [Act.put, List.setIfInBounds_toArray, List.set_cons_zero, List.set_cons_succ]
  refine take_at 20 (v := ?_) (some 31) rfl rfl (by kernel_rfl) (by kernel_rfl) (by kernel_rfl) (fun _ _ _ h => h) (Or.inl ⟨by rfl, ?_⟩) hHeld ?_
  rotate_left
  · (intro w hSw; (try dsimp only at hSw); go_simp; (try with_reducible rfl))
  simp only [Act.put, List.setIfInBounds_toArray, List.set_cons_zero, List.set_cons_succ]
  refine take_at 21 (v := ?_) (some 32) rfl rfl (by kernel_rfl) (by kernel_rfl) (by kernel_rfl) (fun _ _ _ h => h) (Or.inl ⟨by rfl, ?_⟩) hHeld ?_
  rotate_left
  · (intro w hSw; (try dsimp only at hSw); go_simp; (try with_reducible rfl))
  simp only [Act.put, List.setIfInBounds_toArray, List.set_cons_zero, List.set_cons_succ]
  refine take_at 22 (v := ?_) (some 33) rfl rfl (by kernel_rfl) (by kernel_rfl) (by kernel_rfl) (fun _ _ _ h => h) (Or.inl ⟨by rfl, ?_⟩) hHeld ?_
  rotate_left
  · (intro w hSw; (try dsimp only at hSw); go_simp; (try with_reducible rfl))
  simp only [Act.put, List.setIfInBounds_toArray, List.set_cons_zero, List.set_cons_succ]
  refine take_at 23 (v := ?_) (some 34) rfl rfl (by kernel_rfl) (by kernel_rfl) (by kernel_rfl) (fun _ _ _ h => h) (Or.inl ⟨by rfl, ?_⟩) hHeld ?_
  rotate_left
  · (intro w hSw; (try dsimp only at hSw); go_simp; (try with_reducible rfl))
  simp only [Act.put, List.setIfInBounds_toArray, List.set_cons_zero, List.set_cons_succ]
  refine take_at 24 (v := ?_) (some 35) rfl rfl (by kernel_rfl) (by kernel_rfl) (by kernel_rfl) (fun _ _ _ h => h) (Or.inl ⟨by rfl, ?_⟩) hHeld ?_
  rotate_left
  · (intro w hSw; (try dsimp only at hSw); go_simp; (try with_reducible rfl))
  simp only [Act.put, List.setIfInBounds_toArray, List.set_cons_zero, List.set_cons_succ]
  refine take_at 25 (v := ?_) (some 36) rfl rfl (by kernel_rfl) (by kernel_rfl) (by kernel_rfl) (fun _ _ _ h => h) (Or.inl ⟨by rfl, ?_⟩) hHeld ?_
  rotate_left
  · (intro w hSw; (try dsimp only at hSw); go_simp; (try with_reducible rfl))
  simp only [Act.put, List.setIfInBounds_toArray, List.set_cons_zero, List.set_cons_succ]
  refine take_at 26 (v := ?_) (some 37) rfl rfl (by kernel_rfl) (by kernel_rfl) (by kernel_rfl) (fun _ _ _ h => h) (Or.inl ⟨by rfl, ?_⟩) hHeld ?_
  rotate_left
  · (intro w hSw; (try dsimp only at hSw); go_simp; (try with_reducible rfl))
  simp only [Act.put, List.setIfInBounds_toArray, List.set_cons_zero, List.set_cons_succ]
  refine take_at 27 (v := ?_) (some 38) rfl rfl (by kernel_rfl) (by kernel_rfl) (by kernel_rfl) (fun _ _ _ h => h) (Or.inl ⟨by rfl, ?_⟩) hHeld ?_
  rotate_left
  · (intro w hSw; (try dsimp only at hSw); go_simp; (try with_reducible rfl))
  simp only [Act.put, List.setIfInBounds_toArray, List.set_cons_zero, List.set_cons_succ]
  refine take_at 28 (v := ?_) (some 39) rfl rfl (by kernel_rfl) (by kernel_rfl) (by kernel_rfl) (fun _ _ _ h => h) (Or.inl ⟨by rfl, ?_⟩) hHeld ?_
  rotate_left
  · (intro w hSw; (try dsimp only at hSw); go_simp; (try with_reducible rfl))
  simp only [Act.put, List.setIfInBounds_toArray, List.set_cons_zero, List.set_cons_succ]
  refine take_at 29 (v := ?_) (some 40) rfl rfl (by kernel_rfl) (by kernel_rfl) (by kernel_rfl) (fun _ _ _ h => h) (Or.inl ⟨by rfl, ?_⟩) hHeld ?_
  rotate_left
  · (intro w hSw; (try dsimp only at hSw); go_simp; (try with_reducible rfl))
  simp only [Act.put, List.setIfInBounds_toArray, List.set_cons_zero, List.set_cons_succ]
  refine take_at 30 (v := ?_) (some 41) rfl rfl (by kernel_rfl) (by kernel_rfl) (by kernel_rfl) (fun _ _ _ h => h) (Or.inl ⟨by rfl, ?_⟩) hHeld ?_
  rotate_left
  · (intro w hSw; (try dsimp only at hSw); go_simp; (try with_reducible rfl))
  simp only [Act.put, List.setIfInBounds_toArray, List.set_cons_zero, List.set_cons_succ]
  refine take_at 31 (v := ?_) (some 42) rfl rfl (by kernel_rfl) (by kernel_rfl) (by kernel_rfl) (fun _ _ _ h => h) (Or.inl ⟨by rfl, ?_⟩) hHeld ?_
  rotate_left
  · (intro w hSw; (try dsimp only at hSw); go_simp; (try with_reducible rfl))
  simp only [Act.put, List.setIfInBounds_toArray, List.set_cons_zero, List.set_cons_succ]
  refine take_at 32 (v := ?_) (some 43) rfl rfl (by kernel_rfl) (by kernel_rfl) (by kernel_rfl) (fun _ _ _ h => h) (Or.inl ⟨by rfl, ?_⟩) hHeld ?_
  rotate_left
  · (intro w hSw; (try dsimp only at hSw); go_simp; (try with_reducible rfl))
  simp only [Act.put, List.setIfInBounds_toArray, List.set_cons_zero, List.set_cons_succ]
  refine take_at 33 (v := ?_) (some 44) rfl rfl (by kernel_rfl) (by kernel_rfl) (by kernel_rfl) (fun _ _ _ h => h) (Or.inl ⟨by rfl, ?_⟩) hHeld ?_
  rotate_left
  · (intro w hSw; (try dsimp only at hSw); go_simp; (try with_reducible rfl))
  simp only [Act.put, List.setIfInBounds_toArray, List.set_cons_zero, List.set_cons_succ]
  refine take_at 34 (v := ?_) (some 45) rfl rfl (by kernel_rfl) (by kernel_rfl) (by kernel_rfl) (fun _ _ _ h => h) (Or.inl ⟨by rfl, ?_⟩) hHeld ?_
  rotate_left
  · (intro w hSw; (try dsimp only at hSw); go_simp; (try with_reducible rfl))
  simp only [Act.put, List.setIfInBounds_toArray, List.set_cons_zero, List.set_cons_succ]
  refine take_at 35 (v := ?_) (some 46) rfl rfl (by kernel_rfl) (by kernel_rfl) (by kernel_rfl) (fun _ _ _ h => h) (Or.inl ⟨by rfl, ?_⟩) hHeld ?_
  rotate_left
  · (intro w hSw; (try dsimp only at hSw); go_simp; (try with_reducible rfl))
  simp only [Act.put, List.setIfInBounds_toArray, List.set_cons_zero, List.set_cons_succ]
  refine take_at 36 (v := ?_) (some 6) rfl rfl (by kernel_rfl) (by kernel_rfl) (by kernel_rfl) (fun _ _ _ h => h) (Or.inl ⟨by rfl, ?_⟩) hHeld ?_
  rotate_left
  · (intro w hSw; (try dsimp only at hSw); go_simp; (try with_reducible rfl))
  simp only [Act.put, List.setIfInBounds_toArray, List.set_cons_zero, List.set_cons_succ]
  refine wpAnyH_done (by kernel_rfl) ?_ _
  have HFF := Lib.hid (show Fr [pb, rb, g, gw] w v2 from ((Fr.of (S := [pb, rb, g, gw]) HB0.out).trans (HF1.out.mono (by simp))).trans (HF2.out.mono (by simp)))
  clear hHeld
  go_wp2_with fail
  go_ret
  exact ⟨rfl, HP2.out, HR2.out, HM2.out, HW2.out, HFF.out⟩

set_option maxHeartbeats 3200000 in
set_option maxRecDepth 100000 in
theorem move2 (x y : OpS) (pb rb b g bw gw : Nat) (zs zz : List Int) (w : World) (hy : opX (adr x.v) 6 x zs = y) (hzz : opZ (adr x.v) 6 x zs = zz) (hk : x.k = 2) (hok : OkS x) (hz : w64 zs) (hp : pb2 w pb x) (hr : RB w rb 1 6 x) (hm : Pm w b g zs) (hw : Rm w bw gw zs) (hgg : g ≠ gw) :
    Calls Try.prog 91 #[.agg #[.pointer none, .pointer (some ⟨pb, 0, none⟩), .pointer none, .pointer none, .pointer (some ⟨rb, 0, none⟩)], .pointer (some ⟨b, 0, none⟩), .pointer (some ⟨bw, 0, none⟩)] w fun e w' => e = .returned (.bool true) ∧ pb2 w' pb y ∧ RB w' rb 1 6 y ∧ Pm w' b g zz ∧ Rm w' bw gw zz ∧ Fr [pb, rb, g, gw] w w' := by
  have HY := Lib.hid hy
  have HZZ := Lib.hid hzz
  have HKX := Lib.hid hk
  have HOK := Lib.hid hok
  have HZ := Lib.hid hz
  obtain ⟨W0, hW0⟩ : ∃ W0, W0 = w.alloc (.cells #[.pointer none, .pointer (some ⟨pb, 0, none⟩), .pointer none, .pointer none, .pointer (some ⟨rb, 0, none⟩)] 153) := ⟨_, rfl⟩
  have b0 : Below w.heap.size w W0 := by rw [hW0]; exact (Below.refl _ _).alloc (Nat.le_refl _) _
  have HB0 := Lib.hid b0
  have ho : Bk W0 w.heap.size 153 [.pointer none, .pointer (some ⟨pb, 0, none⟩), .pointer none, .pointer none, .pointer (some ⟨rb, 0, none⟩)] := by rw [hW0]; exact Bk.new w 153 [_, _, _, _, _]
  have o0 : W0.cell? ⟨w.heap.size, 0, none⟩ = some (.pointer none) := ho.cell 0
  have o1 : W0.cell? ⟨w.heap.size, 1, none⟩ = some (.pointer (some ⟨pb, 0, none⟩)) := ho.cell 1
  have o2 : W0.cell? ⟨w.heap.size, 2, none⟩ = some (.pointer none) := ho.cell 2
  have HO0 := Lib.hid (show W0.cell? ⟨w.heap.size, 1, none⟩ = some (.pointer (some ⟨pb, 0, none⟩)) ∧ W0.cell? ⟨w.heap.size, 4, none⟩ = some (.pointer (some ⟨rb, 0, none⟩)) from ⟨ho.cell 1, ho.cell 4⟩)
  have HP0 := Lib.hid (show pb2 W0 pb x from Bk.below hp b0)
  have HR0 := Lib.hid (show RB W0 rb 1 6 x from Bk.below hr b0)
  have HM0 := Lib.hid (hm.below b0)
  have HW0 := Lib.hid (hw.below b0)
  have l1 := Bk.lt hp
  have l2 := Bk.lt hr
  have l3 := hm.1.lt
  have l4 := hm.2.1.lt
  have l5 := hw.1.lt
  have l6 := hw.2.1.lt
  have HNR := Lib.hid (show rb ∉ [pb, g] ∧ bw ∉ [pb, g] ∧ gw ∉ [pb, g] ∧ w.heap.size ∉ [pb, g] from ⟨by simp; exact ⟨Bk.ne hr hp (by decide), Bk.ne hr hm.2.1 (by decide)⟩, by simp; exact ⟨Bk.ne hw.1 hp (by decide), Bk.ne hw.1 hm.2.1 (by decide)⟩, by simp; exact ⟨Bk.ne hw.2.1 hp (by decide), fun e => hgg e.symm⟩, by simp; omega⟩)
  have HNP := Lib.hid (show pb ∉ [rb, gw] ∧ b ∉ [rb, gw] ∧ g ∉ [rb, gw] ∧ w.heap.size ∉ [rb, gw] from ⟨by simp; exact ⟨Bk.ne hp hr (by decide), Bk.ne hp hw.2.1 (by decide)⟩, by simp; exact ⟨Bk.ne hm.1 hr (by decide), Bk.ne hm.1 hw.2.1 (by decide)⟩, by simp; exact ⟨Bk.ne hm.2.1 hr (by decide), hgg⟩, by simp; omega⟩)
  clear hy hzz hk hok hz hp hr hm hw b0 l1 l2 l3 l4 l5 l6 ho
  go_enter Try.func91, Try.ntmps91
  go_wp2_with fail
  simp only [← hW0]
  clear hW0 o0 o1 o2
  refine wp_region_held_drew (S := (fun w' => w'.cell? ⟨w.heap.size, 1, none⟩ = some (.pointer (some ⟨pb, 0, none⟩)) ∧ w'.cell? ⟨w.heap.size, 4, none⟩ = some (.pointer (some ⟨rb, 0, none⟩)))) (by kernel_rfl) ?_ (fun hHeld => ?_)
  · exact ⟨HO0.out.1, HO0.out.2⟩
  refine take_at 0 (v := ?_) (some 51) rfl rfl (by kernel_rfl) (by kernel_rfl) (by kernel_rfl) (fun _ _ _ h => h) (Or.inl ⟨by rfl, ?_⟩) hHeld ?_
  rotate_left
  · (intro w hSw; (try dsimp only at hSw); go_simp; (try with_reducible rfl))
  simp only [Act.put, List.setIfInBounds_toArray, List.set_cons_zero, List.set_cons_succ]
  refine take_at 1 (v := ?_) (some 52) rfl rfl (by kernel_rfl) (by kernel_rfl) (by kernel_rfl) (fun _ _ _ h => h) (Or.inl ⟨by rfl, ?_⟩) hHeld ?_
  rotate_left
  · (intro w hSw; (try dsimp only at hSw); go_simp; (try with_reducible rfl))
  simp only [Act.put, List.setIfInBounds_toArray, List.set_cons_zero, List.set_cons_succ]
  refine take_at 2 (v := ?_) (some 53) rfl rfl (by kernel_rfl) (by kernel_rfl) (by kernel_rfl) (fun _ _ _ h => h) (Or.inl ⟨by rfl, ?_⟩) hHeld ?_
  rotate_left
  · (intro w hSw; (try dsimp only at hSw); go_simp; (try with_reducible rfl))
  simp only [Act.put, List.setIfInBounds_toArray, List.set_cons_zero, List.set_cons_succ]
  refine take_at 3 (v := ?_) (some 54) rfl rfl (by kernel_rfl) (by kernel_rfl) (by kernel_rfl) (fun _ _ _ h => h) (Or.inl ⟨by rfl, ?_⟩) hHeld ?_
  rotate_left
  · (intro w hSw; (try dsimp only at hSw); go_simp; (try with_reducible rfl))
  simp only [Act.put, List.setIfInBounds_toArray, List.set_cons_zero, List.set_cons_succ]
  refine take_at 5 (v := ?_) (some 56) rfl rfl (by kernel_rfl) (by kernel_rfl) (by kernel_rfl) (fun _ _ _ h => h) (Or.inl ⟨by rfl, ?_⟩) hHeld ?_
  rotate_left
  · (intro w hSw; (try dsimp only at hSw); go_simp; (try with_reducible rfl))
  simp only [Act.put, List.setIfInBounds_toArray, List.set_cons_zero, List.set_cons_succ]
  refine take_at 6 (v := ?_) (some 57) rfl rfl (by kernel_rfl) (by kernel_rfl) (by kernel_rfl) (fun _ _ _ h => h) (Or.inl ⟨by rfl, ?_⟩) hHeld ?_
  rotate_left
  · (intro w hSw; (try dsimp only at hSw); go_simp; (try with_reducible rfl))
  simp only [Act.put, List.setIfInBounds_toArray, List.set_cons_zero, List.set_cons_succ]
  refine take_at 7 (v := ?_) (some 58) rfl rfl (by kernel_rfl) (by kernel_rfl) (by kernel_rfl) (fun _ _ _ h => h) (Or.inl ⟨by rfl, ?_⟩) hHeld ?_
  rotate_left
  · (intro w hSw; (try dsimp only at hSw); go_simp; (try with_reducible rfl))
  simp only [Act.put, List.setIfInBounds_toArray, List.set_cons_zero, List.set_cons_succ]
  refine wpAnyH_ready (rs := [4]) (by kernel_rfl) (by simp) ?_
  refine AllReadyH.cons rfl (fun K hK => ?_) AllReadyH.nil
  go_simp
  refine (p2_y x y pb b g zs zz _ HY.out HZZ.out HKX.out HOK.out HZ.out (show pb2 W0.drew pb x from HP0.out) (show Pm W0.drew b g zs from HM0.out)).mono ?_
  rintro e v1 ⟨rfl, hp, hm, hf⟩
  have HP1 := Lib.hid hp
  have HM1 := Lib.hid hm
  have HF1 := Lib.hid (show Fr [pb, g] W0 v1 from ((Fr.refl [pb, g] W0).drew).trans hf)
  have HR1 := Lib.hid (HR0.out.fr HF1.out HNR.out.1)
  have HW1 := Lib.hid (rmfr HW0.out HF1.out HNR.out.2.1 HNR.out.2.2.1)
  clear hp hm hf
  go_wp2_with fail
  refine hK.out _ _ ?_ (fun hHeld => ?_)
  · exact ⟨cell_fr HO0.out.1 HF1.out HNR.out.2.2.2, cell_fr HO0.out.2 HF1.out HNR.out.2.2.2⟩
  clear hK K
  try simp only [Act.put, List.setIfInBounds_toArray, List.set_cons_zero, List.set_cons_succ]
  refine wpAnyH_ready (rs := [8]) (by kernel_rfl) (by simp) ?_
  refine AllReadyH.cons rfl (fun K hK => ?_) AllReadyH.nil
  go_simp
  refine (r_y x y rb bw gw zs zz v1 HY.out HZZ.out HOK.out HR1.out HW1.out).mono ?_
  rintro e v2 ⟨rfl, hr, hw, hf⟩
  have HR2 := Lib.hid hr
  have HW2 := Lib.hid hw
  have HF2 := Lib.hid hf
  have HP2 := Lib.hid (show pb2 v2 pb y from Bk.fr HP1.out hf HNP.out.1)
  have HM2 := Lib.hid (show Pm v2 b g zz from ⟨HM1.out.1.fr hf HNP.out.2.1, HM1.out.2.1.fr hf HNP.out.2.2.1, HM1.out.2.2⟩)
  clear hr hw hf
  go_wp2_with fail
  refine hK.out _ _ ?_ (fun hHeld => ?_)
  · exact ⟨cell_fr hHeld.1 HF2.out HNP.out.2.2.2, cell_fr hHeld.2 HF2.out HNP.out.2.2.2⟩
  clear hK K
  try simp only [Act.put, List.setIfInBounds_toArray, List.set_cons_zero, List.set_cons_succ]
  refine wpAnyH_weaken (S' := (fun w' => (w'.cell? ⟨w.heap.size, 1, none⟩ = some (.pointer (some ⟨pb, 0, none⟩)) ∧ w'.cell? ⟨w.heap.size, 4, none⟩ = some (.pointer (some ⟨rb, 0, none⟩))) ∧ w'.cell? ⟨pb, 3, none⟩ = some (.bool y.ended) ∧ w'.cell? ⟨rb, 6, none⟩ = some (.bool y.ended))) (fun _ h => h.1) _ _ _ _ ?_
  replace hHeld : (fun w' => (w'.cell? ⟨w.heap.size, 1, none⟩ = some (.pointer (some ⟨pb, 0, none⟩)) ∧ w'.cell? ⟨w.heap.size, 4, none⟩ = some (.pointer (some ⟨rb, 0, none⟩))) ∧ w'.cell? ⟨pb, 3, none⟩ = some (.bool y.ended) ∧ w'.cell? ⟨rb, 6, none⟩ = some (.bool y.ended)) v2 := ⟨hHeld, HP2.out.cell 3, HR2.out.cell 6⟩
  refine take_at 9 (v := ?_) (some 60) rfl rfl (by kernel_rfl) (by kernel_rfl) (by kernel_rfl) (fun _ _ _ h => h) (Or.inl ⟨by rfl, ?_⟩) hHeld ?_
  rotate_left
  · (intro w hSw; (try dsimp only at hSw); go_simp; (try with_reducible rfl))
  simp only [Act.put, List.setIfInBounds_toArray, List.set_cons_zero, List.set_cons_succ]
  refine take_at 10 (v := ?_) (some 61) rfl rfl (by kernel_rfl) (by kernel_rfl) (by kernel_rfl) (fun _ _ _ h => h) (Or.inl ⟨by rfl, ?_⟩) hHeld ?_
  rotate_left
  · (intro w hSw; (try dsimp only at hSw); go_simp; (try with_reducible rfl))
  simp only [Act.put, List.setIfInBounds_toArray, List.set_cons_zero, List.set_cons_succ]
  refine take_at 11 (v := ?_) (some 62) rfl rfl (by kernel_rfl) (by kernel_rfl) (by kernel_rfl) (fun _ _ _ h => h) (Or.inl ⟨by rfl, ?_⟩) hHeld ?_
  rotate_left
  · (intro w hSw; (try dsimp only at hSw); go_simp; (try with_reducible rfl))
  simp only [Act.put, List.setIfInBounds_toArray, List.set_cons_zero, List.set_cons_succ]
  refine take_at 12 (v := ?_) (some 63) rfl rfl (by kernel_rfl) (by kernel_rfl) (by kernel_rfl) (fun _ _ _ h => h) (Or.inl ⟨by rfl, ?_⟩) hHeld ?_
  rotate_left
  · (intro w hSw; (try dsimp only at hSw); go_simp; (try with_reducible rfl))
  simp only [Act.put, List.setIfInBounds_toArray, List.set_cons_zero, List.set_cons_succ]
  refine take_at 13 (v := ?_) (some 64) rfl rfl (by kernel_rfl) (by kernel_rfl) (by kernel_rfl) (fun _ _ _ h => h) (Or.inl ⟨by rfl, ?_⟩) hHeld ?_
  rotate_left
  · (intro w hSw; (try dsimp only at hSw); go_simp; (try with_reducible rfl))
  simp only [Act.put, List.setIfInBounds_toArray, List.set_cons_zero, List.set_cons_succ]
  refine take_at 14 (v := ?_) (some 65) rfl rfl (by kernel_rfl) (by kernel_rfl) (by kernel_rfl) (fun _ _ _ h => h) (Or.inl ⟨by rfl, ?_⟩) hHeld ?_
  rotate_left
  · (intro w hSw; (try dsimp only at hSw); go_simp; (try with_reducible rfl))
  simp only [Act.put, List.setIfInBounds_toArray, List.set_cons_zero, List.set_cons_succ]
  refine take_at 15 (v := ?_) (some 66) rfl rfl (by kernel_rfl) (by kernel_rfl) (by kernel_rfl) (fun _ _ _ h => h) (Or.inl ⟨by rfl, ?_⟩) hHeld ?_
  rotate_left
  · (intro w hSw; (try dsimp only at hSw); go_simp; (try with_reducible rfl))
  simp only [Act.put, List.setIfInBounds_toArray, List.set_cons_zero, List.set_cons_succ]
  refine take_at 16 (v := ?_) (some 67) rfl rfl (by kernel_rfl) (by kernel_rfl) (by kernel_rfl) (fun _ _ _ h => h) (Or.inl ⟨by rfl, ?_⟩) hHeld ?_
  rotate_left
  · (intro w hSw; (try dsimp only at hSw); go_simp; (try with_reducible rfl))
  simp only [Act.put, List.setIfInBounds_toArray, List.set_cons_zero, List.set_cons_succ]
  refine take_at 17 (v := ?_) (some 68) rfl rfl (by kernel_rfl) (by kernel_rfl) (by kernel_rfl) (fun _ _ _ h => h) (Or.inl ⟨by rfl, ?_⟩) hHeld ?_
  rotate_left
  · (intro w hSw; (try dsimp only at hSw); go_simp; (try with_reducible rfl))
  simp only [Act.put, List.setIfInBounds_toArray, List.set_cons_zero, List.set_cons_succ]
  refine take_at 18 (v := ?_) (some 69) rfl rfl (by kernel_rfl) (by kernel_rfl) (by kernel_rfl) (fun _ _ _ h => h) (Or.inl ⟨by rfl, ?_⟩) hHeld ?_
  rotate_left
  · (intro w hSw; (try dsimp only at hSw); go_simp; (try with_reducible rfl))
  simp only [Act.put, List.setIfInBounds_toArray, List.set_cons_zero, List.set_cons_succ]
  refine take_at 19 (v := ?_) (some 70) rfl rfl (by kernel_rfl) (by kernel_rfl) (by kernel_rfl) (fun _ _ _ h => h) (Or.inl ⟨by rfl, ?_⟩) hHeld ?_
  rotate_left
  · (intro w hSw; (try dsimp only at hSw); go_simp; (try with_reducible rfl))
  simp only [Act.put, List.setIfInBounds_toArray, List.set_cons_zero, List.set_cons_succ]
  refine take_at 20 (v := ?_) (some 71) rfl rfl (by kernel_rfl) (by kernel_rfl) (by kernel_rfl) (fun _ _ _ h => h) (Or.inl ⟨by rfl, ?_⟩) hHeld ?_
  rotate_left
  · (intro w hSw; (try dsimp only at hSw); go_simp; (try with_reducible rfl))
  simp only [Act.put, List.setIfInBounds_toArray, List.set_cons_zero, List.set_cons_succ]
  refine take_at 21 (v := ?_) (some 72) rfl rfl (by kernel_rfl) (by kernel_rfl) (by kernel_rfl) (fun _ _ _ h => h) (Or.inl ⟨by rfl, ?_⟩) hHeld ?_
  rotate_left
  · (intro w hSw; (try dsimp only at hSw); go_simp; (try with_reducible rfl))
  simp only [Act.put, List.setIfInBounds_toArray, List.set_cons_zero, List.set_cons_succ]
  refine take_at 22 (v := ?_) (some 73) rfl rfl (by kernel_rfl) (by kernel_rfl) (by kernel_rfl) (fun _ _ _ h => h) (Or.inl ⟨by rfl, ?_⟩) hHeld ?_
  rotate_left
  · (intro w hSw; (try dsimp only at hSw); go_simp; (try with_reducible rfl))
  simp only [Act.put, List.setIfInBounds_toArray, List.set_cons_zero, List.set_cons_succ]
  refine take_at 23 (v := ?_) (some 6) rfl rfl (by kernel_rfl) (by kernel_rfl) (by kernel_rfl) (fun _ _ _ h => h) (Or.inl ⟨by rfl, ?_⟩) hHeld ?_
  rotate_left
  · (intro w hSw; (try dsimp only at hSw); go_simp; (try with_reducible rfl))
  simp only [Act.put, List.setIfInBounds_toArray, List.set_cons_zero, List.set_cons_succ]
  refine wpAnyH_done (by kernel_rfl) ?_ _
  have HFF := Lib.hid (show Fr [pb, rb, g, gw] w v2 from ((Fr.of (S := [pb, rb, g, gw]) HB0.out).trans (HF1.out.mono (by simp))).trans (HF2.out.mono (by simp)))
  clear hHeld
  go_wp2_with fail
  go_ret
  exact ⟨rfl, HP2.out, HR2.out, HM2.out, HW2.out, HFF.out⟩

set_option maxHeartbeats 3200000 in
set_option maxRecDepth 100000 in
theorem move3 (x y : OpS) (pb rb b g bw gw : Nat) (zs zz : List Int) (w : World) (hy : opX (adr x.v) 6 x zs = y) (hzz : opZ (adr x.v) 6 x zs = zz) (hk : x.k = 3) (hok : OkS x) (hz : w64 zs) (hp : pb3 w pb x) (hr : RB w rb 1 6 x) (hm : Pm w b g zs) (hw : Rm w bw gw zs) (hgg : g ≠ gw) :
    Calls Try.prog 91 #[.agg #[.pointer none, .pointer none, .pointer (some ⟨pb, 0, none⟩), .pointer none, .pointer (some ⟨rb, 0, none⟩)], .pointer (some ⟨b, 0, none⟩), .pointer (some ⟨bw, 0, none⟩)] w fun e w' => e = .returned (.bool true) ∧ pb3 w' pb y ∧ RB w' rb 1 6 y ∧ Pm w' b g zz ∧ Rm w' bw gw zz ∧ Fr [pb, rb, g, gw] w w' := by
  have HY := Lib.hid hy
  have HZZ := Lib.hid hzz
  have HKX := Lib.hid hk
  have HOK := Lib.hid hok
  have HZ := Lib.hid hz
  obtain ⟨W0, hW0⟩ : ∃ W0, W0 = w.alloc (.cells #[.pointer none, .pointer none, .pointer (some ⟨pb, 0, none⟩), .pointer none, .pointer (some ⟨rb, 0, none⟩)] 153) := ⟨_, rfl⟩
  have b0 : Below w.heap.size w W0 := by rw [hW0]; exact (Below.refl _ _).alloc (Nat.le_refl _) _
  have HB0 := Lib.hid b0
  have ho : Bk W0 w.heap.size 153 [.pointer none, .pointer none, .pointer (some ⟨pb, 0, none⟩), .pointer none, .pointer (some ⟨rb, 0, none⟩)] := by rw [hW0]; exact Bk.new w 153 [_, _, _, _, _]
  have o0 : W0.cell? ⟨w.heap.size, 0, none⟩ = some (.pointer none) := ho.cell 0
  have o1 : W0.cell? ⟨w.heap.size, 1, none⟩ = some (.pointer none) := ho.cell 1
  have o2 : W0.cell? ⟨w.heap.size, 2, none⟩ = some (.pointer (some ⟨pb, 0, none⟩)) := ho.cell 2
  have HO0 := Lib.hid (show W0.cell? ⟨w.heap.size, 2, none⟩ = some (.pointer (some ⟨pb, 0, none⟩)) ∧ W0.cell? ⟨w.heap.size, 4, none⟩ = some (.pointer (some ⟨rb, 0, none⟩)) from ⟨ho.cell 2, ho.cell 4⟩)
  have HP0 := Lib.hid (show pb3 W0 pb x from Bk.below hp b0)
  have HR0 := Lib.hid (show RB W0 rb 1 6 x from Bk.below hr b0)
  have HM0 := Lib.hid (hm.below b0)
  have HW0 := Lib.hid (hw.below b0)
  have l1 := Bk.lt hp
  have l2 := Bk.lt hr
  have l3 := hm.1.lt
  have l4 := hm.2.1.lt
  have l5 := hw.1.lt
  have l6 := hw.2.1.lt
  have HNR := Lib.hid (show rb ∉ [pb, g] ∧ bw ∉ [pb, g] ∧ gw ∉ [pb, g] ∧ w.heap.size ∉ [pb, g] from ⟨by simp; exact ⟨Bk.ne hr hp (by decide), Bk.ne hr hm.2.1 (by decide)⟩, by simp; exact ⟨Bk.ne hw.1 hp (by decide), Bk.ne hw.1 hm.2.1 (by decide)⟩, by simp; exact ⟨Bk.ne hw.2.1 hp (by decide), fun e => hgg e.symm⟩, by simp; omega⟩)
  have HNP := Lib.hid (show pb ∉ [rb, gw] ∧ b ∉ [rb, gw] ∧ g ∉ [rb, gw] ∧ w.heap.size ∉ [rb, gw] from ⟨by simp; exact ⟨Bk.ne hp hr (by decide), Bk.ne hp hw.2.1 (by decide)⟩, by simp; exact ⟨Bk.ne hm.1 hr (by decide), Bk.ne hm.1 hw.2.1 (by decide)⟩, by simp; exact ⟨Bk.ne hm.2.1 hr (by decide), hgg⟩, by simp; omega⟩)
  clear hy hzz hk hok hz hp hr hm hw b0 l1 l2 l3 l4 l5 l6 ho
  go_enter Try.func91, Try.ntmps91
  go_wp2_with fail
  simp only [← hW0]
  clear hW0 o0 o1 o2
  refine wp_region_held_drew (S := (fun w' => w'.cell? ⟨w.heap.size, 2, none⟩ = some (.pointer (some ⟨pb, 0, none⟩)) ∧ w'.cell? ⟨w.heap.size, 4, none⟩ = some (.pointer (some ⟨rb, 0, none⟩)))) (by kernel_rfl) ?_ (fun hHeld => ?_)
  · exact ⟨HO0.out.1, HO0.out.2⟩
  refine take_at 0 (v := ?_) (some 78) rfl rfl (by kernel_rfl) (by kernel_rfl) (by kernel_rfl) (fun _ _ _ h => h) (Or.inl ⟨by rfl, ?_⟩) hHeld ?_
  rotate_left
  · (intro w hSw; (try dsimp only at hSw); go_simp; (try with_reducible rfl))
  simp only [Act.put, List.setIfInBounds_toArray, List.set_cons_zero, List.set_cons_succ]
  refine take_at 1 (v := ?_) (some 79) rfl rfl (by kernel_rfl) (by kernel_rfl) (by kernel_rfl) (fun _ _ _ h => h) (Or.inl ⟨by rfl, ?_⟩) hHeld ?_
  rotate_left
  · (intro w hSw; (try dsimp only at hSw); go_simp; (try with_reducible rfl))
  simp only [Act.put, List.setIfInBounds_toArray, List.set_cons_zero, List.set_cons_succ]
  refine take_at 2 (v := ?_) (some 80) rfl rfl (by kernel_rfl) (by kernel_rfl) (by kernel_rfl) (fun _ _ _ h => h) (Or.inl ⟨by rfl, ?_⟩) hHeld ?_
  rotate_left
  · (intro w hSw; (try dsimp only at hSw); go_simp; (try with_reducible rfl))
  simp only [Act.put, List.setIfInBounds_toArray, List.set_cons_zero, List.set_cons_succ]
  refine take_at 3 (v := ?_) (some 81) rfl rfl (by kernel_rfl) (by kernel_rfl) (by kernel_rfl) (fun _ _ _ h => h) (Or.inl ⟨by rfl, ?_⟩) hHeld ?_
  rotate_left
  · (intro w hSw; (try dsimp only at hSw); go_simp; (try with_reducible rfl))
  simp only [Act.put, List.setIfInBounds_toArray, List.set_cons_zero, List.set_cons_succ]
  refine take_at 5 (v := ?_) (some 83) rfl rfl (by kernel_rfl) (by kernel_rfl) (by kernel_rfl) (fun _ _ _ h => h) (Or.inl ⟨by rfl, ?_⟩) hHeld ?_
  rotate_left
  · (intro w hSw; (try dsimp only at hSw); go_simp; (try with_reducible rfl))
  simp only [Act.put, List.setIfInBounds_toArray, List.set_cons_zero, List.set_cons_succ]
  refine take_at 6 (v := ?_) (some 84) rfl rfl (by kernel_rfl) (by kernel_rfl) (by kernel_rfl) (fun _ _ _ h => h) (Or.inl ⟨by rfl, ?_⟩) hHeld ?_
  rotate_left
  · (intro w hSw; (try dsimp only at hSw); go_simp; (try with_reducible rfl))
  simp only [Act.put, List.setIfInBounds_toArray, List.set_cons_zero, List.set_cons_succ]
  refine take_at 7 (v := ?_) (some 85) rfl rfl (by kernel_rfl) (by kernel_rfl) (by kernel_rfl) (fun _ _ _ h => h) (Or.inl ⟨by rfl, ?_⟩) hHeld ?_
  rotate_left
  · (intro w hSw; (try dsimp only at hSw); go_simp; (try with_reducible rfl))
  simp only [Act.put, List.setIfInBounds_toArray, List.set_cons_zero, List.set_cons_succ]
  refine wpAnyH_ready (rs := [4]) (by kernel_rfl) (by simp) ?_
  refine AllReadyH.cons rfl (fun K hK => ?_) AllReadyH.nil
  go_simp
  refine (p3_y x y pb b g zs zz _ HY.out HZZ.out HKX.out HOK.out HZ.out (show pb3 W0.drew pb x from HP0.out) (show Pm W0.drew b g zs from HM0.out)).mono ?_
  rintro e v1 ⟨rfl, hp, hm, hf⟩
  have HP1 := Lib.hid hp
  have HM1 := Lib.hid hm
  have HF1 := Lib.hid (show Fr [pb, g] W0 v1 from ((Fr.refl [pb, g] W0).drew).trans hf)
  have HR1 := Lib.hid (HR0.out.fr HF1.out HNR.out.1)
  have HW1 := Lib.hid (rmfr HW0.out HF1.out HNR.out.2.1 HNR.out.2.2.1)
  clear hp hm hf
  go_wp2_with fail
  refine hK.out _ _ ?_ (fun hHeld => ?_)
  · exact ⟨cell_fr HO0.out.1 HF1.out HNR.out.2.2.2, cell_fr HO0.out.2 HF1.out HNR.out.2.2.2⟩
  clear hK K
  try simp only [Act.put, List.setIfInBounds_toArray, List.set_cons_zero, List.set_cons_succ]
  refine wpAnyH_ready (rs := [8]) (by kernel_rfl) (by simp) ?_
  refine AllReadyH.cons rfl (fun K hK => ?_) AllReadyH.nil
  go_simp
  refine (r_y x y rb bw gw zs zz v1 HY.out HZZ.out HOK.out HR1.out HW1.out).mono ?_
  rintro e v2 ⟨rfl, hr, hw, hf⟩
  have HR2 := Lib.hid hr
  have HW2 := Lib.hid hw
  have HF2 := Lib.hid hf
  have HP2 := Lib.hid (show pb3 v2 pb y from Bk.fr HP1.out hf HNP.out.1)
  have HM2 := Lib.hid (show Pm v2 b g zz from ⟨HM1.out.1.fr hf HNP.out.2.1, HM1.out.2.1.fr hf HNP.out.2.2.1, HM1.out.2.2⟩)
  clear hr hw hf
  go_wp2_with fail
  refine hK.out _ _ ?_ (fun hHeld => ?_)
  · exact ⟨cell_fr hHeld.1 HF2.out HNP.out.2.2.2, cell_fr hHeld.2 HF2.out HNP.out.2.2.2⟩
  clear hK K
  try simp only [Act.put, List.setIfInBounds_toArray, List.set_cons_zero, List.set_cons_succ]
  refine wpAnyH_weaken (S' := (fun w' => (w'.cell? ⟨w.heap.size, 2, none⟩ = some (.pointer (some ⟨pb, 0, none⟩)) ∧ w'.cell? ⟨w.heap.size, 4, none⟩ = some (.pointer (some ⟨rb, 0, none⟩))) ∧ w'.cell? ⟨pb, 2, none⟩ = some (.int .i64 y.left) ∧ w'.cell? ⟨pb, 3, none⟩ = some (.bool y.ended) ∧ w'.cell? ⟨rb, 8, none⟩ = some (.int .i64 y.left) ∧ w'.cell? ⟨rb, 6, none⟩ = some (.bool y.ended))) (fun _ h => h.1) _ _ _ _ ?_
  replace hHeld : (fun w' => (w'.cell? ⟨w.heap.size, 2, none⟩ = some (.pointer (some ⟨pb, 0, none⟩)) ∧ w'.cell? ⟨w.heap.size, 4, none⟩ = some (.pointer (some ⟨rb, 0, none⟩))) ∧ w'.cell? ⟨pb, 2, none⟩ = some (.int .i64 y.left) ∧ w'.cell? ⟨pb, 3, none⟩ = some (.bool y.ended) ∧ w'.cell? ⟨rb, 8, none⟩ = some (.int .i64 y.left) ∧ w'.cell? ⟨rb, 6, none⟩ = some (.bool y.ended)) v2 := ⟨hHeld, HP2.out.cell 2, HP2.out.cell 3, HR2.out.cell 8, HR2.out.cell 6⟩
  refine take_at 9 (v := ?_) (some 87) rfl rfl (by kernel_rfl) (by kernel_rfl) (by kernel_rfl) (fun _ _ _ h => h) (Or.inl ⟨by rfl, ?_⟩) hHeld ?_
  rotate_left
  · (intro w hSw; (try dsimp only at hSw); go_simp; (try with_reducible rfl))
  simp only [Act.put, List.setIfInBounds_toArray, List.set_cons_zero, List.set_cons_succ]
  refine take_at 10 (v := ?_) (some 88) rfl rfl (by kernel_rfl) (by kernel_rfl) (by kernel_rfl) (fun _ _ _ h => h) (Or.inl ⟨by rfl, ?_⟩) hHeld ?_
  rotate_left
  · (intro w hSw; (try dsimp only at hSw); go_simp; (try with_reducible rfl))
  simp only [Act.put, List.setIfInBounds_toArray, List.set_cons_zero, List.set_cons_succ]
  refine take_at 11 (v := ?_) (some 89) rfl rfl (by kernel_rfl) (by kernel_rfl) (by kernel_rfl) (fun _ _ _ h => h) (Or.inl ⟨by rfl, ?_⟩) hHeld ?_
  rotate_left
  · (intro w hSw; (try dsimp only at hSw); go_simp; (try with_reducible rfl))
  simp only [Act.put, List.setIfInBounds_toArray, List.set_cons_zero, List.set_cons_succ]
  refine take_at 12 (v := ?_) (some 90) rfl rfl (by kernel_rfl) (by kernel_rfl) (by kernel_rfl) (fun _ _ _ h => h) (Or.inl ⟨by rfl, ?_⟩) hHeld ?_
  rotate_left
  · (intro w hSw; (try dsimp only at hSw); go_simp; (try with_reducible rfl))
  simp only [Act.put, List.setIfInBounds_toArray, List.set_cons_zero, List.set_cons_succ]
  refine take_at 13 (v := ?_) (some 91) rfl rfl (by kernel_rfl) (by kernel_rfl) (by kernel_rfl) (fun _ _ _ h => h) (Or.inl ⟨by rfl, ?_⟩) hHeld ?_
  rotate_left
  · (intro w hSw; (try dsimp only at hSw); go_simp; (try with_reducible rfl))
  simp only [Act.put, List.setIfInBounds_toArray, List.set_cons_zero, List.set_cons_succ]
  refine take_at 14 (v := ?_) (some 92) rfl rfl (by kernel_rfl) (by kernel_rfl) (by kernel_rfl) (fun _ _ _ h => h) (Or.inl ⟨by rfl, ?_⟩) hHeld ?_
  rotate_left
  · (intro w hSw; (try dsimp only at hSw); go_simp; (try with_reducible rfl))
  simp only [Act.put, List.setIfInBounds_toArray, List.set_cons_zero, List.set_cons_succ]
  refine take_at 15 (v := ?_) (some 93) rfl rfl (by kernel_rfl) (by kernel_rfl) (by kernel_rfl) (fun _ _ _ h => h) (Or.inl ⟨by rfl, ?_⟩) hHeld ?_
  rotate_left
  · (intro w hSw; (try dsimp only at hSw); go_simp; (try with_reducible rfl))
  simp only [Act.put, List.setIfInBounds_toArray, List.set_cons_zero, List.set_cons_succ]
  refine take_at 16 (v := ?_) (some 94) rfl rfl (by kernel_rfl) (by kernel_rfl) (by kernel_rfl) (fun _ _ _ h => h) (Or.inl ⟨by rfl, ?_⟩) hHeld ?_
  rotate_left
  · (intro w hSw; (try dsimp only at hSw); go_simp; (try with_reducible rfl))
  simp only [Act.put, List.setIfInBounds_toArray, List.set_cons_zero, List.set_cons_succ]
  refine take_at 17 (v := ?_) (some 95) rfl rfl (by kernel_rfl) (by kernel_rfl) (by kernel_rfl) (fun _ _ _ h => h) (Or.inl ⟨by rfl, ?_⟩) hHeld ?_
  rotate_left
  · (intro w hSw; (try dsimp only at hSw); go_simp; (try with_reducible rfl))
  simp only [Act.put, List.setIfInBounds_toArray, List.set_cons_zero, List.set_cons_succ]
  refine take_at 18 (v := ?_) (some 96) rfl rfl (by kernel_rfl) (by kernel_rfl) (by kernel_rfl) (fun _ _ _ h => h) (Or.inl ⟨by rfl, ?_⟩) hHeld ?_
  rotate_left
  · (intro w hSw; (try dsimp only at hSw); go_simp; (try with_reducible rfl))
  simp only [Act.put, List.setIfInBounds_toArray, List.set_cons_zero, List.set_cons_succ]
  refine take_at 19 (v := ?_) (some 97) rfl rfl (by kernel_rfl) (by kernel_rfl) (by kernel_rfl) (fun _ _ _ h => h) (Or.inl ⟨by rfl, ?_⟩) hHeld ?_
  rotate_left
  · (intro w hSw; (try dsimp only at hSw); go_simp; (try with_reducible rfl))
  simp only [Act.put, List.setIfInBounds_toArray, List.set_cons_zero, List.set_cons_succ]
  refine take_at 20 (v := ?_) (some 98) rfl rfl (by kernel_rfl) (by kernel_rfl) (by kernel_rfl) (fun _ _ _ h => h) (Or.inl ⟨by rfl, ?_⟩) hHeld ?_
  rotate_left
  · (intro w hSw; (try dsimp only at hSw); go_simp; (try with_reducible rfl))
  simp only [Act.put, List.setIfInBounds_toArray, List.set_cons_zero, List.set_cons_succ]
  refine take_at 21 (v := ?_) (some 99) rfl rfl (by kernel_rfl) (by kernel_rfl) (by kernel_rfl) (fun _ _ _ h => h) (Or.inl ⟨by rfl, ?_⟩) hHeld ?_
  rotate_left
  · (intro w hSw; (try dsimp only at hSw); go_simp; (try with_reducible rfl))
  simp only [Act.put, List.setIfInBounds_toArray, List.set_cons_zero, List.set_cons_succ]
  refine take_at 22 (v := ?_) (some 100) rfl rfl (by kernel_rfl) (by kernel_rfl) (by kernel_rfl) (fun _ _ _ h => h) (Or.inl ⟨by rfl, ?_⟩) hHeld ?_
  rotate_left
  · (intro w hSw; (try dsimp only at hSw); go_simp; (try with_reducible rfl))
  simp only [Act.put, List.setIfInBounds_toArray, List.set_cons_zero, List.set_cons_succ]
  refine take_at 23 (v := ?_) (some 101) rfl rfl (by kernel_rfl) (by kernel_rfl) (by kernel_rfl) (fun _ _ _ h => h) (Or.inl ⟨by rfl, ?_⟩) hHeld ?_
  rotate_left
  · (intro w hSw; (try dsimp only at hSw); go_simp; (try with_reducible rfl))
  simp only [Act.put, List.setIfInBounds_toArray, List.set_cons_zero, List.set_cons_succ]
  refine take_at 24 (v := ?_) (some 102) rfl rfl (by kernel_rfl) (by kernel_rfl) (by kernel_rfl) (fun _ _ _ h => h) (Or.inl ⟨by rfl, ?_⟩) hHeld ?_
  rotate_left
  · (intro w hSw; (try dsimp only at hSw); go_simp; (try with_reducible rfl))
  simp only [Act.put, List.setIfInBounds_toArray, List.set_cons_zero, List.set_cons_succ]
  refine take_at 25 (v := ?_) (some 103) rfl rfl (by kernel_rfl) (by kernel_rfl) (by kernel_rfl) (fun _ _ _ h => h) (Or.inl ⟨by rfl, ?_⟩) hHeld ?_
  rotate_left
  · (intro w hSw; (try dsimp only at hSw); go_simp; (try with_reducible rfl))
  simp only [Act.put, List.setIfInBounds_toArray, List.set_cons_zero, List.set_cons_succ]
  refine take_at 26 (v := ?_) (some 104) rfl rfl (by kernel_rfl) (by kernel_rfl) (by kernel_rfl) (fun _ _ _ h => h) (Or.inl ⟨by rfl, ?_⟩) hHeld ?_
  rotate_left
  · (intro w hSw; (try dsimp only at hSw); go_simp; (try with_reducible rfl))
  simp only [Act.put, List.setIfInBounds_toArray, List.set_cons_zero, List.set_cons_succ]
  refine take_at 27 (v := ?_) (some 105) rfl rfl (by kernel_rfl) (by kernel_rfl) (by kernel_rfl) (fun _ _ _ h => h) (Or.inl ⟨by rfl, ?_⟩) hHeld ?_
  rotate_left
  · (intro w hSw; (try dsimp only at hSw); go_simp; (try with_reducible rfl))
  simp only [Act.put, List.setIfInBounds_toArray, List.set_cons_zero, List.set_cons_succ]
  refine take_at 28 (v := ?_) (some 106) rfl rfl (by kernel_rfl) (by kernel_rfl) (by kernel_rfl) (fun _ _ _ h => h) (Or.inl ⟨by rfl, ?_⟩) hHeld ?_
  rotate_left
  · (intro w hSw; (try dsimp only at hSw); go_simp; (try with_reducible rfl))
  simp only [Act.put, List.setIfInBounds_toArray, List.set_cons_zero, List.set_cons_succ]
  refine take_at 29 (v := ?_) (some 107) rfl rfl (by kernel_rfl) (by kernel_rfl) (by kernel_rfl) (fun _ _ _ h => h) (Or.inl ⟨by rfl, ?_⟩) hHeld ?_
  rotate_left
  · (intro w hSw; (try dsimp only at hSw); go_simp; (try with_reducible rfl))
  simp only [Act.put, List.setIfInBounds_toArray, List.set_cons_zero, List.set_cons_succ]
  refine take_at 30 (v := ?_) (some 108) rfl rfl (by kernel_rfl) (by kernel_rfl) (by kernel_rfl) (fun _ _ _ h => h) (Or.inl ⟨by rfl, ?_⟩) hHeld ?_
  rotate_left
  · (intro w hSw; (try dsimp only at hSw); go_simp; (try with_reducible rfl))
  simp only [Act.put, List.setIfInBounds_toArray, List.set_cons_zero, List.set_cons_succ]
  refine take_at 31 (v := ?_) (some 109) rfl rfl (by kernel_rfl) (by kernel_rfl) (by kernel_rfl) (fun _ _ _ h => h) (Or.inl ⟨by rfl, ?_⟩) hHeld ?_
  rotate_left
  · (intro w hSw; (try dsimp only at hSw); go_simp; (try with_reducible rfl))
  simp only [Act.put, List.setIfInBounds_toArray, List.set_cons_zero, List.set_cons_succ]
  refine take_at 32 (v := ?_) (some 110) rfl rfl (by kernel_rfl) (by kernel_rfl) (by kernel_rfl) (fun _ _ _ h => h) (Or.inl ⟨by rfl, ?_⟩) hHeld ?_
  rotate_left
  · (intro w hSw; (try dsimp only at hSw); go_simp; (try with_reducible rfl))
  simp only [Act.put, List.setIfInBounds_toArray, List.set_cons_zero, List.set_cons_succ]
  refine take_at 33 (v := ?_) (some 111) rfl rfl (by kernel_rfl) (by kernel_rfl) (by kernel_rfl) (fun _ _ _ h => h) (Or.inl ⟨by rfl, ?_⟩) hHeld ?_
  rotate_left
  · (intro w hSw; (try dsimp only at hSw); go_simp; (try with_reducible rfl))
  simp only [Act.put, List.setIfInBounds_toArray, List.set_cons_zero, List.set_cons_succ]
  refine take_at 34 (v := ?_) (some 112) rfl rfl (by kernel_rfl) (by kernel_rfl) (by kernel_rfl) (fun _ _ _ h => h) (Or.inl ⟨by rfl, ?_⟩) hHeld ?_
  rotate_left
  · (intro w hSw; (try dsimp only at hSw); go_simp; (try with_reducible rfl))
  simp only [Act.put, List.setIfInBounds_toArray, List.set_cons_zero, List.set_cons_succ]
  refine take_at 35 (v := ?_) (some 113) rfl rfl (by kernel_rfl) (by kernel_rfl) (by kernel_rfl) (fun _ _ _ h => h) (Or.inl ⟨by rfl, ?_⟩) hHeld ?_
  rotate_left
  · (intro w hSw; (try dsimp only at hSw); go_simp; (try with_reducible rfl))
  simp only [Act.put, List.setIfInBounds_toArray, List.set_cons_zero, List.set_cons_succ]
  refine take_at 36 (v := ?_) (some 6) rfl rfl (by kernel_rfl) (by kernel_rfl) (by kernel_rfl) (fun _ _ _ h => h) (Or.inl ⟨by rfl, ?_⟩) hHeld ?_
  rotate_left
  · (intro w hSw; (try dsimp only at hSw); go_simp; (try with_reducible rfl))
  simp only [Act.put, List.setIfInBounds_toArray, List.set_cons_zero, List.set_cons_succ]
  refine wpAnyH_done (by kernel_rfl) ?_ _
  have HFF := Lib.hid (show Fr [pb, rb, g, gw] w v2 from ((Fr.of (S := [pb, rb, g, gw]) HB0.out).trans (HF1.out.mono (by simp))).trans (HF2.out.mono (by simp)))
  clear hHeld
  go_wp2_with fail
  go_ret
  exact ⟨rfl, HP2.out, HR2.out, HM2.out, HW2.out, HFF.out⟩

set_option maxHeartbeats 3200000 in
set_option maxRecDepth 100000 in
theorem move4 (x y : OpS) (pb rb b g bw gw : Nat) (zs zz : List Int) (w : World) (hy : opX (adr x.v) 6 x zs = y) (hzz : opZ (adr x.v) 6 x zs = zz) (hk : x.k ≠ 1 ∧ x.k ≠ 2 ∧ x.k ≠ 3) (hok : OkS x) (hz : w64 zs) (hp : pb4 w pb x) (hr : RB w rb 1 6 x) (hm : Pm w b g zs) (hw : Rm w bw gw zs) (hgg : g ≠ gw) :
    Calls Try.prog 91 #[.agg #[.pointer none, .pointer none, .pointer none, .pointer (some ⟨pb, 0, none⟩), .pointer (some ⟨rb, 0, none⟩)], .pointer (some ⟨b, 0, none⟩), .pointer (some ⟨bw, 0, none⟩)] w fun e w' => e = .returned (.bool true) ∧ pb4 w' pb y ∧ RB w' rb 1 6 y ∧ Pm w' b g zz ∧ Rm w' bw gw zz ∧ Fr [pb, rb, g, gw] w w' := by
  have HY := Lib.hid hy
  have HZZ := Lib.hid hzz
  have HKX := Lib.hid hk
  have HOK := Lib.hid hok
  have HZ := Lib.hid hz
  obtain ⟨W0, hW0⟩ : ∃ W0, W0 = w.alloc (.cells #[.pointer none, .pointer none, .pointer none, .pointer (some ⟨pb, 0, none⟩), .pointer (some ⟨rb, 0, none⟩)] 153) := ⟨_, rfl⟩
  have b0 : Below w.heap.size w W0 := by rw [hW0]; exact (Below.refl _ _).alloc (Nat.le_refl _) _
  have HB0 := Lib.hid b0
  have ho : Bk W0 w.heap.size 153 [.pointer none, .pointer none, .pointer none, .pointer (some ⟨pb, 0, none⟩), .pointer (some ⟨rb, 0, none⟩)] := by rw [hW0]; exact Bk.new w 153 [_, _, _, _, _]
  have o0 : W0.cell? ⟨w.heap.size, 0, none⟩ = some (.pointer none) := ho.cell 0
  have o1 : W0.cell? ⟨w.heap.size, 1, none⟩ = some (.pointer none) := ho.cell 1
  have o2 : W0.cell? ⟨w.heap.size, 2, none⟩ = some (.pointer none) := ho.cell 2
  have HO0 := Lib.hid (show W0.cell? ⟨w.heap.size, 3, none⟩ = some (.pointer (some ⟨pb, 0, none⟩)) ∧ W0.cell? ⟨w.heap.size, 4, none⟩ = some (.pointer (some ⟨rb, 0, none⟩)) from ⟨ho.cell 3, ho.cell 4⟩)
  have HP0 := Lib.hid (show pb4 W0 pb x from Bk.below hp b0)
  have HR0 := Lib.hid (show RB W0 rb 1 6 x from Bk.below hr b0)
  have HM0 := Lib.hid (hm.below b0)
  have HW0 := Lib.hid (hw.below b0)
  have l1 := Bk.lt hp
  have l2 := Bk.lt hr
  have l3 := hm.1.lt
  have l4 := hm.2.1.lt
  have l5 := hw.1.lt
  have l6 := hw.2.1.lt
  have HNR := Lib.hid (show rb ∉ [pb, g] ∧ bw ∉ [pb, g] ∧ gw ∉ [pb, g] ∧ w.heap.size ∉ [pb, g] from ⟨by simp; exact ⟨Bk.ne hr hp (by decide), Bk.ne hr hm.2.1 (by decide)⟩, by simp; exact ⟨Bk.ne hw.1 hp (by decide), Bk.ne hw.1 hm.2.1 (by decide)⟩, by simp; exact ⟨Bk.ne hw.2.1 hp (by decide), fun e => hgg e.symm⟩, by simp; omega⟩)
  have HNP := Lib.hid (show pb ∉ [rb, gw] ∧ b ∉ [rb, gw] ∧ g ∉ [rb, gw] ∧ w.heap.size ∉ [rb, gw] from ⟨by simp; exact ⟨Bk.ne hp hr (by decide), Bk.ne hp hw.2.1 (by decide)⟩, by simp; exact ⟨Bk.ne hm.1 hr (by decide), Bk.ne hm.1 hw.2.1 (by decide)⟩, by simp; exact ⟨Bk.ne hm.2.1 hr (by decide), hgg⟩, by simp; omega⟩)
  clear hy hzz hk hok hz hp hr hm hw b0 l1 l2 l3 l4 l5 l6 ho
  go_enter Try.func91, Try.ntmps91
  go_wp2_with fail
  simp only [← hW0]
  clear hW0 o0 o1 o2
  refine wp_region_held_drew (S := (fun w' => w'.cell? ⟨w.heap.size, 3, none⟩ = some (.pointer (some ⟨pb, 0, none⟩)) ∧ w'.cell? ⟨w.heap.size, 4, none⟩ = some (.pointer (some ⟨rb, 0, none⟩)))) (by kernel_rfl) ?_ (fun hHeld => ?_)
  · exact ⟨HO0.out.1, HO0.out.2⟩
  refine take_at 0 (v := ?_) (some 114) rfl rfl (by kernel_rfl) (by kernel_rfl) (by kernel_rfl) (fun _ _ _ h => h) (Or.inl ⟨by rfl, ?_⟩) hHeld ?_
  rotate_left
  · (intro w hSw; (try dsimp only at hSw); go_simp; (try with_reducible rfl))
  simp only [Act.put, List.setIfInBounds_toArray, List.set_cons_zero, List.set_cons_succ]
  refine take_at 1 (v := ?_) (some 115) rfl rfl (by kernel_rfl) (by kernel_rfl) (by kernel_rfl) (fun _ _ _ h => h) (Or.inl ⟨by rfl, ?_⟩) hHeld ?_
  rotate_left
  · (intro w hSw; (try dsimp only at hSw); go_simp; (try with_reducible rfl))
  simp only [Act.put, List.setIfInBounds_toArray, List.set_cons_zero, List.set_cons_succ]
  refine take_at 2 (v := ?_) (some 116) rfl rfl (by kernel_rfl) (by kernel_rfl) (by kernel_rfl) (fun _ _ _ h => h) (Or.inl ⟨by rfl, ?_⟩) hHeld ?_
  rotate_left
  · (intro w hSw; (try dsimp only at hSw); go_simp; (try with_reducible rfl))
  simp only [Act.put, List.setIfInBounds_toArray, List.set_cons_zero, List.set_cons_succ]
  refine take_at 3 (v := ?_) (some 117) rfl rfl (by kernel_rfl) (by kernel_rfl) (by kernel_rfl) (fun _ _ _ h => h) (Or.inl ⟨by rfl, ?_⟩) hHeld ?_
  rotate_left
  · (intro w hSw; (try dsimp only at hSw); go_simp; (try with_reducible rfl))
  simp only [Act.put, List.setIfInBounds_toArray, List.set_cons_zero, List.set_cons_succ]
  refine take_at 5 (v := ?_) (some 119) rfl rfl (by kernel_rfl) (by kernel_rfl) (by kernel_rfl) (fun _ _ _ h => h) (Or.inl ⟨by rfl, ?_⟩) hHeld ?_
  rotate_left
  · (intro w hSw; (try dsimp only at hSw); go_simp; (try with_reducible rfl))
  simp only [Act.put, List.setIfInBounds_toArray, List.set_cons_zero, List.set_cons_succ]
  refine take_at 6 (v := ?_) (some 120) rfl rfl (by kernel_rfl) (by kernel_rfl) (by kernel_rfl) (fun _ _ _ h => h) (Or.inl ⟨by rfl, ?_⟩) hHeld ?_
  rotate_left
  · (intro w hSw; (try dsimp only at hSw); go_simp; (try with_reducible rfl))
  simp only [Act.put, List.setIfInBounds_toArray, List.set_cons_zero, List.set_cons_succ]
  refine take_at 7 (v := ?_) (some 121) rfl rfl (by kernel_rfl) (by kernel_rfl) (by kernel_rfl) (fun _ _ _ h => h) (Or.inl ⟨by rfl, ?_⟩) hHeld ?_
  rotate_left
  · (intro w hSw; (try dsimp only at hSw); go_simp; (try with_reducible rfl))
  simp only [Act.put, List.setIfInBounds_toArray, List.set_cons_zero, List.set_cons_succ]
  refine wpAnyH_ready (rs := [4]) (by kernel_rfl) (by simp) ?_
  refine AllReadyH.cons rfl (fun K hK => ?_) AllReadyH.nil
  go_simp
  refine (p4_y x y pb b g zs zz _ HY.out HZZ.out HKX.out HOK.out HZ.out (show pb4 W0.drew pb x from HP0.out) (show Pm W0.drew b g zs from HM0.out)).mono ?_
  rintro e v1 ⟨rfl, hp, hm, hf⟩
  have HP1 := Lib.hid hp
  have HM1 := Lib.hid hm
  have HF1 := Lib.hid (show Fr [pb, g] W0 v1 from ((Fr.refl [pb, g] W0).drew).trans hf)
  have HR1 := Lib.hid (HR0.out.fr HF1.out HNR.out.1)
  have HW1 := Lib.hid (rmfr HW0.out HF1.out HNR.out.2.1 HNR.out.2.2.1)
  clear hp hm hf
  go_wp2_with fail
  refine hK.out _ _ ?_ (fun hHeld => ?_)
  · exact ⟨cell_fr HO0.out.1 HF1.out HNR.out.2.2.2, cell_fr HO0.out.2 HF1.out HNR.out.2.2.2⟩
  clear hK K
  try simp only [Act.put, List.setIfInBounds_toArray, List.set_cons_zero, List.set_cons_succ]
  refine wpAnyH_ready (rs := [8]) (by kernel_rfl) (by simp) ?_
  refine AllReadyH.cons rfl (fun K hK => ?_) AllReadyH.nil
  go_simp
  refine (r_y x y rb bw gw zs zz v1 HY.out HZZ.out HOK.out HR1.out HW1.out).mono ?_
  rintro e v2 ⟨rfl, hr, hw, hf⟩
  have HR2 := Lib.hid hr
  have HW2 := Lib.hid hw
  have HF2 := Lib.hid hf
  have HP2 := Lib.hid (show pb4 v2 pb y from Bk.fr HP1.out hf HNP.out.1)
  have HM2 := Lib.hid (show Pm v2 b g zz from ⟨HM1.out.1.fr hf HNP.out.2.1, HM1.out.2.1.fr hf HNP.out.2.2.1, HM1.out.2.2⟩)
  clear hr hw hf
  go_wp2_with fail
  refine hK.out _ _ ?_ (fun hHeld => ?_)
  · exact ⟨cell_fr hHeld.1 HF2.out HNP.out.2.2.2, cell_fr hHeld.2 HF2.out HNP.out.2.2.2⟩
  clear hK K
  try simp only [Act.put, List.setIfInBounds_toArray, List.set_cons_zero, List.set_cons_succ]
  refine wpAnyH_weaken (S' := (fun w' => (w'.cell? ⟨w.heap.size, 3, none⟩ = some (.pointer (some ⟨pb, 0, none⟩)) ∧ w'.cell? ⟨w.heap.size, 4, none⟩ = some (.pointer (some ⟨rb, 0, none⟩))) ∧ w'.cell? ⟨pb, 2, none⟩ = some (.bool y.is) ∧ w'.cell? ⟨pb, 3, none⟩ = some (.bool y.ended) ∧ w'.cell? ⟨rb, 7, none⟩ = some (.bool y.is) ∧ w'.cell? ⟨rb, 6, none⟩ = some (.bool y.ended))) (fun _ h => h.1) _ _ _ _ ?_
  replace hHeld : (fun w' => (w'.cell? ⟨w.heap.size, 3, none⟩ = some (.pointer (some ⟨pb, 0, none⟩)) ∧ w'.cell? ⟨w.heap.size, 4, none⟩ = some (.pointer (some ⟨rb, 0, none⟩))) ∧ w'.cell? ⟨pb, 2, none⟩ = some (.bool y.is) ∧ w'.cell? ⟨pb, 3, none⟩ = some (.bool y.ended) ∧ w'.cell? ⟨rb, 7, none⟩ = some (.bool y.is) ∧ w'.cell? ⟨rb, 6, none⟩ = some (.bool y.ended)) v2 := ⟨hHeld, HP2.out.cell 2, HP2.out.cell 3, HR2.out.cell 7, HR2.out.cell 6⟩
  refine take_at 9 (v := ?_) (some 123) rfl rfl (by kernel_rfl) (by kernel_rfl) (by kernel_rfl) (fun _ _ _ h => h) (Or.inl ⟨by rfl, ?_⟩) hHeld ?_
  rotate_left
  · (intro w hSw; (try dsimp only at hSw); go_simp; (try with_reducible rfl))
  simp only [Act.put, List.setIfInBounds_toArray, List.set_cons_zero, List.set_cons_succ]
  refine take_at 10 (v := ?_) (some 124) rfl rfl (by kernel_rfl) (by kernel_rfl) (by kernel_rfl) (fun _ _ _ h => h) (Or.inl ⟨by rfl, ?_⟩) hHeld ?_
  rotate_left
  · (intro w hSw; (try dsimp only at hSw); go_simp; (try with_reducible rfl))
  simp only [Act.put, List.setIfInBounds_toArray, List.set_cons_zero, List.set_cons_succ]
  refine take_at 11 (v := ?_) (some 125) rfl rfl (by kernel_rfl) (by kernel_rfl) (by kernel_rfl) (fun _ _ _ h => h) (Or.inl ⟨by rfl, ?_⟩) hHeld ?_
  rotate_left
  · (intro w hSw; (try dsimp only at hSw); go_simp; (try with_reducible rfl))
  simp only [Act.put, List.setIfInBounds_toArray, List.set_cons_zero, List.set_cons_succ]
  refine take_at 12 (v := ?_) (some 126) rfl rfl (by kernel_rfl) (by kernel_rfl) (by kernel_rfl) (fun _ _ _ h => h) (Or.inl ⟨by rfl, ?_⟩) hHeld ?_
  rotate_left
  · (intro w hSw; (try dsimp only at hSw); go_simp; (try with_reducible rfl))
  simp only [Act.put, List.setIfInBounds_toArray, List.set_cons_zero, List.set_cons_succ]
  refine take_at 13 (v := ?_) (some 127) rfl rfl (by kernel_rfl) (by kernel_rfl) (by kernel_rfl) (fun _ _ _ h => h) (Or.inl ⟨by rfl, ?_⟩) hHeld ?_
  rotate_left
  · (intro w hSw; (try dsimp only at hSw); go_simp; (try with_reducible rfl))
  simp only [Act.put, List.setIfInBounds_toArray, List.set_cons_zero, List.set_cons_succ]
  refine take_at 14 (v := ?_) (some 128) rfl rfl (by kernel_rfl) (by kernel_rfl) (by kernel_rfl) (fun _ _ _ h => h) (Or.inl ⟨by rfl, ?_⟩) hHeld ?_
  rotate_left
  · (intro w hSw; (try dsimp only at hSw); go_simp; (try with_reducible rfl))
  simp only [Act.put, List.setIfInBounds_toArray, List.set_cons_zero, List.set_cons_succ]
  refine take_at 15 (v := ?_) (some 129) rfl rfl (by kernel_rfl) (by kernel_rfl) (by kernel_rfl) (fun _ _ _ h => h) (Or.inl ⟨by rfl, ?_⟩) hHeld ?_
  rotate_left
  · (intro w hSw; (try dsimp only at hSw); go_simp; (try with_reducible rfl))
  simp only [Act.put, List.setIfInBounds_toArray, List.set_cons_zero, List.set_cons_succ]
  refine take_at 16 (v := ?_) (some 130) rfl rfl (by kernel_rfl) (by kernel_rfl) (by kernel_rfl) (fun _ _ _ h => h) (Or.inl ⟨by rfl, ?_⟩) hHeld ?_
  rotate_left
  · (intro w hSw; (try dsimp only at hSw); go_simp; (try with_reducible rfl))
  simp only [Act.put, List.setIfInBounds_toArray, List.set_cons_zero, List.set_cons_succ]
  refine take_at 17 (v := ?_) (some 131) rfl rfl (by kernel_rfl) (by kernel_rfl) (by kernel_rfl) (fun _ _ _ h => h) (Or.inl ⟨by rfl, ?_⟩) hHeld ?_
  rotate_left
  · (intro w hSw; (try dsimp only at hSw); go_simp; (try with_reducible rfl))
  simp only [Act.put, List.setIfInBounds_toArray, List.set_cons_zero, List.set_cons_succ]
  refine take_at 18 (v := ?_) (some 132) rfl rfl (by kernel_rfl) (by kernel_rfl) (by kernel_rfl) (fun _ _ _ h => h) (Or.inl ⟨by rfl, ?_⟩) hHeld ?_
  rotate_left
  · (intro w hSw; (try dsimp only at hSw); go_simp; (try with_reducible rfl))
  simp only [Act.put, List.setIfInBounds_toArray, List.set_cons_zero, List.set_cons_succ]
  refine take_at 19 (v := ?_) (some 133) rfl rfl (by kernel_rfl) (by kernel_rfl) (by kernel_rfl) (fun _ _ _ h => h) (Or.inl ⟨by rfl, ?_⟩) hHeld ?_
  rotate_left
  · (intro w hSw; (try dsimp only at hSw); go_simp; (try with_reducible rfl))
  simp only [Act.put, List.setIfInBounds_toArray, List.set_cons_zero, List.set_cons_succ]
  refine take_at 20 (v := ?_) (some 134) rfl rfl (by kernel_rfl) (by kernel_rfl) (by kernel_rfl) (fun _ _ _ h => h) (Or.inl ⟨by rfl, ?_⟩) hHeld ?_
  rotate_left
  · (intro w hSw; (try dsimp only at hSw); go_simp; (try with_reducible rfl))
  simp only [Act.put, List.setIfInBounds_toArray, List.set_cons_zero, List.set_cons_succ]
  refine take_at 21 (v := ?_) (some 135) rfl rfl (by kernel_rfl) (by kernel_rfl) (by kernel_rfl) (fun _ _ _ h => h) (Or.inl ⟨by rfl, ?_⟩) hHeld ?_
  rotate_left
  · (intro w hSw; (try dsimp only at hSw); go_simp; (try with_reducible rfl))
  simp only [Act.put, List.setIfInBounds_toArray, List.set_cons_zero, List.set_cons_succ]
  refine take_at 22 (v := ?_) (some 136) rfl rfl (by kernel_rfl) (by kernel_rfl) (by kernel_rfl) (fun _ _ _ h => h) (Or.inl ⟨by rfl, ?_⟩) hHeld ?_
  rotate_left
  · (intro w hSw; (try dsimp only at hSw); go_simp; (try with_reducible rfl))
  simp only [Act.put, List.setIfInBounds_toArray, List.set_cons_zero, List.set_cons_succ]
  refine take_at 23 (v := ?_) (some 137) rfl rfl (by kernel_rfl) (by kernel_rfl) (by kernel_rfl) (fun _ _ _ h => h) (Or.inl ⟨by rfl, ?_⟩) hHeld ?_
  rotate_left
  · (intro w hSw; (try dsimp only at hSw); go_simp; (try with_reducible rfl))
  simp only [Act.put, List.setIfInBounds_toArray, List.set_cons_zero, List.set_cons_succ]
  refine take_at 24 (v := ?_) (some 138) rfl rfl (by kernel_rfl) (by kernel_rfl) (by kernel_rfl) (fun _ _ _ h => h) (Or.inl ⟨by rfl, ?_⟩) hHeld ?_
  rotate_left
  · (intro w hSw; (try dsimp only at hSw); go_simp; (try with_reducible rfl))
  simp only [Act.put, List.setIfInBounds_toArray, List.set_cons_zero, List.set_cons_succ]
  refine take_at 25 (v := ?_) (some 139) rfl rfl (by kernel_rfl) (by kernel_rfl) (by kernel_rfl) (fun _ _ _ h => h) (Or.inl ⟨by rfl, ?_⟩) hHeld ?_
  rotate_left
  · (intro w hSw; (try dsimp only at hSw); go_simp; (try with_reducible rfl))
  simp only [Act.put, List.setIfInBounds_toArray, List.set_cons_zero, List.set_cons_succ]
  refine take_at 26 (v := ?_) (some 140) rfl rfl (by kernel_rfl) (by kernel_rfl) (by kernel_rfl) (fun _ _ _ h => h) (Or.inl ⟨by rfl, ?_⟩) hHeld ?_
  rotate_left
  · (intro w hSw; (try dsimp only at hSw); go_simp; (try with_reducible rfl))
  simp only [Act.put, List.setIfInBounds_toArray, List.set_cons_zero, List.set_cons_succ]
  refine take_at 27 (v := ?_) (some 141) rfl rfl (by kernel_rfl) (by kernel_rfl) (by kernel_rfl) (fun _ _ _ h => h) (Or.inl ⟨by rfl, ?_⟩) hHeld ?_
  rotate_left
  · (intro w hSw; (try dsimp only at hSw); go_simp; (try with_reducible rfl))
  simp only [Act.put, List.setIfInBounds_toArray, List.set_cons_zero, List.set_cons_succ]
  refine take_at 28 (v := ?_) (some 142) rfl rfl (by kernel_rfl) (by kernel_rfl) (by kernel_rfl) (fun _ _ _ h => h) (Or.inl ⟨by rfl, ?_⟩) hHeld ?_
  rotate_left
  · (intro w hSw; (try dsimp only at hSw); go_simp; (try with_reducible rfl))
  simp only [Act.put, List.setIfInBounds_toArray, List.set_cons_zero, List.set_cons_succ]
  refine take_at 29 (v := ?_) (some 143) rfl rfl (by kernel_rfl) (by kernel_rfl) (by kernel_rfl) (fun _ _ _ h => h) (Or.inl ⟨by rfl, ?_⟩) hHeld ?_
  rotate_left
  · (intro w hSw; (try dsimp only at hSw); go_simp; (try with_reducible rfl))
  simp only [Act.put, List.setIfInBounds_toArray, List.set_cons_zero, List.set_cons_succ]
  refine take_at 30 (v := ?_) (some 144) rfl rfl (by kernel_rfl) (by kernel_rfl) (by kernel_rfl) (fun _ _ _ h => h) (Or.inl ⟨by rfl, ?_⟩) hHeld ?_
  rotate_left
  · (intro w hSw; (try dsimp only at hSw); go_simp; (try with_reducible rfl))
  simp only [Act.put, List.setIfInBounds_toArray, List.set_cons_zero, List.set_cons_succ]
  refine take_at 31 (v := ?_) (some 145) rfl rfl (by kernel_rfl) (by kernel_rfl) (by kernel_rfl) (fun _ _ _ h => h) (Or.inl ⟨by rfl, ?_⟩) hHeld ?_
  rotate_left
  · (intro w hSw; (try dsimp only at hSw); go_simp; (try with_reducible rfl))
  simp only [Act.put, List.setIfInBounds_toArray, List.set_cons_zero, List.set_cons_succ]
  refine take_at 32 (v := ?_) (some 146) rfl rfl (by kernel_rfl) (by kernel_rfl) (by kernel_rfl) (fun _ _ _ h => h) (Or.inl ⟨by rfl, ?_⟩) hHeld ?_
  rotate_left
  · (intro w hSw; (try dsimp only at hSw); go_simp; (try with_reducible rfl))
  simp only [Act.put, List.setIfInBounds_toArray, List.set_cons_zero, List.set_cons_succ]
  refine take_at 33 (v := ?_) (some 147) rfl rfl (by kernel_rfl) (by kernel_rfl) (by kernel_rfl) (fun _ _ _ h => h) (Or.inl ⟨by rfl, ?_⟩) hHeld ?_
  rotate_left
  · (intro w hSw; (try dsimp only at hSw); go_simp; (try with_reducible rfl))
  simp only [Act.put, List.setIfInBounds_toArray, List.set_cons_zero, List.set_cons_succ]
  refine take_at 34 (v := ?_) (some 148) rfl rfl (by kernel_rfl) (by kernel_rfl) (by kernel_rfl) (fun _ _ _ h => h) (Or.inl ⟨by rfl, ?_⟩) hHeld ?_
  rotate_left
  · (intro w hSw; (try dsimp only at hSw); go_simp; (try with_reducible rfl))
  simp only [Act.put, List.setIfInBounds_toArray, List.set_cons_zero, List.set_cons_succ]
  refine take_at 35 (v := ?_) (some 149) rfl rfl (by kernel_rfl) (by kernel_rfl) (by kernel_rfl) (fun _ _ _ h => h) (Or.inl ⟨by rfl, ?_⟩) hHeld ?_
  rotate_left
  · (intro w hSw; (try dsimp only at hSw); go_simp; (try with_reducible rfl))
  simp only [Act.put, List.setIfInBounds_toArray, List.set_cons_zero, List.set_cons_succ]
  refine take_at 36 (v := ?_) (some 6) rfl rfl (by kernel_rfl) (by kernel_rfl) (by kernel_rfl) (fun _ _ _ h => h) (Or.inl ⟨by rfl, ?_⟩) hHeld ?_
  rotate_left
  · (intro w hSw; (try dsimp only at hSw); go_simp; (try with_reducible rfl))
  simp only [Act.put, List.setIfInBounds_toArray, List.set_cons_zero, List.set_cons_succ]
  refine wpAnyH_done (by kernel_rfl) ?_ _
  have HFF := Lib.hid (show Fr [pb, rb, g, gw] w v2 from ((Fr.of (S := [pb, rb, g, gw]) HB0.out).trans (HF1.out.mono (by simp))).trans (HF2.out.mono (by simp)))
  clear hHeld
  go_wp2_with fail
  go_ret
  exact ⟨rfl, HP2.out, HR2.out, HM2.out, HW2.out, HFF.out⟩


end Go.Proofs.Yteheckcflnogbaa
