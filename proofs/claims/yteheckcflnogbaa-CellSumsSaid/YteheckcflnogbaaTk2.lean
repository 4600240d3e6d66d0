/-
  ticket.Take.Step whole; nobody's; Board.Waits, Number; soughlaw31.awake: contracts. Written by wip/gen/mktk2.py.
-/
import Derived.Test.YteheckcflnogbaaTk
import Derived.Deep.RegionHeld3
namespace Go.Proofs.Yteheckcflnogbaa
open Go.RowKit


theorem or_bel (t : TypeId) (v : Value) (w : World) : Calls Try.prog 126 #[.iface t v] w fun e w' => e = .returned (.iface t v) ∧ Below w.heap.size w w' := (or_some t v w).mono fun _ _ ⟨h1, h2⟩ => ⟨h1, h2 ▸ Below.refl _ _⟩

set_option maxHeartbeats 3200000 in
set_option maxRecDepth 100000 in
theorem tkstep_any (d f c v : Int) (tb b g : Nat) (x : TkS) (zs : List Int) (w : World) (h : Tk w tb f c v x) (hm : Pm w b g zs) (hf : 0 ≤ f ∧ f ≤ 1000) (hv : 0 ≤ v ∧ v ≤ 1000) :
    Calls Try.prog 150 #[.pointer (some ⟨tb, 0, none⟩), .iface 64 (.pointer (some ⟨b, 0, none⟩)), .int .i64 d] w fun e w' => e = .returned (.bool (tkB f v x zs)) ∧ Tk w' tb f c v (tkX f c v x zs) ∧ Pm w' b g (tkZ f v x zs) ∧ Fr [tb, g] w w' := by
  cases he : x.ended with
  | true => exact tkstep_end d f c v tb b g x zs w h hm he
  | false =>
    cases ht : x.taken with
    | true => exact tkstep_waits d f c v tb b g x zs w h hm he ht
    | false => exact tkstep_try d f c v tb b g x zs w h hm he ht hf hv

set_option maxHeartbeats 3200000 in
set_option maxRecDepth 100000 in
theorem tkstep_none (m : Value) (d : Int) (w : World) :
    Calls Try.prog 150 #[.pointer none, m, .int .i64 d] w fun e w' => e = .returned (.bool true) ∧ w' = w := by
  go_enter Try.func150, Try.ntmps150
  go_wp2_with fail
  refine wp_scope_via 1 ?_
  go_wp2_with fail
  first | rw [via_ret] | skip
  go_ret
  exact ⟨rfl, rfl⟩

set_option maxHeartbeats 3200000 in
set_option maxRecDepth 100000 in
theorem waits_any (f c v : Int) (b g : Nat) (zs : List Int) (w : World) (h : Pm w b g zs) (hf : 0 ≤ f ∧ f ≤ 1000) (hv : 0 ≤ v ∧ v ≤ 1000) :
    Calls Try.prog 93 #[.agg #[.int .i64 f, .int .i64 c], .iface 64 (.pointer (some ⟨b, 0, none⟩)), .int .i64 v] w fun e w' => e = .returned (.bool (ldv zs (f + v) == 1)) ∧ Below w.heap.size w w' := by
  have HM := Lib.hid h
  have hm := m_load
  have c0 : (w.alloc (.cells #[.int .i64 f, .int .i64 c] 145)).cell? ⟨w.heap.size, 0, none⟩ = some (.int .i64 f) := (Bk.new w 145 [.int .i64 f, .int .i64 c]).cell 0
  have B0 := Lib.hid ((Below.refl w.heap.size w).alloc (Nat.le_refl _) (.cells #[.int .i64 f, .int .i64 c] 145))
  obtain ⟨hf0, hf1⟩ := hf
  obtain ⟨hv0, hv1⟩ := hv
  clear h
  have hsum : IntKind.i64.wrap (f + v) = f + v := IntWalk.i64_in _ (by omega)
  go_enter Try.func93, Try.ntmps93
  go_wp2_with fail
  go_region_held3 (fun w' => w'.cell? ⟨w.heap.size, 0, none⟩ = some (.int .i64 f) ∧ Below w.heap.size w w')
    (first
      | exact ⟨c0, B0.out.drew⟩
      | (go_split_ands; exact ⟨keepc (by assumption) hB, (show Below w.heap.size w _ by assumption).trans (hB.mono (show Below w.heap.size w _ by assumption).size)⟩))
    (first
      | (go_at_call 126; go_split_ands; refine (or_bel _ _ _).mono ?_; rintro e v1 ⟨rfl, hB⟩)
      | (go_at_call 87; go_split_ands; refine (load_any (f + v) b g zs _ (HM.out.below (by assumption))).mono ?_; rintro e v2 ⟨rfl, hB⟩))
  go_split_ands
  have B1 := Lib.hid (show Below w.heap.size w _ from by assumption)
  go_wp2_with fail
  go_ret
  exact ⟨rfl, B1.out⟩

set_option maxHeartbeats 3200000 in
set_option maxRecDepth 100000 in
theorem number_any (f c : Int) (b g : Nat) (zs : List Int) (w : World) (h : Pm w b g zs) :
    Calls Try.prog 92 #[.agg #[.int .i64 f, .int .i64 c], .iface 64 (.pointer (some ⟨b, 0, none⟩))] w fun e w' => e = .returned (.int .i64 (IntKind.i64.wrap (ldv zs c))) ∧ Below w.heap.size w w' := by
  have HM := Lib.hid h
  have hm := m_load
  have c0 : (w.alloc (.cells #[.int .i64 f, .int .i64 c] 145)).cell? ⟨w.heap.size, 1, none⟩ = some (.int .i64 c) := (Bk.new w 145 [.int .i64 f, .int .i64 c]).cell 1
  have B0 := Lib.hid ((Below.refl w.heap.size w).alloc (Nat.le_refl _) (.cells #[.int .i64 f, .int .i64 c] 145))
  clear h
  go_enter Try.func92, Try.ntmps92
  go_wp2_with fail
  go_region_held3 (fun w' => w'.cell? ⟨w.heap.size, 1, none⟩ = some (.int .i64 c) ∧ Below w.heap.size w w')
    (first
      | exact ⟨c0, B0.out.drew⟩
      | (go_split_ands; exact ⟨keepc (by assumption) hB, (show Below w.heap.size w _ by assumption).trans (hB.mono (show Below w.heap.size w _ by assumption).size)⟩))
    (first
      | (go_at_call 126; go_split_ands; refine (or_bel _ _ _).mono ?_; rintro e v1 ⟨rfl, hB⟩)
      | (go_at_call 87; go_split_ands; refine (load_any c b g zs _ (HM.out.below (by assumption))).mono ?_; rintro e v2 ⟨rfl, hB⟩))
  go_split_ands
  have B1 := Lib.hid (show Below w.heap.size w _ from by assumption)
  go_wp2_with fail
  go_ret
  exact ⟨rfl, B1.out⟩

set_option maxHeartbeats 3200000 in
set_option maxRecDepth 100000 in
theorem awake31_any (w : World) :
    Calls Try.prog 89 #[] w fun e w' => e = .returned (.bool true) ∧ Below w.heap.size w w' := by
  go_enter Try.func89, Try.ntmps89
  go_wp2_with fail
  refine (newPlain_any _ _).mono ?_
  rintro e w1 ⟨b, g, rfl, hP, hB, hb, hg⟩
  rw [show List.replicate (memn 3) (0 : Int) = [0, 0, 0] from rfl] at hP
  have hbl := hP.1.lt
  have hgl := hP.2.1.lt
  have hs1 := hB.size
  have kb : Bk (((w1.alloc (.cells #[.int .i64 0, .int .i64 2] 145)).alloc (.cells #[.int .i64 0, .int .i64 2, .int .i64 1, .bool false, .bool false, .int .i64 0, .bool false] 225)).alloc (.cells #[.int .i64 0, .int .i64 2, .int .i64 1, .bool false, .bool false, .int .i64 0, .bool false] 225)) w1.heap.size 145 [.int .i64 0, .int .i64 2] := ((Bk.new w1 145 [_, _]).alloc _).alloc _
  have kt : Tk (((w1.alloc (.cells #[.int .i64 0, .int .i64 2] 145)).alloc (.cells #[.int .i64 0, .int .i64 2, .int .i64 1, .bool false, .bool false, .int .i64 0, .bool false] 225)).alloc (.cells #[.int .i64 0, .int .i64 2, .int .i64 1, .bool false, .bool false, .int .i64 0, .bool false] 225)) (w1.heap.size + 1) 0 2 1 ⟨false, false, 0, false⟩ := Bk.alloc (Bk.new' _ 225 [_, _, _, _, _, _, _] (by simp)) _
  have ku : Tk (((w1.alloc (.cells #[.int .i64 0, .int .i64 2] 145)).alloc (.cells #[.int .i64 0, .int .i64 2, .int .i64 1, .bool false, .bool false, .int .i64 0, .bool false] 225)).alloc (.cells #[.int .i64 0, .int .i64 2, .int .i64 1, .bool false, .bool false, .int .i64 0, .bool false] 225)) (w1.heap.size + 1 + 1) 0 2 1 ⟨false, false, 0, false⟩ := Bk.new' _ 225 [_, _, _, _, _, _, _] (by simp)
  have hB3 := (((Below.refl w1.heap.size w1).alloc (Nat.le_refl _) (.cells #[.int .i64 0, .int .i64 2] 145)).alloc (by simp) (.cells #[.int .i64 0, .int .i64 2, .int .i64 1, .bool false, .bool false, .int .i64 0, .bool false] 225)).alloc (by simp <;> omega) (.cells #[.int .i64 0, .int .i64 2, .int .i64 1, .bool false, .bool false, .int .i64 0, .bool false] 225)
  have HM := Lib.hid (hP.below hB3)
  have HT := Lib.hid kt
  have HU := Lib.hid ku
  have HK := Lib.hid kb
  have HF := Lib.hid (show Fr [] w _ from (Fr.of hB).trans (.of hB3))
  have HNE := Lib.hid (show w.heap.size ≤ w1.heap.size + 1 ∧ w.heap.size ≤ w1.heap.size + 1 + 1 ∧ w.heap.size ≤ g ∧ g < w1.heap.size from by omega)
  clear hP hB kb kt ku hB3 hbl hgl hs1 hb hg
  go_wp2_with fail
  refine (tkstep_any 0 0 2 1 (w1.heap.size + 1) b g ⟨false, false, 0, false⟩ [0, 0, 0] _ HT.out HM.out (by decide) (by decide)).mono ?_
  rintro e w2 ⟨rfl, hT, hP, hF⟩
  rw [show tkB 0 1 ⟨false, false, 0, false⟩ [0, 0, 0] = false from by decide]
  rw [show tkX 0 2 1 ⟨false, false, 0, false⟩ [0, 0, 0] = ⟨true, false, 2, true⟩ from by kernel_rfl] at hT
  rw [show tkZ 0 1 ⟨false, false, 0, false⟩ [0, 0, 0] = [0, 1, 0] from by decide] at hP
  have HT2 := Lib.hid hT
  have HM2 := Lib.hid hP
  have HU2 := Lib.hid (HU.out.fr hF (by have := HNE.out; simp; omega))
  have HK2 := Lib.hid (HK.out.fr hF (by have := HNE.out; simp; omega))
  have HF2 := Lib.hid (show Fr [] w w2 from HF.out.from hF (fun i hi hl => by have := HNE.out; simp at hi; omega))
  clear hT hP hF
  go_wp2_with fail
  refine (tkstep_any 0 0 2 1 (w1.heap.size + 1) b g ⟨true, false, 2, true⟩ [0, 1, 0] _ HT2.out HM2.out (by decide) (by decide)).mono ?_
  rintro e w3 ⟨rfl, hT, hP, hF⟩
  rw [show tkB 0 1 ⟨true, false, 2, true⟩ [0, 1, 0] = true from by decide]
  rw [show tkX 0 2 1 ⟨true, false, 2, true⟩ [0, 1, 0] = ⟨true, true, 2, true⟩ from by kernel_rfl] at hT
  rw [show tkZ 0 1 ⟨true, false, 2, true⟩ [0, 1, 0] = [0, 1, 1] from by decide] at hP
  obtain ⟨_, _, _, b3, _, _, _⟩ := hT.cells
  dsimp only at b3
  have HT3 := Lib.hid hT
  have HM3 := Lib.hid hP
  have HU3 := Lib.hid (HU2.out.fr hF (by have := HNE.out; simp; omega))
  have HK3 := Lib.hid (HK2.out.fr hF (by have := HNE.out; simp; omega))
  have HF3 := Lib.hid (show Fr [] w w3 from HF2.out.from hF (fun i hi hl => by have := HNE.out; simp at hi; omega))
  clear hT hP hF
  go_wp2_with fail
  refine (tkstep_any 0 0 2 1 (w1.heap.size + 1 + 1) b g ⟨false, false, 0, false⟩ [0, 1, 1] _ HU3.out HM3.out (by decide) (by decide)).mono ?_
  rintro e w4 ⟨rfl, hT, hP, hF⟩
  rw [show tkB 0 1 ⟨false, false, 0, false⟩ [0, 1, 1] = true from by decide]
  rw [show tkX 0 2 1 ⟨false, false, 0, false⟩ [0, 1, 1] = ⟨false, true, 2, false⟩ from by kernel_rfl] at hT
  rw [show tkZ 0 1 ⟨false, false, 0, false⟩ [0, 1, 1] = [0, 1, 1] from by decide] at hP
  obtain ⟨_, _, _, d3, _, _, _⟩ := hT.cells
  dsimp only at d3
  have HM4 := Lib.hid hP
  have HK4 := Lib.hid (HK3.out.fr hF (by have := HNE.out; simp; omega))
  have k0 : w4.cell? ⟨w1.heap.size, 0, none⟩ = some (.int .i64 0) := HK4.out.cell 0
  have k1 : w4.cell? ⟨w1.heap.size, 1, none⟩ = some (.int .i64 2) := HK4.out.cell 1
  have HF4 := Lib.hid (show Fr [] w w4 from HF3.out.from hF (fun i hi hl => by have := HNE.out; simp at hi; omega))
  clear hT hP hF b3
  go_wp2_with fail
  refine (waits_any 0 2 1 b g [0, 1, 1] _ HM4.out (by decide) (by decide)).mono ?_
  rintro e w5 ⟨rfl, hB⟩
  rw [show (ldv [0, 1, 1] (0 + 1) == 1) = true from by decide]
  have HM5 := Lib.hid (HM4.out.below hB)
  have HF5 := Lib.hid (HF4.out.trans (.of hB))
  have j0 := keepc k0 hB
  have j1 := keepc k1 hB
  clear hB k0 k1 d3
  go_wp2_with fail
  refine (number_any 0 2 b g [0, 1, 1] _ HM5.out).mono ?_
  rintro e w6 ⟨rfl, hB⟩
  rw [show IntKind.i64.wrap (ldv [0, 1, 1] 2) = 1 from by decide]
  have HF6 := Lib.hid (HF5.out.trans (.of hB))
  clear hB
  go_wp2_with fail
  go_ret
  exact ⟨by first | rfl | simp, HF6.out.below⟩


end Go.Proofs.Yteheckcflnogbaa
