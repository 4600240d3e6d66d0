/-
  soughlaw05.PrinterParts: the walk.
-/
import Derived.Test.YtdifegcpfpdngaaDoorPrint4
namespace Go.Proofs.YtdifegcpfpdngaaDoor
open Go.RowKit

theorem ntext_one : ntext 1 0 = [49] := by
  have h1 : Lib.itoa 1 = [49] := by
    have := Lib.itoa_nonneg 1
    rw [dec_small (by omega)] at this
    exact this
  unfold ntext
  rw [show wr 1 = 1 from by decide, show wr 0 = 0 from by decide, h1]
  rfl
theorem awake_text : stmtT 1 [120] 1 [121] [] 0 0 1 0 = [120, 32, 61, 32, 121, 32, 43, 32, 49, 59] := by
  have : atomT [] 1 0 = [49] := by unfold atomT; rw [if_pos rfl, ntext_one]
  show cat (cat (cat [120] [32, 61, 32]) (cat (cat (atomT [121] 0 0) [32, 43, 32]) (atomT [] 1 0))) [59] = _
  rw [this]
  rfl
set_option maxHeartbeats 1600000 in
set_option maxRecDepth 100000 in
theorem awake05_any (w : World) (ht : Tab w) : Calls Tryd.prog 16 #[] w fun e w' => e = .returned (.bool true) ∧ Below w.heap.size w w' := by
  have Ht := Lib.hid ht
  clear ht
  go_enter Tryd.func16, Tryd.ntmps16
  go_wp2_with fail
  refine (pstmt_any 1 [120] 1 [121] [] 0 0 1 0 _ Ht.out (by simp)).mono ?_
  rintro e w1 ⟨rfl, hB⟩
  rw [awake_text]
  have HB := Lib.hid hB
  clear hB
  go_wp2_with fail
  go_ret
  exact ⟨rfl, HB.out⟩

set_option maxHeartbeats 12800000 in
set_option maxRecDepth 100000 in
theorem printerParts_walk (s : List UInt8) (a0 b0 o1 : Int) (v1 : List UInt8) (a1 b1 : Int) (u1 : List UInt8) (c1 d1 k2 : Int) (x2 : List UInt8) (o2 : Int) (v2 : List UInt8) (a2 b2 : Int) (u2 : List UInt8) (c2 d2 k3 : Int) (v3 : List UInt8) (a3 b3 : Int) (x3 y3 : List UInt8)
    (w : World) (ht : Tab w) (hs : s.length ≤ 140737488355328 ∧ v1.length ≤ 140737488355328 ∧ u1.length ≤ 140737488355328 ∧ x2.length ≤ 140737488355328 ∧ v2.length ≤ 140737488355328 ∧ u2.length ≤ 140737488355328 ∧ v3.length ≤ 140737488355328 ∧ x3.length ≤ 140737488355328 ∧ y3.length ≤ 140737488355328) :
    Calls Tryd.prog 4 #[.agg #[.string ⟨s.toArray⟩, .int .i64 a0, .int .i64 b0], .agg #[.int .i64 o1, .string ⟨v1.toArray⟩, .int .i64 a1, .int .i64 b1, .string ⟨u1.toArray⟩, .int .i64 c1, .int .i64 d1], .agg #[.int .i64 k2, .string ⟨x2.toArray⟩, .int .i64 o2, .string ⟨v2.toArray⟩, .int .i64 a2, .int .i64 b2, .string ⟨u2.toArray⟩, .int .i64 c2, .int .i64 d2], .agg #[.int .i64 k3, .string ⟨v3.toArray⟩, .int .i64 a3, .int .i64 b3, .string ⟨x3.toArray⟩, .string ⟨y3.toArray⟩]] w fun e w' => e = .returned (.bool true) ∧ Below w.heap.size w w' := by
  have B0 := Lib.hid ((((Bk.new' w 34 [.string ⟨s.toArray⟩, .int .i64 a0, .int .i64 b0] (g := w.heap.size) (by simp)).alloc (.cells #[.int .i64 o1, .string ⟨v1.toArray⟩, .int .i64 a1, .int .i64 b1, .string ⟨u1.toArray⟩, .int .i64 c1, .int .i64 d1] 36)).alloc (.cells #[.int .i64 k2, .string ⟨x2.toArray⟩, .int .i64 o2, .string ⟨v2.toArray⟩, .int .i64 a2, .int .i64 b2, .string ⟨u2.toArray⟩, .int .i64 c2, .int .i64 d2] 38)).alloc (.cells #[.int .i64 k3, .string ⟨v3.toArray⟩, .int .i64 a3, .int .i64 b3, .string ⟨x3.toArray⟩, .string ⟨y3.toArray⟩] 40))
  have B1 := Lib.hid (((Bk.new' (w.alloc (.cells #[.string ⟨s.toArray⟩, .int .i64 a0, .int .i64 b0] 34)) 36 [.int .i64 o1, .string ⟨v1.toArray⟩, .int .i64 a1, .int .i64 b1, .string ⟨u1.toArray⟩, .int .i64 c1, .int .i64 d1] (g := w.heap.size + 1) (by simp)).alloc (.cells #[.int .i64 k2, .string ⟨x2.toArray⟩, .int .i64 o2, .string ⟨v2.toArray⟩, .int .i64 a2, .int .i64 b2, .string ⟨u2.toArray⟩, .int .i64 c2, .int .i64 d2] 38)).alloc (.cells #[.int .i64 k3, .string ⟨v3.toArray⟩, .int .i64 a3, .int .i64 b3, .string ⟨x3.toArray⟩, .string ⟨y3.toArray⟩] 40))
  have B2 := Lib.hid ((Bk.new' ((w.alloc (.cells #[.string ⟨s.toArray⟩, .int .i64 a0, .int .i64 b0] 34)).alloc (.cells #[.int .i64 o1, .string ⟨v1.toArray⟩, .int .i64 a1, .int .i64 b1, .string ⟨u1.toArray⟩, .int .i64 c1, .int .i64 d1] 36)) 38 [.int .i64 k2, .string ⟨x2.toArray⟩, .int .i64 o2, .string ⟨v2.toArray⟩, .int .i64 a2, .int .i64 b2, .string ⟨u2.toArray⟩, .int .i64 c2, .int .i64 d2] (g := w.heap.size + 2) (by simp)).alloc (.cells #[.int .i64 k3, .string ⟨v3.toArray⟩, .int .i64 a3, .int .i64 b3, .string ⟨x3.toArray⟩, .string ⟨y3.toArray⟩] 40))
  have B3 := Lib.hid (Bk.new' (((w.alloc (.cells #[.string ⟨s.toArray⟩, .int .i64 a0, .int .i64 b0] 34)).alloc (.cells #[.int .i64 o1, .string ⟨v1.toArray⟩, .int .i64 a1, .int .i64 b1, .string ⟨u1.toArray⟩, .int .i64 c1, .int .i64 d1] 36)).alloc (.cells #[.int .i64 k2, .string ⟨x2.toArray⟩, .int .i64 o2, .string ⟨v2.toArray⟩, .int .i64 a2, .int .i64 b2, .string ⟨u2.toArray⟩, .int .i64 c2, .int .i64 d2] 38)) 40 [.int .i64 k3, .string ⟨v3.toArray⟩, .int .i64 a3, .int .i64 b3, .string ⟨x3.toArray⟩, .string ⟨y3.toArray⟩] (g := w.heap.size + 3) (by simp))
  have HB0 := Lib.hid (((((Below.refl w.heap.size w).alloc (Nat.le_refl _) (.cells #[.string ⟨s.toArray⟩, .int .i64 a0, .int .i64 b0] 34)).alloc (by simp <;> omega) (.cells #[.int .i64 o1, .string ⟨v1.toArray⟩, .int .i64 a1, .int .i64 b1, .string ⟨u1.toArray⟩, .int .i64 c1, .int .i64 d1] 36)).alloc (by simp <;> omega) (.cells #[.int .i64 k2, .string ⟨x2.toArray⟩, .int .i64 o2, .string ⟨v2.toArray⟩, .int .i64 a2, .int .i64 b2, .string ⟨u2.toArray⟩, .int .i64 c2, .int .i64 d2] 38)).alloc (by simp <;> omega) (.cells #[.int .i64 k3, .string ⟨v3.toArray⟩, .int .i64 a3, .int .i64 b3, .string ⟨x3.toArray⟩, .string ⟨y3.toArray⟩] 40))
  have Ht := Lib.hid ht
  obtain ⟨z0, z1, z2, z3, z4, z5, z6, z7, z8⟩ := hs
  clear ht
  go_enter Tryd.func4, Tryd.ntmps4
  go_wp2_with fail
  refine (awake05_any _ (Ht.out.below HB0.out)).mono ?_
  rintro e w1 ⟨rfl, hB⟩
  replace B0 := Lib.hid (B0.out.below hB)
  replace B1 := Lib.hid (B1.out.below hB)
  replace B2 := Lib.hid (B2.out.below hB)
  replace B3 := Lib.hid (B3.out.below hB)
  have HB := Lib.hid (HB0.out.trans (hB.mono HB0.out.size))
  have p3 := HB.out.size
  have p0_0 := B0.out.cell 0
  have p0_1 := B0.out.cell 1
  have p0_2 := B0.out.cell 2
  have p1_0 := B1.out.cell 0
  have p1_1 := B1.out.cell 1
  have p1_2 := B1.out.cell 2
  have p1_3 := B1.out.cell 3
  have p1_4 := B1.out.cell 4
  have p1_5 := B1.out.cell 5
  have p1_6 := B1.out.cell 6
  have p2_0 := B2.out.cell 0
  have p2_1 := B2.out.cell 1
  have p2_2 := B2.out.cell 2
  have p2_3 := B2.out.cell 3
  have p2_4 := B2.out.cell 4
  have p2_5 := B2.out.cell 5
  have p2_6 := B2.out.cell 6
  have p2_7 := B2.out.cell 7
  have p2_8 := B2.out.cell 8
  have p3_0 := B3.out.cell 0
  have p3_1 := B3.out.cell 1
  have p3_2 := B3.out.cell 2
  have p3_3 := B3.out.cell 3
  have p3_4 := B3.out.cell 4
  have p3_5 := B3.out.cell 5
  clear hB HB0 p3
  by_cases h1 : 200 < s.length + v1.length + u1.length
  · have f1 : decide ((200 : Int) < (s.length : Int) + v1.length + u1.length) = true := by simp; omega
    go_wp2_with fail
    go_ret
    exact ⟨rfl, HB.out⟩
  have f1 : decide ((200 : Int) < (s.length : Int) + v1.length + u1.length) = false := by simp; omega
  by_cases h2 : 200 < x2.length + v2.length + u2.length
  · have f2 : decide ((200 : Int) < (x2.length : Int) + v2.length + u2.length) = true := by simp; omega
    go_wp2_with fail
    go_ret
    exact ⟨rfl, HB.out⟩
  have f2 : decide ((200 : Int) < (x2.length : Int) + v2.length + u2.length) = false := by simp; omega
  by_cases h3 : 200 < x3.length + y3.length + v3.length
  · have f3 : decide ((200 : Int) < (x3.length : Int) + y3.length + v3.length) = true := by simp; omega
    go_wp2_with fail
    go_ret
    exact ⟨rfl, HB.out⟩
  have f3 : decide ((200 : Int) < (x3.length : Int) + y3.length + v3.length) = false := by simp; omega
  have LE := Lib.hid (show s.length + v1.length + u1.length ≤ 200 ∧ x2.length + v2.length + u2.length ≤ 200 ∧ x3.length + y3.length + v3.length ≤ 200 from by omega)
  go_wp2_with fail
  clear h1 h2 h3 f1 f2 f3
  go_region_held3 (fun w' => w'.cell? ⟨w.heap.size, 0, none⟩ = some (.string ⟨s.toArray⟩) ∧ w'.cell? ⟨w.heap.size, 1, none⟩ = some (.int .i64 a0) ∧ w'.cell? ⟨w.heap.size, 2, none⟩ = some (.int .i64 b0) ∧ w'.cell? ⟨w.heap.size + 1, 0, none⟩ = some (.int .i64 o1) ∧ w'.cell? ⟨w.heap.size + 1, 1, none⟩ = some (.string ⟨v1.toArray⟩) ∧ w'.cell? ⟨w.heap.size + 1, 2, none⟩ = some (.int .i64 a1) ∧ w'.cell? ⟨w.heap.size + 1, 3, none⟩ = some (.int .i64 b1) ∧ w'.cell? ⟨w.heap.size + 1, 4, none⟩ = some (.string ⟨u1.toArray⟩) ∧ w'.cell? ⟨w.heap.size + 1, 5, none⟩ = some (.int .i64 c1) ∧ w'.cell? ⟨w.heap.size + 1, 6, none⟩ = some (.int .i64 d1) ∧ w'.cell? ⟨w.heap.size + 2, 0, none⟩ = some (.int .i64 k2) ∧ w'.cell? ⟨w.heap.size + 2, 1, none⟩ = some (.string ⟨x2.toArray⟩) ∧ w'.cell? ⟨w.heap.size + 2, 2, none⟩ = some (.int .i64 o2) ∧ w'.cell? ⟨w.heap.size + 2, 3, none⟩ = some (.string ⟨v2.toArray⟩) ∧ w'.cell? ⟨w.heap.size + 2, 4, none⟩ = some (.int .i64 a2) ∧ w'.cell? ⟨w.heap.size + 2, 5, none⟩ = some (.int .i64 b2) ∧ w'.cell? ⟨w.heap.size + 2, 6, none⟩ = some (.string ⟨u2.toArray⟩) ∧ w'.cell? ⟨w.heap.size + 2, 7, none⟩ = some (.int .i64 c2) ∧ w'.cell? ⟨w.heap.size + 2, 8, none⟩ = some (.int .i64 d2) ∧ w'.cell? ⟨w.heap.size + 3, 0, none⟩ = some (.int .i64 k3) ∧ w'.cell? ⟨w.heap.size + 3, 1, none⟩ = some (.string ⟨v3.toArray⟩) ∧ w'.cell? ⟨w.heap.size + 3, 2, none⟩ = some (.int .i64 a3) ∧ w'.cell? ⟨w.heap.size + 3, 3, none⟩ = some (.int .i64 b3) ∧ w'.cell? ⟨w.heap.size + 3, 4, none⟩ = some (.string ⟨x3.toArray⟩) ∧ w'.cell? ⟨w.heap.size + 3, 5, none⟩ = some (.string ⟨y3.toArray⟩) ∧ Below w.heap.size w w')
    (first
      | exact ⟨B0.out.cell 0, B0.out.cell 1, B0.out.cell 2, B1.out.cell 0, B1.out.cell 1, B1.out.cell 2, B1.out.cell 3, B1.out.cell 4, B1.out.cell 5, B1.out.cell 6, B2.out.cell 0, B2.out.cell 1, B2.out.cell 2, B2.out.cell 3, B2.out.cell 4, B2.out.cell 5, B2.out.cell 6, B2.out.cell 7, B2.out.cell 8, B3.out.cell 0, B3.out.cell 1, B3.out.cell 2, B3.out.cell 3, B3.out.cell 4, B3.out.cell 5, HB.out.drew⟩
      | (go_split_ands; exact ⟨keepc (by assumption) hB, keepc (by assumption) hB, keepc (by assumption) hB, keepc (by assumption) hB, keepc (by assumption) hB, keepc (by assumption) hB, keepc (by assumption) hB, keepc (by assumption) hB, keepc (by assumption) hB, keepc (by assumption) hB, keepc (by assumption) hB, keepc (by assumption) hB, keepc (by assumption) hB, keepc (by assumption) hB, keepc (by assumption) hB, keepc (by assumption) hB, keepc (by assumption) hB, keepc (by assumption) hB, keepc (by assumption) hB, keepc (by assumption) hB, keepc (by assumption) hB, keepc (by assumption) hB, keepc (by assumption) hB, keepc (by assumption) hB, keepc (by assumption) hB, bel_then (by assumption) hB⟩))
    (first
      | (go_at_call 17; go_split_ands; refine (patom_any _ _ _ _ (Ht.out.below (by assumption))).mono ?_; rintro e w' ⟨rfl, hB⟩)
      | (go_at_call 18; go_split_ands; refine (ratom_any _ _ _ _).mono ?_; rintro e w' ⟨rfl, hB⟩)
      | (go_at_call 19; go_split_ands; refine (pexpr_any _ _ _ _ _ _ _ _ (Ht.out.below (by assumption)) (by have := LE.out; omega)).mono ?_; rintro e w' ⟨rfl, hB⟩)
      | (go_at_call 20; go_split_ands; refine (rexpr_any _ _ _ _ _ _ _ _ (by have := LE.out; omega)).mono ?_; rintro e w' ⟨rfl, hB⟩)
      | (go_at_call 21; go_split_ands; refine (pstmt_any _ _ _ _ _ _ _ _ _ _ (Ht.out.below (by assumption)) (by have := LE.out; omega)).mono ?_; rintro e w' ⟨rfl, hB⟩)
      | (go_at_call 22; go_split_ands; refine (rstmt_any _ _ _ _ _ _ _ _ _ _ (by have := LE.out; omega)).mono ?_; rintro e w' ⟨rfl, hB⟩)
      | (go_at_call 23; go_split_ands; refine (pterm_any _ _ _ _ _ _ _ (Ht.out.below (by assumption)) (by have := LE.out; omega)).mono ?_; rintro e w' ⟨rfl, hB⟩)
      | (go_at_call 24; go_split_ands; refine (rterm_any _ _ _ _ _ _ _ (by have := LE.out; omega)).mono ?_; rintro e w' ⟨rfl, hB⟩))
  all_goals
    go_split_ands
    go_wp2_with fail
    go_ret
    exact ⟨rfl, by assumption⟩

end Go.Proofs.YtdifegcpfpdngaaDoor
