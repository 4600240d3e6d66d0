/-
  gauss.sure, Add, Sub, Mul, Conj, Is: contracts.
-/
import Derived.Test.YtgjcfmkaeffffaaDoorGaussOp
import Derived.Test.YtgjcfmkaeffffaaDoorWord
import Derived.Test.YtgjcfmkaeffffaaDoorNumEq
namespace Go.Proofs.YtgjcfmkaeffffaaDoor
open Go.RowKit

set_option maxHeartbeats 800000 in
theorem sure_any (op a b c d : Int) (w : World) :
    Calls Tryd.prog 66 #[.int .i64 op, .agg #[.int .i64 a, .int .i64 b], .agg #[.int .i64 c, .int .i64 d]] w fun e w' => e = .returned (.agg #[.int .i64 (gop op a b c d).1, .int .i64 (gop op a b c d).2]) ∧ Below w.heap.size w w' := by
  go_enter Tryd.func66, Tryd.ntmps66
  go_wp2_with fail
  refine (gop_any _ _ _ _ _ _).mono ?_
  rintro e w1 ⟨rfl, hB1⟩
  have p2 := (P2.new ((w.alloc (.cells #[.int .i64 a, .int .i64 b] 23)).alloc (.cells #[.int .i64 c, .int .i64 d] 23)) (.int .i64 0) (.int .i64 0) 23).keep hB1
  have q0 := ((((Below.refl w.heap.size w).alloc (Nat.le_refl _) (.cells #[.int .i64 a, .int .i64 b] 23)).alloc (by simp) (.cells #[.int .i64 c, .int .i64 d] 23)).alloc (by simp; omega) (.cells #[.int .i64 0, .int .i64 0] 23)).trans (hB1.mono (by simp; omega))
  simp only [World.size_alloc] at p2
  have hz := q0.size
  have HB := Lib.hid q0
  clear hB1 q0
  obtain ⟨c0, c1, c2, c3⟩ := p2.alloc (.cells #[.int .i64 (gop op a b c d).1, .int .i64 (gop op a b c d).2] 23)
  clear p2
  go_wp2_with fail
  exact bodyPost_ret (v := .agg #[.int .i64 (gop op a b c d).1, .int .i64 (gop op a b c d).2]) (by simp [results, Tryd.results66, go_sem, c0, c1]) rfl ⟨rfl, bel_set2 (HB.out.alloc HB.out.size _) (by omega) _ _⟩

theorem add_any (a b c d : Int) (w : World) :
    Calls Tryd.prog 16 #[.agg #[.int .i64 a, .int .i64 b], .agg #[.int .i64 c, .int .i64 d]] w fun e w' => e = .returned (.agg #[.int .i64 (gop 1 a b c d).1, .int .i64 (gop 1 a b c d).2]) ∧ Below w.heap.size w w' := by
  go_enter Tryd.func16, Tryd.ntmps16
  go_wp2_with fail
  refine (sure_any _ _ _ _ _ _).mono ?_
  rintro e w1 ⟨rfl, hB1⟩
  have p2 := (P2.new ((w.alloc (.cells #[.int .i64 a, .int .i64 b] 23)).alloc (.cells #[.int .i64 c, .int .i64 d] 23)) (.int .i64 0) (.int .i64 0) 23).keep hB1
  have q0 := ((((Below.refl w.heap.size w).alloc (Nat.le_refl _) (.cells #[.int .i64 a, .int .i64 b] 23)).alloc (by simp) (.cells #[.int .i64 c, .int .i64 d] 23)).alloc (by simp; omega) (.cells #[.int .i64 0, .int .i64 0] 23)).trans (hB1.mono (by simp; omega))
  simp only [World.size_alloc] at p2
  have HB := Lib.hid q0
  clear hB1 q0
  obtain ⟨c0, c1, c2, c3⟩ := p2
  go_wp2_with fail
  exact bodyPost_ret (v := .agg #[.int .i64 (gop 1 a b c d).1, .int .i64 (gop 1 a b c d).2]) (by simp [results, Tryd.results16, go_sem, c0, c1]) rfl ⟨rfl, bel_set2 HB.out (by omega) _ _⟩

theorem sub_any (a b c d : Int) (w : World) :
    Calls Tryd.prog 17 #[.agg #[.int .i64 a, .int .i64 b], .agg #[.int .i64 c, .int .i64 d]] w fun e w' => e = .returned (.agg #[.int .i64 (gop 2 a b c d).1, .int .i64 (gop 2 a b c d).2]) ∧ Below w.heap.size w w' := by
  go_enter Tryd.func17, Tryd.ntmps17
  go_wp2_with fail
  refine (sure_any _ _ _ _ _ _).mono ?_
  rintro e w1 ⟨rfl, hB1⟩
  have p2 := (P2.new ((w.alloc (.cells #[.int .i64 a, .int .i64 b] 23)).alloc (.cells #[.int .i64 c, .int .i64 d] 23)) (.int .i64 0) (.int .i64 0) 23).keep hB1
  have q0 := ((((Below.refl w.heap.size w).alloc (Nat.le_refl _) (.cells #[.int .i64 a, .int .i64 b] 23)).alloc (by simp) (.cells #[.int .i64 c, .int .i64 d] 23)).alloc (by simp; omega) (.cells #[.int .i64 0, .int .i64 0] 23)).trans (hB1.mono (by simp; omega))
  simp only [World.size_alloc] at p2
  have HB := Lib.hid q0
  clear hB1 q0
  obtain ⟨c0, c1, c2, c3⟩ := p2
  go_wp2_with fail
  exact bodyPost_ret (v := .agg #[.int .i64 (gop 2 a b c d).1, .int .i64 (gop 2 a b c d).2]) (by simp [results, Tryd.results17, go_sem, c0, c1]) rfl ⟨rfl, bel_set2 HB.out (by omega) _ _⟩

theorem mul_any (a b c d : Int) (w : World) :
    Calls Tryd.prog 18 #[.agg #[.int .i64 a, .int .i64 b], .agg #[.int .i64 c, .int .i64 d]] w fun e w' => e = .returned (.agg #[.int .i64 (gop 3 a b c d).1, .int .i64 (gop 3 a b c d).2]) ∧ Below w.heap.size w w' := by
  go_enter Tryd.func18, Tryd.ntmps18
  go_wp2_with fail
  refine (sure_any _ _ _ _ _ _).mono ?_
  rintro e w1 ⟨rfl, hB1⟩
  have p2 := (P2.new ((w.alloc (.cells #[.int .i64 a, .int .i64 b] 23)).alloc (.cells #[.int .i64 c, .int .i64 d] 23)) (.int .i64 0) (.int .i64 0) 23).keep hB1
  have q0 := ((((Below.refl w.heap.size w).alloc (Nat.le_refl _) (.cells #[.int .i64 a, .int .i64 b] 23)).alloc (by simp) (.cells #[.int .i64 c, .int .i64 d] 23)).alloc (by simp; omega) (.cells #[.int .i64 0, .int .i64 0] 23)).trans (hB1.mono (by simp; omega))
  simp only [World.size_alloc] at p2
  have HB := Lib.hid q0
  clear hB1 q0
  obtain ⟨c0, c1, c2, c3⟩ := p2
  go_wp2_with fail
  exact bodyPost_ret (v := .agg #[.int .i64 (gop 3 a b c d).1, .int .i64 (gop 3 a b c d).2]) (by simp [results, Tryd.results18, go_sem, c0, c1]) rfl ⟨rfl, bel_set2 HB.out (by omega) _ _⟩

theorem conj_any (a b : Int) (w : World) :
    Calls Tryd.prog 19 #[.agg #[.int .i64 a, .int .i64 b]] w fun e w' => e = .returned (.agg #[.int .i64 (gop 4 a b 0 0).1, .int .i64 (gop 4 a b 0 0).2]) ∧ Below w.heap.size w w' := by
  go_enter Tryd.func19, Tryd.ntmps19
  go_wp2_with fail
  refine (sure_any _ _ _ _ _ _).mono ?_
  rintro e w1 ⟨rfl, hB1⟩
  have p2 := (P2.new (w.alloc (.cells #[.int .i64 a, .int .i64 b] 23)) (.int .i64 0) (.int .i64 0) 23).keep hB1
  have q0 := (((Below.refl w.heap.size w).alloc (Nat.le_refl _) (.cells #[.int .i64 a, .int .i64 b] 23)).alloc (by simp) (.cells #[.int .i64 0, .int .i64 0] 23)).trans (hB1.mono (by simp; omega))
  simp only [World.size_alloc] at p2
  have HB := Lib.hid q0
  clear hB1 q0
  obtain ⟨c0, c1, c2, c3⟩ := p2
  go_wp2_with fail
  exact bodyPost_ret (v := .agg #[.int .i64 (gop 4 a b 0 0).1, .int .i64 (gop 4 a b 0 0).2]) (by simp [results, Tryd.results19, go_sem, c0, c1]) rfl ⟨rfl, bel_set2 HB.out (by omega) _ _⟩

/-- Are both parts such as Wrap tells? -/
def isw (a b : Int) : Bool := decide (a = wr a ∧ b = wr b)
set_option maxHeartbeats 1600000 in
set_option maxRecDepth 100000 in
theorem isw_any (a b : Int) (w : World) :
    Calls Tryd.prog 14 #[.agg #[.int .i64 a, .int .i64 b]] w fun e w' => e = .returned (.bool (isw a b)) ∧ Below w.heap.size w w' := by
  have hr : Ending.returned (.bool (isw a b)) = .returned (.bool (a == wr a && b == wr b)) := ret_bool (by unfold isw; rw [Bool.eq_iff_iff]; simp)
  have Hr := Lib.hid hr
  clear hr
  have heq := num_eql a b (wr a) (wr b)
  go_enter Tryd.func14, Tryd.ntmps14
  go_wp2_with fail
  go_region_held3 (fun w' => w'.cell? ⟨w.heap.size, 0, none⟩ = some (.int .i64 a) ∧ w'.cell? ⟨w.heap.size, 1, none⟩ = some (.int .i64 b) ∧ Below w.heap.size w w')
    (first
      | exact ⟨(P2.new _ _ _ _).1, (P2.new _ _ _ _).2.1, ((Below.refl w.heap.size w).alloc (Nat.le_refl _) _).drew⟩
      | (go_split_ands; exact ⟨keepc (by assumption) hB, keepc (by assumption) hB, bel_then (by assumption) hB⟩))
    (first
      | (go_at_call 22; refine (of_any _ _ _).mono ?_; rintro e w' ⟨rfl, hB⟩))
  all_goals
    go_split_ands
    go_wp2_with fail
    go_ret
    exact ⟨Hr.out.symm, by assumption⟩

end Go.Proofs.YtgjcfmkaeffffaaDoor
