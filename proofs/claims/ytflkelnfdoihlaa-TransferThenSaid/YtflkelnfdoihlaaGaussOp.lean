/-
  gauss.plane and gauss.Op: contracts. Floats are exact, as parts are small.
-/
import Derived.Test.YtflkelnfdoihlaaGauss
import Derived.Test.YtflkelnfdoihlaaFloatM
import Derived.Test.YtflkelnfdoihlaaGoto
import Derived.WalkLawsBesides
import Derived.Deep.RegionHeld3
import Derived.Deep.DeepCutAuto
namespace Go.Proofs.Ytflkelnfdoihlaa
open Go.RowKit

set_option maxHeartbeats 800000 in
theorem plane_any (a b : Int) (w : World) :
    Calls Try.prog 105 #[.agg #[.int .i64 a, .int .i64 b]] w fun e w' => e = .returned (.complex .f64 (floatOfInt .f64 (wr a)) (floatOfInt .f64 (wr b))) ∧ Below w.heap.size w w' := by
  go_enter Try.func105, Try.ntmps105
  go_wp2_with fail
  go_quiet ((go_at_call 104; exact Calls.quiet_of_same ((wrap_any _ _).mono fun _ _ h => ⟨h.1, h.2.symm⟩)))
  go_wp2
  go_ret
  exact ⟨rfl, bel_drewN ((Below.refl _ _).alloc (Nat.le_refl _) _) _⟩

/-- What an operation makes of two numbers. -/
def gop (op a b c d : Int) : Int × Int :=
  if op = 0 then (wr (wr a), wr (wr b)) else if op = 1 then (wr (wr a + wr c), wr (wr b + wr d)) else if op = 2 then (wr (wr a - wr c), wr (wr b - wr d))
  else if op = 3 then (wr (wr a * wr c - wr b * wr d), wr (wr a * wr d + wr b * wr c)) else if op = 4 then (wr (wr a), wr (-(wr b))) else (0, 0)
def gopE (op : Int) : Int := if 0 ≤ op ∧ op ≤ 4 then 0 else 10
theorem gop_none {op a b c d : Int} (h : op < 0 ∨ 4 < op) : gop op a b c d = (0, 0) := by
  unfold gop
  rw [if_neg (by omega), if_neg (by omega), if_neg (by omega), if_neg (by omega), if_neg (by omega)]
theorem gopE_none {op : Int} (h : op < 0 ∨ 4 < op) : gopE op = 10 := by
  unfold gopE
  rw [if_neg (by omega)]

theorem op_start (a b c d : Int) (t : TypeId) (w W : World) (hW : W = (((w.alloc (.cells #[.int .i64 a, .int .i64 b] t)).alloc (.cells #[.int .i64 c, .int .i64 d] t)).alloc (.cells #[.int .i64 0, .int .i64 0] t)).drew) :
    W.cell? ⟨w.heap.size, 0, none⟩ = some (.int .i64 a) ∧ W.cell? ⟨w.heap.size, 1, none⟩ = some (.int .i64 b) ∧ W.cell? ⟨w.heap.size + 1, 0, none⟩ = some (.int .i64 c) ∧ W.cell? ⟨w.heap.size + 1, 1, none⟩ = some (.int .i64 d) ∧ W.cell? ⟨w.heap.size + 1 + 1, 0, none⟩ = some (.int .i64 0) ∧ W.cell? ⟨w.heap.size + 1 + 1, 1, none⟩ = some (.int .i64 0) ∧ W.frozen? ⟨w.heap.size + 1 + 1, 0, none⟩ = false ∧ W.frozen? ⟨w.heap.size + 1 + 1, 1, none⟩ = false ∧ Below w.heap.size w W := by
  subst hW
  refine ⟨by go_simp, by go_simp, by go_simp, by go_simp, by go_simp, by go_simp, by go_simp, by go_simp, ?_⟩
  exact ((((Below.refl _ _).alloc (Nat.le_refl _) _).alloc (by simp) _).alloc (by simp; omega) _).drew

theorem mul_bd {x y : Int} (hx : -32768 ≤ x ∧ x ≤ 32767) (hy : -32768 ≤ y ∧ y ≤ 32767) : -1073741824 ≤ x * y ∧ x * y ≤ 1073741824 := by
  have h : (x * y).natAbs ≤ 32768 * 32768 := by
    rw [Int.natAbs_mul]; exact Nat.mul_le_mul (by omega) (by omega)
  omega

theorem op_end {w wc w1 : World} (h : Below w.heap.size w wc) (k : Below wc.heap.size wc w1) (u v : Value) :
    Below w.heap.size w ((w1.setCell ⟨w.heap.size + 1 + 1, 0, none⟩ u).setCell ⟨w.heap.size + 1 + 1, 1, none⟩ v) :=
  ((bel_then h k).setCell (by simp; omega) _).setCell (by simp; omega) _

set_option maxHeartbeats 3200000 in
set_option maxRecDepth 100000 in
theorem gop_any (op a b c d : Int) (w : World) :
    Calls Try.prog 103 #[.int .i64 op, .agg #[.int .i64 a, .int .i64 b], .agg #[.int .i64 c, .int .i64 d]] w fun e w' => e = .returned (.tuple #[.agg #[.int .i64 (gop op a b c d).1, .int .i64 (gop op a b c d).2], .int .i64 (gopE op)]) ∧ Below w.heap.size w w' := by
  go_enter Try.func103, Try.ntmps103
  go_wp2_with fail
  refine wp_scope_via 4 ?_
  go_wp2_with fail
  go_cut [8, 9] (fun x y wx => x = .complex .f64 (floatOfInt .f64 (wr a)) (floatOfInt .f64 (wr b)) ∧ y = .complex .f64 (floatOfInt .f64 (wr c)) (floatOfInt .f64 (wr d)) ∧ wx.cell? ⟨w.heap.size + 1 + 1, 0, none⟩ = some (.int .i64 0) ∧ wx.cell? ⟨w.heap.size + 1 + 1, 1, none⟩ = some (.int .i64 0) ∧ wx.frozen? ⟨w.heap.size + 1 + 1, 0, none⟩ = false ∧ wx.frozen? ⟨w.heap.size + 1 + 1, 1, none⟩ = false ∧ Below w.heap.size w wx)
  case first =>
    go_region_held3 (fun w' => w'.cell? ⟨w.heap.size, 0, none⟩ = some (.int .i64 a) ∧ w'.cell? ⟨w.heap.size, 1, none⟩ = some (.int .i64 b) ∧ w'.cell? ⟨w.heap.size + 1, 0, none⟩ = some (.int .i64 c) ∧ w'.cell? ⟨w.heap.size + 1, 1, none⟩ = some (.int .i64 d) ∧ w'.cell? ⟨w.heap.size + 1 + 1, 0, none⟩ = some (.int .i64 0) ∧ w'.cell? ⟨w.heap.size + 1 + 1, 1, none⟩ = some (.int .i64 0) ∧ w'.frozen? ⟨w.heap.size + 1 + 1, 0, none⟩ = false ∧ w'.frozen? ⟨w.heap.size + 1 + 1, 1, none⟩ = false ∧ Below w.heap.size w w')
      (first
        | exact op_start _ _ _ _ _ _ _ rfl
        | (go_split_ands; exact ⟨keepc (by assumption) hB, keepc (by assumption) hB, keepc (by assumption) hB, keepc (by assumption) hB, keepc (by assumption) hB, keepc (by assumption) hB, keepf (a := ⟨w.heap.size + 1 + 1, 0, none⟩) (by assumption) (by assumption) hB, keepf (a := ⟨w.heap.size + 1 + 1, 1, none⟩) (by assumption) (by assumption) hB, bel_then (by assumption) hB⟩))
      (first
        | (go_at_call 105; refine (plane_any _ _ _).mono ?_; rintro e w' ⟨rfl, hB⟩))
    all_goals
      go_split_ands
      go_wp2_with fail
      go_meet
      exact ⟨rfl, rfl, by assumption, by assumption, by assumption, by assumption, by assumption⟩
  case rest =>
    obtain ⟨rfl, rfl, k0, k1, f0, f1, hB⟩ := hcut
    have HB := Lib.hid hB
    clear hB
    have ba := wr_bd a
    have bb := wr_bd b
    have bc := wr_bd c
    have bd := wr_bd d
    rcases (show op = 0 ∨ op = 1 ∨ op = 2 ∨ op = 3 ∨ op = 4 ∨ (op < 0 ∨ 4 < op) from by omega) with h | h | h | h | h | h
    · subst h
      have sa := Fl.of_int_stands (wr a) (by omega)
      have sb := Fl.of_int_stands (wr b) (by omega)
      have hc1 : ∀ w : World, (convert 111 3 (.float .f64 (floatOfInt .f64 (wr a)))).run Try.prog w = .ok (.int .i64 (wr a)) w := fun w => run_convert_float_int w _ _ _ _ _ _ (by kernel_rfl) (by kernel_rfl) (Fl.to_int sa (by omega))
      have hc2 : ∀ w : World, (convert 111 3 (.float .f64 (floatOfInt .f64 (wr b)))).run Try.prog w = .ok (.int .i64 (wr b)) w := fun w => run_convert_float_int w _ _ _ _ _ _ (by kernel_rfl) (by kernel_rfl) (Fl.to_int sb (by omega))
      clear sa sb ba bb bc bd
      go_wp2_with fail
      go_step3
      refine ⟨_, rfl, ?_⟩
      go_wp2_with fail
      refine (of_any _ _ _).mono ?_
      rintro e w1 ⟨rfl, hB1⟩
      have g0 := keepc k0 hB1
      have g1 := keepc k1 hB1
      have g2 := keepf k0 f0 hB1
      have g3 := keepf k1 f1 hB1
      have HB1 := Lib.hid hB1
      clear hB1 k0 k1 f0 f1 hc1 hc2
      go_wp2_with fail
      rw [via_ret]
      exact bodyPost_ret (v := .tuple #[.agg #[.int .i64 (wr (wr a)), .int .i64 (wr (wr b))], .int .i64 0]) (by simp [results, Try.results103, go_sem, g0, g1]) rfl ⟨rfl, op_end HB.out HB1.out _ _⟩
    · subst h
      have sa := Fl.of_int_stands (wr a) (by omega)
      have sb := Fl.of_int_stands (wr b) (by omega)
      have sc := Fl.of_int_stands (wr c) (by omega)
      have sd := Fl.of_int_stands (wr d) (by omega)
      obtain ⟨r, hr, sr⟩ := Fl.add_stands sa sc (by omega)
      obtain ⟨s, hs, ss⟩ := Fl.add_stands sb sd (by omega)
      have hop : ∀ w : World, (binOp .add 109 (.complex .f64 (floatOfInt .f64 (wr a)) (floatOfInt .f64 (wr b))) (.complex .f64 (floatOfInt .f64 (wr c)) (floatOfInt .f64 (wr d)))).run Try.prog w = .ok (.complex .f64 r s) w :=
        fun w => run_complex_sum w .add (.inl rfl) _ _ _ _ _ _ _ _ (by simp [cSumBits, hr, hs])
      have hc1 : ∀ w : World, (convert 111 3 (.float .f64 r)).run Try.prog w = .ok (.int .i64 (wr a + wr c)) w := fun w => run_convert_float_int w _ _ _ _ _ _ (by kernel_rfl) (by kernel_rfl) (Fl.to_int sr (by omega))
      have hc2 : ∀ w : World, (convert 111 3 (.float .f64 s)).run Try.prog w = .ok (.int .i64 (wr b + wr d)) w := fun w => run_convert_float_int w _ _ _ _ _ _ (by kernel_rfl) (by kernel_rfl) (Fl.to_int ss (by omega))
      clear sa sb sc sd sr ss hr hs ba bb bc bd
      go_wp2_with fail
      go_step3
      refine ⟨_, rfl, ?_⟩
      go_wp2_with fail
      clear hop
      go_step3
      refine ⟨_, rfl, ?_⟩
      go_wp2_with fail
      refine (of_any _ _ _).mono ?_
      rintro e w1 ⟨rfl, hB1⟩
      have g0 := keepc k0 hB1
      have g1 := keepc k1 hB1
      have g2 := keepf k0 f0 hB1
      have g3 := keepf k1 f1 hB1
      have HB1 := Lib.hid hB1
      clear hB1 k0 k1 f0 f1 hc1 hc2
      go_wp2_with fail
      rw [via_ret]
      exact bodyPost_ret (v := .tuple #[.agg #[.int .i64 (wr (wr a + wr c)), .int .i64 (wr (wr b + wr d))], .int .i64 0]) (by simp [results, Try.results103, go_sem, g0, g1]) rfl ⟨rfl, op_end HB.out HB1.out _ _⟩
    · subst h
      have sa := Fl.of_int_stands (wr a) (by omega)
      have sb := Fl.of_int_stands (wr b) (by omega)
      have sc := Fl.of_int_stands (wr c) (by omega)
      have sd := Fl.of_int_stands (wr d) (by omega)
      obtain ⟨r, hr, sr⟩ := Fl.sub_stands sa sc (by omega)
      obtain ⟨s, hs, ss⟩ := Fl.sub_stands sb sd (by omega)
      have hop : ∀ w : World, (binOp .sub 109 (.complex .f64 (floatOfInt .f64 (wr a)) (floatOfInt .f64 (wr b))) (.complex .f64 (floatOfInt .f64 (wr c)) (floatOfInt .f64 (wr d)))).run Try.prog w = .ok (.complex .f64 r s) w :=
        fun w => run_complex_sum w .sub (.inr rfl) _ _ _ _ _ _ _ _ (by simp [cSumBits, hr, hs])
      have hc1 : ∀ w : World, (convert 111 3 (.float .f64 r)).run Try.prog w = .ok (.int .i64 (wr a - wr c)) w := fun w => run_convert_float_int w _ _ _ _ _ _ (by kernel_rfl) (by kernel_rfl) (Fl.to_int sr (by omega))
      have hc2 : ∀ w : World, (convert 111 3 (.float .f64 s)).run Try.prog w = .ok (.int .i64 (wr b - wr d)) w := fun w => run_convert_float_int w _ _ _ _ _ _ (by kernel_rfl) (by kernel_rfl) (Fl.to_int ss (by omega))
      clear sa sb sc sd sr ss hr hs ba bb bc bd
      go_wp2_with fail
      go_step3
      refine ⟨_, rfl, ?_⟩
      go_wp2_with fail
      clear hop
      go_step3
      refine ⟨_, rfl, ?_⟩
      go_wp2_with fail
      refine (of_any _ _ _).mono ?_
      rintro e w1 ⟨rfl, hB1⟩
      have g0 := keepc k0 hB1
      have g1 := keepc k1 hB1
      have g2 := keepf k0 f0 hB1
      have g3 := keepf k1 f1 hB1
      have HB1 := Lib.hid hB1
      clear hB1 k0 k1 f0 f1 hc1 hc2
      go_wp2_with fail
      rw [via_ret]
      exact bodyPost_ret (v := .tuple #[.agg #[.int .i64 (wr (wr a - wr c)), .int .i64 (wr (wr b - wr d))], .int .i64 0]) (by simp [results, Try.results103, go_sem, g0, g1]) rfl ⟨rfl, op_end HB.out HB1.out _ _⟩
    · subst h
      have sa := Fl.of_int_stands (wr a) (by omega)
      have sb := Fl.of_int_stands (wr b) (by omega)
      have sc := Fl.of_int_stands (wr c) (by omega)
      have sd := Fl.of_int_stands (wr d) (by omega)
      have mac := mul_bd ba bc
      have mbd := mul_bd bb bd
      have mad := mul_bd ba bd
      have mbc := mul_bd bb bc
      obtain ⟨r1, hr1, sr1⟩ := Fl.mul_stands sa sc (by omega)
      obtain ⟨r2, hr2, sr2⟩ := Fl.mul_stands sb sd (by omega)
      obtain ⟨r3, hr3, sr3⟩ := Fl.mul_stands sa sd (by omega)
      obtain ⟨r4, hr4, sr4⟩ := Fl.mul_stands sb sc (by omega)
      obtain ⟨r, hr, sr⟩ := Fl.sub_stands sr1 sr2 (by omega)
      obtain ⟨s, hs, ss⟩ := Fl.add_stands sr3 sr4 (by omega)
      have hop : ∀ w : World, (binOp .mul 109 (.complex .f64 (floatOfInt .f64 (wr a)) (floatOfInt .f64 (wr b))) (.complex .f64 (floatOfInt .f64 (wr c)) (floatOfInt .f64 (wr d)))).run Try.prog w = .ok (.complex .f64 r s) w :=
        fun w => run_complex_mul w _ _ _ _ _ _ _ (by simp [cMulBits, hr1, hr2, hr3, hr4, hr, hs])
      have hc1 : ∀ w : World, (convert 111 3 (.float .f64 r)).run Try.prog w = .ok (.int .i64 (wr a * wr c - wr b * wr d)) w := fun w => run_convert_float_int w _ _ _ _ _ _ (by kernel_rfl) (by kernel_rfl) (Fl.to_int sr (by omega))
      have hc2 : ∀ w : World, (convert 111 3 (.float .f64 s)).run Try.prog w = .ok (.int .i64 (wr a * wr d + wr b * wr c)) w := fun w => run_convert_float_int w _ _ _ _ _ _ (by kernel_rfl) (by kernel_rfl) (Fl.to_int ss (by omega))
      clear sa sb sc sd sr ss hr hs hr1 hr2 hr3 hr4 sr1 sr2 sr3 sr4 mac mbd mad mbc ba bb bc bd
      go_wp2_with fail
      go_step3
      refine ⟨_, rfl, ?_⟩
      go_wp2_with fail
      clear hop
      go_step3
      refine ⟨_, rfl, ?_⟩
      go_wp2_with fail
      refine (of_any _ _ _).mono ?_
      rintro e w1 ⟨rfl, hB1⟩
      have g0 := keepc k0 hB1
      have g1 := keepc k1 hB1
      have g2 := keepf k0 f0 hB1
      have g3 := keepf k1 f1 hB1
      have HB1 := Lib.hid hB1
      clear hB1 k0 k1 f0 f1 hc1 hc2
      go_wp2_with fail
      rw [via_ret]
      exact bodyPost_ret (v := .tuple #[.agg #[.int .i64 (wr (wr a * wr c - wr b * wr d)), .int .i64 (wr (wr a * wr d + wr b * wr c))], .int .i64 0]) (by simp [results, Try.results103, go_sem, g0, g1]) rfl ⟨rfl, op_end HB.out HB1.out _ _⟩
    · subst h
      have sa := Fl.of_int_stands (wr a) (by omega)
      have sb := Fl.neg_stands (Fl.of_int_stands (wr b) (by omega))
      obtain ⟨s, hs⟩ : ∃ s, s = Op.negFloat .f64 (floatOfInt .f64 (wr b)) := ⟨_, rfl⟩
      rw [← hs] at sb
      have hop : Op.unary .neg (.float .f64 (floatOfInt .f64 (wr b))) = pure (.float .f64 s) := by rw [hs]; rfl
      have hc1 : ∀ w : World, (convert 111 3 (.float .f64 (floatOfInt .f64 (wr a)))).run Try.prog w = .ok (.int .i64 (wr a)) w := fun w => run_convert_float_int w _ _ _ _ _ _ (by kernel_rfl) (by kernel_rfl) (Fl.to_int sa (by omega))
      have hc2 : ∀ w : World, (convert 111 3 (.float .f64 s)).run Try.prog w = .ok (.int .i64 (-(wr b))) w := fun w => run_convert_float_int w _ _ _ _ _ _ (by kernel_rfl) (by kernel_rfl) (Fl.to_int sb (by omega))
      clear sa sb hs ba bb bc bd
      go_wp2_with fail
      go_step3
      refine ⟨_, rfl, ?_⟩
      go_wp2_with fail
      clear hop
      go_step3
      go_wp2_with fail
      refine (of_any _ _ _).mono ?_
      rintro e w1 ⟨rfl, hB1⟩
      have g0 := keepc k0 hB1
      have g1 := keepc k1 hB1
      have g2 := keepf k0 f0 hB1
      have g3 := keepf k1 f1 hB1
      have HB1 := Lib.hid hB1
      clear hB1 k0 k1 f0 f1 hc1 hc2
      go_wp2_with fail
      rw [via_ret]
      exact bodyPost_ret (v := .tuple #[.agg #[.int .i64 (wr (wr a)), .int .i64 (wr (-(wr b)))], .int .i64 0]) (by simp [results, Try.results103, go_sem, g0, g1]) rfl ⟨rfl, op_end HB.out HB1.out _ _⟩
    · have e0 : (op == 0) = false := by simp; omega
      have e1 : (op == 1) = false := by simp; omega
      have e2 : (op == 2) = false := by simp; omega
      have e3 : (op == 3) = false := by simp; omega
      have e4 : (op == 4) = false := by simp; omega
      have hres : Ending.returned (.tuple #[.agg #[.int .i64 (gop op a b c d).1, .int .i64 (gop op a b c d).2], .int .i64 (gopE op)]) = .returned (.tuple #[.agg #[.int .i64 0, .int .i64 0], .int .i64 10]) := by
        rw [gop_none h, gopE_none h]
      have Hres := Lib.hid hres
      clear hres h ba bb bc bd
      go_wp2_with fail
      rw [via_ret]
      refine bodyPost_ret (v := .tuple #[.agg #[.int .i64 0, .int .i64 0], .int .i64 10]) (by simp [results, Try.results103, go_sem, k0, k1]) rfl ⟨Hres.out.symm, ?_⟩
      exact op_end HB.out (Below.refl _ _) _ _

end Go.Proofs.Ytflkelnfdoihlaa
