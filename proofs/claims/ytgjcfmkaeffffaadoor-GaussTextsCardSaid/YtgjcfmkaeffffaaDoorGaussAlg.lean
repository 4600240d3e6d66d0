/-
  The laws of Gaussian numbers whose parts go round: plain algebra.
-/
import Derived.Test.YtgjcfmkaeffffaaDoorGaussOp
namespace Go.Proofs.YtgjcfmkaeffffaaDoor

theorem wr_congr {x y : Int} (h : x % 65536 = y % 65536) : wr x = wr y := by unfold wr; omega
theorem wr_emod (x : Int) : wr x % 65536 = x % 65536 := by unfold wr; omega
theorem mul_emod' (x y : Int) : (wr x * wr y) % 65536 = (x * y) % 65536 := by rw [Int.mul_emod, wr_emod, wr_emod, ← Int.mul_emod]

/-- Sums, differences, products, conjugates of pairs. -/
def gad (x y : Int × Int) : Int × Int := gop 1 x.1 x.2 y.1 y.2
def gsu (x y : Int × Int) : Int × Int := gop 2 x.1 x.2 y.1 y.2
def gmu (x y : Int × Int) : Int × Int := gop 3 x.1 x.2 y.1 y.2
def gco (x : Int × Int) : Int × Int := gop 4 x.1 x.2 0 0

theorem gad_eq (x y : Int × Int) : gad x y = (wr (x.1 + y.1), wr (x.2 + y.2)) := by
  show (wr (wr x.1 + wr y.1), wr (wr x.2 + wr y.2)) = _
  have h1 := wr_emod x.1
  have h2 := wr_emod y.1
  have h3 := wr_emod x.2
  have h4 := wr_emod y.2
  rw [wr_congr (show (wr x.1 + wr y.1) % 65536 = (x.1 + y.1) % 65536 by omega), wr_congr (show (wr x.2 + wr y.2) % 65536 = (x.2 + y.2) % 65536 by omega)]
theorem gsu_eq (x y : Int × Int) : gsu x y = (wr (x.1 - y.1), wr (x.2 - y.2)) := by
  show (wr (wr x.1 - wr y.1), wr (wr x.2 - wr y.2)) = _
  have h1 := wr_emod x.1
  have h2 := wr_emod y.1
  have h3 := wr_emod x.2
  have h4 := wr_emod y.2
  rw [wr_congr (show (wr x.1 - wr y.1) % 65536 = (x.1 - y.1) % 65536 by omega), wr_congr (show (wr x.2 - wr y.2) % 65536 = (x.2 - y.2) % 65536 by omega)]
theorem gmu_eq (x y : Int × Int) : gmu x y = (wr (x.1 * y.1 - x.2 * y.2), wr (x.1 * y.2 + x.2 * y.1)) := by
  show (wr (wr x.1 * wr y.1 - wr x.2 * wr y.2), wr (wr x.1 * wr y.2 + wr x.2 * wr y.1)) = _
  have h1 := mul_emod' x.1 y.1
  have h2 := mul_emod' x.2 y.2
  have h3 := mul_emod' x.1 y.2
  have h4 := mul_emod' x.2 y.1
  generalize wr x.1 * wr y.1 = p1 at *
  generalize wr x.2 * wr y.2 = p2 at *
  generalize wr x.1 * wr y.2 = p3 at *
  generalize wr x.2 * wr y.1 = p4 at *
  generalize x.1 * y.1 = q1 at *
  generalize x.2 * y.2 = q2 at *
  generalize x.1 * y.2 = q3 at *
  generalize x.2 * y.1 = q4 at *
  rw [wr_congr (show (p1 - p2) % 65536 = (q1 - q2) % 65536 by omega), wr_congr (show (p3 + p4) % 65536 = (q3 + q4) % 65536 by omega)]
theorem gco_eq (x : Int × Int) : gco x = (wr x.1, wr (-x.2)) := by
  show (wr (wr x.1), wr (-(wr x.2))) = _
  have h1 := wr_emod x.1
  have h2 := wr_emod x.2
  rw [wr_congr (show (wr x.1) % 65536 = (x.1) % 65536 by omega), wr_congr (show (-(wr x.2)) % 65536 = (-x.2) % 65536 by omega)]

/-- A pair, wrapped, and what is made of it. -/
theorem gad_wr (a b : Int) (y : Int × Int) : gad (wr a, wr b) y = gad (a, b) y := by
  rw [gad_eq, gad_eq]
  have h1 := wr_emod a
  have h2 := wr_emod b
  dsimp only
  rw [wr_congr (show (wr a + y.1) % 65536 = (a + y.1) % 65536 by omega), wr_congr (show (wr b + y.2) % 65536 = (b + y.2) % 65536 by omega)]
theorem gad_comm (x y : Int × Int) : gad x y = gad y x := by rw [gad_eq, gad_eq, Int.add_comm, Int.add_comm x.2]
theorem gmu_comm (x y : Int × Int) : gmu x y = gmu y x := by
  rw [gmu_eq, gmu_eq, Int.mul_comm x.1 y.1, Int.mul_comm x.2 y.2, Int.mul_comm x.1 y.2, Int.mul_comm x.2 y.1, Int.add_comm]
theorem gmu_wr (a b : Int) (y : Int × Int) : gmu (wr a, wr b) y = gmu (a, b) y := by
  show gop 3 _ _ _ _ = gop 3 _ _ _ _
  unfold gop
  rw [if_neg (by omega), if_neg (by omega), if_neg (by omega), if_pos rfl, if_neg (by omega), if_neg (by omega), if_neg (by omega), if_pos rfl]
  dsimp only
  rw [show wr (wr a) = wr a from wr_congr (wr_emod a), show wr (wr b) = wr b from wr_congr (wr_emod b)]
theorem gad_wr2 (x : Int × Int) (a b : Int) : gad x (wr a, wr b) = gad x (a, b) := by rw [gad_comm, gad_wr, gad_comm]
theorem gmu_wr2 (x : Int × Int) (a b : Int) : gmu x (wr a, wr b) = gmu x (a, b) := by rw [gmu_comm, gmu_wr, gmu_comm]

theorem gad_assoc (x y z : Int × Int) : gad (gad x y) z = gad x (gad y z) := by
  rw [gad_eq x y, gad_wr, gad_eq y z, gad_wr2, gad_eq, gad_eq]
  dsimp only
  rw [Int.add_assoc, Int.add_assoc]
theorem gmu_assoc (x y z : Int × Int) : gmu (gmu x y) z = gmu x (gmu y z) := by
  rw [gmu_eq x y, gmu_wr, gmu_eq y z, gmu_wr2, gmu_eq, gmu_eq]
  dsimp only
  congr 2 <;> grind
theorem gmu_add (x y z : Int × Int) : gmu x (gad y z) = gad (gmu x y) (gmu x z) := by
  rw [gad_eq y z, gmu_wr2, gmu_eq x y, gmu_eq x z, gad_wr, gad_wr2, gmu_eq, gad_eq]
  dsimp only
  congr 2 <;> grind
theorem gco_mul (x y : Int × Int) : gco (gmu x y) = gmu (gco x) (gco y) := by
  rw [gco_eq x, gco_eq y, gmu_wr, gmu_wr2, gmu_eq x y, gco_eq, gmu_eq]
  dsimp only
  have h1 := wr_emod (x.1 * y.1 - x.2 * y.2)
  have h2 := wr_emod (x.1 * y.2 + x.2 * y.1)
  generalize wr (x.1 * y.1 - x.2 * y.2) = p at *
  generalize wr (x.1 * y.2 + x.2 * y.1) = q at *
  have e1 : -x.2 * -y.2 = x.2 * y.2 := by grind
  have e2 : x.1 * -y.2 + -x.2 * y.1 = -(x.1 * y.2 + x.2 * y.1) := by grind
  rw [e1, e2, wr_congr h1, wr_congr (show (-q) % 65536 = (-(x.1 * y.2 + x.2 * y.1)) % 65536 by omega)]
theorem gsu_add (x y : Int × Int) : gsu (gad x y) y = (wr x.1, wr x.2) := by
  rw [gad_eq, gsu_eq]
  dsimp only
  have h1 := wr_emod (x.1 + y.1)
  have h2 := wr_emod (x.2 + y.2)
  rw [wr_congr (show (wr (x.1 + y.1) - y.1) % 65536 = x.1 % 65536 by omega), wr_congr (show (wr (x.2 + y.2) - y.2) % 65536 = x.2 % 65536 by omega)]

/-- Equal pairs, in the walk's words. -/
theorem pair_beq {x y : Int × Int} (h : x = y) : (x.1 == y.1) = true ∧ (x.2 == y.2) = true := by subst h; simp

end Go.Proofs.YtgjcfmkaeffffaaDoor
