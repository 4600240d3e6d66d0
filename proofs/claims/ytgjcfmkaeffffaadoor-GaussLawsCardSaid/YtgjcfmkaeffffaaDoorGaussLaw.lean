/-
  soughlaw01: awake, and the walks of its laws.
-/
import Derived.Test.YtgjcfmkaeffffaaDoorGaussArith
import Derived.Test.YtgjcfmkaeffffaaDoorGaussRefOp
import Derived.Test.YtgjcfmkaeffffaaDoorDigits
import Derived.Test.YtgjcfmkaeffffaaDoorGaussAlg
import Derived.Deep.DeepCutAuto
namespace Go.Proofs.YtgjcfmkaeffffaaDoor
open Go.RowKit

theorem ntext_i : ntext 0 1 = [40, 48, 44, 49, 41] := by
  have h0 : Lib.itoa 0 = [48] := by
    have := Lib.itoa_nonneg 0
    rw [dec_small (by omega)] at this
    exact this
  have h1 : Lib.itoa 1 = [49] := by
    have := Lib.itoa_nonneg 1
    rw [dec_small (by omega)] at this
    exact this
  unfold ntext
  rw [show wr 1 = 1 from by decide, show wr 0 = 0 from by decide, h0, h1]
  rfl

set_option maxHeartbeats 1600000 in
set_option maxRecDepth 100000 in
theorem awake01_any (w : World) (ht : Tab w) : Calls Tryd.prog 11 #[] w fun e w' => e = .returned (.bool true) ∧ Below w.heap.size w w' := by
  have Ht := Lib.hid ht
  have q := num_eql
  have e1 : gop 3 0 1 0 1 = (-1, 0) := by decide
  have e2 : wr 32768 = -32768 := by decide
  have E := Lib.hid (And.intro e1 e2)
  clear ht e1 e2
  go_enter Tryd.func11, Tryd.ntmps11
  go_wp2_with fail
  refine (mul_any _ _ _ _ _).mono ?_
  rintro e w1 ⟨rfl, hB1⟩
  rw [E.out.1]
  have g1 := ((GS.start w).add 0 1 23).keep hB1
  obtain ⟨c0, c1⟩ := g1.at w.heap.size 0 1 (by simp)
  have G := Lib.hid g1
  clear hB1 g1
  go_wp2_with fail
  refine (wrap_any _ _).mono ?_
  rintro e w1 ⟨rfl, rfl⟩
  rw [E.out.2]
  go_wp2_with fail
  refine (text_any _ _ _ (Ht.out.below G.out.2)).mono ?_
  rintro e w2 ⟨rfl, hB2⟩
  rw [ntext_i]
  have HB2 := Lib.hid hB2
  clear hB2
  go_wp2_with fail
  go_ret
  exact ⟨rfl, bel_then G.out.2 HB2.out⟩

set_option maxHeartbeats 12800000 in
set_option maxRecDepth 100000 in
theorem gaussLaws_walk (a0 a1 b0 b1 c0 c1 : Int) (w : World) (ht : Tab w) :
    Calls Tryd.prog 4 #[.agg #[.int .i64 a0, .int .i64 a1], .agg #[.int .i64 b0, .int .i64 b1], .agg #[.int .i64 c0, .int .i64 c1]] w fun e w' => e = .returned (.bool true) ∧ Below w.heap.size w w' := by
  have Ht := Lib.hid ht
  clear ht
  have l1 := pair_beq (gad_comm (a0, a1) (b0, b1))
  have l2 := pair_beq (gmu_comm (a0, a1) (b0, b1))
  have l3 := pair_beq (gad_assoc (a0, a1) (b0, b1) (c0, c1))
  have l4 := pair_beq (gmu_assoc (a0, a1) (b0, b1) (c0, c1))
  have l5 := pair_beq (gmu_add (a0, a1) (b0, b1) (c0, c1))
  have l6 := pair_beq (gco_mul (a0, a1) (b0, b1))
  have l7 := pair_beq (gsu_add (a0, a1) (b0, b1))
  simp only [gad, gsu, gmu, gco] at l1 l2 l3 l4 l5 l6 l7
  have L1 := Lib.hid (And.intro l1 (And.intro l2 (And.intro l3 l4)))
  have L2 := Lib.hid (And.intro l5 (And.intro l6 l7))
  clear l1 l2 l3 l4 l5 l6 l7
  go_enter Tryd.func4, Tryd.ntmps4
  go_wp2_with fail
  refine (awake01_any _ (Ht.out.below (((((Below.refl w.heap.size w).alloc (Nat.le_refl _) _).alloc (by simp) _).alloc (by simp; omega) _)))).mono ?_
  rintro e w1 ⟨rfl, hB1⟩
  have g := ((((GS.start w).add a0 a1 23).add b0 b1 23).add c0 c1 23).keep hB1
  simp only [World.size_alloc] at g
  have G := Lib.hid g
  clear hB1 g
  go_upto_region 3 with fail
  have q1 := num_eql
  have q2 := num_neq
  obtain ⟨⟨l11, l12⟩, ⟨l21, l22⟩, ⟨l31, l32⟩, ⟨l41, l42⟩⟩ := L1.out
  go_cut [50] (fun s wx => s = .bool false ∧ Below w1.heap.size w1 wx)
  case first =>
    go_region_held3 (fun w' => w'.cell? ⟨w.heap.size, 0, none⟩ = some (.int .i64 a0) ∧ w'.cell? ⟨w.heap.size, 1, none⟩ = some (.int .i64 a1) ∧ w'.cell? ⟨w.heap.size + 1, 0, none⟩ = some (.int .i64 b0) ∧ w'.cell? ⟨w.heap.size + 1, 1, none⟩ = some (.int .i64 b1) ∧ w'.cell? ⟨w.heap.size + 1 + 1, 0, none⟩ = some (.int .i64 c0) ∧ w'.cell? ⟨w.heap.size + 1 + 1, 1, none⟩ = some (.int .i64 c1) ∧ Below w1.heap.size w1 w')
      (first
        | exact ⟨(G.out.at w.heap.size a0 a1 (by simp)).1, (G.out.at w.heap.size a0 a1 (by simp)).2, (G.out.at (w.heap.size + 1) b0 b1 (by simp)).1, (G.out.at (w.heap.size + 1) b0 b1 (by simp)).2, (G.out.at (w.heap.size + 1 + 1) c0 c1 (by simp)).1, (G.out.at (w.heap.size + 1 + 1) c0 c1 (by simp)).2, (Below.refl _ _).drew⟩
        | (go_split_ands; exact ⟨keepc (by assumption) hB, keepc (by assumption) hB, keepc (by assumption) hB, keepc (by assumption) hB, keepc (by assumption) hB, keepc (by assumption) hB, bel_then (by assumption) hB⟩))
      (first
        | (go_at_call 16; refine (add_any _ _ _ _ _).mono ?_; rintro e w' ⟨rfl, hB⟩)
        | (go_at_call 18; refine (mul_any _ _ _ _ _).mono ?_; rintro e w' ⟨rfl, hB⟩))
    all_goals
      go_split_ands
      go_wp2_with fail
      go_meet
      exact ⟨rfl, by assumption⟩
  case rest =>
    obtain ⟨rfl, hBc⟩ := hcut
    have G2 := Lib.hid (G.out.keep hBc)
    clear l11 l12 l21 l22 l31 l32 l41 l42 hBc
    obtain ⟨⟨l51, l52⟩, ⟨l61, l62⟩, ⟨l71, l72⟩⟩ := L2.out
    go_upto_region 5 with fail
    go_region_held3 (fun w' => w'.cell? ⟨w.heap.size, 0, none⟩ = some (.int .i64 a0) ∧ w'.cell? ⟨w.heap.size, 1, none⟩ = some (.int .i64 a1) ∧ w'.cell? ⟨w.heap.size + 1, 0, none⟩ = some (.int .i64 b0) ∧ w'.cell? ⟨w.heap.size + 1, 1, none⟩ = some (.int .i64 b1) ∧ w'.cell? ⟨w.heap.size + 1 + 1, 0, none⟩ = some (.int .i64 c0) ∧ w'.cell? ⟨w.heap.size + 1 + 1, 1, none⟩ = some (.int .i64 c1) ∧ Below w.heap.size w w')
      (first
        | exact ⟨(G2.out.at w.heap.size a0 a1 (by simp)).1, (G2.out.at w.heap.size a0 a1 (by simp)).2, (G2.out.at (w.heap.size + 1) b0 b1 (by simp)).1, (G2.out.at (w.heap.size + 1) b0 b1 (by simp)).2, (G2.out.at (w.heap.size + 1 + 1) c0 c1 (by simp)).1, (G2.out.at (w.heap.size + 1 + 1) c0 c1 (by simp)).2, G2.out.2.drew⟩
        | (go_split_ands; exact ⟨keepc (by assumption) hB, keepc (by assumption) hB, keepc (by assumption) hB, keepc (by assumption) hB, keepc (by assumption) hB, keepc (by assumption) hB, bel_then (by assumption) hB⟩))
      (first
        | (go_at_call 16; refine (add_any _ _ _ _ _).mono ?_; rintro e w' ⟨rfl, hB⟩)
        | (go_at_call 17; refine (sub_any _ _ _ _ _).mono ?_; rintro e w' ⟨rfl, hB⟩)
        | (go_at_call 19; refine (conj_any _ _ _).mono ?_; rintro e w' ⟨rfl, hB⟩)
        | (go_at_call 22; refine (of_any _ _ _).mono ?_; rintro e w' ⟨rfl, hB⟩)
        | (go_at_call 18; refine (mul_any _ _ _ _ _).mono ?_; rintro e w' ⟨rfl, hB⟩))
    all_goals
      go_split_ands
      go_wp2_with fail
      go_ret
      exact ⟨by simp, by assumption⟩

end Go.Proofs.YtgjcfmkaeffffaaDoor
