/-
  soughlaw01: awake.
-/
import Derived.Test.YtgjcfmkaeffffaaDoorGaussArith
import Derived.Test.YtgjcfmkaeffffaaDoorGaussRefOp
import Derived.Test.YtgjcfmkaeffffaaDoorDigits
import Derived.Test.YtgjcfmkaeffffaaDoorGaussAlg
import Derived.Deep.DeepCutAuto
namespace Go.Proofs.YtgjcfmkaeffffaaDoor
open Go.RowKit

theorem ntext_i : ntext 0 1 = [40, 48, 44, 49, 41] := by
  have h0 : Lib.itoa 0 = [48] := by
    have := Lib.itoa_nonneg 0
    rw [dec_small (by omega)] at this
    exact this
  have h1 : Lib.itoa 1 = [49] := by
    have := Lib.itoa_nonneg 1
    rw [dec_small (by omega)] at this
    exact this
  unfold ntext
  rw [show wr 1 = 1 from by decide, show wr 0 = 0 from by decide, h0, h1]
  rfl

set_option maxHeartbeats 1600000 in
set_option maxRecDepth 100000 in
theorem awake01_any (w : World) (ht : Tab w) : Calls Tryd.prog 11 #[] w fun e w' => e = .returned (.bool true) ∧ Below w.heap.size w w' := by
  have Ht := Lib.hid ht
  have q := num_eql
  have e1 : gop 3 0 1 0 1 = (-1, 0) := by decide
  have e2 : wr 32768 = -32768 := by decide
  have E := Lib.hid (And.intro e1 e2)
  clear ht e1 e2
  go_enter Tryd.func11, Tryd.ntmps11
  go_wp2_with fail
  refine (mul_any _ _ _ _ _).mono ?_
  rintro e w1 ⟨rfl, hB1⟩
  rw [E.out.1]
  have g1 := ((GS.start w).add 0 1 23).keep hB1
  obtain ⟨c0, c1⟩ := g1.at w.heap.size 0 1 (by simp)
  have G := Lib.hid g1
  clear hB1 g1
  go_wp2_with fail
  refine (wrap_any _ _).mono ?_
  rintro e w1 ⟨rfl, rfl⟩
  rw [E.out.2]
  go_wp2_with fail
  refine (text_any _ _ _ (Ht.out.below G.out.2)).mono ?_
  rintro e w2 ⟨rfl, hB2⟩
  rw [ntext_i]
  have HB2 := Lib.hid hB2
  clear hB2
  go_wp2_with fail
  go_ret
  exact ⟨rfl, bel_then G.out.2 HB2.out⟩

end Go.Proofs.YtgjcfmkaeffffaaDoor
