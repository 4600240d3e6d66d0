/-
  soughlaw26.FairIs: the walk.
-/
import Derived.Test.YtmgoojmkflginaaDoorFairG
namespace Go.Proofs.YtmgoojmkflginaaDoor
open Go.RowKit

set_option maxHeartbeats 1600000 in
set_option maxRecDepth 100000 in
theorem fairIs_walk (v : Value) (L : List (Int × Int)) (n k : Int) (W : World) (hP : Picks W v L) (ht : Tab W) :
    Calls Tryd.prog 6 #[v, .int .i64 n, .int .i64 k] W fun e w' => e = .returned (.bool true) ∧ Below W.heap.size W w' := by
  have Ht := Lib.hid ht
  have HP := Lib.hid hP
  obtain ⟨o, c, rfl, hle, _⟩ := hP
  clear ht
  by_cases h : 24 < L.length
  · have d : decide ((24 : Int) < L.length) = true := by simp; omega
    clear h
    go_enter Tryd.func6, Tryd.ntmps6
    go_wp2_with fail
    refine (awake26_any _ Ht.out).mono ?_
    rintro e w1 ⟨rfl, hB⟩
    go_wp2_with fail
    go_ret
    exact ⟨rfl, hB⟩
  · have d : decide ((24 : Int) < L.length) = false := by simp; omega
    go_enter Tryd.func6, Tryd.ntmps6
    go_wp2_with fail
    refine (awake26_any _ Ht.out).mono ?_
    rintro e w1 ⟨rfl, hB⟩
    have HB1 := Lib.hid hB
    clear hB
    go_wp2_with fail
    refine (is_any _ _ _ _ _ (HP.out.below HB1.out) (by omega)).mono ?_
    rintro e w2 ⟨rfl, hB⟩
    have HB2 := Lib.hid (bel_then HB1.out hB)
    clear hB
    go_wp2_with fail
    refine (ris_any _ _ _ _ _ (HP.out.below HB2.out) (by omega)).mono ?_
    rintro e w3 ⟨rfl, hB⟩
    have HB3 := Lib.hid (bel_then HB2.out hB)
    clear hB
    go_wp2_with fail
    refine (window_any _ _ _ _ (HP.out.below HB3.out) (by omega)).mono ?_
    rintro e w4 ⟨rfl, hB⟩
    have HB4 := Lib.hid (bel_then HB3.out hB)
    clear hB
    go_wp2_with fail
    refine (rwindow_any _ _ _ _ (HP.out.below HB4.out) (by omega)).mono ?_
    rintro e w5 ⟨rfl, hB⟩
    have HB5 := Lib.hid (bel_then HB4.out hB)
    clear hB
    go_wp2_with fail
    go_ret
    exact ⟨by simp, HB5.out⟩

end Go.Proofs.YtmgoojmkflginaaDoor
