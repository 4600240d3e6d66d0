/-
  soughlaw10.awake, few: contracts.
-/
import Derived.Test.YtdifegcpfpdngaaDoorNums
import Derived.Test.YtdifegcpfpdngaaDoorOf
namespace Go.Proofs.YtdifegcpfpdngaaDoor
open Go.RowKit

theorem ints3 (w : World) (a b c : Int) : IntsAt (w.alloc (.cells #[.int .i64 a, .int .i64 b, .int .i64 c] 3)) (.slice (some ⟨w.heap.size, 0, none⟩) 3 3) [a, b, c] := by
  refine ⟨_, _, rfl, fun _ => ⟨w.heap.size, 0, rfl, fun j hj => ?_⟩⟩
  have h : Bk (w.alloc (.cells #[.int .i64 a, .int .i64 b, .int .i64 c] 3)) w.heap.size 3 [.int .i64 a, .int .i64 b, .int .i64 c] := Bk.new _ _ _
  rw [h.cell]
  rcases j with _ | _ | _ | j
  · rfl
  · rfl
  · rfl
  · simp at hj; omega
theorem aw_of : ofE 70 [1, 69, 70] = [2, 32] := by decide +kernel
theorem aw_list : (setE [2, 32]).map Int.ofNat = [1, 69] := by decide +kernel
theorem aw_full : lenE (fullE 70) = 70 := by decide +kernel

set_option maxHeartbeats 1600000 in
set_option maxRecDepth 100000 in
theorem wawake_any (w : World) (ht : TabZ w) :
    Calls Tryd.prog 25 #[] w fun e w' => e = .returned (.bool true) ∧ Below w.heap.size w w' := by
  go_enter Tryd.func25, Tryd.ntmps25
  go_wp2_with fail
  have B0 := Lib.hid ((Below.refl w.heap.size w).alloc (Nat.le_refl _) (.cells #[.int .i64 1, .int .i64 69, .int .i64 70] 3))
  refine (of_any 70 _ [1, 69, 70] _ (ints3 w 1 69 70) (by decide)).mono ?_
  rintro e w1 ⟨u, rfl, hW, hB⟩
  rw [aw_of] at hW
  have B1 := Lib.hid (B0.out.trans (hB.mono B0.out.size))
  have HT := Lib.hid (ht.below B1.out)
  have HW := Lib.hid hW
  obtain ⟨p1, c1, rfl⟩ := ws_len hW
  clear hW hB B0 ht
  go_wp2_with fail
  refine (list_any _ _ _ HW.out (by decide) HT.out).mono ?_
  rintro e w2 ⟨u, rfl, hI, hB⟩
  rw [aw_list] at hI
  have B2 := Lib.hid (B1.out.trans (hB.mono B1.out.size))
  obtain ⟨o, c, rfl, hc⟩ := hI
  obtain ⟨bb, off, rfl, hd⟩ := hc (by decide)
  have hcell : w2.cell? ⟨bb, off + 1, none⟩ = some (.int .i64 69) := hd 1 (by decide)
  clear hd hc hB B1
  go_wp2_with fail
  refine (full_any 70 w2).mono ?_
  rintro e w3 ⟨u, rfl, hW, hB⟩
  have B3 := Lib.hid (B2.out.trans (hB.mono B2.out.size))
  have HW3 := Lib.hid hW
  obtain ⟨p3, c3, rfl⟩ := ws_len hW
  have hlen : (fullE 70).length ≤ 1000000 := by rw [fullE_len]; have := sizeE_le 70; omega
  clear hW hB B2
  go_wp2_with fail
  refine (len_any _ _ _ HW3.out hlen).mono ?_
  rintro e w4 ⟨rfl, rfl⟩
  rw [aw_full]
  go_wp2_with fail
  go_ret
  exact ⟨ret_bool (by first | rfl | simp), B3.out⟩


end Go.Proofs.YtdifegcpfpdngaaDoor
