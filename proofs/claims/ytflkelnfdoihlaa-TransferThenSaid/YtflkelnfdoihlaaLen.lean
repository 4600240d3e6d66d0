/-
  wordset.Len: its contract.
-/
import Derived.Test.YtflkelnfdoihlaaOnes
import Derived.Test.YtflkelnfdoihlaaSame
namespace Go.Proofs.Ytflkelnfdoihlaa
open Go.RowKit

theorem pop_le (j x : Nat) : pop j x ≤ j := by
  induction j generalizing x with
  | zero => exact Nat.le_refl _
  | succ j ih => have := ih (x / 2); simp only [pop]; omega
/-- How many numbers a set's words have. -/
def lenE (zs : List Nat) : Nat := (zs.map (pop 64)).sum
theorem lenE_le (zs : List Nat) : lenE zs ≤ 64 * zs.length := by
  induction zs with
  | nil => exact Nat.le_refl _
  | cons z zs ih => have := pop_le 64 z; simp only [lenE, List.map_cons, List.sum_cons, List.length_cons] at ih ⊢; omega
theorem lenE_take (zs : List Nat) (k : Nat) (h : k < zs.length) : lenE (zs.take (k + 1)) = lenE (zs.take k) + pop 64 (zs[k]?.getD 0) := by
  rw [List.take_add_one, List.getElem?_eq_getElem h]
  unfold lenE
  rw [List.map_append, List.sum_append]
  simp

set_option maxHeartbeats 1600000 in
set_option maxRecDepth 100000 in
theorem len_any (v : Value) (zs : List Nat) (w : World) (hw : Ws w v zs) (hx : zs.length ≤ 1000000) :
    Calls Try.prog 54 #[v] w fun e w' => e = .returned (.int .i64 (lenE zs : Nat)) ∧ w' = w := by
  have hz := hw.1
  obtain ⟨p, c, rfl, hc⟩ := ws_row hw
  have HZ := Lib.hid hz
  have H1 := Lib.hid hc
  clear hz hc hw
  go_enter Try.func54, Try.ntmps54
  go_wp2
  go_loopw [3, 8] (fun s i wr => ∃ k : Nat, k ≤ zs.length ∧ i = .int .i64 k ∧ s = .int .i64 (lenE (zs.take k) : Nat) ∧ wr = w)
    (fun _ i _ => zs.length - (intOf i).toNat)
  case atStart => exact ⟨0, Nat.zero_le _, rfl, by simp [lenE], rfl⟩
  case round =>
    obtain ⟨k, hk, rfl, rfl, rfl⟩ := hrel
    by_cases hlt : k < zs.length
    · obtain ⟨a, rfl, hc⟩ := H1.out (by omega)
      replace hc := hc k hlt
      have ht := Lib.hid (lenE_take zs k hlt)
      have hb := Lib.hid (lenE_le (zs.take k))
      have hl := Lib.hid (show (zs.take k).length = k by simp; omega)
      have hzk := Lib.hid (HZ.out (zs[k]?.getD 0) (by rw [List.getElem?_eq_getElem hlt]; exact List.getElem_mem _))
      have hp := Lib.hid (pop_le 64 (zs[k]?.getD 0))
      generalize zs[k]?.getD 0 = z at *
      generalize lenE (zs.take k) = s at *
      go_wp2_with (go_at_call 81; refine (ones_any _ _ hzk.out).mono ?_; rintro e w' ⟨rfl, rfl⟩)
      refine ⟨⟨k + 1, by omega, by go_num, ?_, trivial⟩, by simp [intOf]; omega⟩
      have h1 := hb.out
      have h2 := hp.out
      rw [hl.out] at h1
      rw [ht.out, IntWalk.wrap64_in _ ⟨by omega, by omega⟩, Int.natCast_add]
    · obtain rfl : k = zs.length := by omega
      go_wp2
      go_ret
      exact ⟨ret_int (by rw [List.take_length]), rfl⟩

end Go.Proofs.Ytflkelnfdoihlaa
