/-
  soughref10.Same: whether two sets' words are the same: its contract.
-/
import Derived.Test.YteheckcflnogbaaHas
import Derived.Test.YteheckcflnogbaaInts
namespace Go.Proofs.Yteheckcflnogbaa
open Go.RowKit

theorem ws_row {w : World} {v : Value} {zs : List Nat} (h : Ws w v zs) : ∃ p cap, v = .slice p zs.length cap ∧ (0 < zs.length → ∃ a, p = some a ∧ ∀ i, i < zs.length → w.cell? (a.add i) = some (.int .u64 (zs[i]?.getD 0 : Nat))) := by
  rcases h.2 with ⟨rfl, rfl⟩ | ⟨a, cap, rfl, hc⟩
  · exact ⟨_, _, rfl, by simp⟩
  · exact ⟨_, _, rfl, fun _ => ⟨a, rfl, hc⟩⟩
theorem same_ne {xs ys : List Nat} {k : Nat} (h : ¬ ((xs[k]?.getD 0 : Nat) : Int) = ((ys[k]?.getD 0 : Nat) : Int)) : decide (xs = ys) = false := by
  simp; rintro rfl; exact h rfl
theorem same_eq {xs ys : List Nat} (hl : xs.length = ys.length) (h : ∀ j, j < xs.length → xs[j]?.getD 0 = ys[j]?.getD 0) : decide (xs = ys) = true := by
  simp
  refine List.ext_getElem hl fun j h1 h2 => ?_
  have := h j h1
  simpa [h1, h2] using this

set_option maxHeartbeats 1600000 in
set_option maxRecDepth 100000 in
theorem same_any (v1 v2 : Value) (xs ys : List Nat) (w : World) (h1 : Ws w v1 xs) (h2 : Ws w v2 ys) (hx : xs.length ≤ 9223372036854775807) (hy : ys.length ≤ 9223372036854775807) :
    Calls Try.prog 19 #[v1, v2] w fun e w' => e = .returned (.bool (decide (xs = ys))) ∧ ∃ n, w' = w.drewN n := by
  obtain ⟨o1, c1, rfl, hc1⟩ := ws_row h1
  obtain ⟨o2, c2, rfl, hc2⟩ := ws_row h2
  clear h1 h2
  by_cases hl : xs.length = ys.length
  · have Hl := Lib.hid hl
    have hl1 : xs.length ≤ ys.length := by omega
    have hl2 : ys.length ≤ xs.length := by omega
    have hb : ((xs.length : Int) != (ys.length : Int)) = false := by simp [hl]
    clear hl
    have H1 := Lib.hid hc1
    have H2 := Lib.hid hc2
    clear hc1 hc2
    go_enter Try.func19, Try.ntmps19
    go_wp2
    go_loopw [13] (fun i wr => ∃ k nq : Nat, k ≤ xs.length ∧ i = .int .i64 k ∧ (∀ j, j < k → xs[j]?.getD 0 = ys[j]?.getD 0) ∧ wr = w.drewN nq)
      (fun i _ => xs.length - (intOf i).toNat)
    case atStart => exact ⟨0, 0, Nat.zero_le _, rfl, by simp, rfl⟩
    case round =>
      obtain ⟨k, nq, hk, rfl, hall, rfl⟩ := hrel
      have Hall := Lib.hid hall
      clear hall
      by_cases hlt : k < xs.length
      · obtain ⟨a, rfl, hc1⟩ := H1.out (by omega)
        obtain ⟨b, rfl, hc2⟩ := H2.out (by omega)
        replace hc1 := hc1 k hlt
        replace hc2 := hc2 k (by omega)
        have Hs := Lib.hid (fun (h : ¬ ((xs[k]?.getD 0 : Nat) : Int) = ((ys[k]?.getD 0 : Nat) : Int)) => same_ne h)
        have Ht := Lib.hid (show xs[k]?.getD 0 = ys[k]?.getD 0 → ∀ j, j < k + 1 → xs[j]?.getD 0 = ys[j]?.getD 0 from fun e j hj => by
          rcases (show j < k ∨ j = k from by omega) with h | rfl
          · exact Hall.out j h
          · exact e)
        generalize xs[k]?.getD 0 = x at *
        generalize ys[k]?.getD 0 = y at *
        go_wp2
        go_quiet (fail)
        go_wp2
        · go_ret
          exact ⟨ret_bool (Hs.out (by have : ((x : Int) != (y : Int)) = true := by assumption
                                      simpa using this)).symm, _, World.drewN_drewN ..⟩
        · refine ⟨⟨k + 1, _, by omega, by go_num, Ht.out (by have : ((x : Int) != (y : Int)) = false := by assumption
                                                             simp at this; omega), rfl⟩, by simp [intOf]; omega⟩
      · obtain rfl : k = xs.length := by omega
        go_wp2
        go_ret
        exact ⟨ret_bool (same_eq Hl.out Hall.out).symm, nq, rfl⟩
  · have hb : ((xs.length : Int) != (ys.length : Int)) = true := by simp; omega
    clear hc1 hc2
    go_enter Try.func19, Try.ntmps19
    go_wp2
    go_ret
    exact ⟨ret_bool (decide_eq_false (by rintro rfl; exact hl rfl)).symm, 0, rfl⟩

end Go.Proofs.Yteheckcflnogbaa
