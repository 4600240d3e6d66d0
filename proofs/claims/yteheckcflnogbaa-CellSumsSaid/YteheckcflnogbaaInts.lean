/-
  soughref07.Ints: whether two lists of ints are the same: its contract, at whatever slices.
-/
import Derived.Test.YteheckcflnogbaaKit
import Derived.WalkKit
import Derived.Lib.Hide
import Derived.BigQuiet
import Derived.Deep.QuietTactic
namespace Go.Proofs.Yteheckcflnogbaa
open Go.RowKit


/-- A slice of ints reads as a list. -/
def IntsAt (w : World) (v : Value) (zs : List Int) : Prop :=
  ∃ o c, v = .slice o zs.length c ∧ (0 < zs.length → ∃ b off, o = some ⟨b, off, none⟩ ∧ ∀ j, j < zs.length → w.cell? ⟨b, off + j, none⟩ = some (.int .i64 (zs[j]?.getD 0)))

theorem IntsAt.drewN {w : World} {v : Value} {zs : List Int} (h : IntsAt w v zs) (n : Nat) : IntsAt (w.drewN n) v zs := h

theorem IntsAt.of_owns {w : World} {base e : Nat} {v : Value} {n : Nat} {zs : List Int} (h : w.ownsRow base e 1 v n (zs.map (Value.int .i64))) : IntsAt w v zs := by
  obtain ⟨hl, h | ⟨g, cap, cur, rfl, hg, hb, hn, hm, hs, hc⟩⟩ := h
  · obtain ⟨rfl, rfl⟩ := h
    have : zs = [] := by simpa using hl
    subst this
    exact ⟨_, _, rfl, by simp⟩
  · have hzl : zs.length = n := by simpa using hl
    subst hzl
    refine ⟨_, _, rfl, fun _ => ⟨g, 0, rfl, fun j hj => ?_⟩⟩
    have hj' : (cur.toList.take (zs.length * 1))[j]? = some (.int .i64 (zs[j]?.getD 0)) := by
      rw [hc]; simp [hj]
    rw [List.getElem?_take] at hj'
    simp at hj'
    simp [World.cell?, hb, hj'.2]

theorem IntsAt.below {w w' : World} {v : Value} {zs : List Int} (h : IntsAt w v zs) (hB : Below w.heap.size w w') : IntsAt w' v zs := by
  obtain ⟨o, c, rfl, hc⟩ := h
  refine ⟨o, c, rfl, fun h0 => ?_⟩
  obtain ⟨b, f, rfl, hd⟩ := hc h0
  refine ⟨b, f, rfl, fun j hj => ?_⟩
  have hb := cell_lt (hd j hj)
  rw [hB.cell (by exact hb)]
  exact hd j hj

theorem ints_ne {xs ys : List Int} {k : Nat} (hl : xs.length = ys.length) (h : ¬ xs[k]?.getD 0 = ys[k]?.getD 0) : decide (xs = ys) = false := by
  simp; rintro rfl; exact h rfl
theorem ints_eq {xs ys : List Int} (hl : xs.length = ys.length) (h : ∀ j, j < xs.length → xs[j]?.getD 0 = ys[j]?.getD 0) : decide (xs = ys) = true := by
  simp
  refine List.ext_getElem hl fun j h1 h2 => ?_
  have := h j h1
  simpa [h1, h2] using this

set_option maxHeartbeats 1600000 in
set_option maxRecDepth 100000 in
theorem ints_any (v1 v2 : Value) (xs ys : List Int) (w : World) (h1 : IntsAt w v1 xs) (h2 : IntsAt w v2 ys) (hx : xs.length ≤ 9223372036854775807) (hy : ys.length ≤ 9223372036854775807) :
    Calls Try.prog 61 #[v1, v2] w fun e w' => e = .returned (.bool (decide (xs = ys))) ∧ ∃ n, w' = w.drewN n := by
  obtain ⟨o1, c1, rfl, hc1⟩ := h1
  obtain ⟨o2, c2, rfl, hc2⟩ := h2
  by_cases hl : xs.length = ys.length
  · have Hl := Lib.hid hl
    have hl1 : xs.length ≤ ys.length := by omega
    have hl2 : ys.length ≤ xs.length := by omega
    have hb : ((xs.length : Int) != (ys.length : Int)) = false := by simp [hl]
    clear hl
    have H1 := Lib.hid hc1
    have H2 := Lib.hid hc2
    clear hc1 hc2
    go_enter Try.func61, Try.ntmps61
    go_wp2
    go_loopw [13] (fun i wr => ∃ k nq : Nat, k ≤ xs.length ∧ i = .int .i64 k ∧ (∀ j, j < k → xs[j]?.getD 0 = ys[j]?.getD 0) ∧ wr = w.drewN nq)
      (fun i _ => xs.length - (intOf i).toNat)
    case atStart => exact ⟨0, 0, Nat.zero_le _, rfl, by simp, rfl⟩
    case round =>
      obtain ⟨k, nq, hk, rfl, hall, rfl⟩ := hrel
      have Hall := Lib.hid hall
      clear hall
      by_cases hlt : k < xs.length
      · obtain ⟨b1, f1, rfl, hc1⟩ := H1.out (by omega)
        obtain ⟨b2, f2, rfl, hc2⟩ := H2.out (by omega)
        have e1 : w.cell? ⟨b1, f1 + k, none⟩ = some (.int .i64 (xs[k]?.getD 0)) := hc1 k hlt
        have e2 : w.cell? ⟨b2, f2 + k, none⟩ = some (.int .i64 (ys[k]?.getD 0)) := hc2 k (by omega)
        clear hc1 hc2
        have hx1 : xs[k]?.getD 0 = xs[k] := by simp [hlt]
        go_wp2
        go_quiet (fail)
        go_wp2
        · have hne : (xs[k] != ys[k]?.getD 0) = true := by assumption
          go_ret
          exact ⟨ret_bool (ints_ne (k := k) Hl.out (by rw [hx1]; simpa using hne)).symm, _, World.drewN_drewN ..⟩
        · have heq : (xs[k] != ys[k]?.getD 0) = false := by assumption
          refine ⟨⟨k + 1, _, by omega, by go_num, fun j hj => ?_, rfl⟩, by simp [intOf]; omega⟩
          rcases (show j < k ∨ j = k from by omega) with h | rfl
          · exact Hall.out j h
          · rw [hx1]; simpa using heq
      · obtain rfl : k = xs.length := by omega
        go_wp2
        go_ret
        exact ⟨ret_bool (ints_eq Hl.out Hall.out).symm, nq, rfl⟩
  · have hb : ((xs.length : Int) != (ys.length : Int)) = true := by simp; omega
    go_enter Try.func61, Try.ntmps61
    clear hc1 hc2
    go_wp2
    go_ret
    exact ⟨ret_bool (decide_eq_false (by rintro rfl; exact hl rfl)).symm, 0, rfl⟩

end Go.Proofs.Yteheckcflnogbaa
