/-
  soughref07.Ints: whether two lists of ints are the same: its contract, at whatever slices.
-/
import Derived.Test.YtflkelnfdoihlaaKit
import Derived.WalkKit
import Derived.Lib.Hide
import Derived.BigQuiet
import Derived.Deep.QuietTactic
namespace Go.Proofs.Ytflkelnfdoihlaa
open Go.RowKit


/-- A slice of ints reads as a list. -/
def IntsAt (w : World) (v : Value) (zs : List Int) : Prop :=
  ∃ o c, v = .slice o zs.length c ∧ (0 < zs.length → ∃ b off, o = some ⟨b, off, none⟩ ∧ ∀ j, j < zs.length → w.cell? ⟨b, off + j, none⟩ = some (.int .i64 (zs[j]?.getD 0)))

theorem IntsAt.drewN {w : World} {v : Value} {zs : List Int} (h : IntsAt w v zs) (n : Nat) : IntsAt (w.drewN n) v zs := h

theorem IntsAt.of_owns {w : World} {base e : Nat} {v : Value} {n : Nat} {zs : List Int} (h : w.ownsRow base e 1 v n (zs.map (Value.int .i64))) : IntsAt w v zs := by
  obtain ⟨hl, h | ⟨g, cap, cur, rfl, hg, hb, hn, hm, hs, hc⟩⟩ := h
  · obtain ⟨rfl, rfl⟩ := h
    have : zs = [] := by simpa using hl
    subst this
    exact ⟨_, _, rfl, by simp⟩
  · have hzl : zs.length = n := by simpa using hl
    subst hzl
    refine ⟨_, _, rfl, fun _ => ⟨g, 0, rfl, fun j hj => ?_⟩⟩
    have hj' : (cur.toList.take (zs.length * 1))[j]? = some (.int .i64 (zs[j]?.getD 0)) := by
      rw [hc]; simp [hj]
    rw [List.getElem?_take] at hj'
    simp at hj'
    simp [World.cell?, hb, hj'.2]

theorem IntsAt.below {w w' : World} {v : Value} {zs : List Int} (h : IntsAt w v zs) (hB : Below w.heap.size w w') : IntsAt w' v zs := by
  obtain ⟨o, c, rfl, hc⟩ := h
  refine ⟨o, c, rfl, fun h0 => ?_⟩
  obtain ⟨b, f, rfl, hd⟩ := hc h0
  refine ⟨b, f, rfl, fun j hj => ?_⟩
  have hb := cell_lt (hd j hj)
  rw [hB.cell (by exact hb)]
  exact hd j hj

theorem ints_ne {xs ys : List Int} {k : Nat} (hl : xs.length = ys.length) (h : ¬ xs[k]?.getD 0 = ys[k]?.getD 0) : decide (xs = ys) = false := by
  simp; rintro rfl; exact h rfl
theorem ints_eq {xs ys : List Int} (hl : xs.length = ys.length) (h : ∀ j, j < xs.length → xs[j]?.getD 0 = ys[j]?.getD 0) : decide (xs = ys) = true := by
  simp
  refine List.ext_getElem hl fun j h1 h2 => ?_
  have := h j h1
  simpa [h1, h2] using this


end Go.Proofs.Ytflkelnfdoihlaa
