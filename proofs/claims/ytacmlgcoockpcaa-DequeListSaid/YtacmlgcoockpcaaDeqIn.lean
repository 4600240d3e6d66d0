/-
  A slice of the deque's acts that came in, as a list.
-/
import Derived.Test.YtacmlgcoockpcaaDeqW
import Derived.Test.YtacmlgcoockpcaaOpenS
namespace Go.Proofs.Ytacmlgcoockpcaa
open Go.RowKit

theorem acts27_of {H : Type} {enc : TypeId × Value → H} {w : World} {base : Nat} {spare : Nat → Bool} {held : Bool} {fuel : Nat} {o : Option Addr} {n c : Nat} {x : DataW H × List MemPlace}
    (h : DataW.trod enc Try.prog w base spare held fuel 42 [.slice o n c] = some x) : ∃ L, Acts w (.slice o n c) L ∧ L.length ≤ maxLen := by
  rcases rows_ints Try.underlying42 Try.underlying49 (by kernel_rfl) (by kernel_rfl) (by decide) h with h | ⟨a, len, cap, h, hl, hm, hi⟩
  · simp only [List.cons.injEq, Value.slice.injEq, and_true] at h
    obtain ⟨rfl, rfl, rfl⟩ := h
    exact ⟨[], ⟨none, 0, rfl, by simp, by simp⟩, by simp⟩
  · simp only [List.cons.injEq, Value.slice.injEq, and_true] at h
    obtain ⟨rfl, rfl, rfl⟩ := h
    have hx : ∀ i, ∃ t : ActT, i < n → a.spot = none ∧ w.cell? ⟨a.block, a.off + i * 3, none⟩ = some (.int .i64 t.kind) ∧ w.cell? ⟨a.block, a.off + i * 3 + 1, none⟩ = some (.int .u64 t.n) ∧
        w.cell? ⟨a.block, a.off + i * 3 + 2, none⟩ = some (.int .u8 t.steps) := fun i => by
      by_cases hlt : i < n
      · obtain ⟨hs, hj⟩ := hi i hlt
        obtain ⟨k, hk, _⟩ := hj 0 _ .i64 rfl Try.underlying3
        obtain ⟨b, hb, _⟩ := hj 1 _ .u64 rfl Try.underlying28
        obtain ⟨y, hy, _⟩ := hj 2 _ .u8 rfl Try.underlying5
        exact ⟨⟨k, b, y⟩, fun _ => ⟨hs, hk, hb, hy⟩⟩
      · exact ⟨⟨0, 0, 0⟩, fun h => absurd h hlt⟩
    refine ⟨(List.range n).map fun i => (hx i).choose, ⟨some a, c, by simp, by simpa using hl, fun h0 => ?_⟩, by simp; omega⟩
    have hsp : a.spot = none := ((hx 0).choose_spec (by simpa using h0)).1
    refine ⟨a.block, a.off, by cases a; simp at hsp; subst hsp; rfl, fun j hj => ?_⟩
    have hj' : j < n := by simpa using hj
    have e : actAt ((List.range n).map fun i => (hx i).choose) j = (hx j).choose := by
      unfold actAt
      rw [List.getElem?_map, List.getElem?_range hj']
      rfl
    rw [e]
    exact ((hx j).choose_spec hj').2

end Go.Proofs.Ytacmlgcoockpcaa
