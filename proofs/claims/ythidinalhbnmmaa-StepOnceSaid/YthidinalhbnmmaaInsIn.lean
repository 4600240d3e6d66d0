/-
  A slice of instructions that came in, as a list.
-/
import Derived.Test.YthidinalhbnmmaaIns
import Derived.Test.YthidinalhbnmmaaOpenS
namespace Go.Proofs.Ythidinalhbnmmaa
open Go.RowKit

theorem ins_of {H : Type} {enc : TypeId × Value → H} {w : World} {base : Nat} {spare : Nat → Bool} {held : Bool} {fuel : Nat} {o : Option Addr} {n c : Nat} {x : DataW H × List MemPlace}
    (h : DataW.trod enc Try.prog w base spare held fuel 42 [.slice o n c] = some x) : ∃ L, (∃ gi, Ins w (.slice o n c) L gi ∧ (0 < L.length → gi < w.heap.size)) ∧ L.length ≤ maxLen := by
  rcases rows_ints Try.underlying42 Try.underlying168 (by kernel_rfl) (by kernel_rfl) (by decide) h with h | ⟨a, len, cap, h, hl, hm, hi⟩
  · simp only [List.cons.injEq, Value.slice.injEq, and_true] at h
    obtain ⟨rfl, rfl, rfl⟩ := h
    exact ⟨[], ⟨0, ⟨none, 0, rfl, by simp, by simp⟩, by simp⟩, by simp⟩
  · simp only [List.cons.injEq, Value.slice.injEq, and_true] at h
    obtain ⟨rfl, rfl, rfl⟩ := h
    have hx : ∀ i, ∃ t : InsT, i < n → a.spot = none ∧ w.cell? ⟨a.block, a.off + i * 4, none⟩ = some (.int .i64 t.op) ∧ w.cell? ⟨a.block, a.off + i * 4 + 1, none⟩ = some (.int .i64 t.r) ∧
        w.cell? ⟨a.block, a.off + i * 4 + 2, none⟩ = some (.int .i64 t.a) ∧ w.cell? ⟨a.block, a.off + i * 4 + 3, none⟩ = some (.int .u64 t.n) := fun i => by
      by_cases hlt : i < n
      · obtain ⟨hs, hj⟩ := hi i hlt
        obtain ⟨k, hk, _⟩ := hj 0 _ .i64 rfl Try.underlying3
        obtain ⟨b, hb, _⟩ := hj 1 _ .i64 rfl Try.underlying3
        obtain ⟨y, hy, _⟩ := hj 2 _ .i64 rfl Try.underlying3
        obtain ⟨z, hz, _⟩ := hj 3 _ .u64 rfl Try.underlying28
        exact ⟨⟨k, b, y, z⟩, fun _ => ⟨hs, hk, hb, hy, hz⟩⟩
      · exact ⟨ins0, fun h => absurd h hlt⟩
    refine ⟨(List.range n).map fun i => (hx i).choose, ⟨a.block, ⟨some a, c, by simp, by simpa using hl, fun h0 => ?_⟩, fun h0 => ?_⟩, by simp; omega⟩
    · have hsp : a.spot = none := ((hx 0).choose_spec (by simpa using h0)).1
      refine ⟨a.off, by cases a; simp at hsp; subst hsp; rfl, fun j hj => ?_⟩
      have hj' : j < n := by simpa using hj
      have e : insAt ((List.range n).map fun i => (hx i).choose) j = (hx j).choose := by
        unfold insAt
        rw [List.getElem?_map, List.getElem?_range hj']
        rfl
      rw [e]
      exact ((hx j).choose_spec hj').2
    · have h1 := cell_lt ((hx 0).choose_spec (by simpa using h0)).2.1
      exact h1

end Go.Proofs.Ythidinalhbnmmaa
