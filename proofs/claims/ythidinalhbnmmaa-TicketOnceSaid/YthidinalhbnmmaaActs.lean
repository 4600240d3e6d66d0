/-
  A slice of memory's operations (structs of four numbers), as a list.
-/
import Derived.Test.YthidinalhbnmmaaBlk
import Derived.Test.YthidinalhbnmmaaOpenS
namespace Go.Proofs.Ythidinalhbnmmaa
open Go.RowKit

/-- An operation: its kind, its address, two words. -/
structure ActT where
  k : Int
  a : Int
  x : Int
  y : Int
def act0 : ActT := ⟨0, 0, 0, 0⟩
def actAt (L : List ActT) (j : Nat) : ActT := L[j]?.getD act0
/-- A slice of operations reads as a list. -/
def Acts (w : World) (v : Value) (L : List ActT) : Prop :=
  ∃ o c, v = .slice o L.length c ∧ (0 < L.length → ∃ b off, o = some ⟨b, off, none⟩ ∧ ∀ j, j < L.length →
    w.cell? ⟨b, off + j * 4, none⟩ = some (.int .i64 (actAt L j).k) ∧ w.cell? ⟨b, off + j * 4 + 1, none⟩ = some (.int .i64 (actAt L j).a) ∧
    w.cell? ⟨b, off + j * 4 + 2, none⟩ = some (.int .u64 (actAt L j).x) ∧ w.cell? ⟨b, off + j * 4 + 3, none⟩ = some (.int .u64 (actAt L j).y))

theorem acts_of {H : Type} {enc : TypeId × Value → H} {w : World} {base : Nat} {spare : Nat → Bool} {held : Bool} {fuel : Nat} {o : Option Addr} {n c : Nat} {x : DataW H × List MemPlace}
    (h : DataW.trod enc Try.prog w base spare held fuel 22 [.slice o n c] = some x) : ∃ L, Acts w (.slice o n c) L ∧ L.length ≤ maxLen := by
  rcases rows_ints Try.underlying22 Try.underlying30 (by kernel_rfl) (by kernel_rfl) (by decide) h with h | ⟨a, len, cap, h, hl, hm, hi⟩
  · simp only [List.cons.injEq, Value.slice.injEq, and_true] at h
    obtain ⟨rfl, rfl, rfl⟩ := h
    exact ⟨[], ⟨none, 0, rfl, by simp⟩, by simp⟩
  · simp only [List.cons.injEq, Value.slice.injEq, and_true] at h
    obtain ⟨rfl, rfl, rfl⟩ := h
    have hx : ∀ i, ∃ t : ActT, i < n → a.spot = none ∧ w.cell? ⟨a.block, a.off + i * 4, none⟩ = some (.int .i64 t.k) ∧ w.cell? ⟨a.block, a.off + i * 4 + 1, none⟩ = some (.int .i64 t.a) ∧
        w.cell? ⟨a.block, a.off + i * 4 + 2, none⟩ = some (.int .u64 t.x) ∧ w.cell? ⟨a.block, a.off + i * 4 + 3, none⟩ = some (.int .u64 t.y) := fun i => by
      by_cases hlt : i < n
      · obtain ⟨hs, hj⟩ := hi i hlt
        obtain ⟨k, hk, _⟩ := hj 0 _ .i64 rfl Try.underlying3
        obtain ⟨b, hb, _⟩ := hj 1 _ .i64 rfl Try.underlying3
        obtain ⟨y, hy, _⟩ := hj 2 _ .u64 rfl Try.underlying28
        obtain ⟨z, hz, _⟩ := hj 3 _ .u64 rfl Try.underlying28
        exact ⟨⟨k, b, y, z⟩, fun _ => ⟨hs, hk, hb, hy, hz⟩⟩
      · exact ⟨act0, fun h => absurd h hlt⟩
    refine ⟨(List.range n).map fun i => (hx i).choose, ⟨some a, c, by simp, fun h0 => ?_⟩, by simp; omega⟩
    have hsp : a.spot = none := ((hx 0).choose_spec (by simpa using h0)).1
    refine ⟨a.block, a.off, by cases a; simp at hsp; subst hsp; rfl, fun j hj => ?_⟩
    have hj' : j < n := by simpa using hj
    have e : actAt ((List.range n).map fun i => (hx i).choose) j = (hx j).choose := by
      unfold actAt
      rw [List.getElem?_map, List.getElem?_range hj']
      rfl
    rw [e]
    exact ((hx j).choose_spec hj').2

end Go.Proofs.Ythidinalhbnmmaa
