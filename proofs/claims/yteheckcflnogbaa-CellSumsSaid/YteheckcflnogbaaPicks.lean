/-
  Slices of picks (structs of two ints), and of ints, as lists.
-/
import Derived.Test.YteheckcflnogbaaBlk
import Derived.Test.YteheckcflnogbaaOpenS
import Derived.Test.YteheckcflnogbaaFairM
namespace Go.Proofs.Yteheckcflnogbaa
open Go.RowKit

def pickAt (L : List (Int × Int)) (j : Nat) : Int × Int := L[j]?.getD (0, 0)
/-- A slice of picks reads as a list. -/
def Picks (w : World) (v : Value) (L : List (Int × Int)) : Prop :=
  ∃ o c, v = .slice o L.length c ∧ L.length ≤ c ∧ (0 < L.length → ∃ b off, o = some ⟨b, off, none⟩ ∧ ∀ j, j < L.length →
    w.cell? ⟨b, off + j * 2, none⟩ = some (.int .i64 (pickAt L j).1) ∧ w.cell? ⟨b, off + j * 2 + 1, none⟩ = some (.int .i64 (pickAt L j).2))
theorem Picks.drewN {w : World} {v : Value} {L : List (Int × Int)} (h : Picks w v L) (n : Nat) : Picks (w.drewN n) v L := h
theorem Picks.below {w w' : World} {v : Value} {L : List (Int × Int)} (h : Picks w v L) (hB : Below w.heap.size w w') : Picks w' v L := by
  obtain ⟨o, c, rfl, hle, hc⟩ := h
  refine ⟨o, c, rfl, hle, fun h0 => ?_⟩
  obtain ⟨b, f, rfl, hd⟩ := hc h0
  exact ⟨b, f, rfl, fun j hj => ⟨keepc (hd j hj).1 hB, keepc (hd j hj).2 hB⟩⟩

/-- The cells of a list of picks. -/
def pcells (L : List (Int × Int)) : List Value := L.flatMap fun p => [.int .i64 p.1, .int .i64 p.2]
theorem pcells_append (L M : List (Int × Int)) : pcells (L ++ M) = pcells L ++ pcells M := by simp [pcells]
theorem pcells_at (L : List (Int × Int)) : ∀ j, j < L.length → (pcells L)[j * 2]? = some (.int .i64 (pickAt L j).1) ∧ (pcells L)[j * 2 + 1]? = some (.int .i64 (pickAt L j).2) := by
  induction L with
  | nil => intro j h; simp at h
  | cons p L ih =>
    intro j h
    cases j with
    | zero => exact ⟨rfl, rfl⟩
    | succ j =>
      have := ih j (by simpa using h)
      rw [show (j + 1) * 2 = j * 2 + 1 + 1 by omega]
      exact this
theorem pcells_len (L : List (Int × Int)) : (pcells L).length = L.length * 2 := by
  induction L with
  | nil => rfl
  | cons p L ih => simp only [pcells, List.flatMap_cons, List.length_append, List.length_cons, List.length_nil] at ih ⊢; omega
theorem Picks.of_owns {w : World} {base e : Nat} {v : Value} {n : Nat} {L : List (Int × Int)} (h : w.ownsRow base e 2 v n (pcells L)) : Picks w v L := by
  obtain ⟨hl, h | ⟨g, cap, cur, rfl, hg, hb, hn, hm, hs, hc⟩⟩ := h
  · obtain ⟨rfl, rfl⟩ := h
    have : L = [] := by rw [pcells_len] at hl; exact List.eq_nil_of_length_eq_zero (by omega)
    subst this
    exact ⟨_, _, rfl, by simp, by simp⟩
  · have hzl : L.length = n := by rw [pcells_len] at hl; omega
    subst hzl
    have hcell : ∀ i, i < L.length * 2 → w.cell? ⟨g, i, none⟩ = (pcells L)[i]? := fun i hi => by
      rw [← hc, List.getElem?_take, if_pos hi]
      simp [World.cell?, hb]
    refine ⟨_, _, rfl, hn, fun _ => ⟨g, 0, rfl, fun j hj => ?_⟩⟩
    have := pcells_at L j hj
    rw [Nat.zero_add]
    exact ⟨(hcell _ (by omega)).trans this.1, (hcell _ (by omega)).trans this.2⟩

theorem picks_of {H : Type} {enc : TypeId × Value → H} {w : World} {base : Nat} {spare : Nat → Bool} {held : Bool} {fuel : Nat} {o : Option Addr} {n c : Nat} {x : DataW H × List MemPlace}
    (h : DataW.trod enc Try.prog w base spare held fuel 76 [.slice o n c] = some x) : ∃ L, Picks w (.slice o n c) L ∧ L.length ≤ maxLen := by
  rcases rows_ints Try.underlying76 Try.underlying204 (by kernel_rfl) (by kernel_rfl) (by decide) h with h | ⟨a, len, cap, h, hl, hm, hi⟩
  · simp only [List.cons.injEq, Value.slice.injEq, and_true] at h
    obtain ⟨rfl, rfl, rfl⟩ := h
    exact ⟨[], ⟨none, 0, rfl, by simp, by simp⟩, by simp⟩
  · simp only [List.cons.injEq, Value.slice.injEq, and_true] at h
    obtain ⟨rfl, rfl, rfl⟩ := h
    have hx : ∀ i, ∃ t : Int × Int, i < n → a.spot = none ∧ w.cell? ⟨a.block, a.off + i * 2, none⟩ = some (.int .i64 t.1) ∧ w.cell? ⟨a.block, a.off + i * 2 + 1, none⟩ = some (.int .i64 t.2) := fun i => by
      by_cases hlt : i < n
      · obtain ⟨hs, hj⟩ := hi i hlt
        obtain ⟨k, hk, _⟩ := hj 0 _ .i64 rfl Try.underlying3
        obtain ⟨b, hb, _⟩ := hj 1 _ .i64 rfl Try.underlying3
        exact ⟨(k, b), fun _ => ⟨hs, hk, hb⟩⟩
      · exact ⟨(0, 0), fun h => absurd h hlt⟩
    refine ⟨(List.range n).map fun i => (hx i).choose, ⟨some a, c, by simp, by simpa using hl, fun h0 => ?_⟩, by simp; omega⟩
    have hsp : a.spot = none := ((hx 0).choose_spec (by simpa using h0)).1
    refine ⟨a.block, a.off, by cases a; simp at hsp; subst hsp; rfl, fun j hj => ?_⟩
    have hj' : j < n := by simpa using hj
    have e : pickAt ((List.range n).map fun i => (hx i).choose) j = (hx j).choose := by
      unfold pickAt
      rw [List.getElem?_map, List.getElem?_range hj']
      rfl
    rw [e]
    exact ((hx j).choose_spec hj').2

end Go.Proofs.Yteheckcflnogbaa
