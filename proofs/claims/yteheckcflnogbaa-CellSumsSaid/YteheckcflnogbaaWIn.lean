/-
  A slice of words that came in, as a list.
-/
import Derived.Test.YteheckcflnogbaaHas
import Derived.Deep.Slices
namespace Go.Proofs.Yteheckcflnogbaa
open Go.RowKit

theorem wfu64 {n : Int} (h : (Lit.int .u64 n).wf = true) : 0 ≤ n ∧ n ≤ 18446744073709551615 := by
  simp only [Lit.wf, Bool.and_eq_true, decide_eq_true_eq] at h
  exact ⟨h.1, h.2⟩
theorem words_of {H : Type} {enc : TypeId × Value → H} {w : World} {base : Nat} {spare : Nat → Bool} {held : Bool} {fuel : Nat} {o : Option Addr} {n c : Nat} {x : DataW H × List MemPlace}
    (h : DataW.trod enc Try.prog w base spare held fuel 22 [.slice o n c] = some x) : ∃ L, Ws w (.slice o n c) L ∧ L.length ≤ maxLen := by
  rcases Go.Deep.open_slice1 Try.underlying22 (by kernel_rfl) h with h | ⟨a, len, cap, m, k, V, D, Pl, hcs, hb, hl, hm, hmm, hx, hi⟩
  · have h := h.1
    simp only [List.cons.injEq, Value.slice.injEq, and_true] at h
    obtain ⟨rfl, rfl, rfl⟩ := h
    exact ⟨[], ⟨by simp, .inl ⟨rfl, rfl⟩⟩, by simp⟩
  · simp only [List.cons.injEq, Value.slice.injEq, and_true] at hcs
    obtain ⟨rfl, rfl, rfl⟩ := hcs
    have hx : ∀ i, ∃ z : Nat, z < 18446744073709551616 ∧ (i < n → w.cell? (a.add i) = some (.int .u64 (z : Nat))) := fun i => by
      by_cases hlt : i < n
      · have hn : n ≤ m := by rw [hmm]; split <;> omega
        obtain ⟨hc, ht⟩ := hi i (by omega)
        obtain ⟨z, hz, _, wf⟩ := DataW.trod_int Try.underlying29 ht
        simp only [List.cons.injEq, and_true] at hz
        have := wfu64 wf
        refine ⟨z.toNat, by omega, fun _ => ?_⟩
        rw [hc, hz, show ((z.toNat : Nat) : Int) = z by omega]
      · exact ⟨0, by decide, fun h => absurd h hlt⟩
    refine ⟨(List.range n).map fun i => (hx i).choose, ⟨fun z hz => ?_, .inr ⟨a, c, by simp, fun i h => ?_⟩⟩, by simp; omega⟩
    · obtain ⟨i, _, rfl⟩ := List.mem_map.1 hz
      exact (hx i).choose_spec.1
    · have hi' : i < n := by simpa using h
      rw [(hx i).choose_spec.2 hi', List.getElem?_map, List.getElem?_range hi']
      rfl

end Go.Proofs.Yteheckcflnogbaa
