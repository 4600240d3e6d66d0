/-
  math/bits.TrailingZeros64: its contract (the library's own arithmetic, at this program).
-/
import Derived.Test.YtdifegcpfpdngaaDoorSetL
import Derived.Lib.LaidTab
import Derived.Shelf.Spec.TrailingZeros
namespace Go.Proofs.YtdifegcpfpdngaaDoor
open Go.RowKit

/-- What the library's table for the lowest bit holds. -/
def TabZ (w : World) : Prop := Lib.TabIs Tryd.prog w "math/bits.deBruijn64tab" .u8 (Lib.deBruijn64tab.map Int.ofNat)
theorem TabZ.below {w w' : World} (h : TabZ w) (hb : Below w.heap.size w w') : TabZ w' := by
  unfold TabZ Lib.TabIs World.var? at h ⊢
  have hg : Tryd.prog.globalNamed "math/bits.deBruijn64tab" = some 0 := by kernel_rfl
  rw [hg] at h ⊢
  simp only [Option.bind_some] at h ⊢
  have hlt : 0 < w.heap.size := by
    rcases Nat.lt_or_ge 0 w.heap.size with h' | h'
    · exact h'
    · rw [Array.getElem?_eq_none h'] at h; cases h
  rw [hb.block _ hlt]
  exact h
theorem TabZ.cell {w : World} (h : TabZ w) (i : Nat) (hi : i < 64) : w.cell? ⟨0, i, none⟩ = some (.int .u8 (Lib.deBruijn64tab.getD i 0 : Nat)) := by
  have := Lib.TabIs.cell h (g := 0) (by kernel_rfl) i (by simpa [Lib.deBruijn64tab] using hi)
  rw [this]
  have hl : i < Lib.deBruijn64tab.length := by simpa [Lib.deBruijn64tab] using hi
  simp [List.getD_eq_getElem?_getD, List.getElem?_map, List.getElem?_eq_getElem hl]

set_option maxHeartbeats 1600000 in
set_option maxRecDepth 100000 in
theorem tz_any (x : Nat) (hx : x < 18446744073709551616) (h0 : x ≠ 0) (w : World) (ht : TabZ w) :
    Calls Tryd.prog 65 #[.int .u64 (x : Nat)] w fun e w' => e = .returned (.int .i64 (Lib.ctzFrom 64 x : Nat)) ∧ w' = w := by
  obtain ⟨hlow, hk⟩ := Lib.lowest_bit 64 x h0 hx
  obtain ⟨idx, hidx⟩ : ∃ idx, idx = 2 ^ Lib.ctz 64 x * 285870213051353865 % 18446744073709551616 / 288230376151711744 := ⟨_, rfl⟩
  obtain ⟨hi, htab⟩ := Lib.deBruijn64_at _ hk
  rw [← hidx] at hi htab
  have hc := ht.cell _ hi
  rw [htab] at hc
  have key := tz64_key x _ hx h0 hlow
  rw [← hidx] at key
  have hz : ((x : Int) == 0) = false := by simp; omega
  have hq : Lib.ctz 64 x = Lib.ctzFrom 64 x := by unfold Lib.ctz; rw [if_neg h0]
  rw [hq] at hc hk
  clear hlow hq htab hidx
  generalize Lib.ctzFrom 64 x = k at hc hk ⊢
  go_enter Tryd.func65, Tryd.ntmps65
  go_wp2_with (simp only [key])
  go_ret
  exact ⟨rfl, rfl⟩

end Go.Proofs.YtdifegcpfpdngaaDoor
