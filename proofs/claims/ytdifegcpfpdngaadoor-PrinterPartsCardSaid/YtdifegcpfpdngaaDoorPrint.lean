/-
  printer.Atom, soughref05.Atom, from any world.
-/
import Derived.Test.YtdifegcpfpdngaaDoorText
import Derived.Test.YtdifegcpfpdngaaDoorDigits
import Derived.Test.YtdifegcpfpdngaaDoorBlk
namespace Go.Proofs.YtdifegcpfpdngaaDoor
open Go.RowKit

/-- An atom's text. -/
def atomT (v : List UInt8) (a b : Int) : List UInt8 := if v = [] then ntext a b else v
theorem ntext_len (a b : Int) : (ntext a b).length ≤ 60 := by
  have hl1 := Lib.itoa_length_le (wr a) (by have := wr_bd a; omega) (by have := wr_bd a; omega)
  have hl2 := Lib.itoa_length_le (wr b) (by have := wr_bd b; omega) (by have := wr_bd b; omega)
  unfold ntext
  split
  · omega
  · simp [cat_len]; omega
theorem atomT_len (v : List UInt8) (a b : Int) : (atomT v a b).length ≤ v.length + 60 := by
  unfold atomT
  have := ntext_len a b
  split <;> omega

set_option maxHeartbeats 1600000 in
set_option maxRecDepth 100000 in
theorem patom_any (v : List UInt8) (a b : Int) (w : World) (ht : Tab w) :
    Calls Tryd.prog 17 #[.agg #[.string ⟨v.toArray⟩, .int .i64 a, .int .i64 b]] w fun e w' => e = .returned (.string ⟨(atomT v a b).toArray⟩) ∧ Below w.heap.size w w' := by
  have Ht := Lib.hid (ht.below ((Below.refl w.heap.size w).alloc (Nat.le_refl _) (.cells #[.string ⟨v.toArray⟩, .int .i64 a, .int .i64 b] 34)))
  clear ht
  rcases v with _ | ⟨c, v⟩
  · go_enter Tryd.func17, Tryd.ntmps17
    go_wp2_with fail
    refine (text_any _ _ _ Ht.out).mono ?_
    rintro e w1 ⟨rfl, hB⟩
    have HB := Lib.hid hB
    clear hB
    go_wp2_with fail
    go_ret
    exact ⟨ret_str (by simp [atomT]), (((Below.refl w.heap.size w).alloc (Nat.le_refl _) _).trans (HB.out.mono (by simp)))⟩
  · go_enter Tryd.func17, Tryd.ntmps17
    go_wp2_with fail
    go_ret
    exact ⟨ret_str (by simp [atomT]), (Below.refl w.heap.size w).alloc (Nat.le_refl _) _⟩

set_option maxHeartbeats 1600000 in
set_option maxRecDepth 100000 in
theorem ratom_any (v : List UInt8) (a b : Int) (w : World) :
    Calls Tryd.prog 18 #[.agg #[.string ⟨v.toArray⟩, .int .i64 a, .int .i64 b]] w fun e w' => e = .returned (.string ⟨(atomT v a b).toArray⟩) ∧ Below w.heap.size w w' := by
  rcases v with _ | ⟨c, v⟩
  · go_enter Tryd.func18, Tryd.ntmps18
    go_wp2_with fail
    refine (rtext_any _ _ _).mono ?_
    rintro e w1 ⟨rfl, hB⟩
    have HB := Lib.hid hB
    clear hB
    go_wp2_with fail
    go_ret
    exact ⟨ret_str (by simp [atomT]), (((Below.refl w.heap.size w).alloc (Nat.le_refl _) _).trans (HB.out.mono (by simp)))⟩
  · go_enter Tryd.func18, Tryd.ntmps18
    go_wp2_with fail
    go_ret
    exact ⟨ret_str (by simp [atomT]), (Below.refl w.heap.size w).alloc (Nat.le_refl _) _⟩

end Go.Proofs.YtdifegcpfpdngaaDoor
