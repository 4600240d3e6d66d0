/-
  The order of what is known: plain laws.
-/
import Derived.Test.YtgjcfmkaeffffaaConstAwake
namespace Go.Proofs.Ytgjcfmkaeffffaa
open Go.RowKit

/-- Less known, or the same, of words that count. -/
def kle (x y : Int) : Prop := x = y ∨ x = 0 ∨ y = 1

theorem cjoin_le (a b : Int) : (cjoin a b == sou b) = true ↔ kle (sou a) (sou b) := by
  unfold cjoin kle
  generalize sou a = x
  generalize sou b = y
  rw [beq_iff_eq]
  split <;> rename_i h
  · omega
  · split <;> omega

theorem sou_sou (a : Int) : sou (sou a) = sou a := by
  rcases sou_cases a with h | h | ⟨_, h, _, _⟩
  · rw [h]; decide
  · rw [h]; decide
  · rw [h, h]
theorem sou_join (a b : Int) : sou (cjoin a b) = cjoin a b := by
  unfold cjoin
  split
  · exact sou_sou a
  · split
    · exact sou_sou b
    · decide

theorem join_up (a b : Int) : kle (sou a) (cjoin a b) ∧ kle (sou b) (cjoin a b) := by
  unfold cjoin kle
  generalize sou a = x
  generalize sou b = y
  split
  · omega
  · split <;> omega
theorem join_least {a b z : Int} (h : kle (sou a) z) (k : kle (sou b) z) : kle (cjoin a b) z := by
  revert h k
  unfold cjoin kle
  generalize sou a = x
  generalize sou b = y
  split
  · omega
  · split <;> omega
theorem rank_up {a b : Int} (h : kle (sou a) (sou b)) (hn : sou a ≠ sou b) : crank a < crank b := by
  revert h hn
  unfold crank kle
  generalize sou a = x
  generalize sou b = y
  intro h hn
  by_cases h0 : x = 0
  · rw [if_pos h0, if_neg (by omega)]; split <;> omega
  · rw [if_neg h0, if_neg (by omega), if_neg (by omega), if_pos (by omega)]; omega

theorem word_isn (a b : Int) : isn (2 + 4 * word a b) = true := by
  have := word_bd a b
  simp [isn]; omega
theorem rr_sou (op x y : Int) : sou (rr op x y) = rr op x y := by
  unfold rr
  split
  · decide
  · split
    · decide
    · split
      · exact sou_isn (word_isn _ _)
      · decide
theorem rr_up {op x y x' y' : Int} (h : kle x x') (k : kle y y') : kle (rr op x y) (rr op x' y') := by
  by_cases h0 : x = 0 ∨ y = 0
  · rw [rr_zero h0]; exact .inr (.inl rfl)
  · by_cases h1 : x' = 1 ∨ y' = 1
    · by_cases h2 : x' = 0 ∨ y' = 0
      · unfold kle at h k; omega
      · rw [rr_one h2 h1]; exact .inr (.inr rfl)
    · have e1 : x = x' := by unfold kle at h; omega
      have e2 : y = y' := by unfold kle at k; omega
      rw [e1, e2]; exact .inl rfl
theorem cop_sou (op a b : Int) : sou (cop op a b) = cop op a b := by rw [cop_rr, rr_sou]
theorem cop_up {op a b c d : Int} (h : kle (sou a) (sou b)) (k : kle (sou c) (sou d)) : kle (cop op a c) (cop op b d) := by
  rw [cop_rr, cop_rr]
  split
  · exact rr_up h (.inl rfl)
  · exact rr_up h k

theorem rr_bd (op x y : Int) : 0 ≤ rr op x y ∧ rr op x y ≤ 18446744073709551615 := by
  unfold rr
  split
  · omega
  · split
    · omega
    · split
      · have := word_bd (gop op (numv x).1 (numv x).2 (numv y).1 (numv y).2).1 (gop op (numv x).1 (numv x).2 (numv y).1 (numv y).2).2
        omega
      · omega
theorem cop_bd (op a b : Int) : 0 ≤ cop op a b ∧ cop op a b ≤ 18446744073709551615 := by rw [cop_rr]; exact rr_bd _ _ _
theorem cjoin_bd {a b : Int} (ha : 0 ≤ a ∧ a ≤ 18446744073709551615) (hb : 0 ≤ b ∧ b ≤ 18446744073709551615) : 0 ≤ cjoin a b ∧ cjoin a b ≤ 18446744073709551615 := by
  have := sou_bd a ha
  have := sou_bd b hb
  unfold cjoin
  split
  · assumption
  · split
    · assumption
    · omega

/-- The laws as the statement asks them. -/
theorem law1 (a b : Int) : (cjoin a (cjoin a b) == sou (cjoin a b)) = true := by rw [cjoin_le, sou_join]; exact (join_up a b).1
theorem law2 (a b : Int) : (cjoin b (cjoin a b) == sou (cjoin a b)) = true := by rw [cjoin_le, sou_join]; exact (join_up a b).2
theorem law3 {a b c : Int} (h : (cjoin a c == sou c) = true) (k : (cjoin b c == sou c) = true) : (cjoin (cjoin a b) c == sou c) = true := by
  rw [cjoin_le] at h k ⊢; rw [sou_join]; exact join_least h k
theorem law4 {a b : Int} (h : (cjoin a b == sou b) = true) (hn : (sou a != sou b) = true) : crank a < crank b := rank_up ((cjoin_le a b).1 h) (by simpa using hn)
theorem law5 {op a b c d : Int} (h : (cjoin a b == sou b) = true) (k : (cjoin c d == sou d) = true) : (cjoin (cop op a c) (cop op b d) == sou (cop op b d)) = true := by
  rw [cjoin_le] at h k ⊢; rw [cop_sou, cop_sou]; exact cop_up h k

end Go.Proofs.Ytgjcfmkaeffffaa
