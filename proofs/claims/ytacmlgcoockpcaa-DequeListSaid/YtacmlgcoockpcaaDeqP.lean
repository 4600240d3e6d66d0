/-
  deque: pops one behind the other, as a list: the plain mathematics.
-/
import Derived.Test.YtacmlgcoockpcaaDeqM
namespace Go.Proofs.Ytacmlgcoockpcaa
open Go.RowKit

theorem it_one (f : DS → List Int → DS) (g : DS → List Int → List Int) (n : Nat) (a : DS) (b : List Int) : it f g (n + 1) (a, b) = it f g n (f a b, g a b) := rfl
/-- A pop from a deque that holds nothing. -/
theorem pop_none_run (zs : List Int) (room : Int) (R T B : Nat) (h : Inv zs R T B []) :
    (it popS popZ 7 (push0 room 0, zs)).1.ok = false ∧ (it popS popZ 7 (push0 room 0, zs)).1.n = 0 ∧ Inv (it popS popZ 7 (push0 room 0, zs)).2 R T B [] := by
  have e1' : wrap64 1 = 1 := w64 _ (by omega)
  have hn := h.num
  have hb := h.bd
  have hlen := h.len
  have hlow := h.low
  simp only [List.length_nil] at hn
  obtain ⟨C, rfl⟩ : ∃ C, B = C + 1 := ⟨B - 1, by omega⟩
  have first := pop_first zs room R T C [] h
  have ab : abv (T : Int) (C : Int) = true := by rw [abv_nat _ _ (by omega) (by omega)]; simp; omega
  have q : IntKind.u64.wrap ((C : Int) + 1) = ((C + 1 : Nat) : Int) := by rw [u64w _ (by omega)]; omega
  generalize hz2 : stv zs ((1 : Nat) : Int) C = zs2 at first
  have s4 : popS ⟨0, room, 0, false, false, 3, C, T, 0, false⟩ zs2 = ⟨0, room, 0, false, true, 3, C, T, 0, false⟩ := by unfold popS; simp [ab, endS]
  have g4 : popZ ⟨0, room, 0, false, false, 3, C, T, 0, false⟩ zs2 = stv zs2 ((1 : Nat) : Int) ((C + 1 : Nat) : Int) := by
    unfold popZ
    simp only [ab, q, Int.zero_add, e1', if_true]
    simp
  generalize hz4 : stv zs2 ((1 : Nat) : Int) ((C + 1 : Nat) : Int) = zs4 at g4
  have run : it popS popZ 4 (⟨0, room, 0, false, false, 3, C, T, 0, false⟩, zs2) = (⟨0, room, 0, false, true, 3, C, T, 0, false⟩, zs4) := by
    show it popS popZ (3 + 1) _ = _
    rw [it_one, s4, g4]
    exact it_fix _ _ _ _ (by unfold popS; simp) (by unfold popZ; simp) 3
  rw [first.trans run]
  refine ⟨rfl, rfl, ⟨by rw [← hz4, stv_len, ← hz2, stv_len]; exact h.len, h.r1, h.r2, ?_, ?_, by simp; omega, by simp, h.low, h.bd, fun i hi => by simp at hi⟩⟩
  · rw [← hz4, ldv_ne _ _ _ _ (by omega), ← hz2, ldv_ne _ _ _ _ (by omega)]; exact h.top
  · rw [← hz4]; exact ldv_same _ _ _ (by rw [← hz2, stv_len]; omega)
/-- A pop from a deque that holds something. -/
theorem pop_run (zs : List Int) (room : Int) (R T B : Nat) (x : Int) (l : List Int) (hR : (R : Int) = roomv room) (h : Inv zs R T B (l ++ [x])) :
    (it popS popZ 7 (push0 room 0, zs)).1.ok = true ∧ (it popS popZ 7 (push0 room 0, zs)).1.n = x ∧ ∃ T' B', B' ≤ B ∧ Inv (it popS popZ 7 (push0 room 0, zs)).2 R T' B' l := by
  have e1' : wrap64 1 = 1 := w64 _ (by omega)
  have hn := h.num
  have hb := h.bd
  have hlen := h.len
  have hlow := h.low
  have hfew := h.few
  simp only [List.length_append, List.length_cons, List.length_nil] at hn hfew
  obtain ⟨C, rfl⟩ : ∃ C, B = C + 1 := ⟨B - 1, by omega⟩
  have first := pop_first zs room R T C _ h
  have hC : C = T + l.length := by omega
  have ab : abv (T : Int) (C : Int) = false := by rw [abv_nat _ _ (by omega) (by omega)]; simp; omega
  have q : IntKind.u64.wrap ((C : Int) + 1) = ((C + 1 : Nat) : Int) := by rw [u64w _ (by omega)]; omega
  have zx : ldv (stv zs ((1 : Nat) : Int) C) ((2 + C % R : Nat) : Int) = x := by
    rw [ldv_ne _ _ _ _ (by omega), hC]
    have := h.has l.length (by simp)
    rw [this]
    simp
  have z2 : ldv (stv zs ((1 : Nat) : Int) C) 0 = T := by
    have := ldv_ne zs 0 1 C (by omega)
    rw [show ((0 : Nat) : Int) = 0 from rfl] at this
    rw [this]; exact h.top
  have hl2 : (stv zs ((1 : Nat) : Int) C).length = 2 + R := by rw [stv_len]; exact hlen
  have keep : ∀ i, i < l.length → ldv (stv zs ((1 : Nat) : Int) C) ((2 + (T + i) % R : Nat) : Int) = l[i]?.getD 0 := fun i hi => by
    rw [ldv_ne _ _ _ _ (by omega)]
    have := h.has i (by simp; omega)
    rw [this, List.getElem?_append_left hi]
  have bot2 : ldv (stv zs ((1 : Nat) : Int) C) ((1 : Nat) : Int) = C := ldv_same _ _ _ (by omega)
  generalize hz2 : stv zs ((1 : Nat) : Int) C = zs2 at *
  by_cases hone : l = []
  · subst hone
    simp only [List.length_nil, Nat.add_zero] at hC
    subst hC
    have ab2 : abv (C : Int) (C : Int) = false := by rw [abv_nat _ _ (by omega) (by omega)]; simp
    have s4 : popS ⟨0, room, 0, false, false, 3, C, C, 0, false⟩ zs2 = ⟨0, room, 0, false, false, 4, C, C, x, false⟩ := by unfold popS; simp only [placev_nat room R C hR h.r1 h.r2, zx]; simp [ab2]
    have g4 : popZ ⟨0, room, 0, false, false, 3, C, C, 0, false⟩ zs2 = zs2 := by unfold popZ; simp [ab2]
    have s5 : popS ⟨0, room, 0, false, false, 4, C, C, x, false⟩ zs2 = ⟨0, room, 0, false, false, 5, C, C, x, true⟩ := by unfold popS; simp only [casb_top zs2 C (by omega) z2]; simp
    have g5 : popZ ⟨0, room, 0, false, false, 4, C, C, x, false⟩ zs2 = stv zs2 ((0 : Nat) : Int) ((C + 1 : Nat) : Int) := by
      unfold popZ
      simp only [casv_top zs2 C _ (by omega) z2, q]
      simp
    generalize hz5 : stv zs2 ((0 : Nat) : Int) ((C + 1 : Nat) : Int) = zs5 at g5
    have s6 : popS ⟨0, room, 0, false, false, 5, C, C, x, true⟩ zs5 = ⟨0, room, x, true, true, 5, C, C, x, true⟩ := by unfold popS; simp [endS]
    have g6 : popZ ⟨0, room, 0, false, false, 5, C, C, x, true⟩ zs5 = stv zs5 ((1 : Nat) : Int) ((C + 1 : Nat) : Int) := by
      unfold popZ
      simp only [q, Int.zero_add, e1']
      simp
    generalize hz6 : stv zs5 ((1 : Nat) : Int) ((C + 1 : Nat) : Int) = zs6 at g6
    have run : it popS popZ 4 (⟨0, room, 0, false, false, 3, C, C, 0, false⟩, zs2) = (⟨0, room, x, true, true, 5, C, C, x, true⟩, zs6) := by
      show it popS popZ (3 + 1) _ = _
      rw [it_one, s4, g4]
      show it popS popZ (2 + 1) _ = _
      rw [it_one, s5, g5]
      show it popS popZ (1 + 1) _ = _
      rw [it_one, s6, g6]
      exact it_fix _ _ _ _ (by unfold popS; simp) (by unfold popZ; simp) 1
    rw [first.trans run]
    refine ⟨rfl, rfl, C + 1, C + 1, Nat.le_refl _, ⟨by rw [← hz6, stv_len, ← hz5, stv_len]; exact hl2, h.r1, h.r2, ?_, ?_, by simp, by simp, by omega, h.bd, fun i hi => by simp at hi⟩⟩
    · rw [← hz6, ldv_ne _ _ _ _ (by omega), ← hz5]; exact ldv_same _ _ _ (by omega)
    · rw [← hz6]; exact ldv_same _ _ _ (by rw [← hz5, stv_len]; omega)
  · have hpos : 0 < l.length := List.length_pos_iff.2 hone
    have ab2 : abv (C : Int) (T : Int) = true := by rw [abv_nat _ _ (by omega) (by omega)]; simp; omega
    have s4 : popS ⟨0, room, 0, false, false, 3, C, T, 0, false⟩ zs2 = ⟨0, room, x, true, true, 3, C, T, x, false⟩ := by unfold popS; simp only [placev_nat room R C hR h.r1 h.r2, zx]; simp [ab, ab2, endS]
    have g4 : popZ ⟨0, room, 0, false, false, 3, C, T, 0, false⟩ zs2 = zs2 := by unfold popZ; simp [ab]
    have run : it popS popZ 4 (⟨0, room, 0, false, false, 3, C, T, 0, false⟩, zs2) = (⟨0, room, x, true, true, 3, C, T, x, false⟩, zs2) := by
      show it popS popZ (3 + 1) _ = _
      rw [it_one, s4, g4]
      exact it_fix _ _ _ _ (by unfold popS; simp) (by unfold popZ; simp) 3
    rw [first.trans run]
    exact ⟨rfl, rfl, T, C, by omega, ⟨hl2, h.r1, h.r2, z2, bot2, hC, by omega, h.low, by omega, keep⟩⟩

end Go.Proofs.Ytacmlgcoockpcaa
