/-
  Unlike numbers have unlike texts.
-/
import Derived.Test.YtgjcfmkaeffffaaDoorDigits
namespace Go.Proofs.YtgjcfmkaeffffaaDoor
open Go.RowKit

theorem dec_mem (k : Nat) : ∀ u, u ≤ k → ∀ c ∈ Lib.decDigits u, 48 ≤ c.toNat ∧ c.toNat ≤ 57 := by
  induction k with
  | zero =>
    intro u hu c hc
    rw [dec_small (by omega)] at hc
    simp only [List.mem_cons, List.not_mem_nil, or_false] at hc
    subst hc
    simp only [UInt8.toNat_ofNat']
    omega
  | succ k ih =>
    intro u hu c hc
    by_cases h : u < 10
    · rw [dec_small h] at hc
      simp only [List.mem_cons, List.not_mem_nil, or_false] at hc
      subst hc
      simp only [UInt8.toNat_ofNat']
      omega
    · rw [dec_big h] at hc
      unfold cat at hc
      rcases List.mem_append.1 hc with hc | hc
      · exact ih (u / 10) (by omega) c hc
      · simp only [List.mem_cons, List.not_mem_nil, or_false] at hc
        subst hc
        simp only [UInt8.toNat_ofNat']
        omega
theorem dec_ne (u : Nat) : Lib.decDigits u ≠ [] := by
  by_cases h : u < 10
  · rw [dec_small h]; simp
  · rw [dec_big h]; unfold cat; simp
theorem byte_inj {u v : Nat} (hu : u < 10) (hv : v < 10) (h : UInt8.ofNat (48 + u) = UInt8.ofNat (48 + v)) : u = v := by
  have := congrArg UInt8.toNat h
  simp only [UInt8.toNat_ofNat'] at this
  omega
theorem dec_inj (k : Nat) : ∀ u v, u ≤ k → Lib.decDigits u = Lib.decDigits v → u = v := by
  induction k with
  | zero =>
    intro u v hu h
    by_cases hv : v < 10
    · rw [dec_small (by omega), dec_small hv] at h
      exact byte_inj (by omega) hv (List.head_eq_of_cons_eq h)
    · rw [dec_small (by omega), dec_big hv] at h
      have hl := congrArg List.length h
      have hp := List.length_pos_iff.2 (dec_ne (v / 10))
      unfold cat at hl
      simp only [List.length_append, List.length_cons, List.length_nil] at hl
      omega
  | succ k ih =>
    intro u v hu h
    by_cases h1 : u < 10 <;> by_cases h2 : v < 10
    · rw [dec_small h1, dec_small h2] at h
      exact byte_inj h1 h2 (List.head_eq_of_cons_eq h)
    · rw [dec_small h1, dec_big h2] at h
      have hl := congrArg List.length h
      have hp := List.length_pos_iff.2 (dec_ne (v / 10))
      unfold cat at hl
      simp only [List.length_append, List.length_cons, List.length_nil] at hl
      omega
    · rw [dec_big h1, dec_small h2] at h
      have hl := congrArg List.length h
      have hp := List.length_pos_iff.2 (dec_ne (u / 10))
      unfold cat at hl
      simp only [List.length_append, List.length_cons, List.length_nil] at hl
      omega
    · rw [dec_big h1, dec_big h2] at h
      unfold cat at h
      obtain ⟨e1, e2⟩ := List.append_inj' h rfl
      have a := ih (u / 10) (v / 10) (by omega) e1
      have b := byte_inj (by omega) (by omega) (List.head_eq_of_cons_eq e2)
      omega
theorem itoa_mem (n : Int) : ∀ c ∈ Lib.itoa n, c = 45 ∨ (48 ≤ c.toNat ∧ c.toNat ≤ 57) := by
  intro c hc
  unfold Lib.itoa at hc
  split at hc
  · rcases List.mem_cons.1 hc with rfl | hc
    · exact .inl rfl
    · exact .inr (dec_mem _ _ (Nat.le_refl _) c hc)
  · exact .inr (dec_mem _ _ (Nat.le_refl _) c hc)
theorem itoa_not (n : Int) (c : UInt8) (h : c = 40 ∨ c = 44) : c ∉ Lib.itoa n := by
  intro hc
  rcases itoa_mem n c hc with e | e
  · subst e; revert h; decide
  · rcases h with rfl | rfl
    · exact absurd e.1 (by decide)
    · exact absurd e.1 (by decide)
theorem itoa_inj {m n : Int} (h : Lib.itoa m = Lib.itoa n) : m = n := by
  unfold Lib.itoa at h
  have no (u v : Nat) : (45 : UInt8) :: Lib.decDigits u ≠ Lib.decDigits v := by
    intro e
    have := dec_mem v v (Nat.le_refl _) 45 (by rw [← e]; simp)
    exact absurd this.1 (by decide)
  split at h <;> split at h
  · have := dec_inj _ _ _ (Nat.le_refl _) (List.tail_eq_of_cons_eq h)
    omega
  · exact absurd h (no _ _)
  · exact absurd h.symm (no _ _)
  · have := dec_inj _ _ _ (Nat.le_refl _) h
    omega
theorem split_at {c : UInt8} : ∀ {A A' R R' : List UInt8}, c ∉ A → c ∉ A' → A ++ c :: R = A' ++ c :: R' → A = A' ∧ R = R'
  | [], [], R, R', _, _, h => ⟨rfl, List.tail_eq_of_cons_eq h⟩
  | [], x :: A', R, R', _, h2, h => by
    rw [List.nil_append, List.cons_append] at h
    exact absurd (by rw [List.head_eq_of_cons_eq h]; simp) h2
  | x :: A, [], R, R', h1, _, h => by
    rw [List.nil_append, List.cons_append] at h
    exact absurd (by rw [List.head_eq_of_cons_eq h]; simp) h1
  | x :: A, y :: A', R, R', h1, h2, h => by
    rw [List.cons_append, List.cons_append] at h
    obtain ⟨e1, e2⟩ := split_at (fun hc => h1 (List.mem_cons_of_mem _ hc)) (fun hc => h2 (List.mem_cons_of_mem _ hc)) (List.tail_eq_of_cons_eq h)
    rw [List.head_eq_of_cons_eq h, e1]
    exact ⟨rfl, e2⟩
theorem ntext_inj {a b c d : Int} (h : ntext a b = ntext c d) : wr a = wr c ∧ wr b = wr d := by
  unfold ntext cat at h
  by_cases h1 : wr b = 0 <;> by_cases h2 : wr d = 0
  · rw [if_pos h1, if_pos h2] at h
    exact ⟨itoa_inj h, by rw [h1, h2]⟩
  · rw [if_pos h1, if_neg h2] at h
    exact absurd (by rw [h]; simp) (itoa_not (wr a) 40 (.inl rfl))
  · rw [if_neg h1, if_pos h2] at h
    exact absurd (by rw [← h]; simp) (itoa_not (wr c) 40 (.inl rfl))
  · rw [if_neg h1, if_neg h2] at h
    simp only [List.cons_append, List.nil_append, List.append_assoc] at h
    obtain ⟨e1, e2⟩ := split_at (itoa_not _ 44 (.inr rfl)) (itoa_not _ 44 (.inr rfl)) (List.tail_eq_of_cons_eq h)
    exact ⟨itoa_inj e1, itoa_inj (List.append_cancel_right e2)⟩
theorem ntext_eq (a b c d : Int) : (ntext a b = ntext c d) ↔ (wr a = wr c ∧ wr b = wr d) :=
  ⟨ntext_inj, fun h => by unfold ntext; rw [h.1, h.2]⟩

end Go.Proofs.YtgjcfmkaeffffaaDoor
