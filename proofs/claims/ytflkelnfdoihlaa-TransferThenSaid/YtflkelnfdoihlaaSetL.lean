/-
  A set's numbers, in their order: mathematics. No program.
-/
import Derived.Test.YtflkelnfdoihlaaSetM
import Derived.Lib.TrailingZeros
namespace Go.Proofs.Ytflkelnfdoihlaa
open Go.RowKit

/-- The numbers of a word's first j bits, counted from i on. -/
def bl : Nat → Nat → Nat → List Nat
  | 0, _, _ => []
  | j + 1, i, x => if x % 2 = 1 then i :: bl j (i + 1) (x / 2) else bl j (i + 1) (x / 2)
theorem bl_zero (j : Nat) : ∀ i, bl j i 0 = [] := by
  induction j with
  | zero => intro i; rfl
  | succ j ih => intro i; simp [bl, ih]
theorem bl_len (j : Nat) : ∀ i x, (bl j i x).length = pop j x := by
  induction j with
  | zero => intro i x; rfl
  | succ j ih =>
    intro i x
    simp only [bl, pop]
    split
    · rw [List.length_cons, ih]; omega
    · rw [ih]; omega
theorem low_half (x : Nat) (h : x % 2 = 1) : (x &&& (x - 1)) / 2 = x / 2 ∧ (x &&& (x - 1)) % 2 = 0 := by
  have e : (x - 1) / 2 = x / 2 := by omega
  refine ⟨by rw [and_half, e, Nat.and_self], ?_⟩
  have h2 := Nat.and_mod_two_pow (a := x) (b := x - 1) (n := 1)
  simp only [Nat.pow_one] at h2
  rw [h2, h, show (x - 1) % 2 = 0 by omega]; rfl
theorem high_half (x : Nat) (h : x % 2 = 0) (_h0 : x ≠ 0) : (x &&& (x - 1)) / 2 = x / 2 &&& (x / 2 - 1) ∧ (x &&& (x - 1)) % 2 = 0 := by
  have e : (x - 1) / 2 = x / 2 - 1 := by omega
  refine ⟨by rw [and_half, e], ?_⟩
  have h2 := Nat.and_mod_two_pow (a := x) (b := x - 1) (n := 1)
  simp only [Nat.pow_one] at h2
  rw [h2, h, show (x - 1) % 2 = 1 by omega]; rfl
/-- The lowest one first; then those of the word without it. -/
theorem bl_step (j : Nat) : ∀ i x, x ≠ 0 → x < 2 ^ j → bl j i x = (i + Lib.ctzFrom j x) :: bl j i (x &&& (x - 1)) := by
  induction j with
  | zero => intro i x h0 h; simp at h; omega
  | succ j ih =>
    intro i x h0 h
    rw [bl, Lib.ctzFrom]
    by_cases hx : x % 2 = 1
    · obtain ⟨e1, e2⟩ := low_half x hx
      rw [if_pos hx, if_pos hx, bl, if_neg (by omega), e1]; rfl
    · obtain ⟨e1, e2⟩ := high_half x (by omega) h0
      rw [if_neg hx, if_neg hx, bl, if_neg (by omega), e1, ih (i + 1) (x / 2) (by omega) (by rw [Nat.pow_succ] at h; omega)]
      congr 1
      omega
theorem bl_lt (j : Nat) : ∀ i x, ∀ n ∈ bl j i x, n < i + j := by
  induction j with
  | zero => intro i x n h; cases h
  | succ j ih =>
    intro i x n h
    simp only [bl] at h
    split at h
    · rcases List.mem_cons.1 h with rfl | h
      · omega
      · have := ih _ _ n h; omega
    · have := ih _ _ n h; omega
/-- The numbers of the first k words. -/
def setK (zs : List Nat) (k : Nat) : List Nat := (List.range k).flatMap fun i => bl 64 (64 * i) (wAt zs i)
def setE (zs : List Nat) : List Nat := setK zs zs.length
theorem setK_succ (zs : List Nat) (k : Nat) : setK zs (k + 1) = setK zs k ++ bl 64 (64 * k) (wAt zs k) := by
  simp [setK, List.range_succ]
theorem setK_lt (zs : List Nat) (k : Nat) : ∀ n ∈ setK zs k, n < 64 * k := fun n h => by
  obtain ⟨i, hi, h⟩ := List.mem_flatMap.1 h
  have := bl_lt _ _ _ n h
  have := List.mem_range.1 hi
  omega
theorem setK_len (zs : List Nat) (k : Nat) (h : k ≤ zs.length) : (setK zs k).length = lenE (zs.take k) := by
  induction k with
  | zero => simp [setK, lenE]
  | succ k ih =>
    rw [setK_succ, List.length_append, ih (by omega), bl_len, lenE_take zs k (by omega)]
    rfl
theorem setE_len (zs : List Nat) : (setE zs).length = lenE zs := by
  unfold setE
  rw [setK_len zs _ (Nat.le_refl _), List.take_length]
theorem setK_prefix (zs : List Nat) (k n : Nat) (h : k ≤ n) : setK zs k <+: setK zs n := by
  induction n with
  | zero => obtain rfl : k = 0 := by omega
            exact List.prefix_refl _
  | succ n ih =>
    rcases (show k ≤ n ∨ k = n + 1 by omega) with h' | rfl
    · exact (ih h').trans (by rw [setK_succ]; exact List.prefix_append _ _)
    · exact List.prefix_refl _

end Go.Proofs.Ytflkelnfdoihlaa
