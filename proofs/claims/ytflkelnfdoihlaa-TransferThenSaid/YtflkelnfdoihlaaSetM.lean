/-
  Sets as words: how many numbers there are in either and in both. No program.
-/
import Derived.Test.YtflkelnfdoihlaaSets
namespace Go.Proofs.Ytflkelnfdoihlaa
open Go.RowKit

theorem or_half (x y : Nat) : (x ||| y) / 2 = x / 2 ||| y / 2 := by
  have := @Nat.shiftRight_or_distrib 1 x y
  simpa [Nat.shiftRight_succ] using this
theorem and_half (x y : Nat) : (x &&& y) / 2 = x / 2 &&& y / 2 := by
  have := @Nat.shiftRight_and_distrib 1 x y
  simpa [Nat.shiftRight_succ] using this
theorem or_and_low (x y : Nat) : (x ||| y) % 2 + (x &&& y) % 2 = x % 2 + y % 2 := by
  have h1 := Nat.or_mod_two_pow (a := x) (b := y) (n := 1)
  have h2 := Nat.and_mod_two_pow (a := x) (b := y) (n := 1)
  simp only [Nat.pow_one] at h1 h2
  rw [h1, h2]
  rcases Nat.mod_two_eq_zero_or_one x with e | e <;> rcases Nat.mod_two_eq_zero_or_one y with f | f <;> rw [e, f] <;> decide
theorem pop_or_and (j : Nat) : ∀ x y, pop j (x ||| y) + pop j (x &&& y) = pop j x + pop j y := by
  induction j with
  | zero => intro x y; rfl
  | succ j ih =>
    intro x y
    have h1 := ih (x / 2) (y / 2)
    have h2 := or_and_low x y
    simp only [pop, or_half, and_half]
    omega
theorem pop_zero (j : Nat) : pop j 0 = 0 := by
  induction j with
  | zero => rfl
  | succ j ih => simp [pop, ih]
/-- A set's numbers, counted over more words than it has. -/
theorem lenE_pad (zs : List Nat) (n : Nat) (h : zs.length ≤ n) : lenE zs = ((List.range n).map fun i => pop 64 (wAt zs i)).sum := by
  induction n with
  | zero =>
    have : zs = [] := List.eq_nil_of_length_eq_zero (by omega)
    subst this
    simp [lenE]
  | succ n ih =>
    rw [List.range_succ, List.map_append, List.sum_append]
    by_cases hz : zs.length ≤ n
    · rw [← ih hz]
      have : wAt zs n = 0 := by unfold wAt; rw [List.getElem?_eq_none hz]; rfl
      simp [this, pop_zero]
    · have hl : zs.length = n + 1 := by omega
      have e := lenE_take zs n (by omega)
      rw [← hl, List.take_length] at e
      rw [e]
      have : ∀ m, m ≤ n → lenE (zs.take m) = ((List.range m).map fun i => pop 64 (wAt zs i)).sum := by
        intro m hm
        induction m with
        | zero => simp [lenE]
        | succ m ih2 =>
          rw [lenE_take zs m (by omega), ih2 (by omega), List.range_succ, List.map_append, List.sum_append]
          simp [wAt]
      rw [this n (Nat.le_refl _)]
      simp [wAt]
theorem lenE_both (f : Nat → Nat → Nat) (xs ys : List Nat) : lenE (bothE f xs ys) = ((List.range (max xs.length ys.length)).map fun i => pop 64 (f (wAt xs i) (wAt ys i))).sum := by
  unfold lenE bothE
  rw [List.map_map]
  rfl
theorem sum_add (n : Nat) (f g h k : Nat → Nat) (e : ∀ i, f i + g i = h i + k i) : ((List.range n).map f).sum + ((List.range n).map g).sum = ((List.range n).map h).sum + ((List.range n).map k).sum := by
  induction n with
  | zero => rfl
  | succ n ih =>
    simp only [List.range_succ, List.map_append, List.sum_append, List.map_cons, List.map_nil, List.sum_cons, List.sum_nil]
    have := e n
    omega
/-- In either, and in both: as many as both have. -/
theorem lenE_or_and (xs ys : List Nat) : lenE (bothE orN xs ys) + lenE (bothE andN xs ys) = lenE xs + lenE ys := by
  rw [lenE_both, lenE_both, lenE_pad xs (max xs.length ys.length) (by omega), lenE_pad ys (max xs.length ys.length) (by omega)]
  exact sum_add _ _ _ _ _ fun i => pop_or_and 64 _ _

theorem pop_eq_zero (j : Nat) : ∀ x, x < 2 ^ j → (pop j x = 0 ↔ x = 0) := by
  induction j with
  | zero =>
    intro x hx
    have : x = 0 := by simpa using hx
    simp [pop, this]
  | succ j ih =>
    intro x hx
    have h1 := ih (x / 2) (by rw [Nat.pow_succ] at hx; omega)
    simp only [pop]
    omega
theorem sum_zero (n : Nat) (f : Nat → Nat) : ((List.range n).map f).sum = 0 ↔ ∀ i, i < n → f i = 0 := by
  induction n with
  | zero => simp
  | succ n ih =>
    simp only [List.range_succ, List.map_append, List.sum_append, List.map_cons, List.map_nil, List.sum_cons, List.sum_nil]
    constructor
    · intro h i hi
      rcases (show i < n ∨ i = n by omega) with h' | rfl
      · exact ih.1 (by omega) i h'
      · omega
    · intro h
      have h1 := ih.2 fun i hi => h i (by omega)
      have h2 := h n (by omega)
      omega
/-- All that is in the first one is in the second one: word by word. -/
theorem within_iff (xs ys : List Nat) (hx : ∀ z ∈ xs, z < 18446744073709551616) (hy : ∀ z ∈ ys, z < 18446744073709551616) : lenE (bothE minN xs ys) = 0 ↔ ∀ i, minN (wAt xs i) (wAt ys i) = 0 := by
  rw [lenE_both, sum_zero]
  constructor
  · intro h i
    by_cases hi : i < max xs.length ys.length
    · exact (pop_eq_zero 64 _ (minN_lt _ _ (wAt_lt hx i) (wAt_lt hy i))).1 (h i hi)
    · have : wAt xs i = 0 := by unfold wAt; rw [List.getElem?_eq_none (by omega)]; rfl
      rw [this]
      simp [minN]
  · intro h i _
    rw [h i]
    exact pop_zero 64
theorem bothE_at (f : Nat → Nat → Nat) (h0 : f 0 0 = 0) (xs ys : List Nat) (i : Nat) : wAt (bothE f xs ys) i = f (wAt xs i) (wAt ys i) := by
  by_cases hi : i < max xs.length ys.length
  · unfold bothE
    rw [wAt, List.getElem?_map, List.getElem?_range hi]
    rfl
  · have h1 : wAt xs i = 0 := by unfold wAt; rw [List.getElem?_eq_none (by omega)]; rfl
    have h2 : wAt ys i = 0 := by unfold wAt; rw [List.getElem?_eq_none (by omega)]; rfl
    rw [h1, h2, h0, wAt, List.getElem?_eq_none (by rw [bothE_len]; omega)]
    rfl

theorem minN_bit (x y k : Nat) (hx : x < 18446744073709551616) (hy : y < 18446744073709551616) : (minN x y).testBit k = (x.testBit k && !(y.testBit k)) := by
  have e : 18446744073709551615 - y = 2 ^ 64 - (y + 1) := by omega
  unfold minN
  rw [Nat.testBit_and, e, Nat.testBit_two_pow_sub_succ hy]
  by_cases hk : k < 64
  · simp [hk]
  · have : x.testBit k = false := Nat.testBit_lt_two_pow (Nat.lt_of_lt_of_le hx (Nat.pow_le_pow_right (n := 2) (by decide) (show 64 ≤ k by omega)))
    simp [this]
/-- Bit by bit. -/
theorem sub_iff (x y : Nat) (hx : x < 18446744073709551616) (hy : y < 18446744073709551616) : minN x y = 0 ↔ ∀ k, x.testBit k = true → y.testBit k = true := by
  constructor
  · intro h k hk
    have := minN_bit x y k hx hy
    rw [h, Nat.zero_testBit, hk] at this
    simpa using this.symm
  · intro h
    refine Nat.eq_of_testBit_eq fun k => ?_
    rw [minN_bit x y k hx hy, Nat.zero_testBit]
    by_cases hk : x.testBit k = true
    · rw [hk, h k hk]; rfl
    · simp [hk]
theorem sub_trans {x y z : Nat} (hx : x < 18446744073709551616) (hy : y < 18446744073709551616) (hz : z < 18446744073709551616) (h : minN x y = 0) (k : minN y z = 0) : minN x z = 0 :=
  (sub_iff x z hx hz).2 fun i hi => (sub_iff y z hy hz).1 k i ((sub_iff x y hx hy).1 h i hi)
theorem all_word (x y : Nat) (hx : x < 18446744073709551616) (hy : y < 18446744073709551616) : orN (minN x y) (andN x y) = x := by
  refine Nat.eq_of_testBit_eq fun k => ?_
  unfold orN andN
  rw [Nat.testBit_or, minN_bit x y k hx hy, Nat.testBit_and]
  cases x.testBit k <;> cases y.testBit k <;> rfl
theorem dist_word (x y z : Nat) : andN x (orN y z) = orN (andN x y) (andN x z) := by
  refine Nat.eq_of_testBit_eq fun k => ?_
  unfold orN andN
  rw [Nat.testBit_and, Nat.testBit_or, Nat.testBit_or, Nat.testBit_and, Nat.testBit_and]
  cases x.testBit k <;> cases y.testBit k <;> cases z.testBit k <;> rfl
theorem sub_refl (x : Nat) (hx : x < 18446744073709551616) : minN x x = 0 := (sub_iff x x hx hx).2 fun _ h => h

/-- Within, as the program's count tells it. -/
def subE (xs ys : List Nat) : Bool := lenE (bothE minN xs ys) == 0
theorem subE_iff {xs ys : List Nat} (hx : ∀ z ∈ xs, z < 18446744073709551616) (hy : ∀ z ∈ ys, z < 18446744073709551616) : subE xs ys = true ↔ ∀ i, minN (wAt xs i) (wAt ys i) = 0 := by
  unfold subE
  rw [beq_iff_eq]
  exact within_iff xs ys hx hy
theorem bothE_lt {f : Nat → Nat → Nat} (hf : ∀ x y, x < 18446744073709551616 → y < 18446744073709551616 → f x y < 18446744073709551616) {xs ys : List Nat} (hx : ∀ z ∈ xs, z < 18446744073709551616) (hy : ∀ z ∈ ys, z < 18446744073709551616) :
    ∀ z ∈ bothE f xs ys, z < 18446744073709551616 := fun z hz => by
  obtain ⟨i, _, rfl⟩ := List.mem_map.1 hz
  exact hf _ _ (wAt_lt hx i) (wAt_lt hy i)
section
variable {xs ys zs : List Nat} (hx : ∀ z ∈ xs, z < 18446744073709551616) (hy : ∀ z ∈ ys, z < 18446744073709551616)
include hx hy
theorem all_in (i : Nat) : wAt (bothE orN (bothE minN xs ys) (bothE andN xs ys)) i = wAt xs i := by
  rw [bothE_at orN rfl, bothE_at minN rfl, bothE_at andN rfl, all_word _ _ (wAt_lt hx i) (wAt_lt hy i)]
theorem law_all1 : subE xs (bothE orN (bothE minN xs ys) (bothE andN xs ys)) = true :=
  (subE_iff hx (bothE_lt orN_lt (bothE_lt minN_lt hx hy) (bothE_lt andN_lt hx hy))).2 fun i => by rw [all_in hx hy i]; exact sub_refl _ (wAt_lt hx i)
theorem law_all2 : subE (bothE orN (bothE minN xs ys) (bothE andN xs ys)) xs = true :=
  (subE_iff (bothE_lt orN_lt (bothE_lt minN_lt hx hy) (bothE_lt andN_lt hx hy)) hx).2 fun i => by rw [all_in hx hy i]; exact sub_refl _ (wAt_lt hx i)
theorem law_dist (hz : ∀ z ∈ zs, z < 18446744073709551616) : subE (bothE andN xs (bothE orN ys zs)) (bothE orN (bothE andN xs ys) (bothE andN xs zs)) = true := by
  refine (subE_iff (bothE_lt andN_lt hx (bothE_lt orN_lt hy hz)) (bothE_lt orN_lt (bothE_lt andN_lt hx hy) (bothE_lt andN_lt hx hz))).2 fun i => ?_
  rw [bothE_at andN rfl, bothE_at orN rfl, bothE_at orN rfl, bothE_at andN rfl, bothE_at andN rfl, dist_word]
  exact sub_refl _ (orN_lt _ _ (andN_lt _ _ (wAt_lt hx i) (wAt_lt hy i)) (andN_lt _ _ (wAt_lt hx i) (wAt_lt hz i)))
theorem law_trans (hz : ∀ z ∈ zs, z < 18446744073709551616) (h : subE xs ys = true) (k : subE ys zs = true) : subE xs zs = true :=
  (subE_iff hx hz).2 fun i => sub_trans (wAt_lt hx i) (wAt_lt hy i) (wAt_lt hz i) ((subE_iff hx hy).1 h i) ((subE_iff hy hz).1 k i)
end

end Go.Proofs.Ytflkelnfdoihlaa
