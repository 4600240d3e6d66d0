/-
  Sets number by number and word by word: mathematics. No program.
-/
import Derived.Test.YtflkelnfdoihlaaOf
namespace Go.Proofs.Ytflkelnfdoihlaa
open Go.RowKit

theorem hasE_at (zs : List Nat) (i j : Nat) (hj : j < 64) : hasE zs ((64 * i + j : Nat) : Int) = (wAt zs i).testBit j := by
  have e1 : ((64 * i + j : Nat) : Int) / 64 = (i : Int) := by omega
  have e2 : ((64 * i + j : Nat) : Int) % 64 = (j : Int) := by omega
  unfold hasE
  rw [e1, e2, Int.toNat_natCast, Int.toNat_natCast]
  have h0 : decide (0 ≤ ((64 * i + j : Nat) : Int)) = true := by simp; omega
  rw [h0, Bool.true_and]
  by_cases hi : i < zs.length
  · have : decide ((i : Int) < zs.length) = true := by simpa using hi
    rw [this, Bool.true_and]; rfl
  · have : decide ((i : Int) < zs.length) = false := by simpa using hi
    rw [this, Bool.false_and]
    unfold wAt
    rw [List.getElem?_eq_none (by omega)]
    simp
theorem wAt_set_self (a : List Nat) (k z : Nat) (h : k < a.length) : wAt (a.set k z) k = z := by
  unfold wAt; rw [List.getElem?_set_self h]; rfl
theorem wAt_set_ne (a : List Nat) (k i z : Nat) (h : ¬ i = k) : wAt (a.set k z) i = wAt a i := by
  unfold wAt; rw [List.getElem?_set_ne (fun e => h e.symm)]
theorem withE_at (a : List Nat) (m i : Nat) (hm : m / 64 < a.length) : wAt (withE a m) i = if i = m / 64 then wAt a i ||| 2 ^ (m % 64) else wAt a i := by
  unfold withE
  by_cases h : i = m / 64
  · subst h
    rw [if_pos rfl, wAt_set_self _ _ _ hm]
  · rw [if_neg h, wAt_set_ne _ _ _ _ h]
theorem ext_words {a b : List Nat} (hl : a.length = b.length) (ha : ∀ z ∈ a, z < 18446744073709551616) (hb : ∀ z ∈ b, z < 18446744073709551616)
    (h : ∀ i, i < a.length → ∀ j, j < 64 → (wAt a i).testBit j = (wAt b i).testBit j) : a = b := by
  refine List.ext_getElem hl fun i h1 h2 => ?_
  have e : wAt a i = wAt b i := by
    refine Nat.eq_of_testBit_eq fun j => ?_
    by_cases hj : j < 64
    · exact h i h1 j hj
    · have big : ∀ z : Nat, z < 18446744073709551616 → z.testBit j = false := fun z hz => Nat.testBit_lt_two_pow (Nat.lt_of_lt_of_le hz (Nat.pow_le_pow_right (n := 2) (by decide) (show 64 ≤ j by omega)))
      rw [big _ (wAt_lt ha i), big _ (wAt_lt hb i)]
  unfold wAt at e
  rw [List.getElem?_eq_getElem h1, List.getElem?_eq_getElem h2] at e
  exact e

/-- Two sets number by number: the first k numbers. -/
def bothF (c : Bool → Bool → Bool) (xs ys : List Nat) : Nat → List Nat
  | 0 => List.replicate (max xs.length ys.length) 0
  | k + 1 => if c (hasE xs (k : Nat)) (hasE ys (k : Nat)) = true then withE (bothF c xs ys k) k else bothF c xs ys k
theorem bothF_len (c : Bool → Bool → Bool) (xs ys : List Nat) (k : Nat) : (bothF c xs ys k).length = max xs.length ys.length := by
  induction k with
  | zero => simp [bothF]
  | succ k ih =>
    simp only [bothF]
    split
    · rw [withE_len, ih]
    · exact ih
theorem bothF_lt (c : Bool → Bool → Bool) (xs ys : List Nat) (k : Nat) : ∀ z ∈ bothF c xs ys k, z < 18446744073709551616 := by
  induction k with
  | zero => intro z hz; rw [List.eq_of_mem_replicate hz]; decide
  | succ k ih =>
    simp only [bothF]
    split
    · exact withE_lt ih k
    · exact ih
theorem bothF_bit (c : Bool → Bool → Bool) (xs ys : List Nat) (k : Nat) (hk : k ≤ 64 * max xs.length ys.length) : ∀ i j, i < max xs.length ys.length → j < 64 →
    (wAt (bothF c xs ys k) i).testBit j = (decide (64 * i + j < k) && c (hasE xs ((64 * i + j : Nat) : Int)) (hasE ys ((64 * i + j : Nat) : Int))) := by
  induction k with
  | zero =>
    intro i j hi hj
    have : wAt (bothF c xs ys 0) i = 0 := by
      unfold wAt bothF
      rw [List.getElem?_replicate]
      split <;> rfl
    rw [this]
    simp
  | succ k ih =>
    intro i j hi hj
    have h := ih (by omega) i j hi hj
    simp only [bothF]
    by_cases e : k = 64 * i + j
    · subst e
      have hd : decide (64 * i + j < 64 * i + j + 1) = true := by simp
      have hd0 : decide (64 * i + j < 64 * i + j) = false := by simp
      rw [hd0, Bool.false_and] at h
      rw [hd, Bool.true_and]
      split
      · next hc =>
        rw [withE_at _ _ _ (by rw [bothF_len]; omega), if_pos (by omega), Nat.testBit_or, h, hc, Bool.false_or, show (64 * i + j) % 64 = j by omega, Nat.testBit_two_pow_self]
      · next hc =>
        rw [h]
        simpa using hc
    · have hd : decide (64 * i + j < k + 1) = decide (64 * i + j < k) := by
        rw [decide_eq_decide]; omega
      rw [hd]
      split
      · rw [withE_at _ _ _ (by rw [bothF_len]; omega)]
        by_cases hi2 : i = k / 64
        · rw [if_pos hi2, Nat.testBit_or, h, Nat.testBit_two_pow_of_ne (by omega), Bool.or_false]
        · rw [if_neg hi2, h]
      · exact h
theorem bothF_all (c : Bool → Bool → Bool) (f : Nat → Nat → Nat) (hf : ∀ x y, x < 18446744073709551616 → y < 18446744073709551616 → f x y < 18446744073709551616)
    (hc : ∀ x y j, x < 18446744073709551616 → y < 18446744073709551616 → (f x y).testBit j = c (x.testBit j) (y.testBit j)) (xs ys : List Nat) (hx : ∀ z ∈ xs, z < 18446744073709551616) (hy : ∀ z ∈ ys, z < 18446744073709551616) :
    bothF c xs ys (64 * max xs.length ys.length) = bothE f xs ys := by
  refine ext_words (by rw [bothF_len, bothE_len]) (bothF_lt _ _ _ _) (bothE_lt hf hx hy) fun i hi j hj => ?_
  rw [bothF_len] at hi
  rw [bothF_bit c xs ys _ (Nat.le_refl _) i j hi hj, hasE_at _ _ _ hj, hasE_at _ _ _ hj]
  have hd : decide (64 * i + j < 64 * max xs.length ys.length) = true := by simp only [decide_eq_true_eq]; omega
  have e : wAt (bothE f xs ys) i = f (wAt xs i) (wAt ys i) := by
    unfold bothE
    rw [wAt, List.getElem?_map, List.getElem?_range hi]
    rfl
  rw [hd, Bool.true_and, e, hc _ _ _ (wAt_lt hx i) (wAt_lt hy i)]
theorem or_bits (x y j : Nat) : (orN x y).testBit j = (x.testBit j || y.testBit j) := Nat.testBit_or _ _ _
theorem and_bits (x y j : Nat) : (andN x y).testBit j = (x.testBit j && y.testBit j) := Nat.testBit_and _ _ _

/-- A set's numbers, looked for one by one below n. -/
def refK (zs : List Nat) (n : Nat) : List Nat := (List.range n).filter fun m => hasE zs (m : Nat)
theorem refK_succ (zs : List Nat) (n : Nat) : refK zs (n + 1) = if hasE zs (n : Nat) = true then refK zs n ++ [n] else refK zs n := by
  unfold refK
  rw [List.range_succ, List.filter_append]
  split
  · next h => simp [h]
  · next h => simp [h]
theorem refK_len (zs : List Nat) (n : Nat) : (refK zs n).length ≤ n := by
  have := List.length_filter_le (fun m : Nat => hasE zs (m : Nat)) (List.range n)
  simpa [refK] using this
theorem bl_filter (j : Nat) : ∀ i x, bl j i x = (List.range' i j).filter fun n => x.testBit (n - i) := by
  induction j with
  | zero => intro i x; rfl
  | succ j ih =>
    intro i x
    rw [List.range'_succ, List.filter_cons, bl, ih (i + 1) (x / 2)]
    have e : (List.range' (i + 1) j).filter (fun n => (x / 2).testBit (n - (i + 1))) = (List.range' (i + 1) j).filter (fun n => x.testBit (n - i)) := by
      refine List.filter_congr fun n hn => ?_
      have h1 := (List.mem_range'_1.1 hn).1
      rw [show n - i = (n - (i + 1)) + 1 by omega, Nat.testBit_succ]
    rw [e, Nat.sub_self, Nat.testBit_zero]
    by_cases h : x % 2 = 1
    · simp [h]
    · simp [h]
theorem refK_word (zs : List Nat) (k : Nat) : refK zs (64 * k) = setK zs k := by
  induction k with
  | zero => simp [refK, setK]
  | succ k ih =>
    rw [setK_succ, ← ih, bl_filter]
    unfold refK
    rw [show 64 * (k + 1) = 64 * k + 64 by omega, List.range_add, List.filter_append, List.range'_eq_map_range]
    congr 1
    refine (List.filter_congr fun n hn => ?_)
    obtain ⟨m, hm, rfl⟩ := List.mem_map.1 hn
    have hm := List.mem_range.1 hm
    rw [hasE_at zs k m hm, show 64 * k + m - 64 * k = m by omega]

/-! ### Full, Fits -/
theorem fullE_near (width : Int) : fullE (near width) = fullE width := by unfold fullE sizeE; rw [near_near]
theorem fullE_bit (width : Int) (i j : Nat) (hi : i < sizeE width) (hj : j < 64) : (wAt (fullE width) i).testBit j = decide (((64 * i + j : Nat) : Int) < near width) := by
  have hn := near_bd width
  have hs := sizeE_int width
  have hone : (18446744073709551615 : Nat).testBit j = true := by
    rw [show (18446744073709551615 : Nat) = 2 ^ 64 - 1 by decide, Nat.testBit_two_pow_sub_one]
    simpa using hj
  have hfk : wAt (fullK (sizeE width) (sizeE width)) i = 18446744073709551615 := by
    unfold wAt fullK
    rw [List.getElem?_map, List.getElem?_range hi]
    simp [hi]
  unfold fullE
  split
  · by_cases h : i = sizeE width - 1
    · have e : wAt ((fullK (sizeE width) (sizeE width)).set (sizeE width - 1) (2 ^ (near width % 64).toNat - 1)) i = 2 ^ (near width % 64).toNat - 1 := by
        rw [← h, wAt, List.getElem?_set_self (by rw [fullK_len]; exact hi)]
        rfl
      rw [e, Nat.testBit_two_pow_sub_one]
      rw [decide_eq_decide]
      omega
    · have e : wAt ((fullK (sizeE width) (sizeE width)).set (sizeE width - 1) (2 ^ (near width % 64).toNat - 1)) i = wAt (fullK (sizeE width) (sizeE width)) i := by
        rw [wAt, List.getElem?_set_ne (fun e => h e.symm)]
        rfl
      rw [e, hfk, hone]
      symm
      rw [decide_eq_true_eq]
      omega
  · rw [hfk, hone]
    symm
    rw [decide_eq_true_eq]
    omega
/-- Whether a set is one of a width: number by number. -/
def fitsE (zs : List Nat) (width : Int) : Bool := decide (zs.length = sizeE width) && decide (∀ n, n < 64 * zs.length → near width ≤ (n : Int) → hasE zs (n : Nat) = false)
theorem fits_eq (zs : List Nat) (width : Int) (hz : ∀ z ∈ zs, z < 18446744073709551616) (hl : zs.length = sizeE width) : subE zs (fullE width) = decide (∀ n, n < 64 * zs.length → near width ≤ (n : Int) → hasE zs (n : Nat) = false) := by
  rw [Bool.eq_iff_iff, subE_iff hz (fullE_lt width), decide_eq_true_eq]
  constructor
  · intro h n hn hw
    have h1 := (sub_iff _ _ (wAt_lt hz (n / 64)) (wAt_lt (fullE_lt width) (n / 64))).1 (h (n / 64)) (n % 64)
    rw [fullE_bit width (n / 64) (n % 64) (by omega) (by omega), ← hasE_at _ _ _ (by omega), show 64 * (n / 64) + n % 64 = n by omega] at h1
    cases hh : hasE zs (n : Nat) with
    | false => rfl
    | true =>
      have := h1 hh
      rw [decide_eq_true_eq] at this
      omega
  · intro h i
    refine (sub_iff _ _ (wAt_lt hz i) (wAt_lt (fullE_lt width) i)).2 fun j hj => ?_
    by_cases hi : i < zs.length
    · by_cases hj64 : j < 64
      · rw [fullE_bit width i j (by omega) hj64, decide_eq_true_eq]
        rcases Int.lt_or_le ((64 * i + j : Nat) : Int) (near width) with h' | h'
        · exact h'
        · have h2 := h (64 * i + j) (by omega) h'
          rw [hasE_at _ _ _ hj64, hj] at h2
          cases h2
      · exfalso
        have : (wAt zs i).testBit j = false := Nat.testBit_lt_two_pow (Nat.lt_of_lt_of_le (wAt_lt hz i) (Nat.pow_le_pow_right (n := 2) (by decide) (show 64 ≤ j by omega)))
        rw [hj] at this
        cases this
    · exfalso
      have : wAt zs i = 0 := by unfold wAt; rw [List.getElem?_eq_none (by omega)]; rfl
      rw [this, Nat.zero_testBit] at hj
      cases hj
theorem full_count : (∀ W : Fin 201, lenE (fullE (W.val : Int)) = W.val) ∧ lenE (fullE 1024) = 1024 := by decide +kernel
theorem full_len (width : Int) (h : ¬ (200 < width ∧ width < 1024)) : ((lenE (fullE width) : Nat) : Int) = near width := by
  rw [← fullE_near]
  have hn := near_bd width
  by_cases h2 : near width ≤ 200
  · have := full_count.1 ⟨(near width).toNat, by omega⟩
    have e : (((near width).toNat : Nat) : Int) = near width := by omega
    simp only [e] at this
    rw [this, e]
  · have e : near width = 1024 := by unfold near at *; omega
    rw [e, full_count.2]; rfl

end Go.Proofs.Ytflkelnfdoihlaa
