/-
  How many bits a word has: the sums in place that math/bits.OnesCount64 makes.
-/
import Derived.Test.YtflkelnfdoihlaaKit
namespace Go.Proofs.Ytflkelnfdoihlaa

theorem and_byte (a b c e : Nat) (hb : b < 256) (he : e < 256) : (256 * a + b) &&& (256 * c + e) = 256 * (a &&& c) + (b &&& e) := by
  have h1 : b &&& e < 2 ^ 8 := Nat.and_lt_two_pow _ (by omega)
  apply Nat.eq_of_testBit_eq
  intro i
  rw [Nat.testBit_and]
  have t (x y : Nat) (hy : y < 256) : (256 * x + y).testBit i = if i < 8 then y.testBit i else x.testBit (i - 8) := by
    have := Nat.testBit_two_pow_mul_add (i := 8) x (b := y) (by omega) i
    simpa using this
  rw [t a b hb, t c e he, t (a &&& c) (b &&& e) (by omega)]
  split
  · rw [Nat.testBit_and]
  · rw [Nat.testBit_and]

/-- k bytes, each c. -/
def rep (c : Nat) : Nat → Nat
  | 0 => 0
  | k + 1 => 256 * rep c k + c
theorem rep_succ (c k : Nat) : rep c (k + 1) = 256 * rep c k + c := rfl
def pA (k x : Nat) : Nat := (x / 2 &&& rep 85 k) + (x &&& rep 85 k)
def pB (k x : Nat) : Nat := (x / 4 &&& rep 51 k) + (x &&& rep 51 k)
def pC (k x : Nat) : Nat := (x / 16 + x) &&& rep 15 k
def qA (d : Nat) : Nat := (d / 2 &&& 85) + (d &&& 85)
def qB (d : Nat) : Nat := (d / 4 &&& 51) + (d &&& 51)
def qC (d : Nat) : Nat := (d / 16 + d) &&& 15

theorem a_low : ∀ d, d < 256 → ((128 + d / 2) &&& 85) = (d / 2 &&& 85) := by decide +kernel
theorem b_low : ∀ r, r < 4 → ∀ d, d < 256 → ((64 * r + d / 4) &&& 51) = (d / 4 &&& 51) := by decide +kernel
theorem c_low : ∀ r, r < 5 → ∀ d, d < 69 → ((16 * r + d / 16 + d) &&& 15) = ((d / 16 + d) &&& 15) := by decide +kernel
theorem ab_bd : ∀ d, d < 256 → qA d < 256 ∧ qB (qA d) < 69 ∧ qB (qA d) % 16 < 5 := by decide +kernel

theorem pA_step (k q d : Nat) (hd : d < 256) : pA (k + 1) (256 * q + d) = 256 * pA k q + qA d := by
  unfold pA qA
  rw [rep_succ]
  have e : (256 * q + d) / 2 = 256 * (q / 2) + (128 * (q % 2) + d / 2) := by omega
  rw [e, and_byte _ _ _ _ (by omega) (by decide), and_byte _ _ _ _ hd (by decide)]
  have : ((128 * (q % 2) + d / 2) &&& 85) = (d / 2 &&& 85) := by
    rcases (show q % 2 = 0 ∨ q % 2 = 1 by omega) with h | h
    · rw [h]; simp
    · rw [h]; exact a_low d hd
  rw [this]; omega
theorem pB_step (k q d : Nat) (hd : d < 256) : pB (k + 1) (256 * q + d) = 256 * pB k q + qB d := by
  unfold pB qB
  rw [rep_succ]
  have e : (256 * q + d) / 4 = 256 * (q / 4) + (64 * (q % 4) + d / 4) := by omega
  rw [e, and_byte _ _ _ _ (by omega) (by decide), and_byte _ _ _ _ hd (by decide), b_low (q % 4) (by omega) d hd]
  omega
theorem pC_step (k q d : Nat) (hd : d < 69) (hq : q % 16 < 5) : pC (k + 1) (256 * q + d) = 256 * pC k q + qC d := by
  unfold pC qC
  rw [rep_succ]
  have e : (256 * q + d) / 16 + (256 * q + d) = 256 * (q / 16 + q) + (16 * (q % 16) + d / 16 + d) := by omega
  rw [e, and_byte _ _ _ _ (by omega) (by decide), c_low (q % 16) hq d hd]
theorem ab_low (k x : Nat) : pB k (pA k x) % 16 < 5 := by
  cases k with
  | zero => simp [pA, pB, rep]
  | succ k =>
    have e : x = 256 * (x / 256) + x % 256 := by omega
    have h := ab_bd (x % 256) (by omega)
    rw [e, pA_step _ _ _ (by omega), pB_step _ _ _ h.1]
    omega
def pT (k x : Nat) : Nat := pC k (pB k (pA k x))
def qT (d : Nat) : Nat := qC (qB (qA d))
theorem pT_step (k q d : Nat) (hd : d < 256) : pT (k + 1) (256 * q + d) = 256 * pT k q + qT d := by
  have h := ab_bd d hd
  unfold pT qT
  rw [pA_step _ _ _ hd, pB_step _ _ _ h.1, pC_step _ _ _ h.2.1 (ab_low k q)]
theorem qT_bd : ∀ d, d < 256 → qT d ≤ 8 := by decide +kernel

/-- How many bits. -/
def pop : Nat → Nat → Nat
  | 0, _ => 0
  | k + 1, x => x % 2 + pop k (x / 2)
theorem pop_add (j k x : Nat) : pop (j + k) x = pop j x + pop k (x / 2 ^ j) := by
  induction j generalizing x with
  | zero => simp [pop]
  | succ j ih =>
    rw [show j + 1 + k = (j + k) + 1 by omega]
    simp only [pop]
    rw [ih, Nat.div_div_eq_div_mul, Nat.pow_succ, Nat.mul_comm 2]
    omega
theorem pop_byte : ∀ d, d < 256 → qT d = pop 8 d := by decide +kernel
theorem pop_mod (j x : Nat) : pop j (x % 2 ^ j) = pop j x := by
  induction j generalizing x with
  | zero => rfl
  | succ j ih =>
    simp only [pop]
    have e1 : x % 2 ^ (j + 1) % 2 = x % 2 := Nat.mod_mod_of_dvd _ ⟨2 ^ j, by rw [Nat.pow_succ, Nat.mul_comm]⟩
    have e2 : x % 2 ^ (j + 1) / 2 = x / 2 % 2 ^ j := by rw [Nat.pow_succ, Nat.mul_comm, Nat.mod_mul_right_div_self]
    rw [e1, e2, ih]
theorem ones8 (c0 c1 c2 c3 c4 c5 c6 c7 y : Nat) (h0 : c0 ≤ 8) (h1 : c1 ≤ 8) (h2 : c2 ≤ 8) (h3 : c3 ≤ 8) (h4 : c4 ≤ 8) (h5 : c5 ≤ 8) (h6 : c6 ≤ 8) (h7 : c7 ≤ 8)
    (hy : y = c0 + 256 * c1 + 65536 * c2 + 16777216 * c3 + 4294967296 * c4 + 1099511627776 * c5 + 281474976710656 * c6 + 72057594037927936 * c7) :
    y + y / 256 < 18446744073709551616 ∧ (y + y / 256) + (y + y / 256) / 65536 < 18446744073709551616 ∧
    ((y + y / 256) + (y + y / 256) / 65536) + ((y + y / 256) + (y + y / 256) / 65536) / 4294967296 < 18446744073709551616 ∧
    (((y + y / 256) + (y + y / 256) / 65536) + ((y + y / 256) + (y + y / 256) / 65536) / 4294967296) % 128 = c0 + c1 + c2 + c3 + c4 + c5 + c6 + c7 := by
  have d1 : y / 256 = c1 + 256 * c2 + 65536 * c3 + 16777216 * c4 + 4294967296 * c5 + 1099511627776 * c6 + 281474976710656 * c7 := by omega
  have e1 : y + y / 256 = (c0 + c1) + 256 * (c1 + c2) + 65536 * (c2 + c3) + 16777216 * (c3 + c4) + 4294967296 * (c4 + c5) + 1099511627776 * (c5 + c6) + 281474976710656 * (c6 + c7) + 72057594037927936 * c7 := by omega
  generalize y + y / 256 = y1 at *
  have d2 : y1 / 65536 = (c2 + c3) + 256 * (c3 + c4) + 65536 * (c4 + c5) + 16777216 * (c5 + c6) + 4294967296 * (c6 + c7) + 1099511627776 * c7 := by clear d1 hy; omega
  have e2 : y1 + y1 / 65536 = (c0 + c1 + c2 + c3) + 256 * (c1 + c2 + c3 + c4) + 65536 * (c2 + c3 + c4 + c5) + 16777216 * (c3 + c4 + c5 + c6) + 4294967296 * (c4 + c5 + c6 + c7) + 1099511627776 * (c5 + c6 + c7) + 281474976710656 * (c6 + c7) + 72057594037927936 * c7 := by clear d1 hy; omega
  have l1 : y1 < 18446744073709551616 := by clear d1 hy d2 e2; omega
  generalize y1 + y1 / 65536 = y2 at *
  clear d1 hy e1 d2
  have d3 : y2 / 4294967296 = (c4 + c5 + c6 + c7) + 256 * (c5 + c6 + c7) + 65536 * (c6 + c7) + 16777216 * c7 := by omega
  refine ⟨l1, by omega, by omega, ?_⟩
  rw [d3, e2]
  omega
/-- The sum of a number's bytes' counts. -/
theorem pT_ones (x : Nat) :
    let y := pT 8 x
    let y1 := y + y / 256
    let y2 := y1 + y1 / 65536
    let y3 := y2 + y2 / 4294967296
    y3 < 18446744073709551616 ∧ y1 < 18446744073709551616 ∧ y2 < 18446744073709551616 ∧ y3 % 128 = pop 64 x := by
  have s (k x : Nat) : pT (k + 1) x = 256 * pT k (x / 256) + qT (x % 256) := by
    rw [← pT_step _ _ _ (by omega)]; congr 1; omega
  have p (k x : Nat) : pop (8 + k) x = qT (x % 256) + pop k (x / 256) := by
    rw [pop_add, pop_byte _ (by omega), show (256 : Nat) = 2 ^ 8 from rfl, pop_mod]
  have hp : pop 64 x = _ := (p 56 x).trans (congrArg _ ((p 48 _).trans (congrArg _ ((p 40 _).trans (congrArg _ ((p 32 _).trans (congrArg _ ((p 24 _).trans (congrArg _ ((p 16 _).trans (congrArg _ ((p 8 _).trans (congrArg _ (p 0 _))))))))))))))
  rw [hp, show pop 0 (x / 256 / 256 / 256 / 256 / 256 / 256 / 256 / 256) = 0 from rfl]
  simp only [s, show pT 0 _ = 0 from by simp [pT, pC, rep]]
  have b (d : Nat) : qT (d % 256) ≤ 8 := qT_bd _ (by omega)
  have b0 := b x
  have b1 := b (x / 256)
  have b2 := b (x / 256 / 256)
  have b3 := b (x / 256 / 256 / 256)
  have b4 := b (x / 256 / 256 / 256 / 256)
  have b5 := b (x / 256 / 256 / 256 / 256 / 256)
  have b6 := b (x / 256 / 256 / 256 / 256 / 256 / 256)
  have b7 := b (x / 256 / 256 / 256 / 256 / 256 / 256 / 256)
  generalize qT (x % 256) = c0 at *
  generalize qT (x / 256 % 256) = c1 at *
  generalize qT (x / 256 / 256 % 256) = c2 at *
  generalize qT (x / 256 / 256 / 256 % 256) = c3 at *
  generalize qT (x / 256 / 256 / 256 / 256 % 256) = c4 at *
  generalize qT (x / 256 / 256 / 256 / 256 / 256 % 256) = c5 at *
  generalize qT (x / 256 / 256 / 256 / 256 / 256 / 256 % 256) = c6 at *
  generalize qT (x / 256 / 256 / 256 / 256 / 256 / 256 / 256 % 256) = c7 at *
  clear s p b hp
  have h := ones8 c0 c1 c2 c3 c4 c5 c6 c7 (256 * (256 * (256 * (256 * (256 * (256 * (256 * (256 * 0 + c7) + c6) + c5) + c4) + c3) + c2) + c1) + c0) b0 b1 b2 b3 b4 b5 b6 b7 (by omega)
  generalize 256 * (256 * (256 * (256 * (256 * (256 * (256 * (256 * 0 + c7) + c6) + c5) + c4) + c3) + c2) + c1) + c0 = y at *
  exact ⟨h.2.2.1, h.1, h.2.1, by rw [h.2.2.2]; omega⟩

end Go.Proofs.Ytflkelnfdoihlaa
