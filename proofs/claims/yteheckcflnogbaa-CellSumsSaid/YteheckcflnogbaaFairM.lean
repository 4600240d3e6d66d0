/-
  Scripts that are fair: the plain mathematics.
-/
namespace Go.Proofs.Yteheckcflnogbaa

/-- No pick from a on, ahead of b, names w. -/
def free (ws : Nat → Nat) (w a b : Nat) : Prop := ∀ j, a ≤ j → j < b → ws j ≠ w
/-- Each run of k picks names each worker. -/
def isP (ws : Nat → Nat) (n len : Nat) (k : Int) : Prop := 1 ≤ k ∧ ∀ i : Nat, i < len → k ≤ (len : Int) - i → ∀ w, w < n → ∃ j : Nat, (j : Int) < k ∧ ws (i + j) = w

def lastL (ws : Nat → Nat) (n : Nat) : Nat → List Int
  | 0 => List.replicate n (-1)
  | k + 1 => (lastL ws n k).set (ws k) k
def at0 (l : List Int) (w : Nat) : Int := l[w]?.getD 0
def gapL (ws : Nat → Nat) (n : Nat) : Nat → Int
  | 0 => 0
  | k + 1 => max (gapL ws n k) (k - at0 (lastL ws n k) (ws k) - 1)
def gapE (ws : Nat → Nat) (n len : Nat) : Nat → Int
  | 0 => gapL ws n len
  | j + 1 => max (gapE ws n len j) (len - at0 (lastL ws n len) j - 1)

theorem lastL_len (ws : Nat → Nat) (n k : Nat) : (lastL ws n k).length = n := by
  induction k with
  | zero => simp [lastL]
  | succ k ih => simp [lastL, ih]
theorem last_spec (ws : Nat → Nat) (n k w : Nat) (hw : w < n) : -1 ≤ at0 (lastL ws n k) w ∧ at0 (lastL ws n k) w < k ∧
    (∀ j : Nat, at0 (lastL ws n k) w < j → j < k → ws j ≠ w) ∧ (0 ≤ at0 (lastL ws n k) w → ws (at0 (lastL ws n k) w).toNat = w) := by
  induction k with
  | zero =>
    have e : at0 (lastL ws n 0) w = -1 := by simp [at0, lastL, hw]
    rw [e]
    exact ⟨by omega, by omega, fun j h1 h2 => by omega, fun h => by omega⟩
  | succ k ih =>
    have hl := lastL_len ws n k
    by_cases h : ws k = w
    · have e : at0 (lastL ws n (k + 1)) w = k := by simp [at0, lastL, h, hl, hw]
      rw [e]
      exact ⟨by omega, by omega, fun j h1 h2 => by omega, fun _ => by simpa using h⟩
    · have e : at0 (lastL ws n (k + 1)) w = at0 (lastL ws n k) w := by simp [at0, lastL, List.getElem?_set_ne h]
      rw [e]
      refine ⟨ih.1, by omega, fun j h1 h2 => ?_, ih.2.2.2⟩
      by_cases hj : j = k
      · subst hj; exact h
      · exact ih.2.2.1 j h1 (by omega)
theorem gapL_nonneg (ws : Nat → Nat) (n k : Nat) : 0 ≤ gapL ws n k := by
  induction k with
  | zero => simp [gapL]
  | succ k ih => simp only [gapL]; omega
theorem gapL_le (ws : Nat → Nat) (n k : Nat) (hn : ∀ j, ws j < n) : gapL ws n k ≤ k := by
  induction k with
  | zero => simp [gapL]
  | succ k ih => have := (last_spec ws n k (ws k) (hn k)).1; simp only [gapL]; omega
theorem gapE_nonneg (ws : Nat → Nat) (n len j : Nat) : 0 ≤ gapE ws n len j := by
  induction j with
  | zero => exact gapL_nonneg _ _ _
  | succ k ih => simp only [gapE]; omega
theorem gapE_le (ws : Nat → Nat) (n len j : Nat) (hn : ∀ j, ws j < n) (hj : j ≤ n) : gapE ws n len j ≤ len := by
  induction j with
  | zero => exact gapL_le _ _ _ hn
  | succ k ih => have := (last_spec ws n len k (by omega)).1; have := ih (by omega); simp only [gapE]; omega
theorem run_free (ws : Nat → Nat) (n k w : Nat) (hw : w < n) (g : Int) : (k : Int) - at0 (lastL ws n k) w - 1 ≤ g ↔ ∀ a, a ≤ k → free ws w a k → (k : Int) - a ≤ g := by
  obtain ⟨h1, h2, h3, h4⟩ := last_spec ws n k w hw
  constructor
  · intro h a ha hf
    have : at0 (lastL ws n k) w < a := by
      rcases Int.lt_or_le (at0 (lastL ws n k) w) a with h5 | h5
      · exact h5
      · exfalso
        exact hf (at0 (lastL ws n k) w).toNat (by omega) (by omega) (h4 (by omega))
    omega
  · intro h
    have := h (at0 (lastL ws n k) w + 1).toNat (by omega) (fun j hj1 hj2 => h3 j (by omega) hj2)
    omega
theorem gapL_iff (ws : Nat → Nat) (n : Nat) (hn : ∀ j, ws j < n) (g : Int) (hg : 0 ≤ g) (k : Nat) : gapL ws n k ≤ g ↔ ∀ b, b < k → ∀ a, a ≤ b → free ws (ws b) a b → (b : Int) - a ≤ g := by
  induction k with
  | zero => simp [gapL, hg]
  | succ k ih =>
    simp only [gapL, Int.max_le, ih, run_free ws n k (ws k) (hn k) g]
    constructor
    · rintro ⟨h1, h2⟩ b hb
      rcases (show b < k ∨ b = k from by omega) with h | rfl
      · exact h1 b h
      · exact h2
    · intro h
      exact ⟨fun b hb => h b (by omega), h k (by omega)⟩
theorem gapE_iff (ws : Nat → Nat) (n len : Nat) (g : Int) (j : Nat) (hj : j ≤ n) : gapE ws n len j ≤ g ↔ gapL ws n len ≤ g ∧ ∀ w, w < j → ∀ a, a ≤ len → free ws w a len → (len : Int) - a ≤ g := by
  induction j with
  | zero => simp [gapE]
  | succ j ih =>
    simp only [gapE, Int.max_le, ih (by omega), run_free ws n len j (by omega) g]
    constructor
    · rintro ⟨⟨h0, h1⟩, h2⟩
      refine ⟨h0, fun w hw => ?_⟩
      rcases (show w < j ∨ w = j from by omega) with h | rfl
      · exact h1 w h
      · exact h2
    · rintro ⟨h0, h⟩
      exact ⟨⟨h0, fun w hw => h w (by omega)⟩, h j (by omega)⟩
/-- The next pick of w, or the end. -/
theorem next_pick (ws : Nat → Nat) (w a b : Nat) (hf : free ws w a b) (d : Nat) : (free ws w a (b + d)) ∨ ∃ c, b ≤ c ∧ c < b + d ∧ ws c = w ∧ free ws w a c := by
  induction d with
  | zero => exact .inl hf
  | succ d ih =>
    rcases ih with h | ⟨c, h1, h2, h3⟩
    · by_cases e : ws (b + d) = w
      · exact .inr ⟨b + d, by omega, by omega, e, h⟩
      · refine .inl fun j h1 h2 => ?_
        rcases (show j < b + d ∨ j = b + d from by omega) with h3 | rfl
        · exact h j h1 h3
        · exact e
    · exact .inr ⟨c, h1, by omega, h3⟩
theorem is_iff (ws : Nat → Nat) (n len : Nat) (hn : ∀ j, ws j < n) (k : Int) : isP ws n len k ↔ 1 ≤ k ∧ ((len : Int) < k ∨ gapE ws n len n + 1 ≤ k) := by
  unfold isP
  refine and_congr_right fun hk => ?_
  constructor
  · intro h
    rcases Int.lt_or_le (len : Int) k with h1 | h1
    · exact .inl h1
    · refine .inr ?_
      have : gapE ws n len n ≤ k - 1 := by
        rw [gapE_iff ws n len _ n (Nat.le_refl _), gapL_iff ws n hn _ (by omega)]
        constructor
        · intro b hb a ha hf
          apply Int.not_lt.1
          intro hlt
          obtain ⟨j, hj, e⟩ := h a (by omega) (by omega) (ws b) (hn b)
          exact hf (a + j) (by omega) (by omega) e
        · intro w hw a ha hf
          apply Int.not_lt.1
          intro hlt
          obtain ⟨j, hj, e⟩ := h a (by omega) (by omega) w hw
          exact hf (a + j) (by omega) (by omega) e
      omega
  · rintro h i hi hki w hw
    rcases h with h | h
    · omega
    · have hg : gapE ws n len n ≤ k - 1 := by omega
      rw [gapE_iff ws n len _ n (Nat.le_refl _), gapL_iff ws n hn _ (by omega)] at hg
      apply Classical.byContradiction
      intro hno
      have hf : free ws w i (i + k.toNat) := fun j h1 h2 e => hno ⟨j - i, by omega, by rw [show i + (j - i) = j by omega]; exact e⟩
      rcases next_pick ws w i (i + k.toNat) hf (len - (i + k.toNat)) with h1 | ⟨c, h1, h2, h3, h4⟩
      · have := hg.2 w hw i (by omega) (by rw [show i + k.toNat + (len - (i + k.toNat)) = len by omega] at h1; exact h1)
        omega
      · have := hg.1 c (by omega) i (by omega) (by rw [h3]; exact h4)
        omega

/-- Who a pick names. -/
def whoE (x n : Int) : Int := if n < 1 then 0 else x % n
theorem whoE_lt (x : Int) (n : Nat) (hn : 0 < n) : 0 ≤ whoE x n ∧ whoE x n < n := by
  unfold whoE
  rw [if_neg (by omega)]
  exact ⟨Int.emod_nonneg _ (by omega), Int.emod_lt_of_pos _ (by omega)⟩

theorem whoE_cases (x : Int) (n : Nat) (hn : 0 < n) : (0 ≤ x.tmod n ∧ x.tmod n < n ∧ whoE x n = x.tmod n) ∨ (x.tmod n < 0 ∧ -(n : Int) < x.tmod n ∧ whoE x n = x.tmod n + n) := by
  have h1 := Int.tmod_lt_of_pos x (show (0 : Int) < n by omega)
  have h2 := Int.tmod_lt_of_pos (-x) (show (0 : Int) < n by omega)
  rw [Int.neg_tmod] at h2
  have hd : (n : Int) * x.tdiv n + x.tmod n = x := Int.mul_tdiv_add_tmod x n
  have hw : whoE x n = x % n := by unfold whoE; rw [if_neg (by omega)]
  generalize x.tmod n = r at *
  generalize x.tdiv n = q at *
  subst hd
  by_cases h : 0 ≤ r
  · refine .inl ⟨h, h1, ?_⟩
    rw [hw, Int.mul_add_emod_self_left, Int.emod_eq_of_lt h h1]
  · refine .inr ⟨by omega, by omega, ?_⟩
    rw [hw, Int.mul_add_emod_self_left, ← Int.add_emod_right, Int.emod_eq_of_lt (by omega) (by omega)]

/-- The marks, k of them laid. -/
def fill (N k : Nat) : List Int := List.replicate k (-1) ++ List.replicate (N - k) 0
theorem fill_zero (N : Nat) : fill N 0 = List.replicate N 0 := by simp [fill]
theorem fill_all (N : Nat) : fill N N = List.replicate N (-1) := by simp [fill]
theorem fill_at (N k : Nat) (h : k < N) : (fill N k)[k]? = some 0 := by
  obtain ⟨m, hm⟩ : ∃ m, N - k = m + 1 := ⟨N - k - 1, by omega⟩
  simp [fill, hm, List.replicate_succ]
theorem fill_set (N k : Nat) (h : k < N) : (fill N k).set k (-1) = fill N (k + 1) := by
  obtain ⟨m, hm⟩ : ∃ m, N - k = m + 1 := ⟨N - k - 1, by omega⟩
  have hm2 : N - (k + 1) = m := by omega
  simp [fill, hm, hm2, List.replicate_succ]
  rw [← List.cons_append, ← List.replicate_succ, List.replicate_succ', List.append_assoc]
  rfl

end Go.Proofs.Yteheckcflnogbaa
