/-
  Rounds of any order: the plain mathematics.
-/
import Derived.Test.YtblpjkpbbgkjbaaDoorFairM
namespace Go.Proofs.YtblpjkpbbgkjbaaDoor

/-- 0, 1, .. -/
def rangeI (N : Nat) : List Int := (List.range N).map fun i : Nat => (i : Int)
theorem rangeI_len (N : Nat) : (rangeI N).length = N := by simp [rangeI]
theorem rangeI_at (N i : Nat) (h : i < N) : (rangeI N)[i]? = some (i : Int) := by simp [rangeI, h]
/-- What comes beside pick number i. -/
def rawx (raw : List Int) (i : Nat) : Int := if raw = [] then 0 else raw[i % raw.length]?.getD 0
/-- Whom is to be picked yet in this round, at pick number i; who was picked. -/
def turn0 (N : Nat) (l : List Int) : List Int := if l = [] then rangeI N else l
def wv (N : Nat) (raw : List Int) : Nat → List Int × List (Int × Int)
  | 0 => ([], [])
  | i + 1 =>
    let l := turn0 N (wv N raw i).1
    let p := (whoE (rawx raw i) l.length).toNat
    (l.eraseIdx p, (wv N raw i).2 ++ [(l[p]?.getD 0, rawx raw i)])
def wl (N : Nat) (raw : List Int) (i : Nat) : List Int := turn0 N (wv N raw i).1
def wp (N : Nat) (raw : List Int) (i : Nat) : Nat := (whoE (rawx raw i) (wl N raw i).length).toNat
theorem wv_left (N : Nat) (raw : List Int) (i : Nat) : (wv N raw (i + 1)).1 = (wl N raw i).eraseIdx (wp N raw i) := rfl
theorem wv_out (N : Nat) (raw : List Int) (i : Nat) : (wv N raw (i + 1)).2 = (wv N raw i).2 ++ [((wl N raw i)[wp N raw i]?.getD 0, rawx raw i)] := rfl
theorem wv_len (N : Nat) (raw : List Int) (i : Nat) : (wv N raw i).2.length = i := by
  induction i with
  | zero => rfl
  | succ i ih => rw [wv_out]; simp [ih]
theorem wl_pos (N : Nat) (raw : List Int) (i : Nat) (hN : 0 < N) : 0 < (wl N raw i).length := by
  unfold wl turn0
  split
  · rw [rangeI_len]; exact hN
  · rename_i h; exact List.length_pos_iff.2 h
theorem wp_lt (N : Nat) (raw : List Int) (i : Nat) (hN : 0 < N) : wp N raw i < (wl N raw i).length := by
  have h := wl_pos N raw i hN
  have := whoE_lt (rawx raw i) (wl N raw i).length h
  unfold wp
  omega
/-- How many are left. -/
theorem left_len (N : Nat) (raw : List Int) (i : Nat) (hN : 0 < N) : (wv N raw i).1.length = if i % N = 0 then 0 else N - i % N := by
  induction i with
  | zero => simp [wv]
  | succ i ih =>
    have hp := wp_lt N raw i hN
    rw [wv_left, List.length_eraseIdx, if_pos hp]
    have hm := Nat.mod_lt i hN
    have hlen : (wl N raw i).length = N - i % N := by
      unfold wl turn0
      by_cases h : i % N = 0
      · rw [if_pos h] at ih
        rw [if_pos (List.eq_nil_of_length_eq_zero ih), rangeI_len, h, Nat.sub_zero]
      · rw [if_neg h] at ih
        rw [if_neg (by intro e; rw [e] at ih; simp at ih; omega), ih]
    rw [hlen]
    have hsucc : (i + 1) % N = if i % N + 1 = N then 0 else i % N + 1 := by
      rw [Nat.add_mod]
      split
      · rename_i h
        rcases Nat.lt_or_ge 1 N with h1 | h1
        · rw [Nat.mod_eq_of_lt h1, h, Nat.mod_self]
        · obtain rfl : N = 1 := by omega
          simp [Nat.mod_one]
      · rename_i h
        rw [Nat.mod_eq_of_lt (show 1 < N by omega), Nat.mod_eq_of_lt (by omega)]
    rw [hsucc]
    split
    · simp; omega
    · rw [if_neg (by omega)]; omega
theorem left_nil (N : Nat) (raw : List Int) (i : Nat) (hN : 0 < N) : (wv N raw i).1 = [] ↔ i % N = 0 := by
  have h := left_len N raw i hN
  have hm := Nat.mod_lt i hN
  constructor
  · intro e
    rw [e] at h
    by_cases h0 : i % N = 0
    · exact h0
    · rw [if_neg h0] at h; simp at h; omega
  · intro e
    rw [if_pos e] at h
    exact List.eq_nil_of_length_eq_zero h

/-- Whom pick number j picked. -/
def whoW (N : Nat) (raw : List Int) (j : Nat) : Int := (wl N raw j)[wp N raw j]?.getD 0
theorem wv_at (N : Nat) (raw : List Int) (m j : Nat) (h : j < m) : (wv N raw m).2[j]?.getD (0, 0) = (whoW N raw j, rawx raw j) := by
  induction m with
  | zero => omega
  | succ m ih =>
    rw [wv_out]
    rcases (show j < m ∨ j = m from by omega) with h | rfl
    · rw [List.getElem?_append_left (by rw [wv_len]; exact h)]; exact ih h
    · rw [List.getElem?_append_right (by rw [wv_len]; exact Nat.le_refl _), wv_len]; simp [whoW]

theorem mem_erase (l : List Int) (p : Nat) (u : Int) (hu : u ∈ l) : u ∈ l.eraseIdx p ∨ l[p]?.getD 0 = u := by
  obtain ⟨k, hk, rfl⟩ := List.getElem_of_mem hu
  by_cases h : k = p
  · subst h; exact .inr (by simp [hk])
  · left
    rw [List.mem_eraseIdx_iff_getElem]
    exact ⟨k, hk, h, rfl⟩
/-- In a round each one that is not left was picked. -/
theorem round_all (N : Nat) (raw : List Int) (r : Nat) (hN : 0 < N) : ∀ (d : Nat), d < N → ∀ u : Nat, u < N → (u : Int) ∈ wl N raw (r * N + d) ∨ ∃ e, e < d ∧ whoW N raw (r * N + e) = u := by
  intro d
  induction d with
  | zero =>
    intro _ u hu
    left
    have : (wv N raw (r * N + 0)).1 = [] := (left_nil N raw _ hN).2 (by simp)
    unfold wl turn0
    rw [if_pos this]
    simp only [rangeI, List.mem_map, List.mem_range]
    exact ⟨u, hu, rfl⟩
  | succ d ih =>
    intro hd u hu
    have hne : ¬ (wv N raw (r * N + (d + 1))).1 = [] := fun e => by
      have := (left_nil N raw _ hN).1 e
      rw [Nat.mul_add_mod_self_right, Nat.mod_eq_of_lt hd] at this
      omega
    rcases ih (by omega) u hu with h | ⟨e, he, h⟩
    · rcases mem_erase _ (wp N raw (r * N + d)) _ h with h1 | h1
      · left
        unfold wl turn0
        rw [if_neg hne, show r * N + (d + 1) = r * N + d + 1 from rfl, wv_left]
        exact h1
      · exact .inr ⟨d, by omega, h1⟩
    · exact .inr ⟨e, by omega, h⟩
/-- A whole round picks each one. -/
theorem round_full (N : Nat) (raw : List Int) (r : Nat) (hN : 0 < N) (u : Nat) (hu : u < N) : ∃ e, e < N ∧ whoW N raw (r * N + e) = u := by
  rcases round_all N raw r hN (N - 1) (by omega) u hu with h | ⟨e, he, h⟩
  · refine ⟨N - 1, by omega, ?_⟩
    have hl : (wl N raw (r * N + (N - 1))).length = 1 := by
      have hll := left_len N raw (r * N + (N - 1)) hN
      rw [Nat.mul_add_mod_self_right, Nat.mod_eq_of_lt (show N - 1 < N by omega)] at hll
      unfold wl turn0
      split
      · rename_i h0
        rw [rangeI_len]
        rw [h0] at hll
        split at hll
        · omega
        · simp at hll; omega
      · rename_i h0
        rw [hll]
        split
        · rename_i h1
          rw [if_pos h1] at hll
          exact absurd (List.eq_nil_of_length_eq_zero hll) h0
        · omega
    have hp := wp_lt N raw (r * N + (N - 1)) hN
    obtain ⟨k, hk, e⟩ := List.getElem_of_mem h
    unfold whoW
    rw [hl] at hp hk
    have h0 : wp N raw (r * N + (N - 1)) = 0 := by omega
    have h1 : k = 0 := by omega
    subst h1
    rw [h0, List.getElem?_eq_getElem (by omega)]
    exact e
  · exact ⟨e, by omega, h⟩
/-- Twice as many picks less one hold a whole round. -/
theorem weave_fair (N : Nat) (raw : List Int) (i : Nat) (hN : 0 < N) (u : Nat) (hu : u < N) : ∃ j, j < 2 * N - 1 ∧ whoW N raw (i + j) = u := by
  have hd := Nat.div_add_mod (i + (N - 1)) N
  have hm := Nat.mod_lt (i + (N - 1)) hN
  obtain ⟨e, he, hw⟩ := round_full N raw ((i + (N - 1)) / N) hN u hu
  rw [Nat.mul_comm] at hd
  refine ⟨(i + (N - 1)) / N * N + e - i, by omega, ?_⟩
  rw [show i + ((i + (N - 1)) / N * N + e - i) = (i + (N - 1)) / N * N + e by omega]
  exact hw

end Go.Proofs.YtblpjkpbbgkjbaaDoor
