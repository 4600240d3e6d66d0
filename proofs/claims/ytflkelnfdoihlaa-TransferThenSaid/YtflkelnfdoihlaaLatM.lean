/-
  Lattices of words: mathematics. No program.
-/
import Derived.Test.YtflkelnfdoihlaaRefM
import Derived.Test.YtflkelnfdoihlaaConst2
namespace Go.Proofs.Ytflkelnfdoihlaa
open Go.RowKit

/-! ### The order of words that are known -/
theorem sou_sou' (a : Int) : sou (sou a) = sou a := by
  by_cases h : isn a = true
  · have e : sou a = a := by unfold sou; rw [if_pos h]
    rw [e, e]
  · have e : sou a = if a = 0 then 0 else 1 := by unfold sou; rw [if_neg h]
    rw [e]
    split <;> decide
theorem sou_join' (a b : Int) : sou (cjoin a b) = cjoin a b := by
  unfold cjoin
  split
  · exact sou_sou' a
  · split
    · exact sou_sou' b
    · decide
theorem sou_bd' (x : Int) (h : 0 ≤ x ∧ x < 18446744073709551616) : 0 ≤ sou x ∧ sou x < 18446744073709551616 := by
  unfold sou; split
  · exact h
  · split <;> omega
theorem cjoin_bd' (a b : Int) (ha : 0 ≤ a ∧ a < 18446744073709551616) (hb : 0 ≤ b ∧ b < 18446744073709551616) : 0 ≤ cjoin a b ∧ cjoin a b < 18446744073709551616 := by
  have h1 := sou_bd' a ha
  have h2 := sou_bd' b hb
  unfold cjoin; split
  · exact h1
  · split
    · exact h2
    · omega
theorem cjoin_comm (a b : Int) : cjoin a b = cjoin b a := by
  unfold cjoin
  generalize sou a = x
  generalize sou b = y
  split <;> split <;> (try split) <;> (try split) <;> omega
theorem crank_bd (a : Int) : 0 ≤ crank a ∧ crank a ≤ 2 := by
  unfold crank; split
  · omega
  · split <;> omega

/-! ### Two words put together, of any kind -/
def wordE (what : Int) (x y : Nat) : Nat := if what = 1 then orN x y else if what = 2 then andN x y else if what = 3 then (cjoin (x : Int) (y : Int)).toNat else 0
theorem wordE_lt (what : Int) (x y : Nat) (hx : x < 18446744073709551616) (hy : y < 18446744073709551616) : wordE what x y < 18446744073709551616 := by
  unfold wordE
  split
  · exact orN_lt _ _ hx hy
  · split
    · exact andN_lt _ _ hx hy
    · split
      · have := cjoin_bd' x y (by omega) (by omega)
        omega
      · omega
theorem wordE_zero (what : Int) : wordE what 0 0 = 0 := by
  unfold wordE
  split
  · rfl
  · split
    · rfl
    · split
      · decide
      · rfl
/-- Which kinds and widths there are. -/
def isL (what width : Int) : Bool := decide (1 ≤ what ∧ what ≤ 3 ∧ 0 ≤ width ∧ width ≤ 1024)
def wordsN (what width : Int) : Nat := if isL what width then (if what = 3 then width.toNat else sizeE width) else 0
theorem wordsN_le (what width : Int) : wordsN what width ≤ 1024 := by
  unfold wordsN
  split
  · next h =>
    simp only [isL, decide_eq_true_eq] at h
    split
    · omega
    · have := sizeE_le width; omega
  · omega
theorem isL_near {what width : Int} (h : isL what width = true) : near width = width := by
  simp only [isL, decide_eq_true_eq] at h
  unfold near; omega
def souN (z : Nat) : Bool := sou (z : Int) == (z : Int)
/-- Whether words are a value. -/
def valueE (what width : Int) (a : List Nat) : Bool := isL what width && (decide (a.length = wordsN what width) && (if what = 3 then a.all souN else fitsE a width))
def bottomE (what width : Int) : List Nat := if what = 2 ∧ isL what width = true then fullE width else List.replicate (wordsN what width) 0
def topE (what width : Int) : List Nat := if what = 1 ∧ isL what width = true then fullE width else List.replicate (wordsN what width) (if what = 3 then 1 else 0)
def crankN (z : Nat) : Nat := (crank (z : Int)).toNat
def rankE (what width : Int) (a : List Nat) : Int := if what = 3 then ((a.map crankN).sum : Nat) else if what = 2 then width - (lenE a : Nat) else (lenE a : Nat)
def heightE (what width : Int) : Int := if isL what width then (if what = 3 then 2 * width else width) else 0
def joinE (what : Int) (a b : List Nat) : List Nat := bothE (wordE what) a b
/-- Below, of values of one length. -/
def belowE (what : Int) (a b : List Nat) : Bool := decide (joinE what a b = b)

theorem ext_at {a b : List Nat} (hl : a.length = b.length) (h : ∀ i, i < a.length → wAt a i = wAt b i) : a = b := by
  refine List.ext_getElem hl fun i h1 h2 => ?_
  have e := h i h1
  unfold wAt at e
  rw [List.getElem?_eq_getElem h1, List.getElem?_eq_getElem h2] at e
  exact e
theorem joinE_at (what : Int) (a b : List Nat) (i : Nat) : wAt (joinE what a b) i = wordE what (wAt a i) (wAt b i) := bothE_at _ (wordE_zero what) a b i
theorem joinE_len (what : Int) {a b : List Nat} (h : a.length = b.length) : (joinE what a b).length = a.length := by
  unfold joinE; rw [bothE_len]; omega
theorem belowE_iff (what : Int) {a b : List Nat} (h : a.length = b.length) : belowE what a b = true ↔ ∀ i, wordE what (wAt a i) (wAt b i) = wAt b i := by
  unfold belowE
  rw [decide_eq_true_eq]
  constructor
  · intro e i
    rw [← joinE_at, e]
  · intro e
    exact ext_at (by rw [joinE_len what h, h]) fun i _ => by rw [joinE_at, e i]
section
variable {what width : Int} {a b c : List Nat}
theorem value_is (h : valueE what width a = true) : isL what width = true := by
  unfold valueE at h; rw [Bool.and_eq_true] at h; exact h.1
theorem value_len (h : valueE what width a = true) : a.length = wordsN what width := by
  unfold valueE at h; rw [Bool.and_eq_true, Bool.and_eq_true] at h; exact of_decide_eq_true h.2.1
theorem value_sou (h : valueE what width a = true) (e : what = 3) (i : Nat) : sou (wAt a i : Nat) = (wAt a i : Nat) := by
  unfold valueE at h; rw [Bool.and_eq_true, Bool.and_eq_true] at h
  have h2 := h.2.2
  rw [if_pos e, List.all_eq_true] at h2
  unfold wAt
  by_cases hi : i < a.length
  · have := h2 _ (List.getElem_mem hi)
    unfold souN at this
    rw [beq_iff_eq] at this
    rw [List.getElem?_eq_getElem hi]
    exact this
  · rw [List.getElem?_eq_none (by omega)]; decide
theorem value_fit (h : valueE what width a = true) (e : what ≠ 3) : fitsE a width = true := by
  unfold valueE at h; rw [Bool.and_eq_true, Bool.and_eq_true] at h
  have h2 := h.2.2
  rw [if_neg e] at h2
  exact h2
theorem fits_bits (hz : ∀ z ∈ a, z < 18446744073709551616) (h : fitsE a width = true) (i k : Nat) (hk : (wAt a i).testBit k = true) : (wAt (fullE width) i).testBit k = true := by
  unfold fitsE at h
  rw [Bool.and_eq_true, decide_eq_true_eq] at h
  have h2 := h.2
  rw [← fits_eq a width hz h.1, subE_iff hz (fullE_lt width)] at h2
  exact (sub_iff _ _ (wAt_lt hz i) (wAt_lt (fullE_lt width) i)).1 (h2 i) k hk
theorem fits_of (hz : ∀ z ∈ a, z < 18446744073709551616) (hl : a.length = sizeE width) (h : ∀ i k, (wAt a i).testBit k = true → (wAt (fullE width) i).testBit k = true) : fitsE a width = true := by
  unfold fitsE
  rw [decide_eq_true hl, Bool.true_and, ← fits_eq a width hz hl, subE_iff hz (fullE_lt width)]
  exact fun i => (sub_iff _ _ (wAt_lt hz i) (wAt_lt (fullE_lt width) i)).2 (h i)
end
/-- The words of a value put together. -/
theorem word3 {x y : Nat} (hx : x < 18446744073709551616) (hy : y < 18446744073709551616) : ((wordE 3 x y : Nat) : Int) = cjoin x y := by
  have := cjoin_bd' x y (by omega) (by omega)
  show (((cjoin (x : Int) (y : Int)).toNat : Nat) : Int) = _
  omega
theorem word_what {what : Int} (h : 1 ≤ what ∧ what ≤ 3) : what = 1 ∨ what = 2 ∨ what = 3 := by omega

section
variable {what width : Int} {a b c : List Nat} (ha : ∀ z ∈ a, z < 18446744073709551616) (hb : ∀ z ∈ b, z < 18446744073709551616) (hc : ∀ z ∈ c, z < 18446744073709551616)
theorem isL_what (h : isL what width = true) : what = 1 ∨ what = 2 ∨ what = 3 := by
  simp only [isL, decide_eq_true_eq] at h; omega
theorem join_comm : joinE what a b = joinE what b a := by
  refine ext_at (by unfold joinE; rw [bothE_len, bothE_len]; omega) fun i _ => ?_
  rw [joinE_at, joinE_at]
  unfold wordE
  split
  · exact Nat.or_comm _ _
  · split
    · exact Nat.and_comm _ _
    · split
      · rw [cjoin_comm]
      · rfl
include ha hb in
theorem join_lt : ∀ z ∈ joinE what a b, z < 18446744073709551616 := bothE_lt (wordE_lt what) ha hb
include ha hb in
theorem join_value (va : valueE what width a = true) (vb : valueE what width b = true) : valueE what width (joinE what a b) = true := by
  have hl := joinE_len what (a := a) (b := b) (by rw [value_len va, value_len vb])
  have hw := isL_what (value_is va)
  unfold valueE
  rw [value_is va, hl, decide_eq_true (value_len va), Bool.true_and, Bool.true_and]
  by_cases e : what = 3
  · rw [if_pos e, List.all_eq_true]
    intro z hz
    obtain ⟨i, _, rfl⟩ := List.mem_map.1 hz
    unfold souN
    rw [beq_iff_eq, e, word3 (wAt_lt ha i) (wAt_lt hb i), sou_join']
  · rw [if_neg e]
    have hsz : wordsN what width = sizeE width := by unfold wordsN; rw [if_pos (value_is va), if_neg e]
    refine fits_of (join_lt ha hb) (by rw [hl, value_len va, hsz]) fun i k hk => ?_
    rw [joinE_at] at hk
    rcases hw with rfl | rfl | rfl
    · have hk : (orN (wAt a i) (wAt b i)).testBit k = true := hk
      rw [or_bits, Bool.or_eq_true] at hk
      rcases hk with hk | hk
      · exact fits_bits ha (value_fit va e) i k hk
      · exact fits_bits hb (value_fit vb e) i k hk
    · have hk : (andN (wAt a i) (wAt b i)).testBit k = true := hk
      rw [and_bits, Bool.and_eq_true] at hk
      exact fits_bits ha (value_fit va e) i k hk.1
    · exact absurd rfl e
include ha hb in
theorem below_join (va : valueE what width a = true) (vb : valueE what width b = true) : belowE what a (joinE what a b) = true := by
  rw [belowE_iff what (by rw [joinE_len what (by rw [value_len va, value_len vb])])]
  intro i
  rw [joinE_at]
  rcases isL_what (value_is va) with rfl | rfl | rfl
  · show orN (wAt a i) (orN (wAt a i) (wAt b i)) = orN (wAt a i) (wAt b i)
    unfold orN; rw [← Nat.or_assoc, Nat.or_self]
  · show andN (wAt a i) (andN (wAt a i) (wAt b i)) = andN (wAt a i) (wAt b i)
    unfold andN; rw [← Nat.and_assoc, Nat.and_self]
  · have h := word3 (wAt_lt ha i) (wAt_lt hb i)
    have h2 := word3 (wAt_lt ha i) (wordE_lt 3 _ _ (wAt_lt ha i) (wAt_lt hb i))
    have e : cjoin (wAt a i) (cjoin (wAt a i) (wAt b i)) = cjoin (wAt a i) (wAt b i) := by
      have h3 := sou_join' (wAt a i) (wAt b i)
      revert h3
      generalize hq : cjoin (wAt a i : Int) (wAt b i) = q
      intro h3
      unfold cjoin at hq ⊢
      rw [h3]
      revert hq
      generalize sou (wAt a i : Int) = x
      generalize sou (wAt b i : Int) = y
      intro hq
      split at hq <;> (try split at hq) <;> split <;> (try split) <;> omega
    rw [h, e, ← h] at h2
    exact Int.ofNat_inj.1 h2
include ha hb hc in
theorem join_least' (va : valueE what width a = true) (vb : valueE what width b = true) (vc : valueE what width c = true) (h : belowE what a c = true) (k : belowE what b c = true) : belowE what (joinE what a b) c = true := by
  have la := value_len va
  have lb := value_len vb
  have lc := value_len vc
  rw [belowE_iff what (by omega)] at h k
  rw [belowE_iff what (by rw [joinE_len what (by omega)]; omega)]
  intro i
  have h := h i
  have k := k i
  rw [joinE_at]
  rcases isL_what (value_is va) with rfl | rfl | rfl
  · have h : orN (wAt a i) (wAt c i) = wAt c i := h
    have k : orN (wAt b i) (wAt c i) = wAt c i := k
    show orN (orN (wAt a i) (wAt b i)) (wAt c i) = wAt c i
    unfold orN at *; rw [Nat.or_assoc, k, h]
  · have h : andN (wAt a i) (wAt c i) = wAt c i := h
    have k : andN (wAt b i) (wAt c i) = wAt c i := k
    show andN (andN (wAt a i) (wAt b i)) (wAt c i) = wAt c i
    unfold andN at *; rw [Nat.and_assoc, k, h]
  · have e1 := word3 (wAt_lt ha i) (wAt_lt hc i)
    have e2 := word3 (wAt_lt hb i) (wAt_lt hc i)
    have e3 := word3 (wAt_lt ha i) (wAt_lt hb i)
    have e4 := word3 (wordE_lt 3 _ _ (wAt_lt ha i) (wAt_lt hb i)) (wAt_lt hc i)
    have h3 := sou_join' (wAt a i) (wAt b i)
    have sc := value_sou vc rfl i
    rw [h] at e1
    rw [k] at e2
    rw [e3] at e4
    refine Int.ofNat_inj.1 (e4.trans ?_)
    revert e1 e2 h3
    generalize hq : cjoin (wAt a i : Int) (wAt b i) = q
    intro e1 e2 h3
    unfold cjoin at hq e1 e2 ⊢
    rw [h3, sc]
    rw [sc] at e1 e2
    revert hq e1 e2
    generalize sou (wAt a i : Int) = x
    generalize sou (wAt b i : Int) = y
    generalize (wAt c i : Int) = z
    intro hq e1 e2
    split at hq <;> split at e1 <;> split at e2 <;> (try split at hq) <;> (try split at e1) <;> (try split at e2) <;> split <;> (try split) <;> omega
end

end Go.Proofs.Ytflkelnfdoihlaa
