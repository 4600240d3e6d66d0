/-
  What a Trans makes of what is below, and of what is put together: mathematics. No program.
-/
import Derived.Test.YtflkelnfdoihlaaTrAll
namespace Go.Proofs.Ytflkelnfdoihlaa
open Go.RowKit

theorem wAt_apply (a k g : List Nat) (i : Nat) : wAt (bothE orN (bothE minN a k) g) i = orN (minN (wAt a i) (wAt k i)) (wAt g i) := by
  rw [bothE_at orN rfl, bothE_at minN rfl]
theorem fits_len {a : List Nat} {width : Int} (h : fitsE a width = true) : a.length = sizeE width := by
  unfold fitsE at h
  rw [Bool.and_eq_true, decide_eq_true_eq] at h
  exact h.1
theorem ct_sets {what width : Int} {g k : List Nat} {L : List CodeT} (h : checkT what width g k L = 0) (h3 : what ≠ 3) : isL what width = true ∧ fitsE g width = true ∧ fitsE k width = true := by
  unfold checkT at h
  split at h
  · next hL =>
    (try rw [if_neg h3] at h)
    split at h
    · next hh => exact ⟨hL, hh.1, hh.2.1⟩
    · omega
  · omega
theorem set_len {what width : Int} {a : List Nat} (h : valueE what width a = true) (h3 : what ≠ 3) : a.length = sizeE width := fits_len (value_fit h h3)
section
variable {what width : Int} {g k a b : List Nat} {L : List CodeT} (hg : ∀ z ∈ g, z < 18446744073709551616) (hk : ∀ z ∈ k, z < 18446744073709551616) (ha : ∀ z ∈ a, z < 18446744073709551616) (hb : ∀ z ∈ b, z < 18446744073709551616)
theorem apply_set (h3 : what ≠ 3) : applyE what width g k L a = bothE orN (bothE minN a k) g := by unfold applyE; rw [if_neg h3]
include hg hk ha in
theorem set_value (hc : checkT what width g k L = 0) (h3 : what ≠ 3) (va : valueE what width a = true) : valueE what width (applyE what width g k L a) = true := by
  obtain ⟨hL, fg, fk⟩ := ct_sets hc h3
  have la := set_len va h3
  have lg := fits_len fg
  have lk := fits_len fk
  rw [apply_set h3]
  have hl : (bothE orN (bothE minN a k) g).length = sizeE width := by rw [bothE_len, bothE_len]; omega
  unfold valueE
  rw [hL, hl, if_neg h3, show decide (sizeE width = wordsN what width) = true by rw [decide_eq_true_eq]; unfold wordsN; rw [if_pos hL, if_neg h3], Bool.true_and, Bool.true_and]
  refine fits_of (bothE_lt orN_lt (bothE_lt minN_lt ha hk) hg) hl fun i j hj => ?_
  rw [wAt_apply, or_bits, minN_bit _ _ _ (wAt_lt ha i) (wAt_lt hk i), Bool.or_eq_true, Bool.and_eq_true] at hj
  rcases hj with hj | hj
  · exact fits_bits ha (value_fit va h3) i j hj.1
  · exact fits_bits hg fg i j hj
include hk ha hb in
theorem set_join (hc : checkT what width g k L = 0) (h3 : what ≠ 3) (va : valueE what width a = true) (vb : valueE what width b = true) :
    applyE what width g k L (joinE what a b) = joinE what (applyE what width g k L a) (applyE what width g k L b) := by
  obtain ⟨hL, fg, fk⟩ := ct_sets hc h3
  have la := set_len va h3
  have lb' := set_len vb h3
  have lg := fits_len fg
  have lk := fits_len fk
  have lj := joinE_len what (a := a) (b := b) (by omega)
  rw [apply_set h3, apply_set h3, apply_set h3]
  have l1 : (bothE orN (bothE minN a k) g).length = sizeE width := by rw [bothE_len, bothE_len]; omega
  have l2 : (bothE orN (bothE minN b k) g).length = sizeE width := by rw [bothE_len, bothE_len]; omega
  refine ext_at (by rw [joinE_len what (by omega), l1, bothE_len, bothE_len]; omega) fun i _ => ?_
  rw [wAt_apply, joinE_at, joinE_at, wAt_apply, wAt_apply]
  have x := wAt_lt ha i
  have y := wAt_lt hb i
  have z := wAt_lt hk i
  have w := wordE_lt what _ _ x y
  rcases isL_what hL with rfl | rfl | rfl
  · refine Nat.eq_of_testBit_eq fun j => ?_
    show (orN (minN (orN (wAt a i) (wAt b i)) (wAt k i)) (wAt g i)).testBit j = (orN (orN (minN (wAt a i) (wAt k i)) (wAt g i)) (orN (minN (wAt b i) (wAt k i)) (wAt g i))).testBit j
    rw [or_bits, or_bits, or_bits, or_bits, minN_bit _ _ _ (orN_lt _ _ x y) z, minN_bit _ _ _ x z, minN_bit _ _ _ y z, or_bits]
    cases (wAt a i).testBit j <;> cases (wAt b i).testBit j <;> cases (wAt k i).testBit j <;> cases (wAt g i).testBit j <;> rfl
  · refine Nat.eq_of_testBit_eq fun j => ?_
    show (orN (minN (andN (wAt a i) (wAt b i)) (wAt k i)) (wAt g i)).testBit j = (andN (orN (minN (wAt a i) (wAt k i)) (wAt g i)) (orN (minN (wAt b i) (wAt k i)) (wAt g i))).testBit j
    rw [or_bits, and_bits, or_bits, or_bits, minN_bit _ _ _ (andN_lt _ _ x y) z, minN_bit _ _ _ x z, minN_bit _ _ _ y z, and_bits]
    cases (wAt a i).testBit j <;> cases (wAt b i).testBit j <;> cases (wAt k i).testBit j <;> cases (wAt g i).testBit j <;> rfl
  · exact absurd rfl h3
end

/-! ### Words that are known -/
def kle' (x y : Int) : Prop := x = y ∨ x = 0 ∨ y = 1
theorem rr_up' {op x y x' y' : Int} (h : kle' x x') (k : kle' y y') : kle' (rr op x y) (rr op x' y') := by
  by_cases h0 : x = 0 ∨ y = 0
  · rw [rr_zero h0]; exact .inr (.inl rfl)
  · by_cases h1 : x' = 1 ∨ y' = 1
    · by_cases h2 : x' = 0 ∨ y' = 0
      · unfold kle' at h k; omega
      · rw [rr_one h2 h1]; exact .inr (.inr rfl)
    · have e1 : x = x' := by unfold kle' at h; omega
      have e2 : y = y' := by unfold kle' at k; omega
      rw [e1, e2]; exact .inl rfl
theorem cop_up' {op a b c d : Int} (h : kle' (sou a) (sou b)) (k : kle' (sou c) (sou d)) : kle' (cop op a c) (cop op b d) := by
  rw [cop_rr, cop_rr]
  split
  · exact rr_up' h (.inl rfl)
  · exact rr_up' h k
theorem word_isn' (a b : Int) : isn (2 + 4 * word a b) = true := by
  have := word_bd a b
  simp [isn]; omega
theorem rr_sou' (op x y : Int) : sou (rr op x y) = rr op x y := by
  unfold rr
  split
  · decide
  · split
    · decide
    · split
      · exact sou_isn (word_isn' _ _)
      · decide
theorem cop_sou' (op a b : Int) : sou (cop op a b) = cop op a b := by rw [cop_rr, rr_sou']
theorem word_kle {x y : Nat} (hx : x < 18446744073709551616) (hy : y < 18446744073709551616) (sx : sou (x : Int) = x) (sy : sou (y : Int) = y) : wordE 3 x y = y ↔ kle' (x : Int) (y : Int) := by
  have h := word3 hx hy
  constructor
  · intro e
    rw [e] at h
    unfold cjoin at h
    rw [sx, sy] at h
    unfold kle'
    split at h <;> (try split at h) <;> omega
  · intro e
    refine Int.ofNat_inj.1 (h.trans ?_)
    unfold cjoin
    rw [sx, sy]
    unfold kle' at e
    split <;> (try split) <;> omega
/-- A row of words that count. -/
def Snd (a : List Nat) : Prop := (∀ z ∈ a, z < 18446744073709551616) ∧ ∀ i, sou (wAt a i : Nat) = (wAt a i : Nat)
theorem wAt_set (a : List Nat) (v z i : Nat) : wAt (a.set v z) i = if i = v ∧ v < a.length then z else wAt a i := by
  by_cases h : i = v
  · subst h
    by_cases hl : i < a.length
    · rw [if_pos ⟨rfl, hl⟩, wAt_set_self _ _ _ hl]
    · rw [if_neg (fun h => hl h.2), List.set_eq_of_length_le (by omega)]
  · rw [if_neg (fun e => h e.1), wAt_set_ne _ _ _ _ h]
theorem sou_word (a b : Int) : sou (2 + 4 * word a b) = 2 + 4 * word a b := sou_isn (word_isn' a b)
theorem wordR_up {a b : List Nat} (sa : Snd a) (sb : Snd b) (h : ∀ i, kle' (wAt a i : Nat) (wAt b i : Nat)) (v re im : Int) : kle' (sou (wordR a v re im : Nat)) (sou (wordR b v re im : Nat)) := by
  unfold wordR
  split
  · exact .inl rfl
  · rw [sa.2, sb.2]; exact h _
theorem step_up {a b : List Nat} (c : CodeT) (hl : a.length = b.length) (sa : Snd a) (sb : Snd b) (h : ∀ i, kle' (wAt a i : Nat) (wAt b i : Nat)) :
    Snd (codeStep a c) ∧ Snd (codeStep b c) ∧ ∀ i, kle' (wAt (codeStep a c) i : Nat) (wAt (codeStep b c) i : Nat) := by
  have ca := cop_lt c.o (wordR a c.av c.ar c.ai) (wordR a c.bv c.br c.bi)
  have cb := cop_lt c.o (wordR b c.av c.ar c.ai) (wordR b c.bv c.br c.bi)
  have ga := cop_sou' c.o (wordR a c.av c.ar c.ai) (wordR a c.bv c.br c.bi)
  have gb := cop_sou' c.o (wordR b c.av c.ar c.ai) (wordR b c.bv c.br c.bi)
  have up := cop_up' (op := c.o) (wordR_up sa sb h c.av c.ar c.ai) (wordR_up sa sb h c.bv c.br c.bi)
  refine ⟨⟨codeStep_lt sa.1 c, fun i => ?_⟩, ⟨codeStep_lt sb.1 c, fun i => ?_⟩, fun i => ?_⟩
  · unfold codeStep
    rw [wAt_set]
    split
    · split
      · decide
      · rw [Int.toNat_of_nonneg ca.1, ga]
    · exact sa.2 i
  · unfold codeStep
    rw [wAt_set]
    split
    · split
      · decide
      · rw [Int.toNat_of_nonneg cb.1, gb]
    · exact sb.2 i
  · unfold codeStep
    rw [wAt_set, wAt_set, hl]
    split
    · split
      · exact .inl rfl
      · rw [Int.toNat_of_nonneg ca.1, Int.toNat_of_nonneg cb.1]; exact up
    · exact h i
theorem doK_up (L : List CodeT) (k : Nat) : ∀ {a b : List Nat}, a.length = b.length → Snd a → Snd b → (∀ i, kle' (wAt a i : Nat) (wAt b i : Nat)) → Snd (doK a L k) ∧ Snd (doK b L k) ∧ ∀ i, kle' (wAt (doK a L k) i : Nat) (wAt (doK b L k) i : Nat) := by
  unfold doK
  generalize L.take k = m
  induction m with
  | nil => intro a b _ sa sb h; exact ⟨sa, sb, h⟩
  | cons c m ih =>
    intro a b hl sa sb h
    obtain ⟨s1, s2, h2⟩ := step_up c hl sa sb h
    exact ih (by rw [codeStep_len, codeStep_len, hl]) s1 s2 h2
section
variable {width : Int} {g k a b : List Nat} {L : List CodeT}
theorem snd_of (ha : ∀ z ∈ a, z < 18446744073709551616) (va : valueE 3 width a = true) : Snd a := ⟨ha, value_sou va rfl⟩
theorem value_of (hL : isL 3 width = true) (hl : a.length = width.toNat) (s : Snd a) : valueE 3 width a = true := by
  unfold valueE
  rw [hL, if_pos rfl, show decide (a.length = wordsN 3 width) = true by rw [decide_eq_true_eq, hl]; unfold wordsN; rw [if_pos hL, if_pos rfl], Bool.true_and, Bool.true_and]
  exact all_at fun i _ => by unfold souN; rw [beq_iff_eq]; exact s.2 i
theorem flat_value (ha : ∀ z ∈ a, z < 18446744073709551616) (va : valueE 3 width a = true) : valueE 3 width (applyE 3 width g k L a) = true := by
  have hL := value_is va
  unfold applyE
  rw [if_pos rfl]
  split
  · exact bottom_value hL
  · exact value_of hL (by rw [doK_len]; exact flat_len va) (doK_up L L.length rfl (snd_of ha va) (snd_of ha va) fun _ => .inl rfl).1
theorem flat_up (ha : ∀ z ∈ a, z < 18446744073709551616) (hb : ∀ z ∈ b, z < 18446744073709551616) (va : valueE 3 width a = true) (vb : valueE 3 width b = true) (h : belowE 3 a b = true) :
    belowE 3 (applyE 3 width g k L a) (applyE 3 width g k L b) = true := by
  have hL := value_is va
  have hl : a.length = b.length := by rw [flat_len va, flat_len vb]
  have sa := snd_of ha va
  have sb := snd_of hb vb
  rw [belowE_iff 3 hl] at h
  have hk : ∀ i, kle' (wAt a i : Nat) (wAt b i : Nat) := fun i => (word_kle (wAt_lt ha i) (wAt_lt hb i) (sa.2 i) (sb.2 i)).1 (h i)
  have vz : valueE 3 width (applyE 3 width g k L b) = true := flat_value hb vb
  have hz : ∀ z ∈ applyE 3 width g k L b, z < 18446744073709551616 := by
    unfold applyE; rw [if_pos rfl]; split
    · exact bottom_lt 3 width
    · exact doK_lt hb L L.length
  cases hza : a.any (fun z => z == 0) with
  | true =>
    have e : applyE 3 width g k L a = bottomE 3 width := by unfold applyE; rw [if_pos rfl, hza, if_pos rfl]
    rw [e]
    exact bottom_below hz vz
  | false =>
    have hzb : b.any (fun z => z == 0) = false := any_zero fun j hj e => by
      have h1 := hk j
      rw [e] at h1
      have h2 : wAt a j ≠ 0 := fun e2 => by
        have := any_one j (by omega) e2
        rw [hza] at this; cases this
      unfold kle' at h1
      omega
    have e1 : applyE 3 width g k L a = doK a L L.length := by unfold applyE; rw [if_pos rfl, hza, if_neg (by decide)]
    have e2 : applyE 3 width g k L b = doK b L L.length := by unfold applyE; rw [if_pos rfl, hzb, if_neg (by decide)]
    obtain ⟨s1, s2, h3⟩ := doK_up L L.length hl sa sb hk
    rw [e1, e2, belowE_iff 3 (by rw [doK_len, doK_len, hl])]
    exact fun i => (word_kle (wAt_lt s1.1 i) (wAt_lt s2.1 i) (s1.2 i) (s2.2 i)).2 (h3 i)
end
section
variable {what width : Int} {g k a b : List Nat} {L : List CodeT} (hg : ∀ z ∈ g, z < 18446744073709551616) (hk : ∀ z ∈ k, z < 18446744073709551616) (ha : ∀ z ∈ a, z < 18446744073709551616) (hb : ∀ z ∈ b, z < 18446744073709551616)
include hg hk ha
theorem apply_value (hc : checkT what width g k L = 0) (va : valueE what width a = true) : valueE what width (applyE what width g k L a) = true := by
  by_cases h3 : what = 3
  · subst h3; exact flat_value ha va
  · exact set_value hg hk ha hc h3 va
theorem apply_lt : ∀ z ∈ applyE what width g k L a, z < 18446744073709551616 := by
  unfold applyE
  split
  · split
    · exact bottom_lt 3 width
    · exact doK_lt ha L L.length
  · exact bothE_lt orN_lt (bothE_lt minN_lt ha hk) hg
include hb
/-- What is below what is put together comes below it. -/
theorem apply_up (hc : checkT what width g k L = 0) (va : valueE what width a = true) (vb : valueE what width b = true) : belowE what (applyE what width g k L a) (applyE what width g k L (joinE what a b)) = true := by
  by_cases h3 : what = 3
  · subst h3
    exact flat_up ha (join_lt ha hb) va (join_value ha hb va vb) (below_join ha hb va vb)
  · rw [set_join hk ha hb hc h3 va vb]
    exact below_join (apply_lt hg hk ha) (apply_lt hg hk hb) (set_value hg hk ha hc h3 va) (set_value hg hk hb hc h3 vb)
end

theorem apply_zero {what width : Int} {g k a : List Nat} {L : List CodeT} (hc : checkT what width g k L = 0) (va : valueE what width a = true) : applyC what width g k L a = 0 := by
  unfold applyC; rw [if_pos hc, va, if_pos rfl]
theorem apply_is {what width : Int} {g k a : List Nat} {L : List CodeT} (hc : checkT what width g k L = 0) (va : valueE what width a = true) : applyR what width g k L a = applyE what width g k L a := by
  unfold applyR; rw [apply_zero hc va, if_pos rfl]

end Go.Proofs.Ytflkelnfdoihlaa
