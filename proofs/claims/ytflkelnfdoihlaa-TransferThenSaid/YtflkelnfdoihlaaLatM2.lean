/-
  Lattices of words: the least and the greatest value, ranks: mathematics. No program.
-/
import Derived.Test.YtflkelnfdoihlaaLatM
namespace Go.Proofs.Ytflkelnfdoihlaa
open Go.RowKit

theorem bottom_len (what width : Int) : (bottomE what width).length = wordsN what width := by
  unfold bottomE
  split
  · next h => rw [fullE_len]; unfold wordsN; rw [if_pos h.2, if_neg (by omega)]
  · exact List.length_replicate
theorem top_len (what width : Int) : (topE what width).length = wordsN what width := by
  unfold topE
  split
  · next h => rw [fullE_len]; unfold wordsN; rw [if_pos h.2, if_neg (by omega)]
  · exact List.length_replicate
theorem wAt_rep (n z i : Nat) : wAt (List.replicate n z) i = if i < n then z else 0 := by
  unfold wAt
  rw [List.getElem?_replicate]
  split <;> rfl
theorem bottom_lt (what width : Int) : ∀ z ∈ bottomE what width, z < 18446744073709551616 := by
  unfold bottomE; split
  · exact fullE_lt _
  · intro z hz; rw [List.eq_of_mem_replicate hz]; decide
theorem top_lt (what width : Int) : ∀ z ∈ topE what width, z < 18446744073709551616 := by
  unfold topE; split
  · exact fullE_lt _
  · intro z hz; rw [List.eq_of_mem_replicate hz]; split <;> decide
theorem full_self (width : Int) : fitsE (fullE width) width = true :=
  fits_of (fullE_lt width) (fullE_len width) fun _ _ h => h
theorem zero_fits {width : Int} : fitsE (List.replicate (sizeE width) 0) width = true :=
  fits_of (fun z hz => by rw [List.eq_of_mem_replicate hz]; decide) List.length_replicate fun i k h => by
    rw [wAt_rep, ite_self, Nat.zero_testBit] at h
    cases h
theorem bottom_value {what width : Int} (h : isL what width = true) : valueE what width (bottomE what width) = true := by
  unfold valueE
  rw [h, bottom_len, decide_eq_true rfl, Bool.true_and, Bool.true_and]
  have hw := isL_what h
  by_cases e : what = 3
  · rw [if_pos e, List.all_eq_true]
    intro z hz
    unfold bottomE at hz
    rw [if_neg (by omega)] at hz
    rw [List.eq_of_mem_replicate hz]; decide
  · rw [if_neg e]
    unfold bottomE
    split
    · exact full_self width
    · have : wordsN what width = sizeE width := by unfold wordsN; rw [if_pos h, if_neg e]
      rw [this]; exact zero_fits
theorem top_value {what width : Int} (h : isL what width = true) : valueE what width (topE what width) = true := by
  unfold valueE
  rw [h, top_len, decide_eq_true rfl, Bool.true_and, Bool.true_and]
  by_cases e : what = 3
  · rw [if_pos e, List.all_eq_true]
    intro z hz
    unfold topE at hz
    rw [if_neg (by omega), if_pos e] at hz
    rw [List.eq_of_mem_replicate hz]; decide
  · rw [if_neg e]
    unfold topE
    split
    · exact full_self width
    · have : wordsN what width = sizeE width := by unfold wordsN; rw [if_pos h, if_neg e]
      rw [this]; exact zero_fits
theorem and_full {x y : Nat} (h : ∀ k, x.testBit k = true → y.testBit k = true) : andN y x = x := by
  refine Nat.eq_of_testBit_eq fun k => ?_
  rw [and_bits]
  cases hx : x.testBit k with
  | false => rw [Bool.and_false]
  | true => rw [h k hx]; rfl
theorem or_full {x y : Nat} (h : ∀ k, x.testBit k = true → y.testBit k = true) : orN x y = y := by
  refine Nat.eq_of_testBit_eq fun k => ?_
  rw [or_bits]
  cases hx : x.testBit k with
  | false => rw [Bool.false_or]
  | true => rw [h k hx]; rfl
section
variable {what width : Int} {a b : List Nat} (ha : ∀ z ∈ a, z < 18446744073709551616) (hb : ∀ z ∈ b, z < 18446744073709551616)
include ha in
theorem bottom_below (va : valueE what width a = true) : belowE what (bottomE what width) a = true := by
  rw [belowE_iff what (by rw [bottom_len, value_len va])]
  intro i
  have hL := value_is va
  rcases isL_what hL with rfl | rfl | rfl
  · have e : wAt (bottomE 1 width) i = 0 := by unfold bottomE; rw [if_neg (by omega), wAt_rep, ite_self]
    rw [e]
    exact Nat.zero_or _
  · have e : bottomE 2 width = fullE width := by unfold bottomE; rw [if_pos ⟨rfl, hL⟩]
    rw [e]
    exact and_full fun k hk => fits_bits ha (value_fit va (by decide)) i k hk
  · have e : wAt (bottomE 3 width) i = 0 := by unfold bottomE; rw [if_neg (by omega), wAt_rep, ite_self]
    rw [e]
    refine Int.ofNat_inj.1 ((word3 (by decide) (wAt_lt ha i)).trans ?_)
    have s := value_sou va rfl i
    have z0 : sou ((0 : Nat) : Int) = 0 := by decide
    unfold cjoin
    rw [s, z0]
    generalize (wAt a i : Int) = x
    split <;> (try split) <;> omega
include ha in
theorem below_top (va : valueE what width a = true) : belowE what a (topE what width) = true := by
  rw [belowE_iff what (by rw [top_len, value_len va])]
  intro i
  have hL := value_is va
  rcases isL_what hL with rfl | rfl | rfl
  · have e : topE 1 width = fullE width := by unfold topE; rw [if_pos ⟨rfl, hL⟩]
    rw [e]
    exact or_full fun k hk => fits_bits ha (value_fit va (by decide)) i k hk
  · have e : wAt (topE 2 width) i = 0 := by unfold topE; rw [if_neg (by omega), if_neg (by decide), wAt_rep, ite_self]
    rw [e]
    exact Nat.and_zero _
  · have e : wAt (topE 3 width) i = if i < wordsN 3 width then 1 else 0 := by unfold topE; rw [if_neg (by omega), if_pos rfl, wAt_rep]
    rw [e]
    by_cases hi : i < wordsN 3 width
    · rw [if_pos hi]
      refine Int.ofNat_inj.1 ((word3 (wAt_lt ha i) (by decide)).trans ?_)
      have z1 : sou ((1 : Nat) : Int) = 1 := by decide
      unfold cjoin
      rw [z1]
      generalize sou (wAt a i : Int) = x
      split <;> (try split) <;> omega
    · rw [if_neg hi]
      have e2 : wAt a i = 0 := by unfold wAt; rw [List.getElem?_eq_none (by have := value_len va; omega)]; rfl
      rw [e2]
      exact wordE_zero 3
theorem below_anti (h : belowE what a b = true) (k : belowE what b a = true) : a = b := by
  unfold belowE at h k
  rw [decide_eq_true_eq] at h k
  rw [← h, join_comm, k]
end

/-! ### Ranks -/
theorem lenE_or_min (xs ys : List Nat) (hx : ∀ z ∈ xs, z < 18446744073709551616) (hy : ∀ z ∈ ys, z < 18446744073709551616) : lenE (bothE orN xs ys) = lenE xs + lenE (bothE minN ys xs) := by
  rw [lenE_both, lenE_both, lenE_pad xs (max xs.length ys.length) (by omega), show max ys.length xs.length = max xs.length ys.length by omega]
  have h := sum_add (max xs.length ys.length) (fun i => pop 64 (orN (wAt xs i) (wAt ys i))) (fun _ => 0) (fun i => pop 64 (wAt xs i)) (fun i => pop 64 (minN (wAt ys i) (wAt xs i))) fun i => by
    have e := pop_or_and 64 (wAt xs i) (minN (wAt ys i) (wAt xs i))
    have e1 : wAt xs i ||| minN (wAt ys i) (wAt xs i) = orN (wAt xs i) (wAt ys i) := by
      refine Nat.eq_of_testBit_eq fun k => ?_
      rw [Nat.testBit_or, minN_bit _ _ _ (wAt_lt hy i) (wAt_lt hx i), or_bits]
      cases (wAt xs i).testBit k <;> cases (wAt ys i).testBit k <;> rfl
    have e2 : wAt xs i &&& minN (wAt ys i) (wAt xs i) = 0 := by
      refine Nat.eq_of_testBit_eq fun k => ?_
      rw [Nat.testBit_and, minN_bit _ _ _ (wAt_lt hy i) (wAt_lt hx i), Nat.zero_testBit]
      cases (wAt xs i).testBit k <;> cases (wAt ys i).testBit k <;> rfl
    rw [e1, e2, pop_zero] at e
    exact e
  have z : ((List.range (max xs.length ys.length)).map fun _ => 0).sum = 0 := (sum_zero _ _).2 fun _ _ => rfl
  omega
theorem lenE_and_min (xs ys : List Nat) (hx : ∀ z ∈ xs, z < 18446744073709551616) (hy : ∀ z ∈ ys, z < 18446744073709551616) : lenE xs = lenE (bothE andN xs ys) + lenE (bothE minN xs ys) := by
  rw [lenE_both, lenE_both, lenE_pad xs (max xs.length ys.length) (by omega)]
  have h := sum_add (max xs.length ys.length) (fun i => pop 64 (wAt xs i)) (fun _ => 0) (fun i => pop 64 (andN (wAt xs i) (wAt ys i))) (fun i => pop 64 (minN (wAt xs i) (wAt ys i))) fun i => by
    have e := pop_or_and 64 (andN (wAt xs i) (wAt ys i)) (minN (wAt xs i) (wAt ys i))
    have e1 : andN (wAt xs i) (wAt ys i) ||| minN (wAt xs i) (wAt ys i) = wAt xs i := by
      refine Nat.eq_of_testBit_eq fun k => ?_
      rw [Nat.testBit_or, minN_bit _ _ _ (wAt_lt hx i) (wAt_lt hy i), and_bits]
      cases (wAt xs i).testBit k <;> cases (wAt ys i).testBit k <;> rfl
    have e2 : andN (wAt xs i) (wAt ys i) &&& minN (wAt xs i) (wAt ys i) = 0 := by
      refine Nat.eq_of_testBit_eq fun k => ?_
      rw [Nat.testBit_and, minN_bit _ _ _ (wAt_lt hx i) (wAt_lt hy i), Nat.zero_testBit, and_bits]
      cases (wAt xs i).testBit k <;> cases (wAt ys i).testBit k <;> rfl
    rw [e1, e2, pop_zero] at e
    omega
  have z : ((List.range (max xs.length ys.length)).map fun _ => 0).sum = 0 := (sum_zero _ _).2 fun _ _ => rfl
  omega
theorem sum_at (f : Nat → Nat) (zs : List Nat) : (zs.map f).sum = ((List.range zs.length).map fun i => f (wAt zs i)).sum := by
  congr 1
  refine List.ext_getElem (by simp) fun i h1 h2 => ?_
  have hi : i < zs.length := by simpa using h1
  simp [wAt, List.getElem?_eq_getElem hi]
theorem sum_mono (n : Nat) (f g : Nat → Nat) (h : ∀ i, i < n → f i ≤ g i) : ((List.range n).map f).sum ≤ ((List.range n).map g).sum ∧ (((List.range n).map f).sum = ((List.range n).map g).sum → ∀ i, i < n → f i = g i) := by
  induction n with
  | zero => exact ⟨Nat.le_refl _, fun _ i hi => by omega⟩
  | succ n ih =>
    obtain ⟨i1, i2⟩ := ih fun i hi => h i (by omega)
    have hn := h n (by omega)
    simp only [List.range_succ, List.map_append, List.sum_append, List.map_cons, List.map_nil, List.sum_cons, List.sum_nil]
    refine ⟨by omega, fun e i hi => ?_⟩
    rcases (show i < n ∨ i = n by omega) with h' | rfl
    · exact i2 (by omega) i h'
    · omega
section
variable {what width : Int} {a b : List Nat} (ha : ∀ z ∈ a, z < 18446744073709551616) (hb : ∀ z ∈ b, z < 18446744073709551616)
include ha hb in
theorem rank_join (va : valueE what width a = true) (vb : valueE what width b = true) : rankE what width a ≤ rankE what width (joinE what a b) ∧ (rankE what width a = rankE what width (joinE what a b) ↔ a = joinE what a b) := by
  have la := value_len va
  have lb := value_len vb
  have hj := joinE_len what (a := a) (b := b) (by omega)
  rcases isL_what (value_is va) with rfl | rfl | rfl
  · have e : lenE (joinE 1 a b) = lenE a + lenE (bothE minN b a) := lenE_or_min a b ha hb
    show ((lenE a : Nat) : Int) ≤ (lenE (joinE 1 a b) : Nat) ∧ (((lenE a : Nat) : Int) = (lenE (joinE 1 a b) : Nat) ↔ _)
    refine ⟨by omega, fun h => ?_, fun h => by rw [← h]⟩
    have h0 : lenE (bothE minN b a) = 0 := by omega
    rw [within_iff b a hb ha] at h0
    refine ext_at (by omega) fun i _ => ?_
    rw [joinE_at]
    have h1 := (sub_iff _ _ (wAt_lt hb i) (wAt_lt ha i)).1 (h0 i)
    show _ = orN (wAt a i) (wAt b i)
    have := or_full h1
    unfold orN at this ⊢
    rw [Nat.or_comm, this]
  · have e : lenE a = lenE (joinE 2 a b) + lenE (bothE minN a b) := lenE_and_min a b ha hb
    show width - ((lenE a : Nat) : Int) ≤ width - (lenE (joinE 2 a b) : Nat) ∧ (width - ((lenE a : Nat) : Int) = width - (lenE (joinE 2 a b) : Nat) ↔ _)
    refine ⟨by omega, fun h => ?_, fun h => by rw [← h]⟩
    have h0 : lenE (bothE minN a b) = 0 := by omega
    rw [within_iff a b ha hb] at h0
    refine ext_at (by omega) fun i _ => ?_
    rw [joinE_at]
    have h1 := (sub_iff _ _ (wAt_lt ha i) (wAt_lt hb i)).1 (h0 i)
    show _ = andN (wAt a i) (wAt b i)
    have := and_full h1
    unfold andN at this ⊢
    rw [Nat.and_comm, this]
  · have hp : ∀ i, crankN (wAt a i) ≤ crankN (wordE 3 (wAt a i) (wAt b i)) ∧ (crankN (wAt a i) = crankN (wordE 3 (wAt a i) (wAt b i)) → wAt a i = wordE 3 (wAt a i) (wAt b i)) := by
      intro i
      have w3 := word3 (wAt_lt ha i) (wAt_lt hb i)
      have s := value_sou va rfl i
      have sj := sou_join' (wAt a i) (wAt b i)
      unfold crankN
      rw [w3]
      have key : crank (wAt a i) ≤ crank (cjoin (wAt a i) (wAt b i)) ∧ (crank (wAt a i) = crank (cjoin (wAt a i) (wAt b i)) → (wAt a i : Int) = cjoin (wAt a i) (wAt b i)) := by
        unfold crank
        rw [sj, s]
        unfold cjoin
        rw [s]
        generalize sou (wAt b i : Int) = y
        generalize (wAt a i : Int) = x
        constructor
        · split <;> (try split) <;> (try split) <;> (try split) <;> omega
        · split <;> (try split) <;> (try split) <;> (try split) <;> omega
      have b1 := crank_bd (wAt a i)
      have b2 := crank_bd (cjoin (wAt a i) (wAt b i))
      refine ⟨by omega, fun h => ?_⟩
      have := key.2 (by omega)
      rw [← w3] at this
      exact Int.ofNat_inj.1 this
    have es : ((joinE 3 a b).map crankN).sum = ((List.range a.length).map fun i => crankN (wordE 3 (wAt a i) (wAt b i))).sum := by
      rw [sum_at, hj]
      congr 1
      exact List.map_congr_left fun i _ => by rw [joinE_at]
    obtain ⟨m1, m2⟩ := sum_mono a.length (fun i => crankN (wAt a i)) (fun i => crankN (wordE 3 (wAt a i) (wAt b i))) fun i _ => (hp i).1
    show (((a.map crankN).sum : Nat) : Int) ≤ (((joinE 3 a b).map crankN).sum : Nat) ∧ ((((a.map crankN).sum : Nat) : Int) = (((joinE 3 a b).map crankN).sum : Nat) ↔ _)
    rw [es, sum_at]
    refine ⟨by omega, fun h => ?_, fun h => ?_⟩
    · refine ext_at (by omega) fun i hi => ?_
      rw [joinE_at]
      exact (hp i).2 (m2 (by omega) i hi)
    · rw [← es, ← sum_at, ← h]
include ha in
theorem rank_height (va : valueE what width a = true) (hw : ¬ (200 < width ∧ width < 1024)) : rankE what width a ≤ heightE what width := by
  have hL := value_is va
  have hn := isL_near hL
  have la := value_len va
  unfold heightE
  rw [if_pos hL]
  rcases isL_what hL with rfl | rfl | rfl
  · have e := lenE_or_min a (fullE width) ha (fullE_lt width)
    have e2 : bothE orN a (fullE width) = fullE width := by
      have hl : a.length = sizeE width := by rw [la]; unfold wordsN; rw [if_pos hL, if_neg (by decide)]
      refine ext_at (by rw [bothE_len, fullE_len]; omega) fun i _ => ?_
      rw [bothE_at orN rfl]
      exact or_full fun k hk => fits_bits ha (value_fit va (by decide)) i k hk
    rw [e2] at e
    have hf := full_len width hw
    show ((lenE a : Nat) : Int) ≤ width
    omega
  · show width - ((lenE a : Nat) : Int) ≤ width
    omega
  · have hl : a.length = width.toNat := by rw [la]; unfold wordsN; rw [if_pos hL, if_pos rfl]
    have h0 : 0 ≤ width := by simp only [isL, decide_eq_true_eq] at hL; omega
    obtain ⟨m1, _⟩ := sum_mono a.length (fun i => crankN (wAt a i)) (fun _ => 2) fun i _ => by
      have := crank_bd (wAt a i)
      unfold crankN; omega
    have e2 : ((List.range a.length).map fun _ => 2).sum = 2 * a.length := by
      have : (List.range a.length).map (fun _ => 2) = List.replicate a.length 2 := by
        refine List.ext_getElem (by simp) fun i h1 h2 => by simp
      rw [this, List.sum_replicate_nat, Nat.mul_comm]
    show (((a.map crankN).sum : Nat) : Int) ≤ 2 * width
    rw [sum_at]
    omega
end

end Go.Proofs.Ytflkelnfdoihlaa
